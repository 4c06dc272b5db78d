/-
  DERIVED. GIVEN WITH THE SEED: THE CARDS: each row of YtdgcnaijndocnaaGreatDoorRows.lean that lists a variable, with what it lists TIED to the program's text (the seventh form; the later family's looks); each row that meets fmt, with fmt's text TOLD by the authors' own Lean function (tested against real Go, not proved from fmt's source: count such statements apart). THE CARD IS WHAT COUNTS. Prove the row's statement (the work); the ties are given (YtdgcnaijndocnaaGreatDoorTie.lean); close each card by the builder's one call (the guide's Derived/Test/ToyasCard.lean, 'card_holds'). Laid BY PROGRAM, IN A SANDBOX (cutbox-door.mjs). By AI agents, Wed Nov 11 2026. No macro, syntax, notation, axiom, sorry.
-/
import Derived.Test.YtdgcnaijndocnaaGreatDoorRows
import GoSem.ClaimSeven
namespace Go.Proofs.YtdgcnaijndocnaaGreatDoor
namespace Rows

/-- THE TIED CARD OF 'radomelaw16.LikeOf'. -/
def likeOfCard : Claim7 := { stood := { row := likeOfRow, standIns := [], harness := (true, "27b95e650051268ec2e99d4ad491c080525c787001736bb03b3c55f588969e00"), looks := true }, kinds := [], alts := [], laidByText := true, laidKinds := [.handle], laidTests := true, laidLooks := .later }
def LikeOfCardSaid : Prop := Claim7.holds Tryz.pinned (.plain (OpenSpec.ofChange likeOfSpec)) likeOfCard

/-- THE TIED CARD OF 'radomelaw16.LikeWeights'. -/
def likeWeightsCard : Claim7 := { stood := { row := likeWeightsRow, standIns := [], harness := (true, "27b95e650051268ec2e99d4ad491c080525c787001736bb03b3c55f588969e00"), looks := true }, kinds := [], alts := [], laidByText := true, laidKinds := [.handle], laidTests := true, laidLooks := .later }
def LikeWeightsCardSaid : Prop := Claim7.holds Tryz.pinned (.plain (OpenSpec.ofChange likeWeightsSpec)) likeWeightsCard

/-- THE SECOND FORM's CARD OF 'radomelaw16.LikeOf'. -/
def likeOfUptoCard : Claim7 := { stood := { row := likeOfUptoRow, standIns := [], harness := (true, "27b95e650051268ec2e99d4ad491c080525c787001736bb03b3c55f588969e00"), looks := true }, kinds := [], alts := [], laidByText := true, laidKinds := [.handle], laidTests := true, laidLooks := .later }
def LikeOfUptoCardSaid : Prop := Claim7.holds Tryz.pinned (.plain (OpenSpec.upto likeOfSpec)) likeOfUptoCard

/-- THE SECOND FORM's CARD OF 'radomelaw16.LikeWeights'. -/
def likeWeightsUptoCard : Claim7 := { stood := { row := likeWeightsUptoRow, standIns := [], harness := (true, "27b95e650051268ec2e99d4ad491c080525c787001736bb03b3c55f588969e00"), looks := true }, kinds := [], alts := [], laidByText := true, laidKinds := [.handle], laidTests := true, laidLooks := .later }
def LikeWeightsUptoCardSaid : Prop := Claim7.holds Tryz.pinned (.plain (OpenSpec.upto likeWeightsSpec)) likeWeightsUptoCard
end Rows
end Go.Proofs.YtdgcnaijndocnaaGreatDoor
