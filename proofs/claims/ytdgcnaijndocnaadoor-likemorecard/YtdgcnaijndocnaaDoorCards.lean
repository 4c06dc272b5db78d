/-
  DERIVED. GIVEN WITH THE SEED: THE CARDS: each row of YtdgcnaijndocnaaDoorRows.lean that lists a variable, with what it lists TIED to the program's text (the seventh form; the later family's looks); each row that meets fmt, with fmt's text TOLD by the authors' own Lean function (tested against real Go, not proved from fmt's source: count such statements apart). THE CARD IS WHAT COUNTS. Prove the row's statement (the work); the ties are given (YtdgcnaijndocnaaDoorTie.lean); close each card by the builder's one call (the guide's Derived/Test/ToyasCard.lean, 'card_holds'). Laid BY PROGRAM, IN A SANDBOX (cutbox-door.mjs). By AI agents, Wed Nov 11 2026. No macro, syntax, notation, axiom, sorry.
-/
import Derived.Test.YtdgcnaijndocnaaDoorRows
import GoSem.ClaimSeven
namespace Go.Proofs.YtdgcnaijndocnaaDoor
namespace Rows

/-- THE TIED CARD OF 'radomelaw16.LikeMore'. -/
def likeMoreCard : Claim7 := { stood := { row := likeMoreRow, standIns := [], harness := (true, "aabf992f42bdce80911bb49636d604ec50da61b72848a7a8c4a3cd22b0aa1012"), looks := true }, kinds := [], alts := [], laidByText := true, laidKinds := [.handle], laidTests := true, laidLooks := .later }
def LikeMoreCardSaid : Prop := Claim7.holds Tryd.pinned (.plain (OpenSpec.ofChange likeMoreSpec)) likeMoreCard

/-- THE SECOND FORM's CARD OF 'radomelaw16.LikeMore'. -/
def likeMoreUptoCard : Claim7 := { stood := { row := likeMoreUptoRow, standIns := [], harness := (true, "aabf992f42bdce80911bb49636d604ec50da61b72848a7a8c4a3cd22b0aa1012"), looks := true }, kinds := [], alts := [], laidByText := true, laidKinds := [.handle], laidTests := true, laidLooks := .later }
def LikeMoreUptoCardSaid : Prop := Claim7.holds Tryd.pinned (.plain (OpenSpec.upto likeMoreSpec)) likeMoreUptoCard
end Rows
end Go.Proofs.YtdgcnaijndocnaaDoor
