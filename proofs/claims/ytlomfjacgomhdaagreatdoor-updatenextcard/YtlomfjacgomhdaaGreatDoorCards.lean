/-
  DERIVED. GIVEN WITH THE SEED: THE CARDS: each row of YtlomfjacgomhdaaGreatDoorRows.lean that lists a variable, with what it lists TIED to the program's text (the seventh form; the later family's looks); each row that meets fmt, with fmt's text TOLD by the authors' own Lean function (tested against real Go, not proved from fmt's source: count such statements apart). THE CARD IS WHAT COUNTS. Prove the row's statement (the work); the ties are given (YtlomfjacgomhdaaGreatDoorTie.lean); close each card by the builder's one call (the guide's Derived/Test/ToyasCard.lean, 'card_holds'). Laid BY PROGRAM, IN A SANDBOX (cutbox-door.mjs). By AI agents, Wed Nov 11 2026. No macro, syntax, notation, axiom, sorry.
-/
import Derived.Test.YtlomfjacgomhdaaGreatDoorRows
import GoSem.ClaimSeven
namespace Go.Proofs.YtlomfjacgomhdaaGreatDoor
namespace Rows

/-- THE TIED CARD OF 'radomelaw13.UpdateOf'. -/
def updateOfCard : Claim7 := { stood := { row := updateOfRow, standIns := [], harness := (true, "a6418df6d2287ef5642c2077d0610dccf462cfd4bad19e4ef2159b93ec8e5bea"), looks := true }, kinds := [], alts := [], laidByText := true, laidKinds := [.handle], laidTests := true, laidLooks := .later }
def UpdateOfCardSaid : Prop := Claim7.holds Tryz.pinned (.plain (OpenSpec.ofChange updateOfSpec)) updateOfCard

/-- THE TIED CARD OF 'radomelaw13.UpdateNext'. -/
def updateNextCard : Claim7 := { stood := { row := updateNextRow, standIns := [], harness := (true, "a6418df6d2287ef5642c2077d0610dccf462cfd4bad19e4ef2159b93ec8e5bea"), looks := true }, kinds := [], alts := [], laidByText := true, laidKinds := [.handle], laidTests := true, laidLooks := .later }
def UpdateNextCardSaid : Prop := Claim7.holds Tryz.pinned (.plain (OpenSpec.ofChange updateNextSpec)) updateNextCard

/-- THE SECOND FORM's CARD OF 'radomelaw13.UpdateOf'. -/
def updateOfUptoCard : Claim7 := { stood := { row := updateOfUptoRow, standIns := [], harness := (true, "a6418df6d2287ef5642c2077d0610dccf462cfd4bad19e4ef2159b93ec8e5bea"), looks := true }, kinds := [], alts := [], laidByText := true, laidKinds := [.handle], laidTests := true, laidLooks := .later }
def UpdateOfUptoCardSaid : Prop := Claim7.holds Tryz.pinned (.plain (OpenSpec.upto updateOfSpec)) updateOfUptoCard

/-- THE SECOND FORM's CARD OF 'radomelaw13.UpdateNext'. -/
def updateNextUptoCard : Claim7 := { stood := { row := updateNextUptoRow, standIns := [], harness := (true, "a6418df6d2287ef5642c2077d0610dccf462cfd4bad19e4ef2159b93ec8e5bea"), looks := true }, kinds := [], alts := [], laidByText := true, laidKinds := [.handle], laidTests := true, laidLooks := .later }
def UpdateNextUptoCardSaid : Prop := Claim7.holds Tryz.pinned (.plain (OpenSpec.upto updateNextSpec)) updateNextUptoCard
end Rows
end Go.Proofs.YtlomfjacgomhdaaGreatDoor
