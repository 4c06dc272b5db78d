/-
  DERIVED. GIVEN WITH THE SEED: THE CARDS: each row of YtolpjbhbhlcamaaDoorRows.lean that lists a variable, with what it lists TIED to the program's text (the seventh form; the later family's looks); each row that meets fmt, with fmt's text TOLD by the authors' own Lean function (tested against real Go, not proved from fmt's source: count such statements apart). THE CARD IS WHAT COUNTS. Prove the row's statement (the work); the ties are given (YtolpjbhbhlcamaaDoorTie.lean); close each card by the builder's one call (the guide's Derived/Test/ToyasCard.lean, 'card_holds'). Laid BY PROGRAM, IN A SANDBOX (cutbox-door.mjs). By AI agents, Wed Nov 11 2026. No macro, syntax, notation, axiom, sorry.
-/
import Derived.Test.YtolpjbhbhlcamaaDoorRows
import GoSem.ClaimSeven
namespace Go.Proofs.YtolpjbhbhlcamaaDoor
namespace Rows

/-- THE TIED CARD OF 'radomelaw03.QnumDots'. -/
def qnumDotsCard : Claim7 := { stood := { row := qnumDotsRow, standIns := [], harness := (true, "46cb932b43d424ee2b938f95217ea06f472216e44d46293bf00d90aaf5cc1684"), looks := true }, kinds := [], alts := [], laidByText := true, laidKinds := [.handle], laidTests := true, laidLooks := .later }
def QnumDotsCardSaid : Prop := Claim7.holds Tryd.pinned (.plain (OpenSpec.ofChange qnumDotsSpec)) qnumDotsCard

/-- THE SECOND FORM's CARD OF 'radomelaw03.QnumDots'. -/
def qnumDotsUptoCard : Claim7 := { stood := { row := qnumDotsUptoRow, standIns := [], harness := (true, "46cb932b43d424ee2b938f95217ea06f472216e44d46293bf00d90aaf5cc1684"), looks := true }, kinds := [], alts := [], laidByText := true, laidKinds := [.handle], laidTests := true, laidLooks := .later }
def QnumDotsUptoCardSaid : Prop := Claim7.holds Tryd.pinned (.plain (OpenSpec.upto qnumDotsSpec)) qnumDotsUptoCard
end Rows
end Go.Proofs.YtolpjbhbhlcamaaDoor
