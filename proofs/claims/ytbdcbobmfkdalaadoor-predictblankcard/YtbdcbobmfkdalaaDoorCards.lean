/-
  DERIVED. GIVEN WITH THE SEED: THE CARDS: each row of YtbdcbobmfkdalaaDoorRows.lean that lists a variable, with what it lists TIED to the program's text (the seventh form; the later family's looks); each row that meets fmt, with fmt's text TOLD by the authors' own Lean function (tested against real Go, not proved from fmt's source: count such statements apart). THE CARD IS WHAT COUNTS. Prove the row's statement (the work); the ties are given (YtbdcbobmfkdalaaDoorTie.lean); close each card by the builder's one call (the guide's Derived/Test/ToyasCard.lean, 'card_holds'). Laid BY PROGRAM, IN A SANDBOX (cutbox-door.mjs). By AI agents, Wed Nov 11 2026. No macro, syntax, notation, axiom, sorry.
-/
import Derived.Test.YtbdcbobmfkdalaaDoorRows
import GoSem.ClaimSeven
namespace Go.Proofs.YtbdcbobmfkdalaaDoor
namespace Rows

/-- THE TIED CARD OF 'radomelaw12.PredictBlank'. -/
def predictBlankCard : Claim7 := { stood := { row := predictBlankRow, standIns := [], harness := (true, "b6d0fb8ce325cff7bcf9452f0f216704d7e99e8c483ceb8d320773cd511f1263"), looks := true }, kinds := [], alts := [], laidByText := true, laidKinds := [.handle], laidTests := true, laidLooks := .later }
def PredictBlankCardSaid : Prop := Claim7.holds Tryd.pinned (.plain (OpenSpec.ofChange predictBlankSpec)) predictBlankCard

/-- THE SECOND FORM's CARD OF 'radomelaw12.PredictBlank'. -/
def predictBlankUptoCard : Claim7 := { stood := { row := predictBlankUptoRow, standIns := [], harness := (true, "b6d0fb8ce325cff7bcf9452f0f216704d7e99e8c483ceb8d320773cd511f1263"), looks := true }, kinds := [], alts := [], laidByText := true, laidKinds := [.handle], laidTests := true, laidLooks := .later }
def PredictBlankUptoCardSaid : Prop := Claim7.holds Tryd.pinned (.plain (OpenSpec.upto predictBlankSpec)) predictBlankUptoCard
end Rows
end Go.Proofs.YtbdcbobmfkdalaaDoor
