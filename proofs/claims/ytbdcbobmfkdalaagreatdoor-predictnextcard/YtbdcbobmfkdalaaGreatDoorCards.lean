/-
  DERIVED. GIVEN WITH THE SEED: THE CARDS: each row of YtbdcbobmfkdalaaGreatDoorRows.lean that lists a variable, with what it lists TIED to the program's text (the seventh form; the later family's looks); each row that meets fmt, with fmt's text TOLD by the authors' own Lean function (tested against real Go, not proved from fmt's source: count such statements apart). THE CARD IS WHAT COUNTS. Prove the row's statement (the work); the ties are given (YtbdcbobmfkdalaaGreatDoorTie.lean); close each card by the builder's one call (the guide's Derived/Test/ToyasCard.lean, 'card_holds'). Laid BY PROGRAM, IN A SANDBOX (cutbox-door.mjs). By AI agents, Wed Nov 11 2026. No macro, syntax, notation, axiom, sorry.
-/
import Derived.Test.YtbdcbobmfkdalaaGreatDoorRows
import GoSem.ClaimSeven
namespace Go.Proofs.YtbdcbobmfkdalaaGreatDoor
namespace Rows

/-- THE TIED CARD OF 'radomelaw12.PredictNext'. -/
def predictNextCard : Claim7 := { stood := { row := predictNextRow, standIns := [], harness := (true, "628dc46673413bd2b69da25f0d4ebc071d7fb72e21d052ea32e2702ea85db22e"), looks := true }, kinds := [], alts := [], laidByText := true, laidKinds := [.handle], laidTests := true, laidLooks := .later }
def PredictNextCardSaid : Prop := Claim7.holds Tryz.pinned (.plain (OpenSpec.ofChange predictNextSpec)) predictNextCard

/-- THE SECOND FORM's CARD OF 'radomelaw12.PredictNext'. -/
def predictNextUptoCard : Claim7 := { stood := { row := predictNextUptoRow, standIns := [], harness := (true, "628dc46673413bd2b69da25f0d4ebc071d7fb72e21d052ea32e2702ea85db22e"), looks := true }, kinds := [], alts := [], laidByText := true, laidKinds := [.handle], laidTests := true, laidLooks := .later }
def PredictNextUptoCardSaid : Prop := Claim7.holds Tryz.pinned (.plain (OpenSpec.upto predictNextSpec)) predictNextUptoCard
end Rows
end Go.Proofs.YtbdcbobmfkdalaaGreatDoor
