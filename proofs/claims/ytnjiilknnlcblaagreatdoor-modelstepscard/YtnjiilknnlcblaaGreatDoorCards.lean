/-
  DERIVED. GIVEN WITH THE SEED: THE CARDS: each row of YtnjiilknnlcblaaGreatDoorRows.lean that lists a variable, with what it lists TIED to the program's text (the seventh form; the later family's looks); each row that meets fmt, with fmt's text TOLD by the authors' own Lean function (tested against real Go, not proved from fmt's source: count such statements apart). THE CARD IS WHAT COUNTS. Prove the row's statement (the work); the ties are given (YtnjiilknnlcblaaGreatDoorTie.lean); close each card by the builder's one call (the guide's Derived/Test/ToyasCard.lean, 'card_holds'). Laid BY PROGRAM, IN A SANDBOX (cutbox-door.mjs). By AI agents, Wed Nov 11 2026. No macro, syntax, notation, axiom, sorry.
-/
import Derived.Test.YtnjiilknnlcblaaGreatDoorRows
import GoSem.ClaimSeven
namespace Go.Proofs.YtnjiilknnlcblaaGreatDoor
namespace Rows

/-- THE TIED CARD OF 'radomelaw11.ModelSteps'. -/
def modelStepsCard : Claim7 := { stood := { row := modelStepsRow, standIns := [], harness := (true, "3d14aa8d04a3858138a8dc58a2aeedbb1266853ded8c6923b9a460e50bdf3a18"), looks := true }, kinds := [], alts := [], laidByText := true, laidKinds := [.handle, .data], laidTests := true, laidLooks := .later }
def ModelStepsCardSaid : Prop := Claim7.holds Tryz.pinned (.plain (OpenSpec.ofChange modelStepsSpec)) modelStepsCard

/-- THE SECOND FORM's CARD OF 'radomelaw11.ModelSteps'. -/
def modelStepsUptoCard : Claim7 := { stood := { row := modelStepsUptoRow, standIns := [], harness := (true, "3d14aa8d04a3858138a8dc58a2aeedbb1266853ded8c6923b9a460e50bdf3a18"), looks := true }, kinds := [], alts := [], laidByText := true, laidKinds := [.handle, .data], laidTests := true, laidLooks := .later }
def ModelStepsUptoCardSaid : Prop := Claim7.holds Tryz.pinned (.plain (OpenSpec.upto modelStepsSpec)) modelStepsUptoCard
end Rows
end Go.Proofs.YtnjiilknnlcblaaGreatDoor
