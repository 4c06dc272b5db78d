/-
  DERIVED. GIVEN WITH THE SEED: THE CARDS: each row of YtnjiilknnlcblaaDoorRows.lean that lists a variable, with what it lists TIED to the program's text (the seventh form; the later family's looks); each row that meets fmt, with fmt's text TOLD by the authors' own Lean function (tested against real Go, not proved from fmt's source: count such statements apart). THE CARD IS WHAT COUNTS. Prove the row's statement (the work); the ties are given (YtnjiilknnlcblaaDoorTie.lean); close each card by the builder's one call (the guide's Derived/Test/ToyasCard.lean, 'card_holds'). Laid BY PROGRAM, IN A SANDBOX (cutbox-door.mjs). By AI agents, Wed Nov 11 2026. No macro, syntax, notation, axiom, sorry.
-/
import Derived.Test.YtnjiilknnlcblaaDoorRows
import GoSem.ClaimSeven
namespace Go.Proofs.YtnjiilknnlcblaaDoor
namespace Rows

/-- THE TIED CARD OF 'radomelaw11.ModelLaws'. -/
def modelLawsCard : Claim7 := { stood := { row := modelLawsRow, standIns := [], harness := (true, "a785e77273f4500f8f7e5fa17b202d2ddcd63b3279f2cb897d483643b914e51b"), looks := true }, kinds := [], alts := [], laidByText := true, laidKinds := [.handle, .data], laidTests := true, laidLooks := .later }
def ModelLawsCardSaid : Prop := Claim7.holds Tryd.pinned (.plain (OpenSpec.ofChange modelLawsSpec)) modelLawsCard

/-- THE SECOND FORM's CARD OF 'radomelaw11.ModelLaws'. -/
def modelLawsUptoCard : Claim7 := { stood := { row := modelLawsUptoRow, standIns := [], harness := (true, "a785e77273f4500f8f7e5fa17b202d2ddcd63b3279f2cb897d483643b914e51b"), looks := true }, kinds := [], alts := [], laidByText := true, laidKinds := [.handle, .data], laidTests := true, laidLooks := .later }
def ModelLawsUptoCardSaid : Prop := Claim7.holds Tryd.pinned (.plain (OpenSpec.upto modelLawsSpec)) modelLawsUptoCard
end Rows
end Go.Proofs.YtnjiilknnlcblaaDoor
