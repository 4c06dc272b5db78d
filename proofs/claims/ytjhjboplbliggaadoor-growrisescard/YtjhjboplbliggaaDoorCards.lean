/-
  DERIVED. GIVEN WITH THE SEED: THE CARDS: each row of YtjhjboplbliggaaDoorRows.lean that lists a variable, with what it lists TIED to the program's text (the seventh form; the later family's looks); each row that meets fmt, with fmt's text TOLD by the authors' own Lean function (tested against real Go, not proved from fmt's source: count such statements apart). THE CARD IS WHAT COUNTS. Prove the row's statement (the work); the ties are given (YtjhjboplbliggaaDoorTie.lean); close each card by the builder's one call (the guide's Derived/Test/ToyasCard.lean, 'card_holds'). Laid BY PROGRAM, IN A SANDBOX (cutbox-door.mjs). By AI agents, Wed Nov 11 2026. No macro, syntax, notation, axiom, sorry.
-/
import Derived.Test.YtjhjboplbliggaaDoorRows
import GoSem.ClaimSeven
namespace Go.Proofs.YtjhjboplbliggaaDoor
namespace Rows

/-- THE TIED CARD OF 'radomelaw06.GrowSteps'. -/
def growStepsCard : Claim7 := { stood := { row := growStepsRow, standIns := [], harness := (true, "167461108c78aca606cc65bfd3279f94f740aa9c571d651e2921a829fb4c4e9e"), looks := true }, kinds := [], alts := [], laidByText := true, laidKinds := [.handle], laidTests := true, laidLooks := .later }
def GrowStepsCardSaid : Prop := Claim7.holds Tryd.pinned (.plain (OpenSpec.ofChange growStepsSpec)) growStepsCard

/-- THE TIED CARD OF 'radomelaw06.GrowExact'. -/
def growExactCard : Claim7 := { stood := { row := growExactRow, standIns := [], harness := (true, "167461108c78aca606cc65bfd3279f94f740aa9c571d651e2921a829fb4c4e9e"), looks := true }, kinds := [], alts := [], laidByText := true, laidKinds := [.handle], laidTests := true, laidLooks := .later }
def GrowExactCardSaid : Prop := Claim7.holds Tryd.pinned (.plain (OpenSpec.ofChange growExactSpec)) growExactCard

/-- THE TIED CARD OF 'radomelaw06.GrowRises'. -/
def growRisesCard : Claim7 := { stood := { row := growRisesRow, standIns := [], harness := (true, "167461108c78aca606cc65bfd3279f94f740aa9c571d651e2921a829fb4c4e9e"), looks := true }, kinds := [], alts := [], laidByText := true, laidKinds := [.handle], laidTests := true, laidLooks := .later }
def GrowRisesCardSaid : Prop := Claim7.holds Tryd.pinned (.plain (OpenSpec.ofChange growRisesSpec)) growRisesCard

/-- THE SECOND FORM's CARD OF 'radomelaw06.GrowSteps'. -/
def growStepsUptoCard : Claim7 := { stood := { row := growStepsUptoRow, standIns := [], harness := (true, "167461108c78aca606cc65bfd3279f94f740aa9c571d651e2921a829fb4c4e9e"), looks := true }, kinds := [], alts := [], laidByText := true, laidKinds := [.handle], laidTests := true, laidLooks := .later }
def GrowStepsUptoCardSaid : Prop := Claim7.holds Tryd.pinned (.plain (OpenSpec.upto growStepsSpec)) growStepsUptoCard

/-- THE SECOND FORM's CARD OF 'radomelaw06.GrowExact'. -/
def growExactUptoCard : Claim7 := { stood := { row := growExactUptoRow, standIns := [], harness := (true, "167461108c78aca606cc65bfd3279f94f740aa9c571d651e2921a829fb4c4e9e"), looks := true }, kinds := [], alts := [], laidByText := true, laidKinds := [.handle], laidTests := true, laidLooks := .later }
def GrowExactUptoCardSaid : Prop := Claim7.holds Tryd.pinned (.plain (OpenSpec.upto growExactSpec)) growExactUptoCard

/-- THE SECOND FORM's CARD OF 'radomelaw06.GrowRises'. -/
def growRisesUptoCard : Claim7 := { stood := { row := growRisesUptoRow, standIns := [], harness := (true, "167461108c78aca606cc65bfd3279f94f740aa9c571d651e2921a829fb4c4e9e"), looks := true }, kinds := [], alts := [], laidByText := true, laidKinds := [.handle], laidTests := true, laidLooks := .later }
def GrowRisesUptoCardSaid : Prop := Claim7.holds Tryd.pinned (.plain (OpenSpec.upto growRisesSpec)) growRisesUptoCard
end Rows
end Go.Proofs.YtjhjboplbliggaaDoor
