/-
  DERIVED. GIVEN WITH THE SEED: THE CARDS: each row of YtefgkeeeanakeaaDoorRows.lean that lists a variable, with what it lists TIED to the program's text (the seventh form; the later family's looks); each row that meets fmt, with fmt's text TOLD by the authors' own Lean function (tested against real Go, not proved from fmt's source: count such statements apart). THE CARD IS WHAT COUNTS. Prove the row's statement (the work); the ties are given (YtefgkeeeanakeaaDoorTie.lean); close each card by the builder's one call (the guide's Derived/Test/ToyasCard.lean, 'card_holds'). Laid BY PROGRAM, IN A SANDBOX (cutbox-door.mjs). By AI agents, Wed Nov 11 2026. No macro, syntax, notation, axiom, sorry.
-/
import Derived.Test.YtefgkeeeanakeaaDoorRows
import GoSem.ClaimSeven
namespace Go.Proofs.YtefgkeeeanakeaaDoor
namespace Rows

/-- THE TIED CARD OF 'radomelaw10.PolarOf'. -/
def polarOfCard : Claim7 := { stood := { row := polarOfRow, standIns := [], harness := (true, "94631ae3f920d1072503864ee53077ac7b4438f6779fbb423860591f18188dd6"), looks := true }, kinds := [], alts := [], laidByText := true, laidKinds := [.handle, .data], laidTests := true, laidLooks := .later }
def PolarOfCardSaid : Prop := Claim7.holds Tryd.pinned (.plain (OpenSpec.ofChange polarOfSpec)) polarOfCard

/-- THE TIED CARD OF 'radomelaw10.PolarSpreads'. -/
def polarSpreadsCard : Claim7 := { stood := { row := polarSpreadsRow, standIns := [], harness := (true, "94631ae3f920d1072503864ee53077ac7b4438f6779fbb423860591f18188dd6"), looks := true }, kinds := [], alts := [], laidByText := true, laidKinds := [.handle, .data], laidTests := true, laidLooks := .later }
def PolarSpreadsCardSaid : Prop := Claim7.holds Tryd.pinned (.plain (OpenSpec.ofChange polarSpreadsSpec)) polarSpreadsCard

/-- THE TIED CARD OF 'radomelaw10.PolarQuarter'. -/
def polarQuarterCard : Claim7 := { stood := { row := polarQuarterRow, standIns := [], harness := (true, "94631ae3f920d1072503864ee53077ac7b4438f6779fbb423860591f18188dd6"), looks := true }, kinds := [], alts := [], laidByText := true, laidKinds := [.handle, .data], laidTests := true, laidLooks := .later }
def PolarQuarterCardSaid : Prop := Claim7.holds Tryd.pinned (.plain (OpenSpec.ofChange polarQuarterSpec)) polarQuarterCard

/-- THE SECOND FORM's CARD OF 'radomelaw10.PolarOf'. -/
def polarOfUptoCard : Claim7 := { stood := { row := polarOfUptoRow, standIns := [], harness := (true, "94631ae3f920d1072503864ee53077ac7b4438f6779fbb423860591f18188dd6"), looks := true }, kinds := [], alts := [], laidByText := true, laidKinds := [.handle, .data], laidTests := true, laidLooks := .later }
def PolarOfUptoCardSaid : Prop := Claim7.holds Tryd.pinned (.plain (OpenSpec.upto polarOfSpec)) polarOfUptoCard

/-- THE SECOND FORM's CARD OF 'radomelaw10.PolarSpreads'. -/
def polarSpreadsUptoCard : Claim7 := { stood := { row := polarSpreadsUptoRow, standIns := [], harness := (true, "94631ae3f920d1072503864ee53077ac7b4438f6779fbb423860591f18188dd6"), looks := true }, kinds := [], alts := [], laidByText := true, laidKinds := [.handle, .data], laidTests := true, laidLooks := .later }
def PolarSpreadsUptoCardSaid : Prop := Claim7.holds Tryd.pinned (.plain (OpenSpec.upto polarSpreadsSpec)) polarSpreadsUptoCard

/-- THE SECOND FORM's CARD OF 'radomelaw10.PolarQuarter'. -/
def polarQuarterUptoCard : Claim7 := { stood := { row := polarQuarterUptoRow, standIns := [], harness := (true, "94631ae3f920d1072503864ee53077ac7b4438f6779fbb423860591f18188dd6"), looks := true }, kinds := [], alts := [], laidByText := true, laidKinds := [.handle, .data], laidTests := true, laidLooks := .later }
def PolarQuarterUptoCardSaid : Prop := Claim7.holds Tryd.pinned (.plain (OpenSpec.upto polarQuarterSpec)) polarQuarterUptoCard
end Rows
end Go.Proofs.YtefgkeeeanakeaaDoor
