/-
  DERIVED. GIVEN WITH THE SEED: THE CARDS: each row of YtilaaadhmdcecaaDoorRows.lean that lists a variable, with what it lists TIED to the program's text (the seventh form; the later family's looks); each row that meets fmt, with fmt's text TOLD by the authors' own Lean function (tested against real Go, not proved from fmt's source: count such statements apart). THE CARD IS WHAT COUNTS. Prove the row's statement (the work); the ties are given (YtilaaadhmdcecaaDoorTie.lean); close each card by the builder's one call (the guide's Derived/Test/ToyasCard.lean, 'card_holds'). Laid BY PROGRAM, IN A SANDBOX (cutbox-door.mjs). By AI agents, Wed Nov 11 2026. No macro, syntax, notation, axiom, sorry.
-/
import Derived.Test.YtilaaadhmdcecaaDoorRows
import GoSem.ClaimSeven
namespace Go.Proofs.YtilaaadhmdcecaaDoor
namespace Rows

/-- THE TIED CARD OF 'radomelaw04.TurnRadians'. -/
def turnRadiansCard : Claim7 := { stood := { row := turnRadiansRow, standIns := [], harness := (true, "e30dd7809c63d36805dbe2d04a7cecd542ce3322c2dce43e0dc0c8a7012437d7"), looks := true }, kinds := [], alts := [], laidByText := true, laidKinds := [.handle], laidTests := true, laidLooks := .later }
def TurnRadiansCardSaid : Prop := Claim7.holds Tryd.pinned (.plain (OpenSpec.ofChange turnRadiansSpec)) turnRadiansCard

/-- THE SECOND FORM's CARD OF 'radomelaw04.TurnRadians'. -/
def turnRadiansUptoCard : Claim7 := { stood := { row := turnRadiansUptoRow, standIns := [], harness := (true, "e30dd7809c63d36805dbe2d04a7cecd542ce3322c2dce43e0dc0c8a7012437d7"), looks := true }, kinds := [], alts := [], laidByText := true, laidKinds := [.handle], laidTests := true, laidLooks := .later }
def TurnRadiansUptoCardSaid : Prop := Claim7.holds Tryd.pinned (.plain (OpenSpec.upto turnRadiansSpec)) turnRadiansUptoCard
end Rows
end Go.Proofs.YtilaaadhmdcecaaDoor
