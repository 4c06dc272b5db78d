/-
  DERIVED. GIVEN WITH THE SEED: THE CARDS: each row of YtoglokgkgonmdaaGreatDoorRows.lean that lists a variable, with what it lists TIED to the program's text (the seventh form; the later family's looks); each row that meets fmt, with fmt's text TOLD by the authors' own Lean function (tested against real Go, not proved from fmt's source: count such statements apart). THE CARD IS WHAT COUNTS. Prove the row's statement (the work); the ties are given (YtoglokgkgonmdaaGreatDoorTie.lean); close each card by the builder's one call (the guide's Derived/Test/ToyasCard.lean, 'card_holds'). Laid BY PROGRAM, IN A SANDBOX (cutbox-door.mjs). By AI agents, Wed Nov 11 2026. No macro, syntax, notation, axiom, sorry.
-/
import Derived.Test.YtoglokgkgonmdaaGreatDoorRows
import GoSem.ClaimSeven
namespace Go.Proofs.YtoglokgkgonmdaaGreatDoor
namespace Rows

/-- THE TIED CARD OF 'radomelaw15.MixShares'. -/
def mixSharesCard : Claim7 := { stood := { row := mixSharesRow, standIns := [], harness := (true, "a3ce91920b6c6caa4141315739c94efe4e2a30a7b4be3c930c0a4f85e4d80be5"), looks := true }, kinds := [], alts := [], laidByText := true, laidKinds := [.handle], laidTests := true, laidLooks := .later }
def MixSharesCardSaid : Prop := Claim7.holds Tryz.pinned (.plain (OpenSpec.ofChange mixSharesSpec)) mixSharesCard

/-- THE TIED CARD OF 'radomelaw15.MixStates'. -/
def mixStatesCard : Claim7 := { stood := { row := mixStatesRow, standIns := [], harness := (true, "a3ce91920b6c6caa4141315739c94efe4e2a30a7b4be3c930c0a4f85e4d80be5"), looks := true }, kinds := [], alts := [], laidByText := true, laidKinds := [.handle], laidTests := true, laidLooks := .later }
def MixStatesCardSaid : Prop := Claim7.holds Tryz.pinned (.plain (OpenSpec.ofChange mixStatesSpec)) mixStatesCard

/-- THE SECOND FORM's CARD OF 'radomelaw15.MixShares'. -/
def mixSharesUptoCard : Claim7 := { stood := { row := mixSharesUptoRow, standIns := [], harness := (true, "a3ce91920b6c6caa4141315739c94efe4e2a30a7b4be3c930c0a4f85e4d80be5"), looks := true }, kinds := [], alts := [], laidByText := true, laidKinds := [.handle], laidTests := true, laidLooks := .later }
def MixSharesUptoCardSaid : Prop := Claim7.holds Tryz.pinned (.plain (OpenSpec.upto mixSharesSpec)) mixSharesUptoCard

/-- THE SECOND FORM's CARD OF 'radomelaw15.MixStates'. -/
def mixStatesUptoCard : Claim7 := { stood := { row := mixStatesUptoRow, standIns := [], harness := (true, "a3ce91920b6c6caa4141315739c94efe4e2a30a7b4be3c930c0a4f85e4d80be5"), looks := true }, kinds := [], alts := [], laidByText := true, laidKinds := [.handle], laidTests := true, laidLooks := .later }
def MixStatesUptoCardSaid : Prop := Claim7.holds Tryz.pinned (.plain (OpenSpec.upto mixStatesSpec)) mixStatesUptoCard
end Rows
end Go.Proofs.YtoglokgkgonmdaaGreatDoor
