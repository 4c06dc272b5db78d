/-
  DERIVED. GIVEN WITH THE SEED: THE CARDS: each row of YtcefcokpjbebhaaGreatDoorRows.lean that lists a variable, with what it lists TIED to the program's text (the seventh form; the later family's looks); each row that meets fmt, with fmt's text TOLD by the authors' own Lean function (tested against real Go, not proved from fmt's source: count such statements apart). THE CARD IS WHAT COUNTS. Prove the row's statement (the work); the ties are given (YtcefcokpjbebhaaGreatDoorTie.lean); close each card by the builder's one call (the guide's Derived/Test/ToyasCard.lean, 'card_holds'). Laid BY PROGRAM, IN A SANDBOX (cutbox-door.mjs). By AI agents, Wed Nov 11 2026. No macro, syntax, notation, axiom, sorry.
-/
import Derived.Test.YtcefcokpjbebhaaGreatDoorRows
import GoSem.ClaimSeven
namespace Go.Proofs.YtcefcokpjbebhaaGreatDoor
namespace Rows

/-- THE TIED CARD OF 'radomelaw17.ImmAhead'. -/
def immAheadCard : Claim7 := { stood := { row := immAheadRow, standIns := [], harness := (true, "4beaf46db2ad2056cbd27cb6558d381dd506dd3aa9ad6a3a9619ec9f3616db64"), looks := true }, kinds := [], alts := [], laidByText := true, laidKinds := [.handle, .data], laidTests := true, laidLooks := .later }
def ImmAheadCardSaid : Prop := Claim7.holds Tryz.pinned (.plain (OpenSpec.ofChange immAheadSpec)) immAheadCard

/-- THE TIED CARD OF 'radomelaw17.ImmSeen'. -/
def immSeenCard : Claim7 := { stood := { row := immSeenRow, standIns := [], harness := (true, "4beaf46db2ad2056cbd27cb6558d381dd506dd3aa9ad6a3a9619ec9f3616db64"), looks := true }, kinds := [], alts := [], laidByText := true, laidKinds := [.handle, .data], laidTests := true, laidLooks := .later }
def ImmSeenCardSaid : Prop := Claim7.holds Tryz.pinned (.plain (OpenSpec.ofChange immSeenSpec)) immSeenCard

/-- THE TIED CARD OF 'radomelaw17.ImmOne'. -/
def immOneCard : Claim7 := { stood := { row := immOneRow, standIns := [], harness := (true, "4beaf46db2ad2056cbd27cb6558d381dd506dd3aa9ad6a3a9619ec9f3616db64"), looks := true }, kinds := [], alts := [], laidByText := true, laidKinds := [.handle, .data], laidTests := true, laidLooks := .later }
def ImmOneCardSaid : Prop := Claim7.holds Tryz.pinned (.plain (OpenSpec.ofChange immOneSpec)) immOneCard

/-- THE SECOND FORM's CARD OF 'radomelaw17.ImmAhead'. -/
def immAheadUptoCard : Claim7 := { stood := { row := immAheadUptoRow, standIns := [], harness := (true, "4beaf46db2ad2056cbd27cb6558d381dd506dd3aa9ad6a3a9619ec9f3616db64"), looks := true }, kinds := [], alts := [], laidByText := true, laidKinds := [.handle, .data], laidTests := true, laidLooks := .later }
def ImmAheadUptoCardSaid : Prop := Claim7.holds Tryz.pinned (.plain (OpenSpec.upto immAheadSpec)) immAheadUptoCard

/-- THE SECOND FORM's CARD OF 'radomelaw17.ImmSeen'. -/
def immSeenUptoCard : Claim7 := { stood := { row := immSeenUptoRow, standIns := [], harness := (true, "4beaf46db2ad2056cbd27cb6558d381dd506dd3aa9ad6a3a9619ec9f3616db64"), looks := true }, kinds := [], alts := [], laidByText := true, laidKinds := [.handle, .data], laidTests := true, laidLooks := .later }
def ImmSeenUptoCardSaid : Prop := Claim7.holds Tryz.pinned (.plain (OpenSpec.upto immSeenSpec)) immSeenUptoCard

/-- THE SECOND FORM's CARD OF 'radomelaw17.ImmOne'. -/
def immOneUptoCard : Claim7 := { stood := { row := immOneUptoRow, standIns := [], harness := (true, "4beaf46db2ad2056cbd27cb6558d381dd506dd3aa9ad6a3a9619ec9f3616db64"), looks := true }, kinds := [], alts := [], laidByText := true, laidKinds := [.handle, .data], laidTests := true, laidLooks := .later }
def ImmOneUptoCardSaid : Prop := Claim7.holds Tryz.pinned (.plain (OpenSpec.upto immOneSpec)) immOneUptoCard
end Rows
end Go.Proofs.YtcefcokpjbebhaaGreatDoor
