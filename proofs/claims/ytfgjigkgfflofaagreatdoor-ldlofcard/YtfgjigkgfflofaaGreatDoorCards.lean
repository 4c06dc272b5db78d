/-
  DERIVED. GIVEN WITH THE SEED: THE CARDS: each row of YtfgjigkgfflofaaGreatDoorRows.lean that lists a variable, with what it lists TIED to the program's text (the seventh form; the later family's looks); each row that meets fmt, with fmt's text TOLD by the authors' own Lean function (tested against real Go, not proved from fmt's source: count such statements apart). THE CARD IS WHAT COUNTS. Prove the row's statement (the work); the ties are given (YtfgjigkgfflofaaGreatDoorTie.lean); close each card by the builder's one call (the guide's Derived/Test/ToyasCard.lean, 'card_holds'). Laid BY PROGRAM, IN A SANDBOX (cutbox-door.mjs). By AI agents, Wed Nov 11 2026. No macro, syntax, notation, axiom, sorry.
-/
import Derived.Test.YtfgjigkgfflofaaGreatDoorRows
import GoSem.ClaimSeven
namespace Go.Proofs.YtfgjigkgfflofaaGreatDoor
namespace Rows

/-- THE TIED CARD OF 'radomelaw09.LdlOf'. -/
def ldlOfCard : Claim7 := { stood := { row := ldlOfRow, standIns := [], harness := (true, "3fa0a83a35a69df4619f238b64c8f69a4088889bb7a8989f3cefffad94f5c0e0"), looks := true }, kinds := [], alts := [], laidByText := true, laidKinds := [.handle], laidTests := true, laidLooks := .later }
def LdlOfCardSaid : Prop := Claim7.holds Tryz.pinned (.plain (OpenSpec.ofChange ldlOfSpec)) ldlOfCard

/-- THE TIED CARD OF 'radomelaw09.LdlSolves'. -/
def ldlSolvesCard : Claim7 := { stood := { row := ldlSolvesRow, standIns := [], harness := (true, "3fa0a83a35a69df4619f238b64c8f69a4088889bb7a8989f3cefffad94f5c0e0"), looks := true }, kinds := [], alts := [], laidByText := true, laidKinds := [.handle], laidTests := true, laidLooks := .later }
def LdlSolvesCardSaid : Prop := Claim7.holds Tryz.pinned (.plain (OpenSpec.ofChange ldlSolvesSpec)) ldlSolvesCard

/-- THE SECOND FORM's CARD OF 'radomelaw09.LdlOf'. -/
def ldlOfUptoCard : Claim7 := { stood := { row := ldlOfUptoRow, standIns := [], harness := (true, "3fa0a83a35a69df4619f238b64c8f69a4088889bb7a8989f3cefffad94f5c0e0"), looks := true }, kinds := [], alts := [], laidByText := true, laidKinds := [.handle], laidTests := true, laidLooks := .later }
def LdlOfUptoCardSaid : Prop := Claim7.holds Tryz.pinned (.plain (OpenSpec.upto ldlOfSpec)) ldlOfUptoCard

/-- THE SECOND FORM's CARD OF 'radomelaw09.LdlSolves'. -/
def ldlSolvesUptoCard : Claim7 := { stood := { row := ldlSolvesUptoRow, standIns := [], harness := (true, "3fa0a83a35a69df4619f238b64c8f69a4088889bb7a8989f3cefffad94f5c0e0"), looks := true }, kinds := [], alts := [], laidByText := true, laidKinds := [.handle], laidTests := true, laidLooks := .later }
def LdlSolvesUptoCardSaid : Prop := Claim7.holds Tryz.pinned (.plain (OpenSpec.upto ldlSolvesSpec)) ldlSolvesUptoCard
end Rows
end Go.Proofs.YtfgjigkgfflofaaGreatDoor
