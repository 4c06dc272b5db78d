/-
  DERIVED. GIVEN WITH THE SEED: THE CARDS: each row of YtfgjigkgfflofaaDoorRRows.lean that lists a variable, with what it lists TIED to the program's text (the seventh form; the later family's looks); each row that meets fmt, with fmt's text TOLD by the authors' own Lean function (tested against real Go, not proved from fmt's source: count such statements apart). THE CARD IS WHAT COUNTS. Prove the row's statement (the work); the ties are given (YtfgjigkgfflofaaDoorRTie.lean); close each card by the builder's one call (the guide's Derived/Test/ToyasCard.lean, 'card_holds'). Laid BY PROGRAM, IN A SANDBOX (cutbox-door.mjs). By AI agents, Wed Nov 11 2026. No macro, syntax, notation, axiom, sorry.
-/
import Derived.Test.YtfgjigkgfflofaaDoorRRows
import GoSem.ClaimSeven
namespace Go.Proofs.YtfgjigkgfflofaaDoorR
namespace Rows

/-- THE TIED CARD OF 'radomelaw09.LdlRaw'. -/
def ldlRawCard : Claim7 := { stood := { row := ldlRawRow, standIns := [], harness := (true, "9e5e77c68cb9903cbaf9175727b834645075fe779aab763957ab13d76d98e895"), looks := true }, kinds := [], alts := [], laidByText := true, laidKinds := [.handle], laidTests := true, laidLooks := .later }
def LdlRawCardSaid : Prop := Claim7.holds Tryd.pinned (.plain (OpenSpec.ofChange ldlRawSpec)) ldlRawCard

/-- THE SECOND FORM's CARD OF 'radomelaw09.LdlRaw'. -/
def ldlRawUptoCard : Claim7 := { stood := { row := ldlRawUptoRow, standIns := [], harness := (true, "9e5e77c68cb9903cbaf9175727b834645075fe779aab763957ab13d76d98e895"), looks := true }, kinds := [], alts := [], laidByText := true, laidKinds := [.handle], laidTests := true, laidLooks := .later }
def LdlRawUptoCardSaid : Prop := Claim7.holds Tryd.pinned (.plain (OpenSpec.upto ldlRawSpec)) ldlRawUptoCard
end Rows
end Go.Proofs.YtfgjigkgfflofaaDoorR
