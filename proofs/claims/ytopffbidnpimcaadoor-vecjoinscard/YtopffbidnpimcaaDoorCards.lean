/-
  DERIVED. GIVEN WITH THE SEED: THE CARDS: each row of YtopffbidnpimcaaDoorRows.lean that lists a variable, with what it lists TIED to the program's text (the seventh form; the later family's looks); each row that meets fmt, with fmt's text TOLD by the authors' own Lean function (tested against real Go, not proved from fmt's source: count such statements apart). THE CARD IS WHAT COUNTS. Prove the row's statement (the work); the ties are given (YtopffbidnpimcaaDoorTie.lean); close each card by the builder's one call (the guide's Derived/Test/ToyasCard.lean, 'card_holds'). Laid BY PROGRAM, IN A SANDBOX (cutbox-door.mjs). By AI agents, Wed Nov 11 2026. No macro, syntax, notation, axiom, sorry.
-/
import Derived.Test.YtopffbidnpimcaaDoorRows
import GoSem.ClaimSeven
namespace Go.Proofs.YtopffbidnpimcaaDoor
namespace Rows

/-- THE TIED CARD OF 'radomelaw07.VecSums'. -/
def vecSumsCard : Claim7 := { stood := { row := vecSumsRow, standIns := [], harness := (true, "da7c681914cac04ec63f4abe570436a1476a2e1f0f85ef4269495329d73b10b8"), looks := true }, kinds := [], alts := [], laidByText := true, laidKinds := [.handle], laidTests := true, laidLooks := .later }
def VecSumsCardSaid : Prop := Claim7.holds Tryd.pinned (.plain (OpenSpec.ofChange vecSumsSpec)) vecSumsCard

/-- THE TIED CARD OF 'radomelaw07.VecJoins'. -/
def vecJoinsCard : Claim7 := { stood := { row := vecJoinsRow, standIns := [], harness := (true, "da7c681914cac04ec63f4abe570436a1476a2e1f0f85ef4269495329d73b10b8"), looks := true }, kinds := [], alts := [], laidByText := true, laidKinds := [.handle], laidTests := true, laidLooks := .later }
def VecJoinsCardSaid : Prop := Claim7.holds Tryd.pinned (.plain (OpenSpec.ofChange vecJoinsSpec)) vecJoinsCard

/-- THE SECOND FORM's CARD OF 'radomelaw07.VecSums'. -/
def vecSumsUptoCard : Claim7 := { stood := { row := vecSumsUptoRow, standIns := [], harness := (true, "da7c681914cac04ec63f4abe570436a1476a2e1f0f85ef4269495329d73b10b8"), looks := true }, kinds := [], alts := [], laidByText := true, laidKinds := [.handle], laidTests := true, laidLooks := .later }
def VecSumsUptoCardSaid : Prop := Claim7.holds Tryd.pinned (.plain (OpenSpec.upto vecSumsSpec)) vecSumsUptoCard

/-- THE SECOND FORM's CARD OF 'radomelaw07.VecJoins'. -/
def vecJoinsUptoCard : Claim7 := { stood := { row := vecJoinsUptoRow, standIns := [], harness := (true, "da7c681914cac04ec63f4abe570436a1476a2e1f0f85ef4269495329d73b10b8"), looks := true }, kinds := [], alts := [], laidByText := true, laidKinds := [.handle], laidTests := true, laidLooks := .later }
def VecJoinsUptoCardSaid : Prop := Claim7.holds Tryd.pinned (.plain (OpenSpec.upto vecJoinsSpec)) vecJoinsUptoCard
end Rows
end Go.Proofs.YtopffbidnpimcaaDoor
