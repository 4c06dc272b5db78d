/-
  DERIVED. GIVEN WITH THE SEED: THE CARDS: each row of YtmijmfdamommaaaDoorRows.lean that lists a variable, with what it lists TIED to the program's text (the seventh form; the later family's looks); each row that meets fmt, with fmt's text TOLD by the authors' own Lean function (tested against real Go, not proved from fmt's source: count such statements apart). THE CARD IS WHAT COUNTS. Prove the row's statement (the work); the ties are given (YtmijmfdamommaaaDoorTie.lean); close each card by the builder's one call (the guide's Derived/Test/ToyasCard.lean, 'card_holds'). Laid BY PROGRAM, IN A SANDBOX (cutbox-door.mjs). By AI agents, Wed Nov 11 2026. No macro, syntax, notation, axiom, sorry.
-/
import Derived.Test.YtmijmfdamommaaaDoorRows
import GoSem.ClaimSeven
namespace Go.Proofs.YtmijmfdamommaaaDoor
namespace Rows

/-- THE TIED CARD OF 'radomelaw05.TrigTurns'. -/
def trigTurnsCard : Claim7 := { stood := { row := trigTurnsRow, standIns := [], harness := (true, "7c44688fbcc28954c758736007bf236d6902e917228c09ab554fa1617c00481b"), looks := true }, kinds := [], alts := [], laidByText := true, laidKinds := [.handle, .data], laidTests := true, laidLooks := .later }
def TrigTurnsCardSaid : Prop := Claim7.holds Tryd.pinned (.plain (OpenSpec.ofChange trigTurnsSpec)) trigTurnsCard

/-- THE TIED CARD OF 'radomelaw05.TrigPlaces'. -/
def trigPlacesCard : Claim7 := { stood := { row := trigPlacesRow, standIns := [], harness := (true, "7c44688fbcc28954c758736007bf236d6902e917228c09ab554fa1617c00481b"), looks := true }, kinds := [], alts := [], laidByText := true, laidKinds := [.handle, .data], laidTests := true, laidLooks := .later }
def TrigPlacesCardSaid : Prop := Claim7.holds Tryd.pinned (.plain (OpenSpec.ofChange trigPlacesSpec)) trigPlacesCard

/-- THE TIED CARD OF 'radomelaw05.TrigExact'. -/
def trigExactCard : Claim7 := { stood := { row := trigExactRow, standIns := [], harness := (true, "7c44688fbcc28954c758736007bf236d6902e917228c09ab554fa1617c00481b"), looks := true }, kinds := [], alts := [], laidByText := true, laidKinds := [.data], laidTests := true, laidLooks := .later }
def TrigExactCardSaid : Prop := Claim7.holds Tryd.pinned (.plain (OpenSpec.ofChange trigExactSpec)) trigExactCard

/-- THE TIED CARD OF 'radomelaw05.TrigAside'. -/
def trigAsideCard : Claim7 := { stood := { row := trigAsideRow, standIns := [], harness := (true, "7c44688fbcc28954c758736007bf236d6902e917228c09ab554fa1617c00481b"), looks := true }, kinds := [], alts := [], laidByText := true, laidKinds := [.handle, .data], laidTests := true, laidLooks := .later }
def TrigAsideCardSaid : Prop := Claim7.holds Tryd.pinned (.plain (OpenSpec.ofChange trigAsideSpec)) trigAsideCard

/-- THE SECOND FORM's CARD OF 'radomelaw05.TrigTurns'. -/
def trigTurnsUptoCard : Claim7 := { stood := { row := trigTurnsUptoRow, standIns := [], harness := (true, "7c44688fbcc28954c758736007bf236d6902e917228c09ab554fa1617c00481b"), looks := true }, kinds := [], alts := [], laidByText := true, laidKinds := [.handle, .data], laidTests := true, laidLooks := .later }
def TrigTurnsUptoCardSaid : Prop := Claim7.holds Tryd.pinned (.plain (OpenSpec.upto trigTurnsSpec)) trigTurnsUptoCard

/-- THE SECOND FORM's CARD OF 'radomelaw05.TrigPlaces'. -/
def trigPlacesUptoCard : Claim7 := { stood := { row := trigPlacesUptoRow, standIns := [], harness := (true, "7c44688fbcc28954c758736007bf236d6902e917228c09ab554fa1617c00481b"), looks := true }, kinds := [], alts := [], laidByText := true, laidKinds := [.handle, .data], laidTests := true, laidLooks := .later }
def TrigPlacesUptoCardSaid : Prop := Claim7.holds Tryd.pinned (.plain (OpenSpec.upto trigPlacesSpec)) trigPlacesUptoCard

/-- THE SECOND FORM's CARD OF 'radomelaw05.TrigExact'. -/
def trigExactUptoCard : Claim7 := { stood := { row := trigExactUptoRow, standIns := [], harness := (true, "7c44688fbcc28954c758736007bf236d6902e917228c09ab554fa1617c00481b"), looks := true }, kinds := [], alts := [], laidByText := true, laidKinds := [.data], laidTests := true, laidLooks := .later }
def TrigExactUptoCardSaid : Prop := Claim7.holds Tryd.pinned (.plain (OpenSpec.upto trigExactSpec)) trigExactUptoCard

/-- THE SECOND FORM's CARD OF 'radomelaw05.TrigAside'. -/
def trigAsideUptoCard : Claim7 := { stood := { row := trigAsideUptoRow, standIns := [], harness := (true, "7c44688fbcc28954c758736007bf236d6902e917228c09ab554fa1617c00481b"), looks := true }, kinds := [], alts := [], laidByText := true, laidKinds := [.handle, .data], laidTests := true, laidLooks := .later }
def TrigAsideUptoCardSaid : Prop := Claim7.holds Tryd.pinned (.plain (OpenSpec.upto trigAsideSpec)) trigAsideUptoCard
end Rows
end Go.Proofs.YtmijmfdamommaaaDoor
