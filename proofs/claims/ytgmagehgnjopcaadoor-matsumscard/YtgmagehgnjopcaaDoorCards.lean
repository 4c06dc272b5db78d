/-
  DERIVED. GIVEN WITH THE SEED: THE CARDS: each row of YtgmagehgnjopcaaDoorRows.lean that lists a variable, with what it lists TIED to the program's text (the seventh form; the later family's looks); each row that meets fmt, with fmt's text TOLD by the authors' own Lean function (tested against real Go, not proved from fmt's source: count such statements apart). THE CARD IS WHAT COUNTS. Prove the row's statement (the work); the ties are given (YtgmagehgnjopcaaDoorTie.lean); close each card by the builder's one call (the guide's Derived/Test/ToyasCard.lean, 'card_holds'). Laid BY PROGRAM, IN A SANDBOX (cutbox-door.mjs). By AI agents, Wed Nov 11 2026. No macro, syntax, notation, axiom, sorry.
-/
import Derived.Test.YtgmagehgnjopcaaDoorRows
import GoSem.ClaimSeven
namespace Go.Proofs.YtgmagehgnjopcaaDoor
namespace Rows

/-- THE TIED CARD OF 'radomelaw08.MatParts'. -/
def matPartsCard : Claim7 := { stood := { row := matPartsRow, standIns := [], harness := (true, "2b0de8c53c35c73451167db59fe1cc726a431d8965d56eaf0b35f103c009284e"), looks := true }, kinds := [], alts := [], laidByText := true, laidKinds := [.handle], laidTests := true, laidLooks := .later }
def MatPartsCardSaid : Prop := Claim7.holds Tryd.pinned (.plain (OpenSpec.ofChange matPartsSpec)) matPartsCard

/-- THE TIED CARD OF 'radomelaw08.MatSums'. -/
def matSumsCard : Claim7 := { stood := { row := matSumsRow, standIns := [], harness := (true, "2b0de8c53c35c73451167db59fe1cc726a431d8965d56eaf0b35f103c009284e"), looks := true }, kinds := [], alts := [], laidByText := true, laidKinds := [.handle], laidTests := true, laidLooks := .later }
def MatSumsCardSaid : Prop := Claim7.holds Tryd.pinned (.plain (OpenSpec.ofChange matSumsSpec)) matSumsCard

/-- THE TIED CARD OF 'radomelaw08.MatRaw'. -/
def matRawCard : Claim7 := { stood := { row := matRawRow, standIns := [], harness := (true, "2b0de8c53c35c73451167db59fe1cc726a431d8965d56eaf0b35f103c009284e"), looks := true }, kinds := [], alts := [], laidByText := true, laidKinds := [.handle], laidTests := true, laidLooks := .later }
def MatRawCardSaid : Prop := Claim7.holds Tryd.pinned (.plain (OpenSpec.ofChange matRawSpec)) matRawCard

/-- THE SECOND FORM's CARD OF 'radomelaw08.MatParts'. -/
def matPartsUptoCard : Claim7 := { stood := { row := matPartsUptoRow, standIns := [], harness := (true, "2b0de8c53c35c73451167db59fe1cc726a431d8965d56eaf0b35f103c009284e"), looks := true }, kinds := [], alts := [], laidByText := true, laidKinds := [.handle], laidTests := true, laidLooks := .later }
def MatPartsUptoCardSaid : Prop := Claim7.holds Tryd.pinned (.plain (OpenSpec.upto matPartsSpec)) matPartsUptoCard

/-- THE SECOND FORM's CARD OF 'radomelaw08.MatSums'. -/
def matSumsUptoCard : Claim7 := { stood := { row := matSumsUptoRow, standIns := [], harness := (true, "2b0de8c53c35c73451167db59fe1cc726a431d8965d56eaf0b35f103c009284e"), looks := true }, kinds := [], alts := [], laidByText := true, laidKinds := [.handle], laidTests := true, laidLooks := .later }
def MatSumsUptoCardSaid : Prop := Claim7.holds Tryd.pinned (.plain (OpenSpec.upto matSumsSpec)) matSumsUptoCard

/-- THE SECOND FORM's CARD OF 'radomelaw08.MatRaw'. -/
def matRawUptoCard : Claim7 := { stood := { row := matRawUptoRow, standIns := [], harness := (true, "2b0de8c53c35c73451167db59fe1cc726a431d8965d56eaf0b35f103c009284e"), looks := true }, kinds := [], alts := [], laidByText := true, laidKinds := [.handle], laidTests := true, laidLooks := .later }
def MatRawUptoCardSaid : Prop := Claim7.holds Tryd.pinned (.plain (OpenSpec.upto matRawSpec)) matRawUptoCard
end Rows
end Go.Proofs.YtgmagehgnjopcaaDoor
