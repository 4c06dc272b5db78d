/-
  DERIVED. GIVEN WITH THE SEED: THE CARDS: each row of YtlomfjacgomhdaaDoorRows.lean that lists a variable, with what it lists TIED to the program's text (the seventh form; the later family's looks); each row that meets fmt, with fmt's text TOLD by the authors' own Lean function (tested against real Go, not proved from fmt's source: count such statements apart). THE CARD IS WHAT COUNTS. Prove the row's statement (the work); the ties are given (YtlomfjacgomhdaaDoorTie.lean); close each card by the builder's one call (the guide's Derived/Test/ToyasCard.lean, 'card_holds'). Laid BY PROGRAM, IN A SANDBOX (cutbox-door.mjs). By AI agents, Wed Nov 11 2026. No macro, syntax, notation, axiom, sorry.
-/
import Derived.Test.YtlomfjacgomhdaaDoorRows
import GoSem.ClaimSeven
namespace Go.Proofs.YtlomfjacgomhdaaDoor
namespace Rows

/-- THE TIED CARD OF 'radomelaw14.ChanceOf'. -/
def chanceOfCard : Claim7 := { stood := { row := chanceOfRow, standIns := [], harness := (true, "a4eaa14fd20d842f73955ba82d672bfe963f1fe29f9c564fe349862d66646041"), looks := true }, kinds := [], alts := [], laidByText := true, laidKinds := [.handle], laidTests := true, laidLooks := .later }
def ChanceOfCardSaid : Prop := Claim7.holds Tryd.pinned (.plain (OpenSpec.ofChange chanceOfSpec)) chanceOfCard

/-- THE TIED CARD OF 'radomelaw14.ChanceMixes'. -/
def chanceMixesCard : Claim7 := { stood := { row := chanceMixesRow, standIns := [], harness := (true, "a4eaa14fd20d842f73955ba82d672bfe963f1fe29f9c564fe349862d66646041"), looks := true }, kinds := [], alts := [], laidByText := true, laidKinds := [.handle], laidTests := true, laidLooks := .later }
def ChanceMixesCardSaid : Prop := Claim7.holds Tryd.pinned (.plain (OpenSpec.ofChange chanceMixesSpec)) chanceMixesCard

/-- THE TIED CARD OF 'radomelaw14.ChanceOne'. -/
def chanceOneCard : Claim7 := { stood := { row := chanceOneRow, standIns := [], harness := (true, "a4eaa14fd20d842f73955ba82d672bfe963f1fe29f9c564fe349862d66646041"), looks := true }, kinds := [], alts := [], laidByText := true, laidKinds := [.handle], laidTests := true, laidLooks := .later }
def ChanceOneCardSaid : Prop := Claim7.holds Tryd.pinned (.plain (OpenSpec.ofChange chanceOneSpec)) chanceOneCard

/-- THE SECOND FORM's CARD OF 'radomelaw14.ChanceOf'. -/
def chanceOfUptoCard : Claim7 := { stood := { row := chanceOfUptoRow, standIns := [], harness := (true, "a4eaa14fd20d842f73955ba82d672bfe963f1fe29f9c564fe349862d66646041"), looks := true }, kinds := [], alts := [], laidByText := true, laidKinds := [.handle], laidTests := true, laidLooks := .later }
def ChanceOfUptoCardSaid : Prop := Claim7.holds Tryd.pinned (.plain (OpenSpec.upto chanceOfSpec)) chanceOfUptoCard

/-- THE SECOND FORM's CARD OF 'radomelaw14.ChanceMixes'. -/
def chanceMixesUptoCard : Claim7 := { stood := { row := chanceMixesUptoRow, standIns := [], harness := (true, "a4eaa14fd20d842f73955ba82d672bfe963f1fe29f9c564fe349862d66646041"), looks := true }, kinds := [], alts := [], laidByText := true, laidKinds := [.handle], laidTests := true, laidLooks := .later }
def ChanceMixesUptoCardSaid : Prop := Claim7.holds Tryd.pinned (.plain (OpenSpec.upto chanceMixesSpec)) chanceMixesUptoCard

/-- THE SECOND FORM's CARD OF 'radomelaw14.ChanceOne'. -/
def chanceOneUptoCard : Claim7 := { stood := { row := chanceOneUptoRow, standIns := [], harness := (true, "a4eaa14fd20d842f73955ba82d672bfe963f1fe29f9c564fe349862d66646041"), looks := true }, kinds := [], alts := [], laidByText := true, laidKinds := [.handle], laidTests := true, laidLooks := .later }
def ChanceOneUptoCardSaid : Prop := Claim7.holds Tryd.pinned (.plain (OpenSpec.upto chanceOneSpec)) chanceOneUptoCard
end Rows
end Go.Proofs.YtlomfjacgomhdaaDoor
