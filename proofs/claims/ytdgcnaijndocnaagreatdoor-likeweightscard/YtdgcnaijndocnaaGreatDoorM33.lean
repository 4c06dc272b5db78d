/-
  The document's answer of layer 8 (radomeref08): May, Eye, Turn, Alike, Apply, Mul.
-/
import Derived.Test.YtdgcnaijndocnaaGreatDoorM10
import Derived.Test.YtdgcnaijndocnaaGreatDoorM4
import Derived.Deep.RegionHeld3
import Derived.Test.YtdgcnaijndocnaaGreatDoorM5
import Derived.Test.YtdgcnaijndocnaaGreatDoorM2
import Derived.BigQuiet
import Derived.Deep.CutRange
import Derived.Deep.DeepCutAuto
set_option linter.unusedSimpArgs false
set_option linter.unusedVariables false
namespace Go.Proofs.YtdgcnaijndocnaaGreatDoor
open Go.RowKit Vc Mt Dt

end Go.Proofs.YtdgcnaijndocnaaGreatDoor

/-
  The document's answer of layer 12 (radomeref12): In, Six, May.
-/
set_option linter.unusedSimpArgs false
set_option linter.unusedVariables false
namespace Go.Proofs.YtdgcnaijndocnaaGreatDoor
open Go.RowKit Vc St Mt Dt
attribute [local go_sem ↓] Go.wp_at_zero Go.wp_at_succ

open Pr

end Go.Proofs.YtdgcnaijndocnaaGreatDoor

/-
  The document's answer of layer 8 (radomeref08): Add, less or not; Outer; Even. (By py/MtS.py.)
-/
set_option linter.unusedSimpArgs false
set_option linter.unusedVariables false
namespace Go.Proofs.YtdgcnaijndocnaaGreatDoor
open Go.RowKit Vc Mt Dt





end Go.Proofs.YtdgcnaijndocnaaGreatDoor

/-
  The document's answer of layer 8 (radomeref08): Even, its rows the call's own.
-/
set_option linter.unusedSimpArgs false
set_option linter.unusedVariables false
namespace Go.Proofs.YtdgcnaijndocnaaGreatDoor
open Go.RowKit Vc Mt Dt

end Go.Proofs.YtdgcnaijndocnaaGreatDoor

/-
  The document's answer of layer 12 (radomeref12): Six, In, Next.
-/
set_option linter.unusedSimpArgs false
set_option linter.unusedVariables false
namespace Go.Proofs.YtdgcnaijndocnaaGreatDoor
open Go.RowKit Vc St Mt Dt
attribute [local go_sem ↓] Go.wp_at_zero Go.wp_at_succ

namespace Pr
end Pr
open Pr

end Go.Proofs.YtdgcnaijndocnaaGreatDoor
