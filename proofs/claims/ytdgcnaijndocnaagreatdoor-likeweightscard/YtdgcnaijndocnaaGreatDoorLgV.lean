/-
  The document's division, bit by bit (radomeref03.Div).
-/
import Derived.Test.YtdgcnaijndocnaaGreatDoorM3
import Derived.Test.YtdgcnaijndocnaaGreatDoorM21
import Derived.Deep.DeepCutAuto
import Derived.Deep.RegionHeld3
import Derived.Deep.CutRange
set_option linter.unusedSimpArgs false
set_option linter.unusedVariables false
namespace Go.Proofs.YtdgcnaijndocnaaGreatDoor
open Go.RowKit
attribute [local go_sem ↓] Go.wp_at_zero Go.wp_at_succ

namespace Lg
end Lg

open Lg Qn
end Go.Proofs.YtdgcnaijndocnaaGreatDoor
