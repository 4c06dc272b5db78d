/-
  The document's answer of layer 14 (radomeref14): a whole number by shares.
-/
import Derived.Test.YtdgcnaijndocnaaGreatDoorM11
import Derived.Test.YtdgcnaijndocnaaGreatDoorRegM
import Derived.Test.YtdgcnaijndocnaaGreatDoorM1
import Derived.Test.YtdgcnaijndocnaaGreatDoorM14
import Derived.Test.YtdgcnaijndocnaaGreatDoorM3
import Derived.Deep.DeepCutAuto
import Derived.Deep.CutRange
set_option linter.unusedSimpArgs false
set_option linter.unusedVariables false
namespace Go.Proofs.YtdgcnaijndocnaaGreatDoor
open Go.RowKit Dec Nv Vc St Ld Nu
attribute [local go_sem ↓] Go.wp_at_zero Go.wp_at_succ
namespace Cn
end Cn
open Cn
end Go.Proofs.YtdgcnaijndocnaaGreatDoor
namespace Go.Proofs.YtdgcnaijndocnaaGreatDoor
open Go.RowKit Dec Nv Vc St Ld Nu Cn
attribute [local go_sem ↓] Go.wp_at_zero Go.wp_at_succ
end Go.Proofs.YtdgcnaijndocnaaGreatDoor
