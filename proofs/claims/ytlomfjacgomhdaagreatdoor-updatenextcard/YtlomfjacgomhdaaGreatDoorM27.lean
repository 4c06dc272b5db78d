/-
  The document's answer of layer 6 (radomeref06): times, Exp.
-/
import Derived.Test.YtlomfjacgomhdaaGreatDoorM4
import Derived.Test.YtlomfjacgomhdaaGreatDoorM7
import Derived.Test.YtlomfjacgomhdaaGreatDoorLgV
import Derived.Test.YtlomfjacgomhdaaGreatDoorM26
import Derived.Test.YtlomfjacgomhdaaGreatDoorM6
import Derived.Deep.DeepCutAuto
import Derived.Deep.RegionHeld3
import Derived.Deep.CutRange
import Derived.Deep.RegionWith
import Derived.Test.YtlomfjacgomhdaaGreatDoorM13
set_option linter.unusedSimpArgs false
set_option linter.unusedVariables false
namespace Go.Proofs.YtlomfjacgomhdaaGreatDoor
open Go.RowKit Dec
attribute [local go_sem ↓] Go.wp_at_zero Go.wp_at_succ
namespace Gw
end Gw
end Go.Proofs.YtlomfjacgomhdaaGreatDoor
namespace Go.Proofs.YtlomfjacgomhdaaGreatDoor
open Go.RowKit Dec Gw
attribute [local go_sem ↓] Go.wp_at_zero Go.wp_at_succ
namespace Gw
end Gw
end Go.Proofs.YtlomfjacgomhdaaGreatDoor
namespace Go.Proofs.YtlomfjacgomhdaaGreatDoor
open Go.RowKit Dec Gw
attribute [local go_sem ↓] Go.wp_at_zero Go.wp_at_succ
namespace Gw
end Gw
end Go.Proofs.YtlomfjacgomhdaaGreatDoor
