/-
  Div of the document's answer (radomeref01), of a number that is not below 0: the quotient and the rest, digit by digit.
-/
import Derived.Test.YtlomfjacgomhdaaGreatDoorRefG
import Derived.Test.YtlomfjacgomhdaaGreatDoorM6
import Derived.Test.YtlomfjacgomhdaaGreatDoorM4
import Derived.Deep.DeepCutAuto
import Derived.RegionTactic
import Derived.ChangeAlike
import Derived.BigRegion
import Derived.Test.YtlomfjacgomhdaaGreatDoorM7
import Derived.Deep.RegionWith
import Derived.Test.YtlomfjacgomhdaaGreatDoorM1
set_option linter.unusedSimpArgs false
set_option linter.unusedVariables false
namespace Go.Proofs.YtlomfjacgomhdaaGreatDoor
open Go.RowKit Dec
attribute [local go_sem ↓] Go.wp_at_zero Go.wp_at_succ
namespace Dec
end Dec
end Go.Proofs.YtlomfjacgomhdaaGreatDoor
namespace Go.Proofs.YtlomfjacgomhdaaGreatDoor
open Go.RowKit Dec
attribute [local go_sem ↓] Go.wp_at_zero Go.wp_at_succ
end Go.Proofs.YtlomfjacgomhdaaGreatDoor
namespace Go.Proofs.YtlomfjacgomhdaaGreatDoor
open Go.RowKit Dec
namespace Dec
end Dec
end Go.Proofs.YtlomfjacgomhdaaGreatDoor
namespace Go.Proofs.YtlomfjacgomhdaaGreatDoor
open Go.RowKit Dec
attribute [local go_sem ↓] Go.wp_at_zero Go.wp_at_succ
namespace Dec
end Dec
end Go.Proofs.YtlomfjacgomhdaaGreatDoor
