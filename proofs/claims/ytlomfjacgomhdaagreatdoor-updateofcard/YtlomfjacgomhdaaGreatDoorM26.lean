/-
  Div of the document's answer (radomeref01), of a number that is not below 0: the quotient and the rest, digit by digit.
-/
import Derived.Test.YtlomfjacgomhdaaGreatDoorRefG
import Derived.Test.YtlomfjacgomhdaaGreatDoorM6
import Derived.Test.YtlomfjacgomhdaaGreatDoorM4
import Derived.Deep.DeepCutAuto
import Derived.RegionTactic
import Derived.ChangeAlike
import Derived.BigRegion
import Derived.Test.YtlomfjacgomhdaaGreatDoorM7
import Derived.Deep.RegionWith
import Derived.Test.YtlomfjacgomhdaaGreatDoorM1
set_option linter.unusedSimpArgs false
set_option linter.unusedVariables false
namespace Go.Proofs.YtlomfjacgomhdaaGreatDoor
open Go.RowKit Dec
attribute [local go_sem ↓] Go.wp_at_zero Go.wp_at_succ

namespace Dec
end Dec

end Go.Proofs.YtlomfjacgomhdaaGreatDoor

/-
  Div of the document's answer (radomeref01), of a number below 0 by one above 0: the quotient, cut down, and the rest, which is not below 0; by py/DivNeg.py.
-/
set_option linter.unusedSimpArgs false
set_option linter.unusedVariables false
namespace Go.Proofs.YtlomfjacgomhdaaGreatDoor
open Go.RowKit Dec
attribute [local go_sem ↓] Go.wp_at_zero Go.wp_at_succ

end Go.Proofs.YtlomfjacgomhdaaGreatDoor

/-
  Div of the document's answer (radomeref01), of any number by one above 0: the quotient, cut down, and the rest.
-/
set_option linter.unusedSimpArgs false
set_option linter.unusedVariables false
namespace Go.Proofs.YtlomfjacgomhdaaGreatDoor
open Go.RowKit Dec

namespace Dec
end Dec

end Go.Proofs.YtlomfjacgomhdaaGreatDoor

/-
  Round of the document's answer of layer 2 (radomeref02), of any number by one above 0: the nearest whole number to a quotient, of two such the even one.
-/
set_option linter.unusedSimpArgs false
set_option linter.unusedVariables false
namespace Go.Proofs.YtlomfjacgomhdaaGreatDoor
open Go.RowKit Dec
attribute [local go_sem ↓] Go.wp_at_zero Go.wp_at_succ

namespace Dec
end Dec

end Go.Proofs.YtlomfjacgomhdaaGreatDoor
