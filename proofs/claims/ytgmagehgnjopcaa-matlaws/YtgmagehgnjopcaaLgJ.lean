/-
  Join of the document's answer of layer 3 (radomeref03): the sum of two numbers of eight words; by py/Join.py.
-/
import Derived.Test.YtgmagehgnjopcaaLgF
import Derived.Test.YtgmagehgnjopcaaLgA
import Derived.Deep.RegionHeld3
import Derived.Deep.DrawnRows
set_option linter.unusedSimpArgs false
set_option linter.unusedVariables false
namespace Go.Proofs.Ytgmagehgnjopcaa
open Go.RowKit Lg
attribute [local go_sem ↓] Go.wp_at_zero Go.wp_at_succ

theorem Hid.mk'' {p : Prop} (h : p) : Hid p := h

namespace Lg
/-- A number with its sign. -/
def sgz (s : Bool) (A : Int) : Int := if s then -A else A
end Lg

end Go.Proofs.Ytgmagehgnjopcaa
