/-
  Dot of the document's answer of layer 3 (radomeref03): the sum of products, rounded once, and bounded; by py/Dots.py.
-/
import Derived.Test.YtgmagehgnjopcaaLgD
import Derived.Test.YtgmagehgnjopcaaPure
import Derived.Deep.RegionHeld3
import Derived.Deep.DeepCutAuto
set_option linter.unusedSimpArgs false
set_option linter.unusedVariables false
namespace Go.Proofs.Ytgmagehgnjopcaa
open Go.RowKit Lg Dt
attribute [local go_sem ↓] Go.wp_at_zero Go.wp_at_succ

namespace Lg
theorem sgz_bd {s : Bool} {A M : Int} (hA : 0 ≤ A) (h : -M ≤ sgz s A ∧ sgz s A ≤ M) : A ≤ M := by
  unfold sgz at h; split at h <;> omega
end Lg

end Go.Proofs.Ytgmagehgnjopcaa
