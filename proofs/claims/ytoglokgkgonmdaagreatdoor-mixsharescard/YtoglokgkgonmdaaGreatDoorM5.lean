/-
  By of the document's answer of layer 3 (radomeref03): a number of eight words by two to a power, rounded and bounded; by py/By.py.
-/
import Derived.Test.YtoglokgkgonmdaaGreatDoorM4
import Derived.RegionTactic
import Derived.ChangeAlike
import Derived.BigRegion
import Derived.Deep.DeepCutAuto
import Derived.Test.YtoglokgkgonmdaaGreatDoorM1
import Derived.Deep.RegionHeld3
import Derived.Test.YtoglokgkgonmdaaGreatDoorM2
import Derived.Deep.RegionWith
set_option linter.unusedSimpArgs false
set_option linter.unusedVariables false
namespace Go.Proofs.YtoglokgkgonmdaaGreatDoor
open Go.RowKit Lg
attribute [local go_sem ↓] Go.wp_at_zero Go.wp_at_succ

namespace Lg
end Lg

namespace Lg
theorem field_D (s : Bool) (x0 x1 x2 x3 x4 x5 x6 x7 : Int) (w : World) : (Instr.field 177 (.agg #[.bool s, .int .u64 x0, .int .u64 x1, .int .u64 x2, .int .u64 x3, .int .u64 x4, .int .u64 x5, .int .u64 x6, .int .u64 x7]) 1).run Tryz.prog w = .ok (.agg #[.int .u64 x0, .int .u64 x1, .int .u64 x2, .int .u64 x3, .int .u64 x4, .int .u64 x5, .int .u64 x6, .int .u64 x7]) w := by kernel_rfl
end Lg
attribute [local go_sem] Lg.field_D

end Go.Proofs.YtoglokgkgonmdaaGreatDoor

/-
  By of the document's answer of layer 3 (radomeref03): a number of eight words by two to a power, rounded and bounded; by py/By.py.
-/
set_option linter.unusedSimpArgs false
set_option linter.unusedVariables false
namespace Go.Proofs.YtoglokgkgonmdaaGreatDoor
open Go.RowKit Lg
attribute [local go_sem ↓] Go.wp_at_zero Go.wp_at_succ

attribute [local go_sem] Lg.field_D

end Go.Proofs.YtoglokgkgonmdaaGreatDoor

/-
  By of the document's answer of layer 3 (radomeref03), of any bits that may be: rounded and bounded as the program's; by py/ByAny.py.
-/
set_option linter.unusedSimpArgs false
set_option linter.unusedVariables false
namespace Go.Proofs.YtoglokgkgonmdaaGreatDoor
open Go.RowKit Lg

namespace Lg
end Lg

end Go.Proofs.YtoglokgkgonmdaaGreatDoor

/-
  Dot of the document's answer of layer 3 (radomeref03): the sum of products, rounded once, and bounded; by py/Dots.py.
-/
set_option linter.unusedSimpArgs false
set_option linter.unusedVariables false
namespace Go.Proofs.YtoglokgkgonmdaaGreatDoor
open Go.RowKit Lg Dt
attribute [local go_sem ↓] Go.wp_at_zero Go.wp_at_succ

namespace Lg
end Lg

end Go.Proofs.YtoglokgkgonmdaaGreatDoor

/-
  The document's answer of layer 7 (radomeref07): Scale, Check, Join.
-/
set_option linter.unusedSimpArgs false
set_option linter.unusedVariables false
namespace Go.Proofs.YtoglokgkgonmdaaGreatDoor
open Go.RowKit Vc Dt
attribute [local go_sem ↓] Go.wp_at_zero Go.wp_at_succ

namespace Vc
end Vc

end Go.Proofs.YtoglokgkgonmdaaGreatDoor

/-
  The document's answer of layer 7 (radomeref07): Add, less or not.
-/
set_option linter.unusedSimpArgs false
set_option linter.unusedVariables false
namespace Go.Proofs.YtoglokgkgonmdaaGreatDoor
open Go.RowKit Vc Dec

namespace Vc
end Vc

end Go.Proofs.YtoglokgkgonmdaaGreatDoor

/-
  Two of the document's answer (radomeref01): two to a power.
-/
set_option linter.unusedSimpArgs false
set_option linter.unusedVariables false
namespace Go.Proofs.YtoglokgkgonmdaaGreatDoor
open Go.RowKit Dec
attribute [local go_sem ↓] Go.wp_at_zero Go.wp_at_succ

namespace Dec
theorem isNum_nat {w : World} {d : Value} {n : Nat} (h : Rd w d (digs n)) : IsNum w (.agg #[.bool false, d]) (n : Int) :=
  ⟨d, by rw [decide_eq_false (Int.not_lt.2 (Int.natCast_nonneg n))], by rw [Int.natAbs_natCast]; exact h⟩
end Dec

end Go.Proofs.YtoglokgkgonmdaaGreatDoor
