/-
  By of the document's answer of layer 3 (radomeref03): a number of eight words by two to a power, rounded and bounded; by py/By.py.
-/
import Derived.Test.YtcefcokpjbebhaaGreatDoorM3
import Derived.RegionTactic
import Derived.ChangeAlike
import Derived.BigRegion
import Derived.Deep.DeepCutAuto
import Derived.Test.YtcefcokpjbebhaaGreatDoorM1
import Derived.Deep.RegionHeld3
import Derived.Test.YtcefcokpjbebhaaGreatDoorM2
import Derived.Deep.RegionWith
set_option linter.unusedSimpArgs false
set_option linter.unusedVariables false
namespace Go.Proofs.YtcefcokpjbebhaaGreatDoor
section
open Go.RowKit Lg
attribute [local go_sem ↓] Go.wp_at_zero Go.wp_at_succ
namespace Lg
end Lg
namespace Lg
theorem field_D(s:Bool)(x0 x1 x2 x3 x4 x5 x6 x7:Int)(w:World):(Instr.field 277 (.agg #[.bool s, .int .u64 x0, .int .u64 x1, .int .u64 x2, .int .u64 x3, .int .u64 x4, .int .u64 x5, .int .u64 x6, .int .u64 x7]) 1).run Tryz.prog w= .ok (.agg #[.int .u64 x0, .int .u64 x1, .int .u64 x2, .int .u64 x3, .int .u64 x4, .int .u64 x5, .int .u64 x6, .int .u64 x7]) w:=by kernel_rfl
end Lg
attribute [local go_sem] Lg.field_D
end
section
open Go.RowKit Lg
attribute [local go_sem ↓] Go.wp_at_zero Go.wp_at_succ
attribute [local go_sem] Lg.field_D
end
section
open Go.RowKit Lg
namespace Lg
end Lg
end
section
open Go.RowKit Lg Dt
attribute [local go_sem ↓] Go.wp_at_zero Go.wp_at_succ
namespace Lg
end Lg
end
section
open Go.RowKit Vc Dt
attribute [local go_sem ↓] Go.wp_at_zero Go.wp_at_succ
namespace Vc
theorem Sl.one{w:World}{x:Addr}{a:Int}(h:w.cell? x=some (.int .i64 a)):Sl w (some x) 1 1 (fun _=>a):=
 ⟨Nat.le_refl _,by omega,fun k hk=>⟨x,rfl,by obtain rfl:k=0:=by omega
                                             exact h⟩⟩
end Vc
end
section
open Go.RowKit Vc Dec
namespace Vc
end Vc
end
section
open Go.RowKit Dec
attribute [local go_sem ↓] Go.wp_at_zero Go.wp_at_succ
namespace Dec
end Dec
end
end Go.Proofs.YtcefcokpjbebhaaGreatDoor
