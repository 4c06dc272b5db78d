/-
  The document's answer of layer 7 (radomeref07): Scale, Check, Join.
-/
import Derived.Test.YtgmagehgnjopcaaVcA
import Derived.Test.YtgmagehgnjopcaaLgE
import Derived.Deep.RegionWith
set_option linter.unusedSimpArgs false
set_option linter.unusedVariables false
namespace Go.Proofs.Ytgmagehgnjopcaa
open Go.RowKit Vc Dt
attribute [local go_sem ↓] Go.wp_at_zero Go.wp_at_succ

namespace Vc
theorem Sl.one {w : World} {x : Addr} {a : Int} (h : w.cell? x = some (.int .i64 a)) : Sl w (some x) 1 1 (fun _ => a) :=
  ⟨Nat.le_refl _, by omega, fun k hk => ⟨x, rfl, by obtain rfl : k = 0 := by omega
                                                    exact h⟩⟩
end Vc

end Go.Proofs.Ytgmagehgnjopcaa
