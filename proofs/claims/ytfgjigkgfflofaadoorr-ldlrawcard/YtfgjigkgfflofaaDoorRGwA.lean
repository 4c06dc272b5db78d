/-
  Package grow: product, moved, powerOfLess, fromOneToTwo, logFromOne, Exp, Log, Decay.
-/
import Derived.Test.YtfgjigkgfflofaaDoorRGwMath
import Derived.Test.YtfgjigkgfflofaaDoorRQJ
set_option linter.unusedSimpArgs false
set_option linter.unusedVariables false
namespace Go.Proofs.YtfgjigkgfflofaaDoorR
open Go.RowKit Qn
attribute [local go_sem ↓] Go.wp_at_zero Go.wp_at_succ

theorem Hid.mkA {p : Prop} (h : p) : Hid p := h

set_option maxHeartbeats 200000 in
theorem gprod_any (a b : Int) (p : Nat) (w : World) (ha0 : -9223372036854775808 ≤ a) (ha1 : a ≤ 9223372036854775807) (hb0 : -9223372036854775808 ≤ b) (hb1 : b ≤ 9223372036854775807) (hp : p ≤ 62) :
    Calls Tryd.prog 58 #[.int .i64 a, .int .i64 b, .int .i64 p] w fun e w' => e = .returned (.int .i64 (clamp (rne (a * b) (2 ^ p)))) ∧ Below w.heap.size w w' := by
  go_enter Tryd.func58, Tryd.ntmps58
  go_wp2_with fail
  refine (qmul_any a b p _ ha0 ha1 hb0 hb1 hp).mono ?_
  rintro e w1 ⟨rfl, k1⟩
  go_wp2
  go_ret
  exact ⟨rfl, k1⟩
set_option maxHeartbeats 200000 in
theorem gmoved_any (a : Int) (f t : Nat) (w : World) (ha0 : -9223372036854775808 ≤ a) (ha1 : a ≤ 9223372036854775807) (hf : f ≤ 62) (ht : t ≤ 62) :
    Calls Tryd.prog 42 #[.int .i64 a, .int .i64 f, .int .i64 t] w fun e w' => e = .returned (.int .i64 (clamp (rne (a * 2 ^ (t - f)) (2 ^ (f - t))))) ∧ Below w.heap.size w w' := by
  go_enter Tryd.func42, Tryd.ntmps42
  go_wp2_with fail
  refine (qmove_any a f t _ ha0 ha1 hf ht).mono ?_
  rintro e w1 ⟨rfl, k1⟩
  go_wp2
  go_ret
  exact ⟨rfl, k1⟩
/-- A product by 2^50. -/
theorem gtim_any (a b : Int) (w : World) (ha0 : -9223372036854775808 ≤ a) (ha1 : a ≤ 9223372036854775807) (hb0 : -9223372036854775808 ≤ b) (hb1 : b ≤ 9223372036854775807) :
    Calls Tryd.prog 58 #[.int .i64 a, .int .i64 b, .int .i64 50] w fun e w' => e = .returned (.int .i64 (Gw.tim a b)) ∧ Below w.heap.size w w' :=
  gprod_any a b 50 w ha0 ha1 hb0 hb1 (by omega)

end Go.Proofs.YtfgjigkgfflofaaDoorR
