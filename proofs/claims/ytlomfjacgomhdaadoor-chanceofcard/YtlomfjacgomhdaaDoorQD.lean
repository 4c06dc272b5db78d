/-
  A sum rounded up or not; a sum bounded.
-/
import Derived.Test.YtlomfjacgomhdaaDoorM9
import Derived.ChangeKeysEq
import Derived.Deep.RegionWith
set_option linter.unusedSimpArgs false
set_option linter.unusedVariables false
namespace Go.Proofs.YtlomfjacgomhdaaDoor
open Go.RowKit Qn

namespace Qn
/-- A number within the three words. -/
def In3 (n : Int) : Prop := -3138550867693340381917894711603833208051177722232017256448 ≤ n ∧ n < 3138550867693340381917894711603833208051177722232017256448

theorem info_u64 : (Tryd.prog.info? 59).isSome = true := by kernel_rfl

theorem run_item (xs ys : Array Value) (i : Nat) (is : List Nat) (a b : Int) (hx : xs[i]? = some (.int .u64 a)) (hy : ys[i]? = some (.int .u64 b)) (w : World) (d : Nat) :
    (Op.eqItems (d + 1) 59 1 xs ys (i :: is)).run Tryd.prog w = if (a == b) = true then (Op.eqItems (d + 1) 59 1 xs ys is).run Tryd.prog w else .ok false w := by
  have px : (Go.part 59 xs (i * 1)).run Tryd.prog w = .ok (.int .u64 a) w := by
    simp [Go.part, isAgg, run_underlying Tryd.underlying59, hx]
  have py : (Go.part 59 ys (i * 1)).run Tryd.prog w = .ok (.int .u64 b) w := by
    simp [Go.part, isAgg, run_underlying Tryd.underlying59, hy]
  have pe : (Op.equalIn (d + 1) 59 (.int .u64 a) (.int .u64 b)).run Tryd.prog w = .ok (a == b) w := run_equalIn_int w d 59 .u64 .u64 a b Tryd.underlying59
  simp only [Op.eqItems, Sem.run_bind, px, py, pe, Result.andThen_ok]
  cases (a == b) <;> simp

theorem run_items3 (x0 x1 x2 y0 y1 y2 : Int) (w : World) (d : Nat) : (Op.eqItems (d + 1) 59 1 #[.int .u64 x0, .int .u64 x1, .int .u64 x2] #[.int .u64 y0, .int .u64 y1, .int .u64 y2] [0, 1, 2]).run Tryd.prog w = .ok (x0 == y0 && (x1 == y1 && x2 == y2)) w := by
  rw [run_item _ _ 0 _ x0 y0 rfl rfl, run_item _ _ 1 _ x1 y1 rfl rfl, run_item _ _ 2 _ x2 y2 rfl rfl]
  cases (x0 == y0) <;> cases (x1 == y1) <;> cases (x2 == y2) <;> simp [Op.eqItems]

end Qn

namespace Qn
theorem back64 {n : Int} (h0 : -9223372036854775808 ≤ n) (h1 : n ≤ 9223372036854775807) : wrap64 (lo n) = n := by unfold lo; simp only [wrap64]; omega
theorem wrap_bd (n : Int) : -9223372036854775808 ≤ wrap64 (lo n) ∧ wrap64 (lo n) ≤ 9223372036854775807 := by unfold lo; simp only [wrap64]; omega
theorem far_words {n m : Int} (hn : In3 n) (h0 : -9223372036854775808 ≤ m) (h1 : m ≤ 9223372036854775807) (hne : n < -9223372036854775808 ∨ 9223372036854775807 < n) : (lo n == lo m && (mi n == mi m && hi n == hi m)) = false := by
  rw [Bool.eq_false_iff]
  intro h
  simp only [Bool.and_eq_true, beq_iff_eq] at h
  unfold In3 at hn
  unfold lo mi hi at h
  omega
theorem sg_hi_pos {n : Int} (hn : In3 n) (h : 0 ≤ n) : sg (hi n) = 0 := by unfold In3 at hn; unfold sg hi; rw [if_pos (by omega)]
theorem sg_hi_neg {n : Int} (hn : In3 n) (h : n < 0) : sg (hi n) = 18446744073709551615 := by unfold In3 at hn; unfold sg hi; rw [if_neg (by omega)]
end Qn

end Go.Proofs.YtlomfjacgomhdaaDoor
