/-
  Two of the document's answer (radomeref01): two to a power.
-/
import Derived.Test.YtlomfjacgomhdaaDoorM6
import Derived.Deep.DeepCutAuto
import Derived.Deep.RegionWith
set_option linter.unusedSimpArgs false
set_option linter.unusedVariables false
namespace Go.Proofs.YtlomfjacgomhdaaDoor
open Go.RowKit Dec
attribute [local go_sem ↓] Go.wp_at_zero Go.wp_at_succ

namespace Dec
theorem isNum_nat {w : World} {d : Value} {n : Nat} (h : Rd w d (digs n)) : IsNum w (.agg #[.bool false, d]) (n : Int) :=
  ⟨d, by rw [decide_eq_false (Int.not_lt.2 (Int.natCast_nonneg n))], by rw [Int.natAbs_natCast]; exact h⟩
theorem IsNum.nat {w : World} {v : Value} {n : Nat} (h : IsNum w v (n : Int)) : ∃ a c, v = .agg #[.bool false, .slice a (digs n).length c] ∧ Rd w (.slice a (digs n).length c) (digs n) := by
  obtain ⟨d, rfl, hd⟩ := h
  rw [Int.natAbs_natCast] at hd
  obtain ⟨a, c, rfl⟩ := hd.lt
  exact ⟨a, c, by rw [decide_eq_false (Int.not_lt.2 (Int.natCast_nonneg n))], hd⟩
theorem len_two (n : Nat) : (digs (2 ^ n)).length ≤ n + 1 := by
  refine length_digs_le (Nat.lt_of_lt_of_le (Nat.pow_lt_pow_right (a := 2) (by omega) (Nat.lt_succ_self n)) (Nat.pow_le_pow_left (by omega) _))
end Dec

end Go.Proofs.YtlomfjacgomhdaaDoor
