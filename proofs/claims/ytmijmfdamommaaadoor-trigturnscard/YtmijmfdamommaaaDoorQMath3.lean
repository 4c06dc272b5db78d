/-
  Plain facts on rounding and bounding: what is rounded of a number below 0, of what can be parted without a rest; no program is named here.
-/
import Derived.Test.YtmijmfdamommaaaDoorQMath
set_option linter.unusedSimpArgs false
set_option linter.unusedVariables false
namespace Go.Proofs.YtmijmfdamommaaaDoor
namespace Qn

theorem rne_neg (n d : Int) (hd : 0 < d) : rne (-n) d = -rne n d := by
  have h := Int.emod_add_mul_ediv n d
  have h0 := Int.emod_nonneg n (show d ≠ 0 by omega)
  have h1 := Int.emod_lt_of_pos n hd
  generalize hq : n / d = q at *
  generalize hr : n % d = r at *
  by_cases hz : r = 0
  · subst hz
    have e : -n = 0 + d * (-q) := by rw [Int.mul_neg]; omega
    have e1 : -n / d = -q := by rw [e, Int.add_mul_ediv_left _ _ (by omega), Int.zero_ediv, Int.zero_add]
    have e2 : -n % d = 0 := by rw [e, Int.add_mul_emod_self_left, Int.zero_emod]
    unfold rne
    rw [e1, e2, hq, hr, if_pos (Or.inl (by omega)), if_pos (Or.inl (by omega))]
  · have e : -n = d - r + d * (-q - 1) := by rw [Int.mul_sub, Int.mul_neg, Int.mul_one]; omega
    have e1 : -n / d = -q - 1 := by rw [e, Int.add_mul_ediv_left _ _ (by omega), Int.ediv_eq_zero_of_lt (by omega) (by omega)]; omega
    have e2 : -n % d = d - r := by rw [e, Int.add_mul_emod_self_left, Int.emod_eq_of_lt (by omega) (by omega)]
    unfold rne
    rw [e1, e2, hq, hr]
    split <;> split <;> omega

theorem rne_mul (x d : Int) (hd : 0 < d) : rne (x * d) d = x := by
  unfold rne
  rw [Int.mul_emod_left, Int.mul_ediv_cancel _ (by omega), if_pos (Or.inl (by omega))]
theorem rne_one (x : Int) : rne x 1 = x := by
  have := rne_mul x 1 (by omega)
  rwa [Int.mul_one] at this
theorem clamp_in {n : Int} (h : great n = false) : clamp n = n := by
  unfold great at h
  rw [Bool.or_eq_false_iff, decide_eq_false_iff_not, decide_eq_false_iff_not] at h
  unfold clamp
  rw [if_neg h.1, if_neg h.2]
theorem great_iff {n : Int} : great n = false ↔ -4611686018427387903 ≤ n ∧ n ≤ 4611686018427387903 := by
  unfold great
  rw [Bool.or_eq_false_iff, decide_eq_false_iff_not, decide_eq_false_iff_not]
  omega
theorem clamp_neg (n : Int) : clamp (-n) = -clamp n := by
  unfold clamp
  by_cases h1 : 4611686018427387903 < n
  · rw [if_pos h1, if_neg (by omega), if_pos (by omega)]
  · by_cases h2 : n < -4611686018427387903
    · rw [if_neg h1, if_pos h2, if_pos (by omega)]; omega
    · rw [if_neg h1, if_neg h2, if_neg (by omega), if_neg (by omega)]
theorem great_neg (n : Int) : great (-n) = great n := by
  unfold great
  rw [Bool.eq_iff_iff, Bool.or_eq_true, Bool.or_eq_true, decide_eq_true_iff, decide_eq_true_iff, decide_eq_true_iff, decide_eq_true_iff]
  omega
end Qn
end Go.Proofs.YtmijmfdamommaaaDoor
