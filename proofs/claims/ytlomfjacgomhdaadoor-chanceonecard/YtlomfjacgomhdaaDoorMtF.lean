/-
  Matrices (mat): Of, Turn, or their errors.
-/
import Derived.Test.YtlomfjacgomhdaaDoorMtE
set_option linter.unusedSimpArgs false
set_option linter.unusedVariables false
namespace Go.Proofs.YtlomfjacgomhdaaDoor
open Go.RowKit Vc Mt

namespace Mt
theorem splice_mvals (r c : Int) (z y : Nat → Int) (p m : Nat) (h : p + m ≤ 36) : splice (mvals r c z) (p + 2) (vals m y) = mvals r c (fun k => if p ≤ k ∧ k < p + m then y (k - p) else z k) := by
  apply List.ext_getElem?
  intro i
  unfold splice
  rw [vals_len]
  have hl : (mvals r c z).length = 38 := mvals_len r c z
  match i with
  | 0 => simp [mvals, List.getElem?_append]
  | 1 => simp [mvals, List.getElem?_append]
  | i + 2 =>
    by_cases h1 : i < p
    · rw [List.getElem?_append_left (by rw [List.length_take, hl]; omega), List.getElem?_take, if_pos (by omega), mvals_at (by omega), mvals_at (by omega), if_neg (by omega)]
    · rw [List.getElem?_append_right (by rw [List.length_take, hl]; omega), List.length_take, hl]
      by_cases h2 : i < p + m
      · rw [List.getElem?_append_left (by rw [vals_len]; omega), show i + 2 - min (p + 2) 38 = i - p by omega, vals_at (by omega), mvals_at (by omega), if_pos ⟨by omega, h2⟩]
      · rw [List.getElem?_append_right (by rw [vals_len]; omega), vals_len, List.getElem?_drop, show p + 2 + m + (i + 2 - min (p + 2) 38 - m) = i + 2 by omega]
        by_cases h3 : i < 36
        · rw [mvals_at h3, mvals_at h3, if_neg (by omega)]
        · rw [List.getElem?_eq_none (by rw [mvals_len]; omega), List.getElem?_eq_none (by rw [mvals_len]; omega)]

theorem mpart_row {c i : Nat} {F : Nat → Nat → Int} (k : Nat) : (if i * c ≤ k ∧ k < i * c + c then F i (k - i * c) else mpart c F (i * c) k) = mpart c F ((i + 1) * c) k := by
  unfold mpart
  rw [Nat.succ_mul]
  by_cases h1 : k < i * c
  · rw [if_neg (by omega), if_pos h1, if_pos (by omega)]
  · by_cases h2 : k < i * c + c
    · rw [if_pos ⟨by omega, h2⟩, if_pos h2]
      have e : k = i * c + (k - i * c) := by omega
      rw [show F (k / c) (k % c) = F ((i * c + (k - i * c)) / c) ((i * c + (k - i * c)) % c) by rw [← e], place_div (by omega), place_mod (by omega)]
    · rw [if_neg (by omega), if_neg h1, if_neg h2]
end Mt

end Go.Proofs.YtlomfjacgomhdaaDoor
