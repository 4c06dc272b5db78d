/-
  An array of eight words as a block of its own; words by division.
-/
import Derived.Test.YtgmagehgnjopcaaLgP
set_option linter.unusedSimpArgs false
set_option linter.unusedVariables false
namespace Go.Proofs.Ytgmagehgnjopcaa
open Go.RowKit
namespace Lg

theorem wd_div : ∀ (k : Nat) (n : Int), wd k n = n / 4294967296 ^ k % 4294967296
  | 0, n => by show n % 4294967296 = _; simp
  | k + 1, n => by
    show wd k (n / 4294967296) = _
    have hp : (0 : Int) < 4294967296 ^ k := Int.pow_pos (by omega)
    rw [wd_div k, Int.ediv_ediv, if_neg (fun h => absurd h.1 (by omega)), Int.sub_zero, Int.pow_succ, Int.mul_comm]

/-- One word of what is shifted down. -/
theorem shift32 (X D E : Int) (hD : 0 < D) (hE : 0 < E) (hDE : D * E = 4294967296) : X / D % 4294967296 = X % 4294967296 / D + X / 4294967296 % 4294967296 * E % 4294967296 := by
  have hX : X = D * (E * (X / 4294967296)) + X % 4294967296 := by
    rw [← Int.mul_assoc, hDE]; omega
  generalize hY : X / 4294967296 = Y at *
  generalize hr : X % 4294967296 = r at *
  have hr0 : 0 ≤ r := by omega
  have hr1 : r < 4294967296 := by omega
  have e1 : X / D = E * Y + r / D := by
    rw [hX, Int.add_comm, Int.add_mul_ediv_left _ _ (by omega), Int.add_comm]
  have hlt : r / D < E := Int.ediv_lt_of_lt_mul hD (by rw [Int.mul_comm, hDE]; exact hr1)
  have h0 : 0 ≤ r / D := Int.ediv_nonneg hr0 (by omega)
  have e2 : Y % 4294967296 * E % 4294967296 = E * (Y % D) := by
    have : Y % 4294967296 * E % 4294967296 = Y * E % 4294967296 := by
      rw [Int.mul_emod, Int.emod_emod_of_dvd _ (Int.dvd_refl _), ← Int.mul_emod]
    rw [this, ← hDE, Int.mul_comm D E, Int.mul_comm Y E, Int.mul_emod_mul_of_pos _ _ hE]
  have hm0 : 0 ≤ Y % D := Int.emod_nonneg _ (by omega)
  have hm1 : Y % D < D := Int.emod_lt_of_pos _ hD
  rw [e2, e1]
  have hb : E * (Y % D) + r / D < 4294967296 := by
    have : E * (Y % D + 1) ≤ E * D := Int.mul_le_mul_of_nonneg_left (by omega) (by omega)
    rw [Int.mul_add, Int.mul_comm E D, hDE] at this
    omega
  have hb0 : 0 ≤ E * (Y % D) := Int.mul_nonneg (by omega) hm0
  have : E * Y + r / D = E * (Y % D) + r / D + 4294967296 * (Y / D) := by
    have := Int.emod_add_mul_ediv Y D
    have h2 : E * Y = E * (Y % D) + E * (D * (Y / D)) := by rw [← Int.mul_add, this]
    rw [h2, ← Int.mul_assoc E D, Int.mul_comm E D, hDE]
    omega
  rw [this, Int.add_mul_emod_self_left, Int.emod_eq_of_lt (by omega) hb]
  omega

/-- The words of what is shifted down by M words and sh bits. -/
theorem shift_words (A D E : Int) (M k : Nat) (hD : 0 < D) (hE : 0 < E) (hDE : D * E = 4294967296) : wd k (A / (4294967296 ^ M * D)) = wd (k + M) A / D + wd (k + M + 1) A * E % 4294967296 := by
  have hp : (0 : Int) < 4294967296 ^ k := Int.pow_pos (by omega)
  have hq : (0 : Int) < 4294967296 ^ M := Int.pow_pos (by omega)
  have hpm : (0 : Int) < 4294967296 ^ (k + M) := Int.pow_pos (by omega)
  have e1 : A / (4294967296 ^ M * D) / 4294967296 ^ k = A / 4294967296 ^ (k + M) / D := by
    rw [Int.ediv_ediv, if_neg (fun h => absurd h.1 (Int.not_lt.2 (Int.le_of_lt (Int.mul_pos hq hD)))), Int.sub_zero, Int.ediv_ediv, if_neg (fun h => absurd h.1 (by omega)), Int.sub_zero, Int.pow_add, Int.mul_comm (4294967296 ^ k) (4294967296 ^ M), Int.mul_right_comm]
  have e2 : A / 4294967296 ^ (k + M + 1) = A / 4294967296 ^ (k + M) / 4294967296 := by
    rw [Int.ediv_ediv, if_neg (fun h => absurd h.1 (by omega)), Int.sub_zero, Int.pow_succ]
  rw [wd_div, wd_div, wd_div, e1, e2]
  exact shift32 _ D E hD hE hDE

theorem wd_top {A : Int} (h : In8 A) : ∀ k, 8 ≤ k → wd k A = 0 := by
  intro k hk
  rw [wd_div]
  have hp : (0 : Int) < 4294967296 ^ k := Int.pow_pos (by omega)
  have h1 : (4294967296 : Int) ^ 8 ≤ 4294967296 ^ k := by
    obtain ⟨j, rfl⟩ : ∃ j, k = 8 + j := ⟨k - 8, by omega⟩
    rw [Int.pow_add]
    have : (1 : Int) ≤ 4294967296 ^ j := Int.pow_pos (show (0 : Int) < 4294967296 by omega)
    have := Int.mul_le_mul_of_nonneg_left this (show (0 : Int) ≤ 4294967296 ^ 8 by decide)
    simpa using this
  have h2 : (4294967296 : Int) ^ 8 = 115792089237316195423570985008687907853269984665640564039457584007913129639936 := by decide
  unfold In8 at h
  rw [Int.ediv_eq_zero_of_lt h.1 (by omega)]
  rfl

end Lg
end Go.Proofs.Ytgmagehgnjopcaa
