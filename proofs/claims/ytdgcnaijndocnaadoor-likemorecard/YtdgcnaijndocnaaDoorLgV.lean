/-
  The document's division, bit by bit (radomeref03.Div).
-/
import Derived.Test.YtdgcnaijndocnaaDoorM3
import Derived.Test.YtdgcnaijndocnaaDoorM21
import Derived.Deep.DeepCutAuto
import Derived.Deep.RegionHeld3
import Derived.Deep.CutRange
set_option linter.unusedSimpArgs false
set_option linter.unusedVariables false
namespace Go.Proofs.YtdgcnaijndocnaaDoor
open Go.RowKit
attribute [local go_sem ↓] Go.wp_at_zero Go.wp_at_succ

namespace Lg
/-- What is left of a number without its last k bits, by d; and the rest. -/
def dvQ (M d : Int) (k : Nat) : Int := M / 2 ^ k / d
def dvR (M d : Int) (k : Nat) : Int := M / 2 ^ k % d
theorem half_pow (M : Int) (k : Nat) : M / 2 ^ (k + 1) = M / 2 ^ k / 2 := by
  rw [Int.pow_succ, Int.ediv_ediv_of_nonneg (Int.pow_nonneg (by omega))]
theorem dv_step {M d : Int} (k : Nat) (hd : 0 < d) :
    (d ≤ 2 * dvR M d (k + 1) + M / 2 ^ k % 2 → dvQ M d k = 2 * dvQ M d (k + 1) + 1 ∧ dvR M d k = 2 * dvR M d (k + 1) + M / 2 ^ k % 2 - d) ∧
    (2 * dvR M d (k + 1) + M / 2 ^ k % 2 < d → dvQ M d k = 2 * dvQ M d (k + 1) ∧ dvR M d k = 2 * dvR M d (k + 1) + M / 2 ^ k % 2) := by
  unfold dvQ dvR
  rw [half_pow]
  obtain ⟨X, hX⟩ : ∃ X, X = M / 2 ^ k := ⟨_, rfl⟩
  rw [← hX]
  have e := Int.mul_ediv_add_emod (X / 2) d
  have r0 := Int.emod_nonneg (X / 2) (show d ≠ 0 by omega)
  have r1 := Int.emod_lt_of_pos (X / 2) hd
  obtain ⟨q, hq⟩ : ∃ q, q = X / 2 / d := ⟨_, rfl⟩
  obtain ⟨r, hr⟩ : ∃ r, r = X / 2 % d := ⟨_, rfl⟩
  rw [← hq, ← hr] at e ⊢
  rw [← hr] at r0 r1
  have u : ∀ (Y y : Int), 0 ≤ y → y < d → X = y + d * Y → X / d = Y ∧ X % d = y := fun Y y h0 h1 h2 => by
    have := (Int.ediv_emod_unique hd (r := y) (q := Y) (a := X)).2 ⟨h2.symm, h0, h1⟩
    exact this
  constructor
  · intro h
    refine u _ _ (by omega) (by omega) ?_
    rw [Int.mul_add, show d * (2 * q) = 2 * (d * q) by rw [← Int.mul_assoc, Int.mul_comm d 2, Int.mul_assoc]]
    omega
  · intro h
    refine u _ _ (by omega) (by omega) ?_
    rw [show d * (2 * q) = 2 * (d * q) by rw [← Int.mul_assoc, Int.mul_comm d 2, Int.mul_assoc]]
    omega
theorem bit_up (N : Int) (p j : Nat) (h : p ≤ j) : N * 2 ^ p / 2 ^ j % 2 = N / 2 ^ (j - p) % 2 := by
  have : (2 : Int) ^ j = 2 ^ p * 2 ^ (j - p) := by rw [← Int.pow_add]; congr 1; omega
  rw [this, ← Int.ediv_ediv_of_nonneg (Int.pow_nonneg (by omega)), Int.mul_ediv_cancel _ (Int.ne_of_gt (Int.pow_pos (by omega)))]
theorem bit_low (N : Int) (p j : Nat) (h : j < p) : N * 2 ^ p / 2 ^ j % 2 = 0 := by
  have : (2 : Int) ^ p = 2 * 2 ^ (p - j - 1) * 2 ^ j := by rw [Int.mul_assoc, ← Int.pow_add, show (2 : Int) * 2 ^ (p - j - 1 + j) = 2 ^ (p - j - 1 + j + 1) by rw [Int.pow_succ, Int.mul_comm]]; congr 1; omega
  rw [this, ← Int.mul_assoc, Int.mul_ediv_cancel _ (Int.ne_of_gt (Int.pow_pos (by omega))), ← Int.mul_assoc, Int.mul_comm N 2, Int.mul_assoc]
  omega
theorem dv_start {N d : Int} (p : Nat) (h0 : 0 ≤ N) (h1 : N < 18446744073709551616) (hd : 0 < d) : dvQ (N * 2 ^ p) d (64 + p) = 0 ∧ dvR (N * 2 ^ p) d (64 + p) = 0 := by
  have : N * 2 ^ p / 2 ^ (64 + p) = 0 := by
    refine Int.ediv_eq_zero_of_lt (Int.mul_nonneg h0 (Int.pow_nonneg (by omega))) ?_
    rw [Int.pow_add]
    exact Int.mul_lt_mul_of_pos_right h1 (Int.pow_pos (by omega))
  unfold dvQ dvR
  rw [this]
  simp
theorem dv_end (M d : Int) : dvQ M d 0 = M / d ∧ dvR M d 0 = M % d := by unfold dvQ dvR; simp
theorem dvR_bd (M : Int) {d : Int} (k : Nat) (hd : 0 < d) : 0 ≤ dvR M d k ∧ dvR M d k < d := ⟨Int.emod_nonneg _ (by omega), Int.emod_lt_of_pos _ hd⟩
theorem dvQ_nn {M d : Int} (k : Nat) (hM : 0 ≤ M) (hd : 0 < d) : 0 ≤ dvQ M d k := Int.ediv_nonneg (Int.ediv_nonneg hM (Int.pow_nonneg (by omega))) (by omega)
/-- One round: what q, the rest and 'too great' become. -/
theorem dv_round {M d B : Int} (j : Nat) (hM : 0 ≤ M) (hd : 0 < d) (hB : M / 2 ^ j % 2 = B) :
    (dvQ M d j = if d ≤ 2 * dvR M d (j + 1) + B then 2 * dvQ M d (j + 1) + 1 else 2 * dvQ M d (j + 1)) ∧ (dvR M d j = if d ≤ 2 * dvR M d (j + 1) + B then 2 * dvR M d (j + 1) + B - d else 2 * dvR M d (j + 1) + B) := by
  have h := dv_step (M := M) j hd
  rw [hB] at h
  split
  · exact h.1 (by assumption)
  · exact h.2 (by omega)
end Lg

open Lg Qn
end Go.Proofs.YtdgcnaijndocnaaDoor
