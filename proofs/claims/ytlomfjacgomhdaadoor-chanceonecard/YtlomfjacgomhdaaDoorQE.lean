/-
  A sum by two to a power, rounded.
-/
import Derived.Test.YtlomfjacgomhdaaDoorQD
import Derived.Deep.RegionHeld3
import Derived.Deep.DrawnRows
import Derived.Laws.BitsAllLaws
set_option linter.unusedSimpArgs false
set_option linter.unusedVariables false
namespace Go.Proofs.YtlomfjacgomhdaaDoor
open Go.RowKit Qn
attribute [local go_sem ↓] Go.wp_at_zero Go.wp_at_succ

namespace Qn
/-- One word of what is shifted down: the lower part out of it, the higher part out of the next one. -/
theorem shift_word (X D E : Int) (hD : 0 < D) (hE : 0 < E) (hDE : D * E = 18446744073709551616) :
    X % 18446744073709551616 / D + X / 18446744073709551616 % 18446744073709551616 * E % 18446744073709551616 = X / D % 18446744073709551616 ∧ X % 18446744073709551616 / D < E ∧ 0 ≤ X % 18446744073709551616 / D ∧ ∃ k : Int, 0 ≤ k ∧ X / 18446744073709551616 % 18446744073709551616 * E % 18446744073709551616 = E * k := by
  have hX : X = D * (E * (X / 18446744073709551616)) + X % 18446744073709551616 := by
    rw [← Int.mul_assoc, hDE]; omega
  generalize hY : X / 18446744073709551616 = Y at *
  generalize hr : X % 18446744073709551616 = r at *
  have hr0 : 0 ≤ r := by omega
  have hr1 : r < 18446744073709551616 := by omega
  have e1 : X / D = E * Y + r / D := by
    rw [hX, Int.add_comm, Int.add_mul_ediv_left _ _ (by omega), Int.add_comm]
  have hlt : r / D < E := Int.ediv_lt_of_lt_mul hD (by rw [Int.mul_comm, hDE]; exact hr1)
  have h0 : 0 ≤ r / D := Int.ediv_nonneg hr0 (by omega)
  have e2 : Y % 18446744073709551616 * E % 18446744073709551616 = E * (Y % D) := by
    have : Y % 18446744073709551616 * E % 18446744073709551616 = Y * E % 18446744073709551616 := by
      rw [Int.mul_emod, Int.emod_emod_of_dvd _ (Int.dvd_refl _), ← Int.mul_emod]
    rw [this, ← hDE, Int.mul_comm D E, Int.mul_comm Y E, Int.mul_emod_mul_of_pos _ _ hE]
  have hm0 : 0 ≤ Y % D := Int.emod_nonneg _ (by omega)
  have hm1 : Y % D < D := Int.emod_lt_of_pos _ hD
  refine ⟨?_, hlt, h0, Y % D, hm0, e2⟩
  rw [e2, e1]
  have e3 : (E * Y + r / D) % 18446744073709551616 = E * (Y % D) + r / D := by
    have hb : E * (Y % D) + r / D < 18446744073709551616 := by
      have : E * (Y % D + 1) ≤ E * D := Int.mul_le_mul_of_nonneg_left (by omega) (by omega)
      rw [Int.mul_add, Int.mul_comm E D, hDE] at this
      omega
    have hb0 : 0 ≤ E * (Y % D) := Int.mul_nonneg (by omega) hm0
    have : E * Y + r / D = E * (Y % D) + r / D + 18446744073709551616 * (Y / D) := by
      have := Int.emod_add_mul_ediv Y D
      have h2 : E * Y = E * (Y % D) + E * (D * (Y / D)) := by rw [← Int.mul_add, this]
      rw [h2, ← Int.mul_assoc E D, Int.mul_comm E D, hDE]
      omega
    rw [this, Int.add_mul_emod_self_left]
    exact Int.emod_eq_of_lt (by omega) hb
  rw [e3]; omega

theorem or_word (a b E : Int) (q : Nat) (hE : (2 : Int) ^ q = E) (ha0 : 0 ≤ a) (ha : a < E) (hb0 : 0 ≤ b) (hb1 : b < 18446744073709551616) (hEW : E ≤ 18446744073709551616) (hk : ∃ k : Int, 0 ≤ k ∧ b = E * k) : bits .or .u64 a b = a + b := by
  obtain ⟨k, hk0, hk⟩ := hk
  obtain ⟨A, rfl⟩ := Int.eq_ofNat_of_zero_le ha0
  obtain ⟨B, rfl⟩ := Int.eq_ofNat_of_zero_le hb0
  obtain ⟨K, rfl⟩ := Int.eq_ofNat_of_zero_le hk0
  have hE' : E = ((2 ^ q : Nat) : Int) := by rw [← hE]; simp
  subst hE'
  rw [bits_or_u64_nat A B (by omega) (by omega)]
  have hB : B = 2 ^ q * K := by have := hk; rw [← Int.natCast_mul] at this; omega
  rw [Nat.or_comm, nat_join q B A (by rw [hB]; exact Nat.mul_mod_right _ _) (by omega)]
  omega

theorem mask_word (a D : Int) (p : Nat) (hD : (2 : Int) ^ p = D) (ha0 : 0 ≤ a) (ha : a ≤ 18446744073709551615) (hD1 : D ≤ 18446744073709551616) : bits .and .u64 a (D - 1) = a % D := by
  obtain ⟨A, rfl⟩ := Int.eq_ofNat_of_zero_le ha0
  have hD' : D = ((2 ^ p : Nat) : Int) := by rw [← hD]; simp
  subst hD'
  have hpos : 0 < 2 ^ p := Nat.two_pow_pos _
  have e : ((2 ^ p : Nat) : Int) - 1 = ((2 ^ p - 1 : Nat) : Int) := by omega
  rw [e, bits_and_u64_nat A (2 ^ p - 1) (by omega) (by omega), Nat.and_two_pow_sub_one_eq_mod]
  omega

theorem low_facts (n : Int) (p q : Nat) (D E : Int) (hn : In3 n) (hpq : p + q = 64) (hD : (2 : Int) ^ p = D) (hE : (2 : Int) ^ q = E) :
    0 < D ∧ 0 < E ∧ D * E = 18446744073709551616 ∧
    bits .or .u64 (lo n / D) (IntKind.u64.wrap (mi n * E)) = lo (n / D) ∧
    bits .or .u64 (mi n / D) (IntKind.u64.wrap (hi n * E)) = mi (n / D) ∧
    bits .or .u64 (hi n / D) (IntKind.u64.wrap (sg (hi n) * E)) = hi (n / D) ∧ lo n % D = n % D := by
  have hD0 : 0 < D := by rw [← hD]; exact Int.pow_pos (by omega)
  have hE0 : 0 < E := by rw [← hE]; exact Int.pow_pos (by omega)
  have hDE : D * E = 18446744073709551616 := by rw [← hD, ← hE, ← Int.pow_add, hpq]; rfl
  have hEW : E ≤ 18446744073709551616 := by
    have : 1 * E ≤ D * E := Int.mul_le_mul_of_nonneg_right (by omega) (by omega)
    omega
  have hDW : D ≤ 18446744073709551616 := by
    have : D * 1 ≤ D * E := Int.mul_le_mul_of_nonneg_left (by omega) (by omega)
    omega
  have hcomm : ∀ x y : Int, 0 < y → x / D / y = x / y / D := by
    intro x y hy
    rw [Int.ediv_ediv, Int.ediv_ediv, if_neg (fun h => absurd h.1 (by omega)), if_neg (fun h => absurd h.1 (by omega)), Int.mul_comm]
  have key : ∀ X : Int, bits .or .u64 (X % 18446744073709551616 / D) (IntKind.u64.wrap (X / 18446744073709551616 % 18446744073709551616 * E)) = X / D % 18446744073709551616 := by
    intro X
    obtain ⟨h1, h2, h3, h4⟩ := shift_word X D E hD0 hE0 hDE
    rw [IntKind.wrap_u64, or_word _ _ E q hE h3 h2 (by omega) (by omega) hEW h4, h1]
  refine ⟨hD0, hE0, hDE, ?_, ?_, ?_, ?_⟩
  · have := key n
    unfold lo mi
    exact this
  · have := key (n / 18446744073709551616)
    unfold mi hi
    rw [hcomm _ _ (by omega)]
    exact this
  · have := key (n / 18446744073709551616 / 18446744073709551616)
    have hs : sg (hi n) = n / 18446744073709551616 / 18446744073709551616 / 18446744073709551616 % 18446744073709551616 := by
      unfold In3 at hn
      unfold sg hi
      split <;> omega
    rw [hs]
    unfold hi
    rw [hcomm _ _ (by omega), hcomm _ _ (by omega)]
    exact this
  · unfold lo
    exact Int.emod_emod_of_dvd n ⟨E, hDE.symm⟩
end Qn

end Go.Proofs.YtlomfjacgomhdaaDoor
