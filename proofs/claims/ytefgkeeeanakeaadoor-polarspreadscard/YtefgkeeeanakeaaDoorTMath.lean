/-
  Plain facts on words that are shifted and rounded: no program is named here but Go's own or.
-/
import Derived.Test.YtefgkeeeanakeaaDoorBase
import Derived.Laws.Bits64b
import Derived.Laws.BitsAllLaws
set_option linter.unusedSimpArgs false
set_option linter.unusedVariables false
namespace Go.Proofs.YtefgkeeeanakeaaDoor
open Go.RowKit
namespace Tn

/-- n by d, rounded: a half to the even one. -/
def rne (n d : Int) : Int := if 2 * (n % d) < d ∨ 2 * (n % d) = d ∧ n / d % 2 = 0 then n / d else n / d + 1

theorem rne_scale (n d c : Int) (hd : 0 < d) (hc : 0 < c) : rne (n * c) (d * c) = rne n d := by
  have h1 : n * c / (d * c) = n / d := Int.mul_ediv_mul_of_pos_left n d hc
  have h2 : n * c % (d * c) = n % d * c := by
    rw [Int.mul_comm n c, Int.mul_comm d c, Int.mul_emod_mul_of_pos _ _ hc, Int.mul_comm]
  unfold rne
  rw [h1, h2]
  have e1 : 2 * (n % d * c) < d * c ↔ 2 * (n % d) < d := by
    rw [← Int.mul_assoc]; exact ⟨fun h => Int.lt_of_mul_lt_mul_right h (Int.le_of_lt hc), fun h => Int.mul_lt_mul_of_pos_right h hc⟩
  have e2 : 2 * (n % d * c) = d * c ↔ 2 * (n % d) = d := by
    rw [← Int.mul_assoc]; exact ⟨fun h => Int.eq_of_mul_eq_mul_right (by omega) h, fun h => by rw [h]⟩
  simp only [e1, e2]

/-- One word of what is shifted down: the lower part out of it, the higher part out of the next one. -/
theorem shift_word (X D E : Int) (hD : 0 < D) (hE : 0 < E) (hDE : D * E = 18446744073709551616) :
    X % 18446744073709551616 / D + X / 18446744073709551616 % 18446744073709551616 * E % 18446744073709551616 = X / D % 18446744073709551616 ∧ X % 18446744073709551616 / D < E ∧ 0 ≤ X % 18446744073709551616 / D ∧ ∃ k : Int, 0 ≤ k ∧ X / 18446744073709551616 % 18446744073709551616 * E % 18446744073709551616 = E * k := by
  have hX : X = D * (E * (X / 18446744073709551616)) + X % 18446744073709551616 := by
    rw [← Int.mul_assoc, hDE]; omega
  generalize hY : X / 18446744073709551616 = Y at *
  generalize hr : X % 18446744073709551616 = r at *
  have hr0 : 0 ≤ r := by omega
  have hr1 : r < 18446744073709551616 := by omega
  have e1 : X / D = E * Y + r / D := by
    rw [hX, Int.add_comm, Int.add_mul_ediv_left _ _ (by omega), Int.add_comm]
  have hlt : r / D < E := Int.ediv_lt_of_lt_mul hD (by rw [Int.mul_comm, hDE]; exact hr1)
  have h0 : 0 ≤ r / D := Int.ediv_nonneg hr0 (by omega)
  have e2 : Y % 18446744073709551616 * E % 18446744073709551616 = E * (Y % D) := by
    have : Y % 18446744073709551616 * E % 18446744073709551616 = Y * E % 18446744073709551616 := by
      rw [Int.mul_emod, Int.emod_emod_of_dvd _ (Int.dvd_refl _), ← Int.mul_emod]
    rw [this, ← hDE, Int.mul_comm D E, Int.mul_comm Y E, Int.mul_emod_mul_of_pos _ _ hE]
  have hm0 : 0 ≤ Y % D := Int.emod_nonneg _ (by omega)
  have hm1 : Y % D < D := Int.emod_lt_of_pos _ hD
  refine ⟨?_, hlt, h0, Y % D, hm0, e2⟩
  rw [e2, e1]
  have e3 : (E * Y + r / D) % 18446744073709551616 = E * (Y % D) + r / D := by
    have hb : E * (Y % D) + r / D < 18446744073709551616 := by
      have : E * (Y % D + 1) ≤ E * D := Int.mul_le_mul_of_nonneg_left (by omega) (by omega)
      rw [Int.mul_add, Int.mul_comm E D, hDE] at this
      omega
    have hb0 : 0 ≤ E * (Y % D) := Int.mul_nonneg (by omega) hm0
    have : E * Y + r / D = E * (Y % D) + r / D + 18446744073709551616 * (Y / D) := by
      have := Int.emod_add_mul_ediv Y D
      have h2 : E * Y = E * (Y % D) + E * (D * (Y / D)) := by rw [← Int.mul_add, this]
      rw [h2, ← Int.mul_assoc E D, Int.mul_comm E D, hDE]
      omega
    rw [this, Int.add_mul_emod_self_left]
    exact Int.emod_eq_of_lt (by omega) hb
  rw [e3]; omega

theorem or_word (a b E : Int) (q : Nat) (hE : (2 : Int) ^ q = E) (ha0 : 0 ≤ a) (ha : a < E) (hb0 : 0 ≤ b) (hb1 : b < 18446744073709551616) (hEW : E ≤ 18446744073709551616) (hk : ∃ k : Int, 0 ≤ k ∧ b = E * k) : bits .or .u64 a b = a + b := by
  obtain ⟨k, hk0, hk⟩ := hk
  obtain ⟨A, rfl⟩ := Int.eq_ofNat_of_zero_le ha0
  obtain ⟨B, rfl⟩ := Int.eq_ofNat_of_zero_le hb0
  obtain ⟨K, rfl⟩ := Int.eq_ofNat_of_zero_le hk0
  have hE' : E = ((2 ^ q : Nat) : Int) := by rw [← hE]; simp
  subst hE'
  rw [bits_or_u64_nat A B (by omega) (by omega)]
  have hB : B = 2 ^ q * K := by have := hk; rw [← Int.natCast_mul] at this; omega
  rw [Nat.or_comm, nat_join q B A (by rw [hB]; exact Nat.mul_mod_right _ _) (by omega)]
  omega


/-- What 'lowered' does: two words, shifted down by p places, rounded. -/
theorem low_facts (a b : Int) (p q : Nat) (D E : Int) (ha0 : 0 ≤ a) (ha : a < 18446744073709551616) (hb0 : 0 ≤ b) (hb : b < 18446744073709551616) (hpq : p + q = 64) (hD : (2 : Int) ^ p = D) (hE : (2 : Int) ^ q = E) :
    ∃ rest last : Int, bits .or .u64 (IntKind.u64.wrap (a * E)) (b / D) = rest ∧ IntKind.u64.wrap (b * E) = last ∧ 0 ≤ rest ∧ rest < 18446744073709551616 ∧ 0 ≤ last ∧
      rne (a * 18446744073709551616 + b) (18446744073709551616 * D) = if 9223372036854775808 < rest ∨ rest = 9223372036854775808 ∧ (last ≠ 0 ∨ a / D % 2 = 1) then a / D + 1 else a / D := by
  have hD0 : 0 < D := by rw [← hD]; exact Int.pow_pos (by omega)
  have hE0 : 0 < E := by rw [← hE]; exact Int.pow_pos (by omega)
  have hDE : D * E = 18446744073709551616 := by rw [← hD, ← hE, ← Int.pow_add, hpq]; rfl
  have hEW : E ≤ 18446744073709551616 := by
    have : 1 * E ≤ D * E := Int.mul_le_mul_of_nonneg_right (by omega) (by omega)
    omega
  generalize hX : a * 18446744073709551616 + b = X
  have hXa : X / 18446744073709551616 = a := by omega
  have hXb : X % 18446744073709551616 = b := by omega
  obtain ⟨h1, h2, h3, k, hk0, h4⟩ := shift_word X D E hD0 hE0 hDE
  rw [hXa, hXb, Int.emod_eq_of_lt ha0 ha] at h1
  rw [hXb] at h2 h3
  rw [hXa, Int.emod_eq_of_lt ha0 ha] at h4
  have o1 : bits .or .u64 (b / D) (IntKind.u64.wrap (a * E)) = X / D % 18446744073709551616 := by
    rw [IntKind.wrap_u64, or_word _ _ E q hE h3 h2 (by omega) (by omega) hEW ⟨k, hk0, h4⟩, h1]
  have oc : bits .or .u64 (IntKind.u64.wrap (a * E)) (b / D) = bits .or .u64 (b / D) (IntKind.u64.wrap (a * E)) := by
    have hx0 : 0 ≤ IntKind.u64.wrap (a * E) := by rw [IntKind.wrap_u64]; omega
    have hx1 : IntKind.u64.wrap (a * E) < 18446744073709551616 := by rw [IntKind.wrap_u64]; omega
    generalize IntKind.u64.wrap (a * E) = u at *
    obtain ⟨U, rfl⟩ := Int.eq_ofNat_of_zero_le hx0
    have h6 : b / D < 18446744073709551616 := by omega
    generalize b / D = v at *
    obtain ⟨V, rfl⟩ := Int.eq_ofNat_of_zero_le h3
    rw [bits_or_u64_nat U V (by omega) (by omega), bits_or_u64_nat V U (by omega) (by omega), Nat.or_comm]
  refine ⟨X / D % 18446744073709551616, _, by rw [oc, o1], rfl, by omega, by omega, by rw [IntKind.wrap_u64]; omega, ?_⟩
  have hl : IntKind.u64.wrap (b * E) = E * (b % D) := by
    rw [IntKind.wrap_u64]
    have : (18446744073709551616 : Int) = E * D := by rw [Int.mul_comm]; exact hDE.symm
    rw [Int.mul_comm b E, this, Int.mul_emod_mul_of_pos _ _ hE0]
  have hbD : b % D = X % D := by
    rw [← hXb]
    exact Int.emod_emod_of_dvd X ⟨E, hDE.symm⟩
  have hl0 : IntKind.u64.wrap (b * E) ≠ 0 ↔ X % D ≠ 0 := by
    rw [hl, hbD]
    constructor
    · intro h e; rw [e] at h; simp at h
    · intro h e; rcases Int.mul_eq_zero.1 e with e | e <;> omega
  have hm0 : 0 ≤ X % D := Int.emod_nonneg _ (by omega)
  have hm1 : X % D < D := Int.emod_lt_of_pos _ hD0
  have hq : X / (18446744073709551616 * D) = a / D := by
    rw [← hXa, Int.ediv_ediv, if_neg (fun h => absurd h.1 (by omega)), Int.sub_zero]
  have hr : X % (18446744073709551616 * D) = (X / D % 18446744073709551616) * D + X % D := by
    have e1 := Int.emod_add_mul_ediv X D
    have e2 := Int.emod_add_mul_ediv (X / D) 18446744073709551616
    have e3 := Int.emod_add_mul_ediv X (18446744073709551616 * D)
    have e4 : X / D / 18446744073709551616 = X / (18446744073709551616 * D) := by
      rw [Int.ediv_ediv, if_neg (fun h => absurd h.1 (by omega)), Int.mul_comm, Int.sub_zero]
    rw [e4] at e2
    generalize X / (18446744073709551616 * D) = Y at *
    generalize hZ : X / D % 18446744073709551616 = Z at *
    have e5 : D * (X / D) = D * (Z + 18446744073709551616 * Y) := by rw [e2]
    have e6 : D * (Z + 18446744073709551616 * Y) = Z * D + 18446744073709551616 * D * Y := by
      rw [Int.mul_add, Int.mul_comm D Z, ← Int.mul_assoc, Int.mul_comm D]
    omega
  unfold rne
  rw [hq, hr]
  simp only [hl0]
  generalize hR : X / D % 18446744073709551616 = R at *
  generalize X % D = r at *
  have hR0 : 0 ≤ R := by omega
  rcases Int.lt_trichotomy R 9223372036854775808 with c | c | c
  · have : (R + 1) * D ≤ 9223372036854775808 * D := Int.mul_le_mul_of_nonneg_right (by omega) (by omega)
    rw [Int.add_mul] at this
    rw [if_pos (Or.inl (by omega)), if_neg (by omega)]
  · subst c
    by_cases c2 : r = 0
    · subst c2
      by_cases c3 : a / D % 2 = 0
      · rw [if_pos (Or.inr ⟨by omega, c3⟩), if_neg (by omega)]
      · rw [if_neg (by omega), if_pos (by omega)]
    · rw [if_neg (by omega), if_pos (by omega)]
  · have : 9223372036854775809 * D ≤ R * D := Int.mul_le_mul_of_nonneg_right (by omega) (by omega)
    rw [if_neg (by omega), if_pos (Or.inl c)]

end Tn
end Go.Proofs.YtefgkeeeanakeaaDoor
