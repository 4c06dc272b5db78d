/-
  Go's own division of two words by one.
-/
import Derived.Test.YtefgkeeeanakeaaDoorQF
import Derived.Test.YtefgkeeeanakeaaDoorQL
import Derived.Test.YtefgkeeeanakeaaDoorPure
set_option linter.unusedSimpArgs false
set_option linter.unusedVariables false
namespace Go.Proofs.YtefgkeeeanakeaaDoor
open Go.RowKit Qn

namespace Qn
theorem or_up (a b D : Int) (s : Nat) (hD : (2 : Int) ^ s = D) (hb0 : 0 ≤ b) (hb : b < D) (ha0 : 0 ≤ a) (ha1 : a < 18446744073709551616) (hDW : D ≤ 18446744073709551616) (hk : ∃ k : Int, 0 ≤ k ∧ a = D * k) : bits .or .u64 a b = a + b := by
  obtain ⟨k, hk0, hk⟩ := hk
  obtain ⟨A, rfl⟩ := Int.eq_ofNat_of_zero_le ha0
  obtain ⟨B, rfl⟩ := Int.eq_ofNat_of_zero_le hb0
  obtain ⟨K, rfl⟩ := Int.eq_ofNat_of_zero_le hk0
  have hD' : D = ((2 ^ s : Nat) : Int) := by rw [← hD]; simp
  subst hD'
  rw [bits_or_u64_nat A B (by omega) (by omega)]
  have hA : A = 2 ^ s * K := by have := hk; rw [← Int.natCast_mul] at this; omega
  rw [nat_join s A B (by rw [hA]; exact Nat.mul_mod_right _ _) (by omega)]
  omega
theorem mask_half (x : Int) (h0 : 0 ≤ x) (h1 : x ≤ 18446744073709551615) : bits .and .u64 x 4294967295 = x % 4294967296 := by
  obtain ⟨X, rfl⟩ := Int.eq_ofNat_of_zero_le h0
  rw [mask32 X (by omega)]
  omega
end Qn

namespace Qn
/-- The names of what the division works with, and what is known of them. -/
structure DivNames (h l y D E Y Y1 Y0 U L u1 u0 : Int) : Prop where
  a1 : y * D = Y
  a2 : Y / 4294967296 = Y1
  a3 : bits .and .u64 Y 4294967295 = Y0
  a5 : bits .or .u64 (IntKind.u64.wrap (h * D)) (l / E) = U
  a6 : IntKind.u64.wrap (l * D) = L
  a7 : L / 4294967296 = u1
  a8 : bits .and .u64 L 4294967295 = u0
  y1l : 2147483648 ≤ Y1
  y1h : Y1 < 4294967296
  y0l : 0 ≤ Y0
  y0h : Y0 < 4294967296
  yy : Y = Y1 * 4294967296 + Y0
  ul : 0 ≤ U
  uh : U < Y
  ll : 0 ≤ L
  lh : L < 18446744073709551616
  u1l : 0 ≤ u1
  u1h : u1 < 4294967296
  u0l : 0 ≤ u0
  u0h : u0 < 4294967296
  lu : L = u1 * 4294967296 + u0
  qq : (U * 18446744073709551616 + L) / Y = (h * 18446744073709551616 + l) / y
  rr : (U * 18446744073709551616 + L) % Y / D = (h * 18446744073709551616 + l) % y

theorem div_names (h l y D E : Int) (s t : Nat) (h0 : 0 ≤ h) (h1 : h < y) (l0 : 0 ≤ l) (l1 : l ≤ 18446744073709551615) (hst : s + t = 64) (hD : (2 : Int) ^ s = D) (hE : (2 : Int) ^ t = E) (e3 : 9223372036854775808 ≤ y * D) (e4 : y * D < 18446744073709551616) :
    ∃ Y Y1 Y0 U L u1 u0, DivNames h l y D E Y Y1 Y0 U L u1 u0 := by
  have hD0 : 0 < D := by rw [← hD]; exact Int.pow_pos (by omega)
  have hE0 : 0 < E := by rw [← hE]; exact Int.pow_pos (by omega)
  have hDE : D * E = 18446744073709551616 := by rw [← hD, ← hE, ← Int.pow_add, hst]; rfl
  have hDW : D ≤ 18446744073709551616 := by
    have : D * 1 ≤ D * E := Int.mul_le_mul_of_nonneg_left (by omega) (by omega)
    omega
  have hhD : h * D + D ≤ y * D := by
    have : (h + 1) * D ≤ y * D := Int.mul_le_mul_of_nonneg_right (by omega) (by omega)
    rw [Int.add_mul, Int.one_mul] at this
    exact this
  have hhD0 : 0 ≤ h * D := Int.mul_nonneg h0 (by omega)
  have hle0 : 0 ≤ l / E := Int.ediv_nonneg l0 (by omega)
  have hle1 : l / E < D := Int.ediv_lt_of_lt_mul hE0 (by rw [hDE]; omega)
  have hw : IntKind.u64.wrap (h * D) = h * D := by rw [IntKind.wrap_u64]; omega
  have hor : bits .or .u64 (IntKind.u64.wrap (h * D)) (l / E) = h * D + l / E := by
    rw [hw]
    exact or_up _ _ D s hD hle0 hle1 hhD0 (by omega) hDW ⟨h, h0, Int.mul_comm _ _⟩
  have hL : IntKind.u64.wrap (l * D) = l * D % 18446744073709551616 := by rw [IntKind.wrap_u64]
  have hL0 : 0 ≤ l * D % 18446744073709551616 := by omega
  have hL1 : l * D % 18446744073709551616 < 18446744073709551616 := by omega
  obtain ⟨k1, k2⟩ := shifted (h := h) (l := l) (y := y) (U := h * D + l / E) (L := l * D % 18446744073709551616) (by omega) hD0 hE0 hDE l0 rfl rfl
  generalize hLn : l * D % 18446744073709551616 = L at *
  generalize hYn : y * D = Y at *
  exact ⟨Y, Y / 4294967296, Y % 4294967296, h * D + l / E, L, L / 4294967296, L % 4294967296, { a1 := hYn, a2 := rfl, a3 := mask_half Y (by omega) (by omega), a5 := hor, a6 := hL, a7 := rfl, a8 := mask_half L hL0 (by omega), y1l := by omega, y1h := by omega, y0l := by omega, y0h := by omega, yy := by omega, ul := by omega, uh := by omega, ll := hL0, lh := hL1, u1l := by omega, u1h := by omega, u0l := by omega, u0h := by omega, lu := by omega, qq := k1, rr := k2 }⟩
end Qn

end Go.Proofs.YtefgkeeeanakeaaDoor
