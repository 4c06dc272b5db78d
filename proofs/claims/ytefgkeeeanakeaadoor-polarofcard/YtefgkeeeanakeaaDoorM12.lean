/-
  Go's own division of two words by one.
-/
import Derived.Test.YtefgkeeeanakeaaDoorM10
import Derived.Test.YtefgkeeeanakeaaDoorQL
import Derived.Test.YtefgkeeeanakeaaDoorPure
import Derived.Test.YtefgkeeeanakeaaDoorTgA
import Derived.Test.YtefgkeeeanakeaaDoorM1
import Derived.Laws.BitsAllLaws
import Derived.Deep.RegionWith
set_option linter.unusedSimpArgs false
set_option linter.unusedVariables false
namespace Go.Proofs.YtefgkeeeanakeaaDoor
open Go.RowKit Qn

namespace Qn
theorem or_up (a b D : Int) (s : Nat) (hD : (2 : Int) ^ s = D) (hb0 : 0 ≤ b) (hb : b < D) (ha0 : 0 ≤ a) (ha1 : a < 18446744073709551616) (hDW : D ≤ 18446744073709551616) (hk : ∃ k : Int, 0 ≤ k ∧ a = D * k) : bits .or .u64 a b = a + b := by
  obtain ⟨k, hk0, hk⟩ := hk
  obtain ⟨A, rfl⟩ := Int.eq_ofNat_of_zero_le ha0
  obtain ⟨B, rfl⟩ := Int.eq_ofNat_of_zero_le hb0
  obtain ⟨K, rfl⟩ := Int.eq_ofNat_of_zero_le hk0
  have hD' : D = ((2 ^ s : Nat) : Int) := by rw [← hD]; simp
  subst hD'
  rw [bits_or_u64_nat A B (by omega) (by omega)]
  have hA : A = 2 ^ s * K := by have := hk; rw [← Int.natCast_mul] at this; omega
  rw [nat_join s A B (by rw [hA]; exact Nat.mul_mod_right _ _) (by omega)]
  omega
theorem mask_half (x : Int) (h0 : 0 ≤ x) (h1 : x ≤ 18446744073709551615) : bits .and .u64 x 4294967295 = x % 4294967296 := by
  obtain ⟨X, rfl⟩ := Int.eq_ofNat_of_zero_le h0
  rw [mask32 X (by omega)]
  omega
end Qn

namespace Qn
/-- The names of what the division works with, and what is known of them. -/
structure DivNames (h l y D E Y Y1 Y0 U L u1 u0 : Int) : Prop where
  a1 : y * D = Y
  a2 : Y / 4294967296 = Y1
  a3 : bits .and .u64 Y 4294967295 = Y0
  a5 : bits .or .u64 (IntKind.u64.wrap (h * D)) (l / E) = U
  a6 : IntKind.u64.wrap (l * D) = L
  a7 : L / 4294967296 = u1
  a8 : bits .and .u64 L 4294967295 = u0
  y1l : 2147483648 ≤ Y1
  y1h : Y1 < 4294967296
  y0l : 0 ≤ Y0
  y0h : Y0 < 4294967296
  yy : Y = Y1 * 4294967296 + Y0
  ul : 0 ≤ U
  uh : U < Y
  ll : 0 ≤ L
  lh : L < 18446744073709551616
  u1l : 0 ≤ u1
  u1h : u1 < 4294967296
  u0l : 0 ≤ u0
  u0h : u0 < 4294967296
  lu : L = u1 * 4294967296 + u0
  qq : (U * 18446744073709551616 + L) / Y = (h * 18446744073709551616 + l) / y
  rr : (U * 18446744073709551616 + L) % Y / D = (h * 18446744073709551616 + l) % y

theorem div_names (h l y D E : Int) (s t : Nat) (h0 : 0 ≤ h) (h1 : h < y) (l0 : 0 ≤ l) (l1 : l ≤ 18446744073709551615) (hst : s + t = 64) (hD : (2 : Int) ^ s = D) (hE : (2 : Int) ^ t = E) (e3 : 9223372036854775808 ≤ y * D) (e4 : y * D < 18446744073709551616) :
    ∃ Y Y1 Y0 U L u1 u0, DivNames h l y D E Y Y1 Y0 U L u1 u0 := by
  have hD0 : 0 < D := by rw [← hD]; exact Int.pow_pos (by omega)
  have hE0 : 0 < E := by rw [← hE]; exact Int.pow_pos (by omega)
  have hDE : D * E = 18446744073709551616 := by rw [← hD, ← hE, ← Int.pow_add, hst]; rfl
  have hDW : D ≤ 18446744073709551616 := by
    have : D * 1 ≤ D * E := Int.mul_le_mul_of_nonneg_left (by omega) (by omega)
    omega
  have hhD : h * D + D ≤ y * D := by
    have : (h + 1) * D ≤ y * D := Int.mul_le_mul_of_nonneg_right (by omega) (by omega)
    rw [Int.add_mul, Int.one_mul] at this
    exact this
  have hhD0 : 0 ≤ h * D := Int.mul_nonneg h0 (by omega)
  have hle0 : 0 ≤ l / E := Int.ediv_nonneg l0 (by omega)
  have hle1 : l / E < D := Int.ediv_lt_of_lt_mul hE0 (by rw [hDE]; omega)
  have hw : IntKind.u64.wrap (h * D) = h * D := by rw [IntKind.wrap_u64]; omega
  have hor : bits .or .u64 (IntKind.u64.wrap (h * D)) (l / E) = h * D + l / E := by
    rw [hw]
    exact or_up _ _ D s hD hle0 hle1 hhD0 (by omega) hDW ⟨h, h0, Int.mul_comm _ _⟩
  have hL : IntKind.u64.wrap (l * D) = l * D % 18446744073709551616 := by rw [IntKind.wrap_u64]
  have hL0 : 0 ≤ l * D % 18446744073709551616 := by omega
  have hL1 : l * D % 18446744073709551616 < 18446744073709551616 := by omega
  obtain ⟨k1, k2⟩ := shifted (h := h) (l := l) (y := y) (U := h * D + l / E) (L := l * D % 18446744073709551616) (by omega) hD0 hE0 hDE l0 rfl rfl
  generalize hLn : l * D % 18446744073709551616 = L at *
  generalize hYn : y * D = Y at *
  exact ⟨Y, Y / 4294967296, Y % 4294967296, h * D + l / E, L, L / 4294967296, L % 4294967296, { a1 := hYn, a2 := rfl, a3 := mask_half Y (by omega) (by omega), a5 := hor, a6 := hL, a7 := rfl, a8 := mask_half L hL0 (by omega), y1l := by omega, y1h := by omega, y0l := by omega, y0h := by omega, yy := by omega, ul := by omega, uh := by omega, ll := hL0, lh := hL1, u1l := by omega, u1h := by omega, u0l := by omega, u0h := by omega, lu := by omega, qq := k1, rr := k2 }⟩
end Qn

end Go.Proofs.YtefgkeeeanakeaaDoor

/-
  The quotient of a product, rounded.
-/
set_option linter.unusedSimpArgs false
set_option linter.unusedVariables false
namespace Go.Proofs.YtefgkeeeanakeaaDoor
open Go.RowKit Qn

namespace Qn
theorem quo_words {n c : Int} (h0 : 0 ≤ n) (h1 : n < 340282366920938463463374607431768211456) (hc : 0 < c) (hc1 : c ≤ 18446744073709551615) :
    (mi n % c * 18446744073709551616 + lo n) / c = lo (n / c) ∧ mi n / c = mi (n / c) ∧ (0 : Int) = hi (n / c) ∧ (mi n % c * 18446744073709551616 + lo n) % c = n % c := by
  have hn : n = mi n * 18446744073709551616 + lo n := by unfold mi lo; omega
  have hm0 := (mi_bd n).1
  have hm1 := (mi_bd n).2
  have hl0 := (lo_bd n).1
  have hl1 := (lo_bd n).2
  generalize hM : mi n = M at *
  generalize hL : lo n = L at *
  have hd := Int.emod_add_mul_ediv M c
  have he0 := Int.emod_nonneg M (show c ≠ 0 by omega)
  have he1 := Int.emod_lt_of_pos M hc
  have e : n = M % c * 18446744073709551616 + L + c * (M / c * 18446744073709551616) := by
    have h2 : c * (M / c * 18446744073709551616) = c * (M / c) * 18446744073709551616 := by rw [Int.mul_assoc]
    rw [h2]
    omega
  have e1 : n / c = M / c * 18446744073709551616 + (M % c * 18446744073709551616 + L) / c := by
    rw [e, Int.add_mul_ediv_left _ _ (by omega)]; omega
  have e2 : n % c = (M % c * 18446744073709551616 + L) % c := by
    rw [e, Int.add_mul_emod_self_left]
  have f0 : 0 ≤ (M % c * 18446744073709551616 + L) / c := Int.ediv_nonneg (by omega) (by omega)
  have f1 : (M % c * 18446744073709551616 + L) / c < 18446744073709551616 := Int.ediv_lt_of_lt_mul hc (by omega)
  have g0 : 0 ≤ M / c := Int.ediv_nonneg hm0 (by omega)
  have g1 : M / c ≤ M := Int.ediv_le_self _ hm0
  refine ⟨?_, ?_, ?_, e2.symm⟩
  · rw [e1]; unfold lo; omega
  · rw [e1]; unfold mi; omega
  · rw [e1]; unfold hi; omega

theorem rne_if {n d : Int} : rne n d = if n % d < d - n % d ∨ n % d = d - n % d ∧ n / d % 2 = 0 then n / d else n / d + 1 := by
  unfold rne
  by_cases c1 : 2 * (n % d) < d
  · rw [if_pos (Or.inl c1), if_pos (Or.inl (by omega))]
  · by_cases c2 : 2 * (n % d) = d ∧ n / d % 2 = 0
    · rw [if_pos (Or.inr c2), if_pos (Or.inr (by omega))]
    · rw [if_neg (by omega), if_neg (by omega)]
end Qn

end Go.Proofs.YtefgkeeeanakeaaDoor

/-
  Add, Sub, Mul, Div, Move and Root of package qnum: exactly, then rounded, then bounded.
-/
set_option linter.unusedSimpArgs false
set_option linter.unusedVariables false
namespace Go.Proofs.YtefgkeeeanakeaaDoor
open Go.RowKit Qn
attribute [local go_sem ↓] Go.wp_at_zero Go.wp_at_succ

namespace Qn
theorem in3_of {n : Int} (h0 : -1361129467683753853853498429727072845824 ≤ n) (h1 : n ≤ 1361129467683753853853498429727072845824) : In3 n := by unfold In3; omega
theorem rne_bd {n d : Int} (hd : 0 < d) {A : Int} (h0 : -A ≤ n) (h1 : n ≤ A) (hA : 0 ≤ A) : -A ≤ rne n d ∧ rne n d ≤ A + 1 := by
  have e0 : -A ≤ n / d := by
    refine Int.le_ediv_of_mul_le hd ?_
    have : A * 1 ≤ A * d := Int.mul_le_mul_of_nonneg_left (by omega) hA
    rw [Int.neg_mul]
    omega
  have e1 : n / d ≤ A := by
    have : n / d < A + 1 := Int.ediv_lt_of_lt_mul hd (by
      have : (A + 1) * 1 ≤ (A + 1) * d := Int.mul_le_mul_of_nonneg_left (by omega) (by omega)
      omega)
    omega
  unfold rne
  split <;> omega
theorem pow_pos2 (p : Nat) : (0 : Int) < 2 ^ p := Int.pow_pos (by omega)
theorem pow_le62 {p : Nat} (hp : p ≤ 62) : (2 : Int) ^ p ≤ 4611686018427387904 := by
  have h1 : (2 : Nat) ^ p ≤ 2 ^ 62 := Nat.pow_le_pow_right (by omega) hp
  have h2 : (2 : Int) ^ p = ((2 ^ p : Nat) : Int) := by simp
  omega
theorem mb_nat {p : Nat} (hp : p ≤ 62) : mb (p : Int) = true := by
  unfold mb; rw [decide_eq_true (by omega), decide_eq_true (by omega)]; rfl
end Qn

set_option maxHeartbeats 1000000 in
theorem qmul_any (a b : Int) (p : Nat) (w : World) (ha0 : -9223372036854775808 ≤ a) (ha1 : a ≤ 9223372036854775807) (hb0 : -9223372036854775808 ≤ b) (hb1 : b ≤ 9223372036854775807) (hp : p ≤ 62) :
    Calls Tryd.prog 28 #[.int .i64 a, .int .i64 b, .int .i64 p] w fun e w' => e = .returned (.tuple #[.int .i64 (clamp (rne (a * b) (2 ^ p))), .bool (great (rne (a * b) (2 ^ p))), .nilIface]) ∧ Below w.heap.size w w' := by
  have hm := mb_nat hp
  have bd := mul64_bd ha0 ha1 hb0 hb1
  have HI : Hid (In3 (a * b) ∧ In3 (rne (a * b) (2 ^ p))) := by
    have := rne_bd (pow_pos2 p) (A := 85070591730234615865843651857942052864) bd.1 bd.2 (by omega)
    exact ⟨in3_of (by omega) (by omega), in3_of (by omega) (by omega)⟩
  clear bd
  go_enter Tryd.func28, Tryd.ntmps28
  go_wp2_with fail
  refine (mayBe_any _ _).mono ?_
  rintro e w' ⟨rfl, rfl⟩
  rw [hm]
  go_wp2_with fail
  refine (product_any a b _ ha0 ha1 hb0 hb1).mono ?_
  rintro e w1 ⟨rfl, k1⟩
  go_wp2_with fail
  refine (lowered_any (a * b) p _ hp HI.out.1).mono ?_
  rintro e w2 ⟨rfl, k2⟩
  go_wp2_with fail
  refine (bounded_any _ _ HI.out.2).mono ?_
  rintro e w3 ⟨rfl, k3⟩
  go_wp2
  go_ret3
  exact ⟨rfl, below_tr (below_tr k1 k2) k3⟩

namespace Qn
theorem ret_ibn {a b : Int} {c : Bool} (h : a = b) : Ending.returned (.tuple #[.int .i64 a, .bool c, .nilIface]) = .returned (.tuple #[.int .i64 b, .bool c, .nilIface]) := by rw [h]
/-- The sign comes last. -/
def signed (a b n : Int) : Int := if (decide (a < 0) != decide (b < 0)) = true then -n else n
theorem clamp_bd (n : Int) : -4611686018427387903 ≤ clamp n ∧ clamp n ≤ 4611686018427387903 := by unfold clamp; split <;> (try split) <;> omega
theorem abs_bd {a : Int} (h0 : -9223372036854775808 ≤ a) (h1 : a ≤ 9223372036854775807) : 0 ≤ (a.natAbs : Int) ∧ (a.natAbs : Int) ≤ 9223372036854775808 := by omega
end Qn

end Go.Proofs.YtefgkeeeanakeaaDoor

/-
  Move of package qnum; and what the laws of layer 3 ask first of all (sure).
-/
set_option linter.unusedSimpArgs false
set_option linter.unusedVariables false
namespace Go.Proofs.YtefgkeeeanakeaaDoor
open Go.RowKit Qn

set_option maxHeartbeats 2000000 in
theorem qmove_any (a : Int) (f t : Nat) (w : World) (ha0 : -9223372036854775808 ≤ a) (ha1 : a ≤ 9223372036854775807) (hf : f ≤ 62) (ht : t ≤ 62) :
    Calls Tryd.prog 66 #[.int .i64 a, .int .i64 f, .int .i64 t] w fun e w' => e = .returned (.tuple #[.int .i64 (clamp (rne (a * 2 ^ (t - f)) (2 ^ (f - t)))), .bool (great (rne (a * 2 ^ (t - f)) (2 ^ (f - t)))), .nilIface]) ∧ Below w.heap.size w w' := by
  have hmf := mb_nat hf
  have hmt := mb_nat ht
  obtain ⟨u, hu⟩ : ∃ u : Nat, t - f = u := ⟨_, rfl⟩
  obtain ⟨d, hd⟩ : ∃ d : Nat, f - t = d := ⟨_, rfl⟩
  rw [hu, hd]
  have hu1 : u ≤ 62 := by omega
  have hd1 : d ≤ 62 := by omega
  obtain ⟨U, hU⟩ : ∃ U, (2 : Int) ^ u = U := ⟨_, rfl⟩
  have hU0 : 0 < U := by rw [← hU]; exact pow_pos2 u
  have hU1 : U ≤ 4611686018427387904 := by rw [← hU]; exact pow_le62 hu1
  rw [hU]
  have HI : Hid (In3 (a * U) ∧ In3 (rne (a * U) (2 ^ d))) := by
    have bd := mul64_bd ha0 ha1 (b := U) (by omega) (by omega)
    have := rne_bd (pow_pos2 d) (A := 85070591730234615865843651857942052864) bd.1 bd.2 (by omega)
    exact ⟨in3_of (by omega) (by omega), in3_of (by omega) (by omega)⟩
  have x1 : max ((t : Int) - (f : Int)) 0 = (u : Int) := by omega
  have x2 : max ((f : Int) - (t : Int)) 0 = (d : Int) := by omega
  have hu0 : (0 : Int) ≤ (u : Int) := by omega
  have hu2 : (u : Int) ≤ 62 := by omega
  have hf2 : (f : Int) ≤ 62 := by omega
  have ht2 : (t : Int) ≤ 62 := by omega
  go_enter Tryd.func66, Tryd.ntmps66
  go_wp2_with fail
  refine (mayBe_any _ _).mono ?_
  rintro e w' ⟨rfl, rfl⟩
  rw [hmf]
  go_wp2_with fail
  refine (mayBe_any _ _).mono ?_
  rintro e w' ⟨rfl, rfl⟩
  rw [hmt]
  go_wp2_with fail
  refine (product_any a U _ ha0 ha1 (by omega) (by omega)).mono ?_
  rintro e w1 ⟨rfl, k1⟩
  go_wp2_with fail
  refine (lowered_any (a * U) d _ hd1 HI.out.1).mono ?_
  rintro e w2 ⟨rfl, k2⟩
  go_wp2_with fail
  refine (bounded_any _ _ HI.out.2).mono ?_
  rintro e w3 ⟨rfl, k3⟩
  go_wp2
  go_ret3
  exact ⟨rfl, below_tr (below_tr k1 k2) k3⟩

namespace Qn
theorem root_two {r : Int} (h : IsRoot (2 * 2 ^ 2) r) : r = 2 := by
  obtain ⟨h1, h2, h3, h4⟩ := h
  have e : (2 : Int) * 2 ^ 2 = 8 := by decide
  rw [e] at h3 h4
  have l1 : r ≤ 2 := by
    rcases Int.lt_or_le 2 r with k | k
    · have : 3 * 3 ≤ r * r := Int.mul_le_mul (by omega) (by omega) (by omega) (by omega)
      omega
    · exact k
  have l2 : 2 ≤ r := by
    rcases Int.lt_or_le r 2 with k | k
    · have : (r + 1) * (r + 1) ≤ 2 * 2 := Int.mul_le_mul (by omega) (by omega) (by omega) (by omega)
      omega
    · exact k
  omega
end Qn

end Go.Proofs.YtefgkeeeanakeaaDoor

/-
  The sine and the cosine of a direction: the steps of package trig.
-/
set_option linter.unusedSimpArgs false
set_option linter.unusedVariables false
namespace Go.Proofs.YtefgkeeeanakeaaDoor
open Go.RowKit Tg
attribute [local go_sem ↓] Go.wp_at_zero Go.wp_at_succ

namespace Tg
/-- By two to the power of thirty, rounded, bounded. -/
def rd (n : Int) : Int := Qn.clamp (Qn.rne n 1073741824)
theorem hide {p : Prop} (h : p) : Hid p := h
end Tg

set_option maxHeartbeats 400000 in
theorem moved_any (a : Int) (f : Nat) (w : World) (hf : f = 60 ∨ f = 62) (ha0 : -9223372036854775808 ≤ a) (ha1 : a ≤ 9223372036854775807) :
    Calls Tryd.prog 57 #[.int .i64 a, .int .i64 f, .int .i64 ((f - 30 : Nat) : Int)] w fun e w' => e = .returned (.int .i64 (rd a)) ∧ Below w.heap.size w w' := by
  have hc := qmove_any a f (f - 30)
  have e1 : f - 30 - f = 0 := by omega
  have e2 : f - (f - 30) = 30 := by omega
  rw [e1, e2, Int.pow_zero, Int.mul_one, show (2 : Int) ^ 30 = 1073741824 by decide] at hc
  have HC := hide hc
  clear hc e1 e2
  go_enter Tryd.func57, Tryd.ntmps57
  go_wp2_with fail
  refine (HC.out _ ha0 ha1 (by omega) (by omega)).mono ?_
  rintro e w1 ⟨rfl, k1⟩
  go_wp2
  go_ret
  exact ⟨rfl, k1⟩

theorem moved60 (a : Int) (w : World) (ha0 : -9223372036854775808 ≤ a) (ha1 : a ≤ 9223372036854775807) :
    Calls Tryd.prog 57 #[.int .i64 a, .int .i64 60, .int .i64 30] w fun e w' => e = .returned (.int .i64 (rd a)) ∧ Below w.heap.size w w' := moved_any a 60 w (.inl rfl) ha0 ha1
theorem moved62 (a : Int) (w : World) (ha0 : -9223372036854775808 ≤ a) (ha1 : a ≤ 9223372036854775807) :
    Calls Tryd.prog 57 #[.int .i64 a, .int .i64 62, .int .i64 32] w fun e w' => e = .returned (.int .i64 (rd a)) ∧ Below w.heap.size w w' := moved_any a 62 w (.inr rfl) ha0 ha1

namespace Tg
/-- Where a direction's steps begin. -/
def beg (t : Int) : St := ⟨495056041134655927, 495056041134655927, t % 1073741824 * 1073741824 - 576460752303423488⟩
theorem beg_ok (t : Int) : Ok 0 (beg t) := by
  have : gr 0 = 1152921504606846976 := rfl
  have : zs 0 = 576460752303423488 := rfl
  constructor <;> simp only [beg] <;> omega
theorem and_u32 (t : Int) (h0 : 0 ≤ t) (h1 : t ≤ 4294967295) : bits .and .u32 t 1073741823 = t % 1073741824 := by
  obtain ⟨A, rfl⟩ := Int.eq_ofNat_of_zero_le h0
  have g1 : (BitVec.ofInt 32 (A : Int)).toNat = A := by rw [BitVec.ofInt_natCast, BitVec.toNat_ofNat]; exact Nat.mod_eq_of_lt (by omega)
  have g2 : (BitVec.ofInt 32 1073741823).toNat = 1073741823 := by rfl
  show IntKind.u32.wrap ((BitVec.ofInt 32 (A : Int) &&& BitVec.ofInt 32 1073741823).toNat : Int) = _
  rw [BitVec.toNat_and, g1, g2, show 1073741823 = 2 ^ 30 - 1 by decide, Nat.and_two_pow_sub_one_eq_mod, IntKind.wrap_u32]
  omega
end Tg

set_option maxRecDepth 10000 in
set_option maxHeartbeats 1000000 in
theorem first_any (t : Int) (w : World) (hT : AngTab w) (h0 : 0 ≤ t) (h1 : t ≤ 4294967295) :
    Calls Tryd.prog 40 #[.int .u32 t] w fun e w' => e = .returned (.tuple #[.int .i64 (rd (bst (beg t) 40).y), .int .i64 (rd (bst (beg t) 40).x)]) ∧ Below w.heap.size w w' := by
  have a1 := and_u32 t h0 h1
  go_enter Tryd.func40, Tryd.ntmps40
  go_wp2_with (first | (refine wpList_loadTab rfl _ rfl rfl (hT.below (below_al (Below.refl _ _) _)) ?_))
  go_loopw [5, 15] (fun z i wr => ∃ k : Nat, k ≤ 40 ∧ i = .int .i64 (k : Int) ∧ z = .int .i64 (bst (beg t) k).z ∧ RowP wr w.heap.size (bst (beg t) k).x (bst (beg t) k).y ∧ Below w.heap.size w wr) (fun _ i _ => 40 - (intOf i).toNat)
  case atStart => exact ⟨0, by omega, rfl, rfl, rowP_new w _ _, below_al (Below.refl _ _) _⟩
  case round =>
    obtain ⟨k, hk, rfl, rfl, hP, hbel⟩ := hrel
    have ok := (beg_ok t).bst hk
    have bd := ok.bd hk
    by_cases h40 : k < 40
    · have hidx := fun (w : World) => run_angle w h40
      have ab := ang_bd h40
      have okl := (ok.lf h40).bd (by omega)
      have okr := (ok.rt h40).bd (by omega)
      have hl : 0 ≤ (bst (beg t) k).z → bst (beg t) (k + 1) = lf k (bst (beg t) k) := fun h => if_pos h
      have hr : ¬ 0 ≤ (bst (beg t) k).z → bst (beg t) (k + 1) = rt k (bst (beg t) k) := fun h => if_neg h
      have HL := hide hl
      have HR := hide hr
      clear hl hr ok
      obtain ⟨s, hs⟩ : ∃ s, s = bst (beg t) k := ⟨_, rfl⟩
      rw [← hs] at bd okl okr HL HR hP ⊢
      clear hs
      obtain ⟨x, y, z⟩ := s
      simp only [lf, rt] at okl okr bd HL HR hP ⊢
      by_cases hz : 0 ≤ z
      · go_wp2_with (first | (refine wpList_loadP rfl (.tmp 4) rfl _ _ _ rfl hP ?_))
        refine (anti_any x y k _ (by omega) (by omega) (by omega) (by omega) (by omega)).mono ?_
        rintro e w1 ⟨rfl, k1⟩
        have hP1 := hP.keep k1
        go_wp2_with (first | (refine wpList_storeP rfl (.tmp 4) (.tmp 23) rfl _ _ _ _ _ rfl rfl hP1 ?_))
        go_roundw
        case rel =>
          refine ⟨k + 1, by omega, by go_num, ?_, ?_, belowRow (below_tr hbel k1) (Nat.le_refl _) _⟩
          · rw [HL.out hz]
          · rw [HL.out hz]; exact hP1.row _ _
        case measure => simp [intOf]; omega
      · go_wp2_with (first | (refine wpList_loadP rfl (.tmp 4) rfl _ _ _ rfl hP ?_))
        refine (clock_any x y k _ (by omega) (by omega) (by omega) (by omega) (by omega)).mono ?_
        rintro e w1 ⟨rfl, k1⟩
        have hP1 := hP.keep k1
        go_wp2_with (first | (refine wpList_storeP rfl (.tmp 4) (.tmp 29) rfl _ _ _ _ _ rfl rfl hP1 ?_))
        go_roundw
        case rel =>
          refine ⟨k + 1, by omega, by go_num, ?_, ?_, belowRow (below_tr hbel k1) (Nat.le_refl _) _⟩
          · rw [HR.out hz]
          · rw [HR.out hz]; exact hP1.row _ _
        case measure => simp [intOf]; omega
    · obtain rfl : k = 40 := by omega
      obtain ⟨x, hx⟩ : ∃ x, x = (bst (beg t) 40).x := ⟨_, rfl⟩
      obtain ⟨y, hy⟩ : ∃ y, y = (bst (beg t) 40).y := ⟨_, rfl⟩
      rw [← hx, ← hy] at bd hP
      have c0 := hP.c0
      have c1 := hP.c1
      have HX := hide hx
      have HY := hide hy
      clear hx hy
      go_wp2
      go_region_with (go_at_call 57; refine (moved60 _ _ (by omega) (by omega)).mono ?_; rintro e w1 ⟨rfl, hb⟩; (try (have hc := keep_cell hb c0; have hd := keep_cell hb c1)))
      all_goals go_wp2
      all_goals go_ret2
      all_goals (rw [HX.out, HY.out]; exact ⟨rfl, below_tr (below_tr hbel.drew ‹Below wr.drew.heap.size wr.drew _›) hb⟩)

namespace Tg
/-- The sine and the cosine. -/
def sn (t : Int) : Int := rd (bst (beg t) 40).y
def cs (t : Int) : Int := rd (bst (beg t) 40).x
theorem rd_bd {n : Int} (h0 : -5600000000000000000 ≤ n) (h1 : n ≤ 5600000000000000000) : -5215406418 ≤ rd n ∧ rd n ≤ 5215406418 := by
  have : -5215406418 ≤ Qn.rne n 1073741824 ∧ Qn.rne n 1073741824 ≤ 5215406418 := by
    unfold Qn.rne; split <;> omega
  unfold rd Qn.clamp
  split
  · omega
  · split <;> omega
theorem sn_bd (t : Int) : -5215406418 ≤ sn t ∧ sn t ≤ 5215406418 := by
  have h := ((beg_ok t).bst (k := 40) (by omega)).bd (by omega)
  exact rd_bd h.2.1.1 h.2.1.2
theorem cs_bd (t : Int) : -5215406418 ≤ cs t ∧ cs t ≤ 5215406418 := by
  have h := ((beg_ok t).bst (k := 40) (by omega)).bd (by omega)
  exact rd_bd h.1.1 h.1.2
/-- Of a whole turn. -/
def sine (t : Int) : Int := if t < 1073741824 then sn t else if t < 2147483648 then cs t else if t < 3221225472 then -sn t else -cs t
def cosine (t : Int) : Int := if t < 1073741824 then cs t else if t < 2147483648 then -sn t else if t < 3221225472 then -cs t else sn t
theorem sine_bd (t : Int) : -5215406418 ≤ sine t ∧ sine t ≤ 5215406418 := by
  have := sn_bd t
  have := cs_bd t
  unfold sine; split
  · omega
  · split
    · omega
    · split <;> omega
theorem cosine_bd (t : Int) : -5215406418 ≤ cosine t ∧ cosine t ≤ 5215406418 := by
  have := sn_bd t
  have := cs_bd t
  unfold cosine; split
  · omega
  · split
    · omega
    · split <;> omega
end Tg

set_option maxHeartbeats 1000000 in
theorem both_any (t : Int) (w : World) (hT : AngTab w) (h0 : 0 ≤ t) (h1 : t ≤ 4294967295) :
    Calls Tryd.prog 25 #[.int .u32 t] w fun e w' => e = .returned (.tuple #[.int .i64 (sine t), .int .i64 (cosine t)]) ∧ Below w.heap.size w w' := by
  have hs := sn_bd t
  have hc := cs_bd t
  have HF := hide (first_any t w hT h0 h1)
  obtain ⟨s, es⟩ : ∃ s, s = sn t := ⟨_, rfl⟩
  obtain ⟨c, ec⟩ : ∃ c, c = cs t := ⟨_, rfl⟩
  have HF' : Hid (Calls Tryd.prog 40 #[.int .u32 t] w fun e w' => e = .returned (.tuple #[.int .i64 s, .int .i64 c]) ∧ Below w.heap.size w w') := by
    rw [es, ec]; exact HF
  have E1 : t < 1073741824 → sine t = s ∧ cosine t = c := fun h => by unfold sine cosine; rw [if_pos h, if_pos h]; exact ⟨es.symm, ec.symm⟩
  have E2 : ¬ t < 1073741824 → t < 2147483648 → sine t = c ∧ cosine t = -s := fun h h2 => by unfold sine cosine; rw [if_neg h, if_neg h, if_pos h2, if_pos h2, es, ec]; exact ⟨rfl, rfl⟩
  have E3 : ¬ t < 1073741824 → ¬ t < 2147483648 → t < 3221225472 → sine t = -s ∧ cosine t = -c := fun h h2 h3 => by unfold sine cosine; rw [if_neg h, if_neg h, if_neg h2, if_neg h2, if_pos h3, if_pos h3, es, ec]; exact ⟨rfl, rfl⟩
  have E4 : ¬ t < 1073741824 → ¬ t < 2147483648 → ¬ t < 3221225472 → sine t = -c ∧ cosine t = s := fun h h2 h3 => by unfold sine cosine; rw [if_neg h, if_neg h, if_neg h2, if_neg h2, if_neg h3, if_neg h3, es, ec]; exact ⟨rfl, rfl⟩
  rw [← es] at hs
  rw [← ec] at hc
  clear HF es ec
  rcases Int.lt_or_le t 1073741824 with h | h
  · rw [(E1 h).1, (E1 h).2]
    clear E1 E2 E3 E4
    go_enter Tryd.func25, Tryd.ntmps25
    go_wp2_with fail
    refine HF'.out.mono ?_
    rintro e w1 ⟨rfl, k1⟩
    go_wp2
    go_ret2
    exact ⟨rfl, k1⟩
  rcases Int.lt_or_le t 2147483648 with h2 | h2
  · rw [(E2 (by omega) h2).1, (E2 (by omega) h2).2]
    clear E1 E2 E3 E4
    go_enter Tryd.func25, Tryd.ntmps25
    go_wp2_with fail
    refine HF'.out.mono ?_
    rintro e w1 ⟨rfl, k1⟩
    go_wp2
    go_ret2
    exact ⟨rfl, k1⟩
  rcases Int.lt_or_le t 3221225472 with h3 | h3
  · rw [(E3 (by omega) (by omega) h3).1, (E3 (by omega) (by omega) h3).2]
    clear E1 E2 E3 E4
    go_enter Tryd.func25, Tryd.ntmps25
    go_wp2_with fail
    refine HF'.out.mono ?_
    rintro e w1 ⟨rfl, k1⟩
    go_wp2
    go_ret2
    exact ⟨rfl, k1⟩
  · rw [(E4 (by omega) (by omega) (by omega)).1, (E4 (by omega) (by omega) (by omega)).2]
    clear E1 E2 E3 E4
    go_enter Tryd.func25, Tryd.ntmps25
    go_wp2_with fail
    refine HF'.out.mono ?_
    rintro e w1 ⟨rfl, k1⟩
    go_wp2
    go_ret2
    exact ⟨rfl, k1⟩

theorem great_any (x : Int) (w : World) :
    Calls Tryd.prog 24 #[.int .i64 x] w fun e w' => e = .returned (.bool (Qn.great x)) ∧ w' = w := by
  go_enter Tryd.func24, Tryd.ntmps24
  go_wp2_with fail
  refine (clamp_any x _).mono ?_
  rintro e w1 ⟨rfl, rfl⟩
  go_wp2
  go_ret
  exact ⟨rfl, rfl⟩

set_option maxHeartbeats 400000 in
theorem part_any (a b : Int) (w : World) (ha0 : -9223372036854775808 ≤ a) (ha1 : a ≤ 9223372036854775807) (hb0 : -9223372036854775808 ≤ b) (hb1 : b ≤ 9223372036854775807) :
    Calls Tryd.prog 26 #[.int .i64 a, .int .i64 b] w fun e w' => e = .returned (.int .i64 (Qn.clamp (Qn.rne (a * b) (2 ^ 30)))) ∧ Below w.heap.size w w' := by
  have HC := hide (qmul_any a b 30 w ha0 ha1 hb0 hb1 (by omega))
  go_enter Tryd.func26, Tryd.ntmps26
  go_wp2_with fail
  refine HC.out.mono ?_
  rintro e w1 ⟨rfl, k1⟩
  go_wp2
  go_ret
  exact ⟨rfl, k1⟩

set_option maxHeartbeats 400000 in
theorem place_any (t far : Int) (w : World) (hT : AngTab w) (h0 : 0 ≤ t) (h1 : t ≤ 4294967295) (hf0 : 0 ≤ far) (hf1 : far ≤ 4611686018427387903) :
    Calls Tryd.prog 16 #[.int .u32 t, .int .i64 far] w fun e w' => e = .returned (.tuple #[.int .i64 (Qn.clamp (Qn.rne (far * sine t) (2 ^ 30))), .int .i64 (Qn.clamp (Qn.rne (far * cosine t) (2 ^ 30))), .nilIface]) ∧ Below w.heap.size w w' := by
  have hg : Qn.great far = false := by unfold Qn.great; rw [decide_eq_false (by omega), decide_eq_false (by omega)]; rfl
  have hs := sine_bd t
  have hc := cosine_bd t
  have HB := hide (both_any t w hT h0 h1)
  obtain ⟨s, es⟩ : ∃ s, s = sine t := ⟨_, rfl⟩
  obtain ⟨c, ec⟩ : ∃ c, c = cosine t := ⟨_, rfl⟩
  rw [← es] at hs HB ⊢
  rw [← ec] at hc HB ⊢
  clear es ec
  go_enter Tryd.func16, Tryd.ntmps16
  go_wp2_with fail
  refine (great_any far _).mono ?_
  rintro e w1 ⟨rfl, rfl⟩
  rw [hg]
  go_wp2_with fail
  refine HB.out.mono ?_
  rintro e w1 ⟨rfl, k1⟩
  go_wp2_with fail
  refine (part_any far s _ (by omega) (by omega) (by omega) (by omega)).mono ?_
  rintro e w2 ⟨rfl, k2⟩
  go_wp2_with fail
  refine (part_any far c _ (by omega) (by omega) (by omega) (by omega)).mono ?_
  rintro e w3 ⟨rfl, k3⟩
  go_wp2
  go_ret3
  exact ⟨rfl, below_tr (below_tr k1 k2) k3⟩

set_option maxHeartbeats 400000 in
theorem place_err (t far : Int) (w : World) (hf : far < 0 ∨ 4611686018427387903 < far) :
    Calls Tryd.prog 16 #[.int .u32 t, .int .i64 far] w fun e w' => e = .returned (.tuple #[.int .i64 0, .int .i64 0, .iface 54 (.int .i64 1)]) ∧ Below w.heap.size w w' := by
  rcases hf with h | h
  · go_enter Tryd.func16, Tryd.ntmps16
    go_wp2
    go_ret3
    exact ⟨rfl, Below.refl _ _⟩
  · have hg : Qn.great far = true := by unfold Qn.great; rw [decide_eq_true (by omega : far > 4611686018427387903)]; rfl
    go_enter Tryd.func16, Tryd.ntmps16
    go_wp2_with fail
    refine (great_any far _).mono ?_
    rintro e w1 ⟨rfl, rfl⟩
    rw [hg]
    go_wp2
    go_ret3
    exact ⟨rfl, Below.refl _ _⟩
end Go.Proofs.YtefgkeeeanakeaaDoor

/-
  Places by range and angle: sine and cosine make one; how great, how the rounded spreads go.
-/
set_option linter.unusedSimpArgs false
set_option linter.unusedVariables false
namespace Go.Proofs.YtefgkeeeanakeaaDoor
namespace Po
open Qn Tg

theorem rne_near (n : Int) {d : Int} (hd : 0 < d) : 2 * (d * rne n d) ≤ 2 * n + d ∧ 2 * n - d ≤ 2 * (d * rne n d) := by
  have h1 := Int.emod_nonneg n (by omega : d ≠ 0)
  have h2 := Int.emod_lt_of_pos n hd
  have h3 := Int.mul_ediv_add_emod n d
  unfold rne
  split
  · omega
  · rw [Int.mul_add, Int.mul_one]; omega
theorem rne_up {a b d : Int} (hd : 0 < d) (h : a ≤ b) : rne a d ≤ rne b d := by
  have e1 := Int.mul_ediv_add_emod a d
  have e2 := Int.mul_ediv_add_emod b d
  have h1 := Int.emod_nonneg a (by omega : d ≠ 0)
  have h2 := Int.emod_lt_of_pos a hd
  have h3 := Int.emod_nonneg b (by omega : d ≠ 0)
  have h4 := Int.emod_lt_of_pos b hd
  have h5 : a / d ≤ b / d := Int.ediv_le_ediv hd h
  rcases Int.lt_or_le (a / d) (b / d) with h6 | h6
  · unfold rne; split <;> split <;> omega
  · have h7 : a / d = b / d := by omega
    rw [h7] at e1
    unfold rne
    rw [h7]
    split <;> split <;> omega
theorem rne_nought {d : Int} (hd : 0 < d) : rne 0 d = 0 := by unfold rne; rw [Int.zero_emod, Int.zero_ediv, if_pos (Or.inl (by omega))]
theorem rne_nn {n d : Int} (hd : 0 < d) (h : 0 ≤ n) : 0 ≤ rne n d := by
  have := rne_up hd h
  rwa [rne_nought hd] at this
theorem sq_nn (x : Int) : 0 ≤ x * x := by
  rcases Int.le_total 0 x with h | h
  · exact Int.mul_nonneg h h
  · exact Int.mul_nonneg_of_nonpos_of_nonpos h h
/-- A rest by a quotient is no greater than the number. -/
theorem rest_bd {y q r s M B : Int} (hM : 0 < M) (e : M * q + r = y) (hr0 : 0 ≤ r) (hr1 : r < M) (hs0 : 0 ≤ s) (hs1 : s < M) (hy0 : -B ≤ y) (hy1 : y ≤ B) : -(B + M) ≤ s * q ∧ s * q ≤ B + M := by
  rcases Int.le_total 0 q with h | h
  · have h1 : 0 ≤ s * q := Int.mul_nonneg hs0 h
    have h2 : s * q ≤ M * q := Int.mul_le_mul_of_nonneg_right (by omega) h
    omega
  · have h1 : s * q ≤ 0 := Int.mul_nonpos_of_nonneg_of_nonpos hs0 h
    have h2 : M * q ≤ s * q := Int.mul_le_mul_of_nonpos_right (by omega) h
    omega
/-- A quotient's square. -/
theorem sq_cut {x p s M B : Int} (hM : 0 < M) (e : M * p + s = x) (hs0 : 0 ≤ s) (hs1 : s < M) (hx0 : -B ≤ x) (hx1 : x ≤ B) : x * x - (2 * B + M) * M ≤ M * M * (p * p) ∧ M * M * (p * p) ≤ x * x + (2 * B + M) * M := by
  have e1 : M * M * (p * p) = (x - s) * (x - s) := by
    rw [show x - s = M * p by omega]
    simp only [Int.mul_assoc, Int.mul_left_comm, Int.mul_comm]
  have e2 : (x - s) * (x - s) = x * x - (2 * x - s) * s := by
    rw [Int.sub_mul, Int.mul_sub, Int.mul_sub, Int.sub_mul, Int.mul_comm s x, Int.mul_assoc 2 x s]; omega
  have hB : 0 ≤ B := by omega
  have u1 : (2 * x - s) * s ≤ (2 * B + M) * s := Int.mul_le_mul_of_nonneg_right (by omega) hs0
  have u2 : (2 * B + M) * s ≤ (2 * B + M) * M := Int.mul_le_mul_of_nonneg_left (by omega) (by omega)
  have u3 : (-(2 * B + M)) * s ≤ (2 * x - s) * s := Int.mul_le_mul_of_nonneg_right (by omega) hs0
  rw [Int.neg_mul] at u3
  omega
/-- How a step changes a pair's length. -/
theorem step_len {x y : Int} (k : Nat) {n B : Int} (hx0 : -B ≤ x) (hx1 : x ≤ B) (hy0 : -B ≤ y) (hy1 : y ≤ B) (hk : (2 : Int) ^ k ≤ 549755813888)
    (sg : Int) (hs : sg = 1 ∨ sg = -1) (hn : n = x * x + y * y) :
    n + n / (2 ^ k * 2 ^ k) - (8 * B + 3000000000000) ≤ (x - sg * fl y k) * (x - sg * fl y k) + (y + sg * fl x k) * (y + sg * fl x k) ∧
      (x - sg * fl y k) * (x - sg * fl y k) + (y + sg * fl x k) * (y + sg * fl x k) ≤ n + n / (2 ^ k * 2 ^ k) + (8 * B + 3000000000000) := by
  have hM : (0 : Int) < 2 ^ k := Int.pow_pos (by omega)
  have ex := Int.mul_ediv_add_emod x (2 ^ k)
  have ey := Int.mul_ediv_add_emod y (2 ^ k)
  have s0 := Int.emod_nonneg x (by omega : (2 : Int) ^ k ≠ 0)
  have s1 := Int.emod_lt_of_pos x hM
  have r0 := Int.emod_nonneg y (by omega : (2 : Int) ^ k ≠ 0)
  have r1 := Int.emod_lt_of_pos y hM
  unfold fl
  generalize (2 : Int) ^ k = M at *
  generalize x / M = p at *
  generalize y / M = q at *
  generalize x % M = s at *
  generalize y % M = r at *
  have a1 := rest_bd hM ey r0 r1 s0 s1 hy0 hy1
  have a2 := rest_bd hM ex s0 s1 r0 r1 hx0 hx1
  have b1 := sq_cut hM ex s0 s1 hx0 hx1
  have b2 := sq_cut hM ey r0 r1 hy0 hy1
  have hMM : 0 < M * M := Int.mul_pos hM hM
  have e3 := Int.mul_ediv_add_emod n (M * M)
  have t0 := Int.emod_nonneg n (by omega : M * M ≠ 0)
  have t1 := Int.emod_lt_of_pos n hMM
  generalize n / (M * M) = c at *
  generalize n % (M * M) = t at *
  have hB : 0 ≤ B := by omega
  have c1 : (2 * B + M) * M + (2 * B + M) * M ≤ M * M * (4 * B + 2) := by
    have : 1 * (4 * B * M) ≤ M * (4 * B * M) := Int.mul_le_mul_of_nonneg_right (by omega) (Int.mul_nonneg (by omega) (by omega))
    have e4 : M * (4 * B * M) = M * M * (4 * B) := by simp only [Int.mul_assoc, Int.mul_left_comm, Int.mul_comm]
    have e5 : 4 * B * M = 2 * (2 * B * M) := by rw [← Int.mul_assoc, ← Int.mul_assoc]; rfl
    rw [Int.mul_add, Int.add_mul]
    omega
  have d0 : M * M * (p * p + q * q) = M * M * (p * p) + M * M * (q * q) := Int.mul_add _ _ _
  have d1 : c - (4 * B + 2) ≤ p * p + q * q := by
    refine Int.le_of_mul_le_mul_left (a := M * M) ?_ hMM
    rw [Int.mul_sub]; omega
  have d2 : p * p + q * q ≤ c + 1 + (4 * B + 2) := by
    refine Int.le_of_mul_le_mul_left (a := M * M) ?_ hMM
    rw [Int.mul_add, Int.mul_add (M * M) (c + 1), Int.mul_add (M * M) c 1, Int.mul_one]; omega
  have f1 : x * q - y * p = s * q - r * p := by
    rw [← ex, ← ey, Int.add_mul, Int.add_mul]
    have : M * p * q = M * q * p := by simp only [Int.mul_assoc, Int.mul_left_comm, Int.mul_comm]
    omega
  rcases hs with rfl | rfl
  · have g : (x - 1 * q) * (x - 1 * q) + (y + 1 * p) * (y + 1 * p) = x * x + y * y + (p * p + q * q) - 2 * (x * q - y * p) := by
      rw [Int.one_mul, Int.one_mul, Int.sub_mul, Int.mul_sub, Int.mul_sub, Int.add_mul, Int.mul_add, Int.mul_add, Int.mul_comm q x, Int.mul_comm p y]; omega
    rw [g, f1, ← hn]
    omega
  · have g : (x - -1 * q) * (x - -1 * q) + (y + -1 * p) * (y + -1 * p) = x * x + y * y + (p * p + q * q) + 2 * (x * q - y * p) := by
      rw [show x - -1 * q = x + q by omega, show y + -1 * p = y - p by omega, Int.sub_mul, Int.mul_sub, Int.mul_sub, Int.add_mul, Int.mul_add, Int.mul_add, Int.mul_comm q x, Int.mul_comm p y]; omega
    rw [g, f1, ← hn]
    omega
/-- How short, how long a pair is, ahead of step k. -/
def lo : Nat → Int
  | 0 => 490160967727836282507484465352458658
  | k + 1 => lo k + lo k / (2 ^ k * 2 ^ k) - 50000000000000000000
def hi : Nat → Int
  | 0 => 490160967727836282507484465352458658
  | k + 1 => hi k + hi k / (2 ^ k * 2 ^ k) + 50000000000000000000
theorem pow_le {k : Nat} (h : k < 40) : (2 : Int) ^ k ≤ 549755813888 := by
  have : ∀ j, j < 40 → (2 : Int) ^ j ≤ 549755813888 := by decide
  exact this k h
theorem len_in (t : Int) : ∀ {k : Nat}, k ≤ 40 → lo k ≤ (bst (beg t) k).x * (bst (beg t) k).x + (bst (beg t) k).y * (bst (beg t) k).y ∧ (bst (beg t) k).x * (bst (beg t) k).x + (bst (beg t) k).y * (bst (beg t) k).y ≤ hi k
  | 0, _ => by
    show lo 0 ≤ 495056041134655927 * 495056041134655927 + 495056041134655927 * 495056041134655927 ∧ 495056041134655927 * 495056041134655927 + 495056041134655927 * 495056041134655927 ≤ hi 0
    decide
  | k + 1, hk => by
    have ih := len_in t (k := k) (by omega)
    have bd := ((beg_ok t).bst (k := k) (by omega)).bd (by omega)
    have hp := pow_le (k := k) (by omega)
    have e1 : lo (k + 1) = lo k + lo k / (2 ^ k * 2 ^ k) - 50000000000000000000 := rfl
    have e2 : hi (k + 1) = hi k + hi k / (2 ^ k * 2 ^ k) + 50000000000000000000 := rfl
    have hM : (0 : Int) < 2 ^ k * 2 ^ k := Int.mul_pos (Int.pow_pos (by omega)) (Int.pow_pos (by omega))
    have ha := Int.ediv_le_ediv hM ih.1
    have hb := Int.ediv_le_ediv hM ih.2
    unfold bst
    generalize bst (beg t) k = s at *
    obtain ⟨x, y, z⟩ := s
    simp only at ih bd ha hb ⊢
    split
    · have h := step_len (x := x) (y := y) k (n := x * x + y * y) (B := 5600000000000000000) bd.1.1 bd.1.2 bd.2.1.1 bd.2.1.2 hp 1 (.inl rfl) rfl
      rw [Int.one_mul, Int.one_mul] at h
      show lo (k + 1) ≤ (x - fl y k) * (x - fl y k) + (y + fl x k) * (y + fl x k) ∧ (x - fl y k) * (x - fl y k) + (y + fl x k) * (y + fl x k) ≤ hi (k + 1)
      omega
    · have h := step_len (x := x) (y := y) k (n := x * x + y * y) (B := 5600000000000000000) bd.1.1 bd.1.2 bd.2.1.1 bd.2.1.2 hp (-1) (.inr rfl) rfl
      rw [show x - -1 * fl y k = x + fl y k by omega, show y + -1 * fl x k = y - fl x k by omega] at h
      show lo (k + 1) ≤ (x + fl y k) * (x + fl y k) + (y - fl x k) * (y - fl x k) ∧ (x + fl y k) * (x + fl y k) + (y - fl x k) * (y - fl x k) ≤ hi (k + 1)
      omega
theorem lo_hi : 1329227995784900000000000000000000000 ≤ lo 40 ∧ hi 40 ≤ 1329227995784930000000000000000000000 := by decide +kernel
/-- A square, rounded. -/
theorem sq_round {x c D H : Int} (hD : D = 1073741824) (h0 : 2 * (D * c) ≤ 2 * x + D) (h1 : 2 * x - D ≤ 2 * (D * c)) (hx0 : -5600000000000000000 ≤ x) (hx1 : x ≤ 5600000000000000000) :
    x * x - 7000000000000000000000000000 ≤ D * D * (c * c) ∧ D * D * (c * c) ≤ x * x + 7000000000000000000000000000 := by
  obtain ⟨e, he⟩ : ∃ e, e = D * c - x := ⟨_, rfl⟩
  have e1 : D * D * (c * c) = (x + e) * (x + e) := by
    rw [show x + e = D * c by omega]
    simp only [Int.mul_left_comm, Int.mul_comm]
  have e2 : (x + e) * (x + e) = x * x + (2 * x + e) * e := by
    rw [Int.add_mul, Int.mul_add, Int.mul_add, Int.add_mul, Int.mul_comm e x, Int.mul_assoc 2 x e]; omega
  have he0 : -536870912 ≤ e := by omega
  have he1 : e ≤ 536870912 := by omega
  rw [e1, e2]
  rcases Int.le_total 0 e with h | h
  · have u1 : (2 * x + e) * e ≤ 11200000001000000000 * e := Int.mul_le_mul_of_nonneg_right (by omega) h
    have u2 : -11200000001000000000 * e ≤ (2 * x + e) * e := Int.mul_le_mul_of_nonneg_right (by omega) h
    omega
  · have u1 : 11200000001000000000 * e ≤ (2 * x + e) * e := Int.mul_le_mul_of_nonpos_right (by omega) h
    have u2 : (2 * x + e) * e ≤ -11200000001000000000 * e := Int.mul_le_mul_of_nonpos_right (by omega) h
    omega
theorem rd_near {n : Int} (h0 : -5600000000000000000 ≤ n) (h1 : n ≤ 5600000000000000000) : 2 * (1073741824 * rd n) ≤ 2 * n + 1073741824 ∧ 2 * n - 1073741824 ≤ 2 * (1073741824 * rd n) := by
  have h := rne_near n (d := 1073741824) (by omega)
  have e : rd n = rne n 1073741824 := by
    unfold rd clamp
    rw [if_neg (by omega), if_neg (by omega)]
  rw [e]; exact h
theorem one_in (t : Int) : 1152921490000000000 ≤ cs t * cs t + sn t * sn t ∧ cs t * cs t + sn t * sn t ≤ 1152921520000000000 := by
  have bd := ((beg_ok t).bst (k := 40) (by omega)).bd (by omega)
  have hl := len_in t (k := 40) (by omega)
  have hh := lo_hi
  unfold cs sn
  generalize bst (beg t) 40 = s at *
  obtain ⟨x, y, z⟩ := s
  simp only at bd hl ⊢
  have hx := rd_near bd.1.1 bd.1.2
  have hy := rd_near bd.2.1.1 bd.2.1.2
  have a := sq_round (H := 0) rfl hx.1 hx.2 bd.1.1 bd.1.2
  have b := sq_round (H := 0) rfl hy.1 hy.2 bd.2.1.1 bd.2.1.2
  generalize rd x * rd x = u at *
  generalize rd y * rd y = v at *
  omega
/-- Sine and cosine of any direction. -/
theorem circle (t : Int) : 1152921490000000000 ≤ sine t * sine t + cosine t * cosine t ∧ sine t * sine t + cosine t * cosine t ≤ 1152921520000000000 := by
  have h := one_in t
  have n1 : -sn t * -sn t = sn t * sn t := Int.neg_mul_neg _ _
  have n2 : -cs t * -cs t = cs t * cs t := Int.neg_mul_neg _ _
  unfold sine cosine
  split
  · omega
  · split
    · rw [n1]; omega
    · split
      · rw [n1, n2]; omega
      · rw [n2]; omega
end Po
end Go.Proofs.YtefgkeeeanakeaaDoor

/-
  Dot of the package qnum: the sum of products, rounded once, and bounded; or the error.
-/
set_option linter.unusedSimpArgs false
set_option linter.unusedVariables false
namespace Go.Proofs.YtefgkeeeanakeaaDoor
open Go.RowKit Qn Dt
attribute [local go_sem ↓] Go.wp_at_zero Go.wp_at_succ

theorem Hid.mkq {p : Prop} (h : p) : Hid p := h

set_option maxRecDepth 20000 in
set_option maxHeartbeats 2000000 in
theorem qdot_any (ao bo : Option Addr) (xa xb : Addr) (n ca cb : Nat) (za zb : Nat → Int) (b : Nat) (w : World) (hn : n ≤ 64) (hao : 0 < n → ao = some xa) (hbo : 0 < n → bo = some xb)
    (hca : ∀ k, k < n → w.cell? (xa.add k) = some (.int .i64 (za k))) (hcb : ∀ k, k < n → w.cell? (xb.add k) = some (.int .i64 (zb k)))
    (ba : ∀ k, -9223372036854775808 ≤ za k ∧ za k ≤ 9223372036854775807) (bb : ∀ k, -9223372036854775808 ≤ zb k ∧ zb k ≤ 9223372036854775807) (hb : b ≤ 62) :
    Calls Tryd.prog 41 #[.slice ao n ca, .slice bo n cb, .int .i64 b] w fun e w' => e = .returned (.tuple #[.int .i64 (clamp (rne (dk za zb n) (2 ^ b))), .bool (great (rne (dk za zb n) (2 ^ b))), .nilIface]) ∧ Below w.heap.size w w' := by
  have hm := mb_nat hb
  have HAO := Hid.mkq hao
  have HBO := Hid.mkq hbo
  have HCA := Hid.mkq hca
  have HCB := Hid.mkq hcb
  have HBA := Hid.mkq ba
  have HBB := Hid.mkq bb
  have hdk := dk_bd za zb ba bb n
  have HI : Hid (In3 (dk za zb n) ∧ In3 (rne (dk za zb n) (2 ^ b))) := by
    have hB : (0 : Int) < 2 ^ b := Int.pow_pos (by omega)
    have hdl : -5444517870735015415413993718908291383296 ≤ dk za zb n ∧ dk za zb n ≤ 5444517870735015415413993718908291383296 := by omega
    have h3 : (dk za zb n / 2 ^ b) ≤ 5444517870735015415413993718908291383296 ∧ -5444517870735015415413993718908291383296 ≤ dk za zb n / 2 ^ b := by
      constructor
      · refine Int.ediv_le_of_le_mul hB ?_
        have : (5444517870735015415413993718908291383296 : Int) * 1 ≤ 5444517870735015415413993718908291383296 * 2 ^ b := Int.mul_le_mul_of_nonneg_left (by omega) (by omega)
        omega
      · rw [Int.le_ediv_iff_mul_le hB]
        have : (5444517870735015415413993718908291383296 : Int) * 1 ≤ 5444517870735015415413993718908291383296 * 2 ^ b := Int.mul_le_mul_of_nonneg_left (by omega) (by omega)
        rw [Int.neg_mul]
        omega
    refine ⟨by unfold In3; omega, ?_⟩
    unfold In3 rne
    split <;> omega
  obtain ⟨X, hX⟩ : ∃ X, X = rne (dk za zb n) (2 ^ b) := ⟨_, rfl⟩
  rw [← hX]
  have HX := Hid.mkq hX
  clear hao hbo hca hcb ba bb hX hdk
  go_enter Tryd.func41, Tryd.ntmps41
  go_wp2_with fail
  refine (mayBe_any (b : Int) _).mono ?_
  rintro e w ⟨rfl, rfl⟩
  rw [hm]
  go_wp2
  go_loopw [31] (fun i wr => ∃ k : Nat, k ≤ n ∧ i = .int .i64 (k : Int) ∧ Row3 wr w.heap.size (lo (dk za zb k)) (mi (dk za zb k)) (hi (dk za zb k)) ∧ Below w.heap.size w wr) (fun i _ => n - (intOf i).toNat)
  case atStart => exact ⟨0, by omega, rfl, row3_new w _ _ _, below_al (Below.refl _ _) _⟩
  case round =>
    obtain ⟨k, hk, rfl, hr, hbel⟩ := hrel
    by_cases h : k < n
    · obtain rfl := HAO.out (by omega)
      obtain rfl := HBO.out (by omega)
      have ca' := keep_cell hbel (HCA.out k h)
      have cb' := keep_cell hbel (HCB.out k h)
      have pa := HBA.out k
      have pb := HBB.out k
      obtain ⟨P, hP⟩ : ∃ P, P = za k := ⟨_, rfl⟩
      obtain ⟨Q, hQ⟩ : ∃ Q, Q = zb k := ⟨_, rfl⟩
      obtain ⟨S, hS⟩ : ∃ S, S = dk za zb k := ⟨_, rfl⟩
      rw [← hP] at ca' pa
      rw [← hQ] at cb' pb
      rw [← hS] at hr
      have HS : Hid (dk za zb (k + 1) = S + P * Q) := by rw [hS, hP, hQ]; rfl
      clear hP hQ hS
      have z0 := hr.c0
      have z1 := hr.c1
      have z2 := hr.c2
      go_wp2
      go_region_with
        (first
          | (go_at_call 58; refine (qplus_any S P Q _ pa.1 pa.2 pb.1 pb.2).mono ?_; rintro e w2 ⟨rfl, hb2⟩; have hr2 := hr.drew.keep hb2; have y0 := hr2.c0; have y1 := hr2.c1; have y2 := hr2.c2; have f0 := hr2.free 0; have f1 := hr2.free 1; have f2 := hr2.free 2))
      all_goals go_wp2
      all_goals go_roundw
      all_goals first
        | (simp [intOf]; omega)
        | exact ⟨k + 1, by omega, by go_num, by rw [HS.out]; exact (((hr2.set0 _).set1 _).set2 _), (((below_tr hbel.drew hb2).setCell (Nat.le_refl _) _).setCell (Nat.le_refl _) _).setCell (Nat.le_refl _) _⟩
        | trace_state
    · obtain rfl : k = n := by omega
      go_wp2_with (first | (refine wpList_load3 rfl (.tmp 9) rfl _ _ _ _ rfl hr ?_) | fail)
      refine (lowered_any (dk za zb k) b _ hb HI.out.1).mono ?_
      rintro e w2 ⟨rfl, hb2⟩
      go_wp2_with fail
      refine (bounded_any _ _ HI.out.2).mono ?_
      rintro e w3 ⟨rfl, hb3⟩
      rw [← HX.out]
      go_wp2
      go_ret3
      exact ⟨rfl, below_tr (below_tr hbel hb2) hb3⟩

set_option maxHeartbeats 1000000 in
theorem qdot_err (ao bo : Option Addr) (n m ca cb : Nat) (b : Int) (w : World) (hn : n ≤ 9223372036854775807) (hmm : m ≤ 9223372036854775807) (h : mb b = false ∨ n ≠ m ∨ 64 < n) :
    Calls Tryd.prog 41 #[.slice ao n ca, .slice bo m cb, .int .i64 b] w fun e w' => e = .returned (.tuple #[.int .i64 0, .bool false, .iface 54 (.int .i64 1)]) ∧ Below w.heap.size w w' := by
  by_cases h1 : mb b = true
  · by_cases h2 : n = m
    · subst h2
      have h3 : 64 < n := by rcases h with h | h | h <;> simp_all
      go_enter Tryd.func41, Tryd.ntmps41
      go_wp2_with fail
      refine (mayBe_any b _).mono ?_
      rintro e w ⟨rfl, rfl⟩
      rw [h1]
      go_wp2
      go_ret3
      exact ⟨rfl, Below.refl _ _⟩
    · have h4 : (((n : Nat) : Int) != ((m : Nat) : Int)) = true := by simp; omega
      go_enter Tryd.func41, Tryd.ntmps41
      go_wp2_with fail
      refine (mayBe_any b _).mono ?_
      rintro e w ⟨rfl, rfl⟩
      rw [h1]
      go_wp2
      go_ret3
      exact ⟨rfl, Below.refl _ _⟩
  · have h1 : mb b = false := by simpa using h1
    go_enter Tryd.func41, Tryd.ntmps41
    go_wp2_with fail
    refine (mayBe_any b _).mono ?_
    rintro e w ⟨rfl, rfl⟩
    rw [h1]
    go_wp2
    go_ret3
    exact ⟨rfl, Below.refl _ _⟩

end Go.Proofs.YtefgkeeeanakeaaDoor

/-
  How far a place is: squares of two words, and their root, bit by bit.
-/
set_option linter.unusedSimpArgs false
set_option linter.unusedVariables false
namespace Go.Proofs.YtefgkeeeanakeaaDoor
open Go.RowKit Tg Qn
attribute [local go_sem ↓] Go.wp_at_zero Go.wp_at_succ

namespace Tg
end Tg

namespace Tg
/-- Whether a number of two words is more than another one. -/
def ab2 (m n : Int) : Bool := decide (n < m)
end Tg

namespace Tg
theorem or_bit (m k : Nat) (h : 2 ^ (k + 1) * m + 2 ^ k < 18446744073709551616) : bits .or .u64 ((2 ^ (k + 1) * m : Nat) : Int) ((2 ^ k : Nat) : Int) = ((2 ^ (k + 1) * m : Nat) : Int) + ((2 ^ k : Nat) : Int) := by
  have hp := Nat.two_pow_pos k
  rw [bits_or_u64_nat _ _ (by omega) (by omega), ← Nat.two_pow_add_eq_or_of_lt (Nat.pow_lt_pow_right (by omega) (by omega)), Int.natCast_add]
theorem sq_lt {x : Int} (h0 : 0 ≤ x) (h1 : x ≤ 9223372036854775807) : 0 ≤ x * x ∧ x * x < 340282366920938463463374607431768211456 := by
  refine ⟨Int.mul_nonneg h0 h0, ?_⟩
  have : x * x ≤ 9223372036854775807 * 9223372036854775807 := Int.mul_le_mul h1 h1 h0 (by omega)
  omega
end Tg

end Go.Proofs.YtefgkeeeanakeaaDoor

/-
  The direction of a place: moved up, turned step by step.
-/
set_option linter.unusedSimpArgs false
set_option linter.unusedVariables false
namespace Go.Proofs.YtefgkeeeanakeaaDoor
open Go.RowKit Tg Qn
attribute [local go_sem ↓] Go.wp_at_zero Go.wp_at_succ

namespace Tg
/-- A number of so many bits, moved so that it has sixty. -/
def mv (L : Nat) (n : Int) : Int := if L ≤ 60 then n * 2 ^ (60 - L) else n / 2 ^ (L - 60)
theorem bitLen_bd : ∀ (k m : Nat), m < 2 ^ k → k ≤ 63 → 1 ≤ m → 1 ≤ Lib.bitLen m ∧ Lib.bitLen m ≤ k ∧ 2 ^ (Lib.bitLen m - 1) ≤ m ∧ m < 2 ^ (Lib.bitLen m)
  | 0, m, h, _, h1 => absurd h (by omega)
  | k + 1, m, h, hk, h1 => by
    have hb : m < 2 ^ 64 := Nat.lt_of_lt_of_le h (Nat.pow_le_pow_right (by omega) (by omega))
    have e := Lib.bitLen_half m (by omega) hb
    by_cases h2 : m = 1
    · subst h2
      have : Lib.bitLen 1 = 1 := by decide
      rw [this]; omega
    · have hp : 2 ^ (k + 1) = 2 ^ k * 2 := Nat.pow_succ 2 k
      have ih := bitLen_bd k (m / 2) (by omega) (by omega) (by omega)
      obtain ⟨L, hL⟩ : ∃ L, L = Lib.bitLen (m / 2) := ⟨_, rfl⟩
      rw [← hL] at ih e
      rw [e]
      have p1 : 2 ^ (1 + L) = 2 ^ L * 2 := by rw [Nat.add_comm]; exact Nat.pow_succ 2 L
      have p2 : 2 ^ (1 + L - 1) = 2 ^ (L - 1) * 2 := by rw [show 1 + L - 1 = (L - 1) + 1 by omega]; exact Nat.pow_succ 2 (L - 1)
      rw [p1, p2]
      omega
/-- What is moved has sixty bits at most. -/
theorem mv_bd {L : Nat} {n : Int} (h0 : 0 ≤ n) (h1 : n < 2 ^ L) (hL : L ≤ 62) : 0 ≤ mv L n ∧ mv L n < 1152921504606846976 := by
  unfold mv
  split
  · rename_i h
    have hp : (0 : Int) < 2 ^ (60 - L) := Int.pow_pos (by omega)
    have e : (2 : Int) ^ L * 2 ^ (60 - L) = 1152921504606846976 := by
      rw [← Int.pow_add, show L + (60 - L) = 60 by omega]; decide
    refine ⟨Int.mul_nonneg h0 (by omega), ?_⟩
    rw [← e]
    exact Int.mul_lt_mul_of_pos_right h1 hp
  · rename_i h
    have hp : (0 : Int) < 2 ^ (L - 60) := Int.pow_pos (by omega)
    have e : (1152921504606846976 : Int) * 2 ^ (L - 60) = 2 ^ L := by
      rw [show (1152921504606846976 : Int) = 2 ^ 60 by decide, ← Int.pow_add, show 60 + (L - 60) = L by omega]
    exact ⟨Int.ediv_nonneg h0 (by omega), Int.ediv_lt_of_lt_mul hp (by rw [e]; exact h1)⟩
theorem mv_ge {L : Nat} {n : Int} (h1 : 2 ^ (L - 1) ≤ n) (hL1 : 1 ≤ L) (hL : L ≤ 62) : 576460752303423488 ≤ mv L n := by
  unfold mv
  split
  · rename_i h
    have hp : (0 : Int) < 2 ^ (60 - L) := Int.pow_pos (by omega)
    have e : (2 : Int) ^ (L - 1) * 2 ^ (60 - L) = 576460752303423488 := by
      rw [← Int.pow_add, show L - 1 + (60 - L) = 59 by omega]; decide
    rw [← e]
    exact Int.mul_le_mul_of_nonneg_right h1 (by omega)
  · rename_i h
    have hp : (0 : Int) < 2 ^ (L - 60) := Int.pow_pos (by omega)
    have e : (576460752303423488 : Int) * 2 ^ (L - 60) = 2 ^ (L - 1) := by
      rw [show (576460752303423488 : Int) = 2 ^ 59 by decide, ← Int.pow_add, show 59 + (L - 60) = L - 1 by omega]
    exact Int.le_ediv_of_mul_le hp (by rw [e]; exact h1)
/-- How many bits the greater of two has. -/
def bl (x y : Int) : Nat := Lib.bitLen (max x y).toNat
theorem bl_bd {x y : Int} (hx0 : 0 ≤ x) (hx1 : x ≤ 4611686018427387903) (hy0 : 0 ≤ y) (hy1 : y ≤ 4611686018427387903) (h : 1 ≤ x ∨ 1 ≤ y) :
    1 ≤ bl x y ∧ bl x y ≤ 62 ∧ 2 ^ (bl x y - 1) ≤ max x y ∧ x < 2 ^ bl x y ∧ y < 2 ^ bl x y := by
  have hb := bitLen_bd 62 (max x y).toNat (by omega) (by omega) (by omega)
  unfold bl
  obtain ⟨L, hL⟩ : ∃ L, L = Lib.bitLen (max x y).toNat := ⟨_, rfl⟩
  rw [← hL] at hb ⊢
  have e1 : (2 : Int) ^ (L - 1) = ((2 ^ (L - 1) : Nat) : Int) := by simp
  have e2 : (2 : Int) ^ L = ((2 ^ L : Nat) : Int) := by simp
  rw [e1, e2]
  omega
end Tg

namespace Tg
/-- Where a place's steps begin. -/
def pbeg (x y : Int) : St := ⟨mv (bl y x) y, mv (bl y x) x, 0⟩
theorem pbeg_ok {x y : Int} (hx0 : 0 ≤ x) (hx1 : x ≤ 4611686018427387903) (hy0 : 0 ≤ y) (hy1 : y ≤ 4611686018427387903) (h : 1 ≤ x ∨ 1 ≤ y) : Ok 0 (pbeg x y) := by
  have : gr 0 = 1152921504606846976 := rfl
  have : zs 0 = 576460752303423488 := rfl
  have hb := bl_bd hy0 hy1 hx0 hx1 h.symm
  have mx := mv_bd hx0 hb.2.2.2.2 hb.2.1
  have my := mv_bd hy0 hb.2.2.2.1 hb.2.1
  constructor <;> simp only [pbeg] <;> omega
/-- The angle from the y axis. -/
def axis (x y : Int) : Int := rd (vst (pbeg x y) 40).z
end Tg

namespace Tg
theorem ret_un {a b : Int} (h : b = a) : Ending.returned (.tuple #[.int .u32 a, .nilIface]) = .returned (.tuple #[.int .u32 b, .nilIface]) := by rw [h]
/-- The direction of a place. -/
def dir (x y n : Int) : Int := if 0 ≤ x then (if 0 ≤ y then n else 2147483648 - n) else (if y < 0 then 2147483648 + n else (4294967296 - n) % 4294967296)
end Tg

end Go.Proofs.YtefgkeeeanakeaaDoor
