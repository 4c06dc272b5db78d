/-
  Go's own division of two words by one.
-/
import Derived.Test.YtbdcbobmfkdalaaM13
import Derived.Test.YtbdcbobmfkdalaaQL
import Derived.Test.YtbdcbobmfkdalaaPure
import Derived.Deep.RegionWith
set_option linter.unusedSimpArgs false
set_option linter.unusedVariables false
namespace Go.Proofs.Ytbdcbobmfkdalaa
open Go.RowKit Qn

namespace Qn
theorem or_up (a b D : Int) (s : Nat) (hD : (2 : Int) ^ s = D) (hb0 : 0 ≤ b) (hb : b < D) (ha0 : 0 ≤ a) (ha1 : a < 18446744073709551616) (hDW : D ≤ 18446744073709551616) (hk : ∃ k : Int, 0 ≤ k ∧ a = D * k) : bits .or .u64 a b = a + b := by
  obtain ⟨k, hk0, hk⟩ := hk
  obtain ⟨A, rfl⟩ := Int.eq_ofNat_of_zero_le ha0
  obtain ⟨B, rfl⟩ := Int.eq_ofNat_of_zero_le hb0
  obtain ⟨K, rfl⟩ := Int.eq_ofNat_of_zero_le hk0
  have hD' : D = ((2 ^ s : Nat) : Int) := by rw [← hD]; simp
  subst hD'
  rw [bits_or_u64_nat A B (by omega) (by omega)]
  have hA : A = 2 ^ s * K := by have := hk; rw [← Int.natCast_mul] at this; omega
  rw [nat_join s A B (by rw [hA]; exact Nat.mul_mod_right _ _) (by omega)]
  omega
theorem mask_half (x : Int) (h0 : 0 ≤ x) (h1 : x ≤ 18446744073709551615) : bits .and .u64 x 4294967295 = x % 4294967296 := by
  obtain ⟨X, rfl⟩ := Int.eq_ofNat_of_zero_le h0
  rw [mask32 X (by omega)]
  omega
end Qn

namespace Qn
/-- The names of what the division works with, and what is known of them. -/
structure DivNames (h l y D E Y Y1 Y0 U L u1 u0 : Int) : Prop where
  a1 : y * D = Y
  a2 : Y / 4294967296 = Y1
  a3 : bits .and .u64 Y 4294967295 = Y0
  a5 : bits .or .u64 (IntKind.u64.wrap (h * D)) (l / E) = U
  a6 : IntKind.u64.wrap (l * D) = L
  a7 : L / 4294967296 = u1
  a8 : bits .and .u64 L 4294967295 = u0
  y1l : 2147483648 ≤ Y1
  y1h : Y1 < 4294967296
  y0l : 0 ≤ Y0
  y0h : Y0 < 4294967296
  yy : Y = Y1 * 4294967296 + Y0
  ul : 0 ≤ U
  uh : U < Y
  ll : 0 ≤ L
  lh : L < 18446744073709551616
  u1l : 0 ≤ u1
  u1h : u1 < 4294967296
  u0l : 0 ≤ u0
  u0h : u0 < 4294967296
  lu : L = u1 * 4294967296 + u0
  qq : (U * 18446744073709551616 + L) / Y = (h * 18446744073709551616 + l) / y
  rr : (U * 18446744073709551616 + L) % Y / D = (h * 18446744073709551616 + l) % y

theorem div_names (h l y D E : Int) (s t : Nat) (h0 : 0 ≤ h) (h1 : h < y) (l0 : 0 ≤ l) (l1 : l ≤ 18446744073709551615) (hst : s + t = 64) (hD : (2 : Int) ^ s = D) (hE : (2 : Int) ^ t = E) (e3 : 9223372036854775808 ≤ y * D) (e4 : y * D < 18446744073709551616) :
    ∃ Y Y1 Y0 U L u1 u0, DivNames h l y D E Y Y1 Y0 U L u1 u0 := by
  have hD0 : 0 < D := by rw [← hD]; exact Int.pow_pos (by omega)
  have hE0 : 0 < E := by rw [← hE]; exact Int.pow_pos (by omega)
  have hDE : D * E = 18446744073709551616 := by rw [← hD, ← hE, ← Int.pow_add, hst]; rfl
  have hDW : D ≤ 18446744073709551616 := by
    have : D * 1 ≤ D * E := Int.mul_le_mul_of_nonneg_left (by omega) (by omega)
    omega
  have hhD : h * D + D ≤ y * D := by
    have : (h + 1) * D ≤ y * D := Int.mul_le_mul_of_nonneg_right (by omega) (by omega)
    rw [Int.add_mul, Int.one_mul] at this
    exact this
  have hhD0 : 0 ≤ h * D := Int.mul_nonneg h0 (by omega)
  have hle0 : 0 ≤ l / E := Int.ediv_nonneg l0 (by omega)
  have hle1 : l / E < D := Int.ediv_lt_of_lt_mul hE0 (by rw [hDE]; omega)
  have hw : IntKind.u64.wrap (h * D) = h * D := by rw [IntKind.wrap_u64]; omega
  have hor : bits .or .u64 (IntKind.u64.wrap (h * D)) (l / E) = h * D + l / E := by
    rw [hw]
    exact or_up _ _ D s hD hle0 hle1 hhD0 (by omega) hDW ⟨h, h0, Int.mul_comm _ _⟩
  have hL : IntKind.u64.wrap (l * D) = l * D % 18446744073709551616 := by rw [IntKind.wrap_u64]
  have hL0 : 0 ≤ l * D % 18446744073709551616 := by omega
  have hL1 : l * D % 18446744073709551616 < 18446744073709551616 := by omega
  obtain ⟨k1, k2⟩ := shifted (h := h) (l := l) (y := y) (U := h * D + l / E) (L := l * D % 18446744073709551616) (by omega) hD0 hE0 hDE l0 rfl rfl
  generalize hLn : l * D % 18446744073709551616 = L at *
  generalize hYn : y * D = Y at *
  exact ⟨Y, Y / 4294967296, Y % 4294967296, h * D + l / E, L, L / 4294967296, L % 4294967296, { a1 := hYn, a2 := rfl, a3 := mask_half Y (by omega) (by omega), a5 := hor, a6 := hL, a7 := rfl, a8 := mask_half L hL0 (by omega), y1l := by omega, y1h := by omega, y0l := by omega, y0h := by omega, yy := by omega, ul := by omega, uh := by omega, ll := hL0, lh := hL1, u1l := by omega, u1h := by omega, u0l := by omega, u0h := by omega, lu := by omega, qq := k1, rr := k2 }⟩
end Qn

end Go.Proofs.Ytbdcbobmfkdalaa

/-
  The quotient of a product, rounded.
-/
set_option linter.unusedSimpArgs false
set_option linter.unusedVariables false
namespace Go.Proofs.Ytbdcbobmfkdalaa
open Go.RowKit Qn

namespace Qn
theorem quo_words {n c : Int} (h0 : 0 ≤ n) (h1 : n < 340282366920938463463374607431768211456) (hc : 0 < c) (hc1 : c ≤ 18446744073709551615) :
    (mi n % c * 18446744073709551616 + lo n) / c = lo (n / c) ∧ mi n / c = mi (n / c) ∧ (0 : Int) = hi (n / c) ∧ (mi n % c * 18446744073709551616 + lo n) % c = n % c := by
  have hn : n = mi n * 18446744073709551616 + lo n := by unfold mi lo; omega
  have hm0 := (mi_bd n).1
  have hm1 := (mi_bd n).2
  have hl0 := (lo_bd n).1
  have hl1 := (lo_bd n).2
  generalize hM : mi n = M at *
  generalize hL : lo n = L at *
  have hd := Int.emod_add_mul_ediv M c
  have he0 := Int.emod_nonneg M (show c ≠ 0 by omega)
  have he1 := Int.emod_lt_of_pos M hc
  have e : n = M % c * 18446744073709551616 + L + c * (M / c * 18446744073709551616) := by
    have h2 : c * (M / c * 18446744073709551616) = c * (M / c) * 18446744073709551616 := by rw [Int.mul_assoc]
    rw [h2]
    omega
  have e1 : n / c = M / c * 18446744073709551616 + (M % c * 18446744073709551616 + L) / c := by
    rw [e, Int.add_mul_ediv_left _ _ (by omega)]; omega
  have e2 : n % c = (M % c * 18446744073709551616 + L) % c := by
    rw [e, Int.add_mul_emod_self_left]
  have f0 : 0 ≤ (M % c * 18446744073709551616 + L) / c := Int.ediv_nonneg (by omega) (by omega)
  have f1 : (M % c * 18446744073709551616 + L) / c < 18446744073709551616 := Int.ediv_lt_of_lt_mul hc (by omega)
  have g0 : 0 ≤ M / c := Int.ediv_nonneg hm0 (by omega)
  have g1 : M / c ≤ M := Int.ediv_le_self _ hm0
  refine ⟨?_, ?_, ?_, e2.symm⟩
  · rw [e1]; unfold lo; omega
  · rw [e1]; unfold mi; omega
  · rw [e1]; unfold hi; omega

theorem rne_if {n d : Int} : rne n d = if n % d < d - n % d ∨ n % d = d - n % d ∧ n / d % 2 = 0 then n / d else n / d + 1 := by
  unfold rne
  by_cases c1 : 2 * (n % d) < d
  · rw [if_pos (Or.inl c1), if_pos (Or.inl (by omega))]
  · by_cases c2 : 2 * (n % d) = d ∧ n / d % 2 = 0
    · rw [if_pos (Or.inr c2), if_pos (Or.inr (by omega))]
    · rw [if_neg (by omega), if_neg (by omega)]
end Qn

end Go.Proofs.Ytbdcbobmfkdalaa

/-
  Add, Sub, Mul, Div, Move and Root of package qnum: exactly, then rounded, then bounded.
-/
set_option linter.unusedSimpArgs false
set_option linter.unusedVariables false
namespace Go.Proofs.Ytbdcbobmfkdalaa
open Go.RowKit Qn
attribute [local go_sem ↓] Go.wp_at_zero Go.wp_at_succ

namespace Qn
theorem in3_of {n : Int} (h0 : -1361129467683753853853498429727072845824 ≤ n) (h1 : n ≤ 1361129467683753853853498429727072845824) : In3 n := by unfold In3; omega
theorem rne_bd {n d : Int} (hd : 0 < d) {A : Int} (h0 : -A ≤ n) (h1 : n ≤ A) (hA : 0 ≤ A) : -A ≤ rne n d ∧ rne n d ≤ A + 1 := by
  have e0 : -A ≤ n / d := by
    refine Int.le_ediv_of_mul_le hd ?_
    have : A * 1 ≤ A * d := Int.mul_le_mul_of_nonneg_left (by omega) hA
    rw [Int.neg_mul]
    omega
  have e1 : n / d ≤ A := by
    have : n / d < A + 1 := Int.ediv_lt_of_lt_mul hd (by
      have : (A + 1) * 1 ≤ (A + 1) * d := Int.mul_le_mul_of_nonneg_left (by omega) (by omega)
      omega)
    omega
  unfold rne
  split <;> omega
theorem pow_pos2 (p : Nat) : (0 : Int) < 2 ^ p := Int.pow_pos (by omega)
theorem pow_le62 {p : Nat} (hp : p ≤ 62) : (2 : Int) ^ p ≤ 4611686018427387904 := by
  have h1 : (2 : Nat) ^ p ≤ 2 ^ 62 := Nat.pow_le_pow_right (by omega) hp
  have h2 : (2 : Int) ^ p = ((2 ^ p : Nat) : Int) := by simp
  omega
theorem mb_nat {p : Nat} (hp : p ≤ 62) : mb (p : Int) = true := by
  unfold mb; rw [decide_eq_true (by omega), decide_eq_true (by omega)]; rfl
end Qn

set_option maxHeartbeats 1000000 in
theorem qadd_any (a b : Int) (w : World) (ha0 : -9223372036854775808 ≤ a) (ha1 : a ≤ 9223372036854775807) (hb0 : -9223372036854775808 ≤ b) (hb1 : b ≤ 9223372036854775807) :
    Calls Try.prog 43 #[.int .i64 a, .int .i64 b] w fun e w' => e = .returned (.tuple #[.int .i64 (clamp (a + b)), .bool (great (a + b))]) ∧ Below w.heap.size w w' := by
  go_enter Try.func43, Try.ntmps43
  go_wp2_with fail
  refine (qof_any a _ ha0 ha1).mono ?_
  rintro e w1 ⟨rfl, k1⟩
  go_wp2_with fail
  refine (qplus_any a b 1 _ hb0 hb1 (by omega) (by omega)).mono ?_
  rintro e w2 ⟨rfl, k2⟩
  rw [Int.mul_one]
  go_wp2_with fail
  refine (bounded_any (a + b) _ (in3_of (by omega) (by omega))).mono ?_
  rintro e w3 ⟨rfl, k3⟩
  go_wp2
  go_ret2
  exact ⟨rfl, below_tr (below_tr k1 k2) k3⟩

namespace Qn
theorem ret_ibn {a b : Int} {c : Bool} (h : a = b) : Ending.returned (.tuple #[.int .i64 a, .bool c, .nilIface]) = .returned (.tuple #[.int .i64 b, .bool c, .nilIface]) := by rw [h]
/-- The sign comes last. -/
def signed (a b n : Int) : Int := if (decide (a < 0) != decide (b < 0)) = true then -n else n
theorem clamp_bd (n : Int) : -4611686018427387903 ≤ clamp n ∧ clamp n ≤ 4611686018427387903 := by unfold clamp; split <;> (try split) <;> omega
theorem abs_bd {a : Int} (h0 : -9223372036854775808 ≤ a) (h1 : a ≤ 9223372036854775807) : 0 ≤ (a.natAbs : Int) ∧ (a.natAbs : Int) ≤ 9223372036854775808 := by omega
end Qn

end Go.Proofs.Ytbdcbobmfkdalaa

/-
  Move of package qnum; and what the laws of layer 3 ask first of all (sure).
-/
set_option linter.unusedSimpArgs false
set_option linter.unusedVariables false
namespace Go.Proofs.Ytbdcbobmfkdalaa
open Go.RowKit Qn

namespace Qn
theorem root_two {r : Int} (h : IsRoot (2 * 2 ^ 2) r) : r = 2 := by
  obtain ⟨h1, h2, h3, h4⟩ := h
  have e : (2 : Int) * 2 ^ 2 = 8 := by decide
  rw [e] at h3 h4
  have l1 : r ≤ 2 := by
    rcases Int.lt_or_le 2 r with k | k
    · have : 3 * 3 ≤ r * r := Int.mul_le_mul (by omega) (by omega) (by omega) (by omega)
      omega
    · exact k
  have l2 : 2 ≤ r := by
    rcases Int.lt_or_le r 2 with k | k
    · have : (r + 1) * (r + 1) ≤ 2 * 2 := Int.mul_le_mul (by omega) (by omega) (by omega) (by omega)
      omega
    · exact k
  omega
end Qn

end Go.Proofs.Ytbdcbobmfkdalaa

/-
  Dot of the package qnum: the sum of products, rounded once, and bounded; or the error.
-/
set_option linter.unusedSimpArgs false
set_option linter.unusedVariables false
namespace Go.Proofs.Ytbdcbobmfkdalaa
open Go.RowKit Qn Dt
attribute [local go_sem ↓] Go.wp_at_zero Go.wp_at_succ

theorem Hid.mkq {p : Prop} (h : p) : Hid p := h

set_option maxRecDepth 20000 in
set_option maxHeartbeats 2000000 in
theorem qdot_any (ao bo : Option Addr) (xa xb : Addr) (n ca cb : Nat) (za zb : Nat → Int) (b : Nat) (w : World) (hn : n ≤ 64) (hao : 0 < n → ao = some xa) (hbo : 0 < n → bo = some xb)
    (hca : ∀ k, k < n → w.cell? (xa.add k) = some (.int .i64 (za k))) (hcb : ∀ k, k < n → w.cell? (xb.add k) = some (.int .i64 (zb k)))
    (ba : ∀ k, -9223372036854775808 ≤ za k ∧ za k ≤ 9223372036854775807) (bb : ∀ k, -9223372036854775808 ≤ zb k ∧ zb k ≤ 9223372036854775807) (hb : b ≤ 62) :
    Calls Try.prog 38 #[.slice ao n ca, .slice bo n cb, .int .i64 b] w fun e w' => e = .returned (.tuple #[.int .i64 (clamp (rne (dk za zb n) (2 ^ b))), .bool (great (rne (dk za zb n) (2 ^ b))), .nilIface]) ∧ Below w.heap.size w w' := by
  have hm := mb_nat hb
  have HAO := Hid.mkq hao
  have HBO := Hid.mkq hbo
  have HCA := Hid.mkq hca
  have HCB := Hid.mkq hcb
  have HBA := Hid.mkq ba
  have HBB := Hid.mkq bb
  have hdk := dk_bd za zb ba bb n
  have HI : Hid (In3 (dk za zb n) ∧ In3 (rne (dk za zb n) (2 ^ b))) := by
    have hB : (0 : Int) < 2 ^ b := Int.pow_pos (by omega)
    have hdl : -5444517870735015415413993718908291383296 ≤ dk za zb n ∧ dk za zb n ≤ 5444517870735015415413993718908291383296 := by omega
    have h3 : (dk za zb n / 2 ^ b) ≤ 5444517870735015415413993718908291383296 ∧ -5444517870735015415413993718908291383296 ≤ dk za zb n / 2 ^ b := by
      constructor
      · refine Int.ediv_le_of_le_mul hB ?_
        have : (5444517870735015415413993718908291383296 : Int) * 1 ≤ 5444517870735015415413993718908291383296 * 2 ^ b := Int.mul_le_mul_of_nonneg_left (by omega) (by omega)
        omega
      · rw [Int.le_ediv_iff_mul_le hB]
        have : (5444517870735015415413993718908291383296 : Int) * 1 ≤ 5444517870735015415413993718908291383296 * 2 ^ b := Int.mul_le_mul_of_nonneg_left (by omega) (by omega)
        rw [Int.neg_mul]
        omega
    refine ⟨by unfold In3; omega, ?_⟩
    unfold In3 rne
    split <;> omega
  obtain ⟨X, hX⟩ : ∃ X, X = rne (dk za zb n) (2 ^ b) := ⟨_, rfl⟩
  rw [← hX]
  have HX := Hid.mkq hX
  clear hao hbo hca hcb ba bb hX hdk
  go_enter Try.func38, Try.ntmps38
  go_wp2_with fail
  refine (mayBe_any (b : Int) _).mono ?_
  rintro e w ⟨rfl, rfl⟩
  rw [hm]
  go_wp2
  go_loopw [31] (fun i wr => ∃ k : Nat, k ≤ n ∧ i = .int .i64 (k : Int) ∧ Row3 wr w.heap.size (lo (dk za zb k)) (mi (dk za zb k)) (hi (dk za zb k)) ∧ Below w.heap.size w wr) (fun i _ => n - (intOf i).toNat)
  case atStart => exact ⟨0, by omega, rfl, row3_new w _ _ _, below_al (Below.refl _ _) _⟩
  case round =>
    obtain ⟨k, hk, rfl, hr, hbel⟩ := hrel
    by_cases h : k < n
    · obtain rfl := HAO.out (by omega)
      obtain rfl := HBO.out (by omega)
      have ca' := keep_cell hbel (HCA.out k h)
      have cb' := keep_cell hbel (HCB.out k h)
      have pa := HBA.out k
      have pb := HBB.out k
      obtain ⟨P, hP⟩ : ∃ P, P = za k := ⟨_, rfl⟩
      obtain ⟨Q, hQ⟩ : ∃ Q, Q = zb k := ⟨_, rfl⟩
      obtain ⟨S, hS⟩ : ∃ S, S = dk za zb k := ⟨_, rfl⟩
      rw [← hP] at ca' pa
      rw [← hQ] at cb' pb
      rw [← hS] at hr
      have HS : Hid (dk za zb (k + 1) = S + P * Q) := by rw [hS, hP, hQ]; rfl
      clear hP hQ hS
      have z0 := hr.c0
      have z1 := hr.c1
      have z2 := hr.c2
      go_wp2
      go_region_with
        (first
          | (go_at_call 46; refine (qplus_any S P Q _ pa.1 pa.2 pb.1 pb.2).mono ?_; rintro e w2 ⟨rfl, hb2⟩; have hr2 := hr.drew.keep hb2; have y0 := hr2.c0; have y1 := hr2.c1; have y2 := hr2.c2; have f0 := hr2.free 0; have f1 := hr2.free 1; have f2 := hr2.free 2))
      all_goals go_wp2
      all_goals go_roundw
      all_goals first
        | (simp [intOf]; omega)
        | exact ⟨k + 1, by omega, by go_num, by rw [HS.out]; exact (((hr2.set0 _).set1 _).set2 _), (((below_tr hbel.drew hb2).setCell (Nat.le_refl _) _).setCell (Nat.le_refl _) _).setCell (Nat.le_refl _) _⟩
        | trace_state
    · obtain rfl : k = n := by omega
      go_wp2_with (first | (refine wpList_load3 rfl (.tmp 9) rfl _ _ _ _ rfl hr ?_) | fail)
      refine (lowered_any (dk za zb k) b _ hb HI.out.1).mono ?_
      rintro e w2 ⟨rfl, hb2⟩
      go_wp2_with fail
      refine (bounded_any _ _ HI.out.2).mono ?_
      rintro e w3 ⟨rfl, hb3⟩
      rw [← HX.out]
      go_wp2
      go_ret3
      exact ⟨rfl, below_tr (below_tr hbel hb2) hb3⟩

set_option maxHeartbeats 1000000 in
theorem qdot_err (ao bo : Option Addr) (n m ca cb : Nat) (b : Int) (w : World) (hn : n ≤ 9223372036854775807) (hmm : m ≤ 9223372036854775807) (h : mb b = false ∨ n ≠ m ∨ 64 < n) :
    Calls Try.prog 38 #[.slice ao n ca, .slice bo m cb, .int .i64 b] w fun e w' => e = .returned (.tuple #[.int .i64 0, .bool false, .iface 50 (.int .i64 1)]) ∧ Below w.heap.size w w' := by
  by_cases h1 : mb b = true
  · by_cases h2 : n = m
    · subst h2
      have h3 : 64 < n := by rcases h with h | h | h <;> simp_all
      go_enter Try.func38, Try.ntmps38
      go_wp2_with fail
      refine (mayBe_any b _).mono ?_
      rintro e w ⟨rfl, rfl⟩
      rw [h1]
      go_wp2
      go_ret3
      exact ⟨rfl, Below.refl _ _⟩
    · have h4 : (((n : Nat) : Int) != ((m : Nat) : Int)) = true := by simp; omega
      go_enter Try.func38, Try.ntmps38
      go_wp2_with fail
      refine (mayBe_any b _).mono ?_
      rintro e w ⟨rfl, rfl⟩
      rw [h1]
      go_wp2
      go_ret3
      exact ⟨rfl, Below.refl _ _⟩
  · have h1 : mb b = false := by simpa using h1
    go_enter Try.func38, Try.ntmps38
    go_wp2_with fail
    refine (mayBe_any b _).mono ?_
    rintro e w ⟨rfl, rfl⟩
    rw [h1]
    go_wp2
    go_ret3
    exact ⟨rfl, Below.refl _ _⟩

end Go.Proofs.Ytbdcbobmfkdalaa
