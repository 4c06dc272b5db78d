/-
  Go's own division of two words by one.
-/
import Derived.Test.YtlomfjacgomhdaaDoorM11
import Derived.Test.YtlomfjacgomhdaaDoorQL
import Derived.Test.YtlomfjacgomhdaaDoorM1
set_option linter.unusedSimpArgs false
set_option linter.unusedVariables false
namespace Go.Proofs.YtlomfjacgomhdaaDoor
open Go.RowKit Qn

set_option maxHeartbeats 400000 in
theorem zeros64_any (x : Int) (w : World) (h0 : 0 < x) (h1 : x ≤ 18446744073709551615) :
    Calls Tryd.prog 46 #[.int .u64 x] w fun e w' => ∃ s : Nat, e = .returned (.int .i64 (s : Int)) ∧ s ≤ 63 ∧ 9223372036854775808 ≤ x * 2 ^ s ∧ x * 2 ^ s < 18446744073709551616 ∧ w' = w := by
  obtain ⟨s, e1, e2, e3, e4⟩ := zeros_spec x.toNat (by omega) (by omega)
  have hx : ((x.toNat : Nat) : Int) = x := by omega
  have hc : x * 2 ^ s = ((x.toNat * 2 ^ s : Nat) : Int) := by rw [Int.natCast_mul, hx, Int.natCast_pow]; rfl
  have e3' : 9223372036854775808 ≤ x * 2 ^ s := by rw [hc]; omega
  have e4' : x * 2 ^ s < 18446744073709551616 := by rw [hc]; omega
  have E1 : Hid (s + Lib.bitLen x.toNat = 64) := e1
  clear e1 e3 e4 hx hc
  go_enter Tryd.func46, Tryd.ntmps46
  go_wp2_with (go_at_call 51; refine (len64_int x _ (by omega) h1).mono ?_; rintro e w' ⟨rfl, rfl⟩)
  go_ret
  refine ⟨s, congrArg Ending.returned (congrArg (Value.int IntKind.i64) ?_), e2, e3', e4', rfl⟩
  have := E1.out
  simp only [wrap64, IntKind.wrap_i64]
  omega

namespace Qn
theorem or_up (a b D : Int) (s : Nat) (hD : (2 : Int) ^ s = D) (hb0 : 0 ≤ b) (hb : b < D) (ha0 : 0 ≤ a) (ha1 : a < 18446744073709551616) (hDW : D ≤ 18446744073709551616) (hk : ∃ k : Int, 0 ≤ k ∧ a = D * k) : bits .or .u64 a b = a + b := by
  obtain ⟨k, hk0, hk⟩ := hk
  obtain ⟨A, rfl⟩ := Int.eq_ofNat_of_zero_le ha0
  obtain ⟨B, rfl⟩ := Int.eq_ofNat_of_zero_le hb0
  obtain ⟨K, rfl⟩ := Int.eq_ofNat_of_zero_le hk0
  have hD' : D = ((2 ^ s : Nat) : Int) := by rw [← hD]; simp
  subst hD'
  rw [bits_or_u64_nat A B (by omega) (by omega)]
  have hA : A = 2 ^ s * K := by have := hk; rw [← Int.natCast_mul] at this; omega
  rw [nat_join s A B (by rw [hA]; exact Nat.mul_mod_right _ _) (by omega)]
  omega
theorem mask_half (x : Int) (h0 : 0 ≤ x) (h1 : x ≤ 18446744073709551615) : bits .and .u64 x 4294967295 = x % 4294967296 := by
  obtain ⟨X, rfl⟩ := Int.eq_ofNat_of_zero_le h0
  rw [mask32 X (by omega)]
  omega
end Qn

namespace Qn
/-- The names of what the division works with, and what is known of them. -/
structure DivNames (h l y D E Y Y1 Y0 U L u1 u0 : Int) : Prop where
  a1 : y * D = Y
  a2 : Y / 4294967296 = Y1
  a3 : bits .and .u64 Y 4294967295 = Y0
  a5 : bits .or .u64 (IntKind.u64.wrap (h * D)) (l / E) = U
  a6 : IntKind.u64.wrap (l * D) = L
  a7 : L / 4294967296 = u1
  a8 : bits .and .u64 L 4294967295 = u0
  y1l : 2147483648 ≤ Y1
  y1h : Y1 < 4294967296
  y0l : 0 ≤ Y0
  y0h : Y0 < 4294967296
  yy : Y = Y1 * 4294967296 + Y0
  ul : 0 ≤ U
  uh : U < Y
  ll : 0 ≤ L
  lh : L < 18446744073709551616
  u1l : 0 ≤ u1
  u1h : u1 < 4294967296
  u0l : 0 ≤ u0
  u0h : u0 < 4294967296
  lu : L = u1 * 4294967296 + u0
  qq : (U * 18446744073709551616 + L) / Y = (h * 18446744073709551616 + l) / y
  rr : (U * 18446744073709551616 + L) % Y / D = (h * 18446744073709551616 + l) % y

theorem div_names (h l y D E : Int) (s t : Nat) (h0 : 0 ≤ h) (h1 : h < y) (l0 : 0 ≤ l) (l1 : l ≤ 18446744073709551615) (hst : s + t = 64) (hD : (2 : Int) ^ s = D) (hE : (2 : Int) ^ t = E) (e3 : 9223372036854775808 ≤ y * D) (e4 : y * D < 18446744073709551616) :
    ∃ Y Y1 Y0 U L u1 u0, DivNames h l y D E Y Y1 Y0 U L u1 u0 := by
  have hD0 : 0 < D := by rw [← hD]; exact Int.pow_pos (by omega)
  have hE0 : 0 < E := by rw [← hE]; exact Int.pow_pos (by omega)
  have hDE : D * E = 18446744073709551616 := by rw [← hD, ← hE, ← Int.pow_add, hst]; rfl
  have hDW : D ≤ 18446744073709551616 := by
    have : D * 1 ≤ D * E := Int.mul_le_mul_of_nonneg_left (by omega) (by omega)
    omega
  have hhD : h * D + D ≤ y * D := by
    have : (h + 1) * D ≤ y * D := Int.mul_le_mul_of_nonneg_right (by omega) (by omega)
    rw [Int.add_mul, Int.one_mul] at this
    exact this
  have hhD0 : 0 ≤ h * D := Int.mul_nonneg h0 (by omega)
  have hle0 : 0 ≤ l / E := Int.ediv_nonneg l0 (by omega)
  have hle1 : l / E < D := Int.ediv_lt_of_lt_mul hE0 (by rw [hDE]; omega)
  have hw : IntKind.u64.wrap (h * D) = h * D := by rw [IntKind.wrap_u64]; omega
  have hor : bits .or .u64 (IntKind.u64.wrap (h * D)) (l / E) = h * D + l / E := by
    rw [hw]
    exact or_up _ _ D s hD hle0 hle1 hhD0 (by omega) hDW ⟨h, h0, Int.mul_comm _ _⟩
  have hL : IntKind.u64.wrap (l * D) = l * D % 18446744073709551616 := by rw [IntKind.wrap_u64]
  have hL0 : 0 ≤ l * D % 18446744073709551616 := by omega
  have hL1 : l * D % 18446744073709551616 < 18446744073709551616 := by omega
  obtain ⟨k1, k2⟩ := shifted (h := h) (l := l) (y := y) (U := h * D + l / E) (L := l * D % 18446744073709551616) (by omega) hD0 hE0 hDE l0 rfl rfl
  generalize hLn : l * D % 18446744073709551616 = L at *
  generalize hYn : y * D = Y at *
  exact ⟨Y, Y / 4294967296, Y % 4294967296, h * D + l / E, L, L / 4294967296, L % 4294967296, { a1 := hYn, a2 := rfl, a3 := mask_half Y (by omega) (by omega), a5 := hor, a6 := hL, a7 := rfl, a8 := mask_half L hL0 (by omega), y1l := by omega, y1h := by omega, y0l := by omega, y0h := by omega, yy := by omega, ul := by omega, uh := by omega, ll := hL0, lh := hL1, u1l := by omega, u1h := by omega, u0l := by omega, u0h := by omega, lu := by omega, qq := k1, rr := k2 }⟩
end Qn

set_option maxHeartbeats 2000000 in
theorem div64_any (h l y : Int) (w : World) (h0 : 0 ≤ h) (h1 : h < y) (l0 : 0 ≤ l) (l1 : l ≤ 18446744073709551615) (y1 : y ≤ 18446744073709551615) :
    Calls Tryd.prog 31 #[.int .u64 h, .int .u64 l, .int .u64 y] w fun e w' => e = .returned (.tuple #[.int .u64 ((h * 18446744073709551616 + l) / y), .int .u64 ((h * 18446744073709551616 + l) % y)]) ∧ ∃ n, w' = w.drewN n := by
  have hy0 : 0 < y := by omega
  have hyb : (y == 0) = false := by simp; omega
  by_cases hz : h = 0
  · subst hz
    go_enter Tryd.func31, Tryd.ntmps31
    go_wp2
    go_quiet (fail)
    go_wp2
    go_ret2
    exact ⟨ret_ii (by rw [Int.zero_mul, Int.zero_add]) (by rw [Int.zero_mul, Int.zero_add]), _, rfl⟩
  · have hzb : (h == 0) = false := by simpa using hz
    go_enter Tryd.func31, Tryd.ntmps31
    go_wp2_with fail
    refine (zeros64_any y _ hy0 y1).mono ?_
    rintro e w' ⟨s, rfl, hs, e3, e4, rfl⟩
    obtain ⟨t, hst⟩ : ∃ t, s + t = 64 := ⟨64 - s, by omega⟩
    obtain ⟨D, hD⟩ : ∃ D, (2 : Int) ^ s = D := ⟨_, rfl⟩
    obtain ⟨E, hE⟩ : ∃ E, (2 : Int) ^ t = E := ⟨_, rfl⟩
    rw [hD] at e3 e4
    have hs0 : (0 : Int) ≤ (s : Int) := by omega
    have hs1 : (s : Int) ≤ 63 := by omega
    have ht0 : (0 : Int) ≤ (t : Int) := by omega
    have ht1 : (t : Int) ≤ 64 := by omega
    have a4 : IntKind.u64.wrap (64 - (s : Int)) = (t : Int) := by rw [IntKind.wrap_u64]; omega
    obtain ⟨Y, Y1, Y0, U, L, u1, u0, N⟩ := div_names h l y D E s t h0 h1 l0 l1 hst hD hE e3 e4
    have HN : Hid (DivNames h l y D E Y Y1 Y0 U L u1 u0) := N
    obtain ⟨a1, a2, a3, a5, a6, a7, a8, y1l, y1h, y0l, y0h, yy, ul, uh, ll, lh, u1l, u1h, u0l, u0h, lu, _, _⟩ := N
    have st1 := dAt_start ul y1l y1h y0l y0h u1l u1h (by omega)
    obtain ⟨q, hq⟩ : ∃ q, U / Y1 = q := ⟨_, rfl⟩
    rw [hq] at st1
    obtain ⟨m, hm⟩ : ∃ m, q * Y1 = m := ⟨_, rfl⟩
    rw [hm] at st1
    have ST : Hid (DAt U Y1 Y0 u1 q (U - m)) := st1
    obtain ⟨b1, b2, b3, b4, _⟩ := st1
    have m0 : 0 ≤ m := by rw [← hm]; exact Int.mul_nonneg b1 (by omega)
    have yyb : 9223372036854775808 ≤ Y := by omega
    have yyc : Y < 18446744073709551616 := by omega
    clear hst b4 e3 e4 yy lu h1 hz
    have uh2 : Hid (U < Y1 * 4294967296 + Y0) := (by have := HN.out.yy; unfold Hid; omega)
    go_wp2
    go_loop [15, 16] (fun a b => ∃ q rh : Int, a = .int .u64 q ∧ b = .int .u64 rh ∧ rh < 4294967296 ∧ Hid (DAt U Y1 Y0 u1 q rh)) (fun a _ => (intOf a).toNat)
    case atStart => exact ⟨q, U - m, by rw [hq], rfl, (by have := Int.emod_lt_of_pos U (show 0 < Y1 by omega); have := Int.emod_add_mul_ediv U Y1; rw [hq, Int.mul_comm, hm] at this; omega), ST⟩
    case round =>
      clear hq hm ST b1 b2 b3 m0
      obtain ⟨q2, rh, rfl, rfl, hrh, hA⟩ := hrel
      have g1 := hA.out.1
      have g2 := hA.out.2.1
      have g3 := hA.out.2.2.1
      obtain ⟨p, hp⟩ : ∃ p, q2 * Y0 = p := ⟨_, rfl⟩
      have hp0 : 0 ≤ p := by rw [← hp]; exact Int.mul_nonneg g1 y0l
      by_cases c1 : 4294967296 ≤ q2
      · have hd : Hid (DAt U Y1 Y0 u1 (q2 - 1) (rh + Y1)) := dAt_down hA.out y1l y0l u1l u1h uh2.out (Or.inl c1)
        by_cases c2 : rh + Y1 < 4294967296
        · go_wp2
          go_round
          case rel => exact ⟨q2 - 1, rh + Y1, rfl, rfl, c2, hd⟩
          case measure => simp [intOf]; omega
        · have hq0 : Hid (q2 - 1 = (U * 4294967296 + u1) / (Y1 * 4294967296 + Y0)) := dAt_done hd.out y1l y0l (dAt_break hd.out (by omega) y0l y0h u1l (by omega))
          obtain ⟨Qv, hqv⟩ : ∃ Qv, q2 - 1 = Qv := ⟨_, rfl⟩
          rw [hqv] at hq0
          have hQ := hq0
          clear hd hq0
          have hQY : Hid (Qv = (U * 4294967296 + u1) / Y) := by unfold Hid; rw [hQ.out, ← HN.out.yy]
          have qb := dig_lt ul uh u1l u1h
          rw [← hQY.out] at qb
          obtain ⟨R, hR⟩ : ∃ R, (U * 4294967296 + u1) % Y = R := ⟨_, rfl⟩
          have R0 : 0 ≤ R := by rw [← hR]; exact Int.emod_nonneg _ (by omega)
          have R1 : R < Y := by rw [← hR]; exact Int.emod_lt_of_pos _ (by omega)
          have f1 : IntKind.u64.wrap (IntKind.u64.wrap (IntKind.u64.wrap (U * 4294967296) + u1) - IntKind.u64.wrap (Qv * Y)) = R := by
            have := dig_rest (un := U) (u1 := u1) (Y := Y) (q := Qv) (by omega) yyc hQY.out
            rw [hR] at this
            simp only [IntKind.wrap_u64]
            omega
          have RY : Hid (R < Y1 * 4294967296 + Y0) := (by have := HN.out.yy; unfold Hid; omega)
          have st2 := dAt_start R0 y1l y1h y0l y0h u0l u0h RY.out
          obtain ⟨z, hz2⟩ : ∃ z, R / Y1 = z := ⟨_, rfl⟩
          rw [hz2] at st2
          obtain ⟨m2, hm2⟩ : ∃ m2, z * Y1 = m2 := ⟨_, rfl⟩
          rw [hm2] at st2
          have ST2 : Hid (DAt R Y1 Y0 u0 z (R - m2)) := st2
          have b1 := st2.1
          have b2 := st2.2.1
          have b3 := st2.2.2.1
          clear st2
          have m0 : 0 ≤ m2 := by rw [← hm2]; exact Int.mul_nonneg b1 (by omega)
          obtain ⟨T, hT⟩ : ∃ T, (R * 4294967296 + u0) % Y = T := ⟨_, rfl⟩
          have T0 : 0 ≤ T := by rw [← hT]; exact Int.emod_nonneg _ (by omega)
          have T1 : T < Y := by rw [← hT]; exact Int.emod_lt_of_pos _ (by omega)
          have HT : Hid ((R * 4294967296 + u0) % Y = T) := hT
          have HRR : Hid ((U * 4294967296 + u1) % Y = R) := hR
          clear hR hT hQ
          go_wp2
          go_loop [18, 16] (fun a b => ∃ q rh : Int, a = .int .u64 q ∧ b = .int .u64 rh ∧ rh < 4294967296 ∧ Hid (DAt R Y1 Y0 u0 q rh)) (fun a _ => (intOf a).toNat)
          case atStart => exact ⟨z, R - m2, by first | rfl | rw [hz2], rfl, (by have := Int.emod_lt_of_pos R (show 0 < Y1 by omega); have := Int.emod_add_mul_ediv R Y1; rw [hz2, Int.mul_comm, hm2] at this; omega), ST2⟩
          case round =>
            clear hz2 hm2 ST2 b1 b2 b3 m0 f1
            have hT := HT.out
            have hR := HRR.out
            obtain ⟨q3, rh3, rfl, rfl, hrh3, hA3⟩ := hrel
            have g1 := hA3.out.1
            have g2 := hA3.out.2.1
            have g3 := hA3.out.2.2.1
            obtain ⟨p, hp⟩ : ∃ p, q3 * Y0 = p := ⟨_, rfl⟩
            have hp0 : 0 ≤ p := by rw [← hp]; exact Int.mul_nonneg g1 y0l
            by_cases c1 : 4294967296 ≤ q3
            · have hd : Hid (DAt R Y1 Y0 u0 (q3 - 1) (rh3 + Y1)) := dAt_down hA3.out y1l y0l u0l u0h RY.out (Or.inl c1)
              by_cases c2 : rh3 + Y1 < 4294967296
              · go_wp2
                go_round
                case rel => exact ⟨q3 - 1, rh3 + Y1, rfl, rfl, c2, hd⟩
                case measure => simp [intOf]; omega
              · have hq0 : Hid (q3 - 1 = (R * 4294967296 + u0) / (Y1 * 4294967296 + Y0)) := dAt_done hd.out y1l y0l (dAt_break hd.out (by omega) y0l y0h u0l (by omega))
                obtain ⟨Zv, hqv⟩ : ∃ Zv, q3 - 1 = Zv := ⟨_, rfl⟩
                rw [hqv] at hq0
                have hZ := hq0
                clear hd hq0
                have hZY : Hid (Zv = (R * 4294967296 + u0) / Y) := by unfold Hid; rw [hZ.out, ← HN.out.yy]
                have zb := dig_lt R0 R1 u0l u0h
                rw [← hZY.out] at zb
                have f2 : IntKind.u64.wrap (IntKind.u64.wrap (IntKind.u64.wrap (R * 4294967296) + u0) - IntKind.u64.wrap (Zv * Y)) = T := by
                  have := dig_rest (un := R) (u1 := u0) (Y := Y) (q := Zv) (by omega) yyc hZY.out
                  rw [hT] at this
                  simp only [IntKind.wrap_u64]
                  omega
                have HF : Hid (Qv * 4294967296 + Zv = (h * 18446744073709551616 + l) / y ∧ T / D = (h * 18446744073709551616 + l) % y) := by
                  unfold Hid
                  rw [← HN.out.qq, ← HN.out.rr]
                  obtain ⟨k1, k2⟩ := two_digits (V := U * 18446744073709551616 + L) (U := U) (u1 := u1) (u0 := u0) (Y := Y) (by omega) (by have := HN.out.lu; omega)
                  rw [hR, hT] at k2
                  rw [hR, ← hZY.out, ← hQY.out] at k1
                  rw [k1, k2]
                  exact ⟨rfl, rfl⟩
                clear hZ hZY hT hR
                go_wp2
                go_ret2
                exact ⟨ret_ii HF.out.1 HF.out.2, 0, rfl⟩

            · have hpW : p ≤ 18446744065119617025 := by
                have : q3 * Y0 ≤ 4294967295 * 4294967295 := Int.mul_le_mul (by omega) (by omega) y0l (by omega)
                omega
              by_cases c3 : 4294967296 * rh3 + u0 < p
              · have hd : Hid (DAt R Y1 Y0 u0 (q3 - 1) (rh3 + Y1)) := dAt_down hA3.out y1l y0l u0l u0h RY.out (Or.inr (by omega))
                have q1 : 1 ≤ q3 := by have := hd.out.1; omega
                by_cases c2 : rh3 + Y1 < 4294967296
                · go_wp2
                  go_round
                  case rel => exact ⟨q3 - 1, rh3 + Y1, rfl, rfl, c2, hd⟩
                  case measure => simp [intOf]; omega
                · have hq0 : Hid (q3 - 1 = (R * 4294967296 + u0) / (Y1 * 4294967296 + Y0)) := dAt_done hd.out y1l y0l (dAt_break hd.out (by omega) y0l y0h u0l (by omega))
                  obtain ⟨Zv, hqv⟩ : ∃ Zv, q3 - 1 = Zv := ⟨_, rfl⟩
                  rw [hqv] at hq0
                  have hZ := hq0
                  clear hd hq0
                  have hZY : Hid (Zv = (R * 4294967296 + u0) / Y) := by unfold Hid; rw [hZ.out, ← HN.out.yy]
                  have zb := dig_lt R0 R1 u0l u0h
                  rw [← hZY.out] at zb
                  have f2 : IntKind.u64.wrap (IntKind.u64.wrap (IntKind.u64.wrap (R * 4294967296) + u0) - IntKind.u64.wrap (Zv * Y)) = T := by
                    have := dig_rest (un := R) (u1 := u0) (Y := Y) (q := Zv) (by omega) yyc hZY.out
                    rw [hT] at this
                    simp only [IntKind.wrap_u64]
                    omega
                  have HF : Hid (Qv * 4294967296 + Zv = (h * 18446744073709551616 + l) / y ∧ T / D = (h * 18446744073709551616 + l) % y) := by
                    unfold Hid
                    rw [← HN.out.qq, ← HN.out.rr]
                    obtain ⟨k1, k2⟩ := two_digits (V := U * 18446744073709551616 + L) (U := U) (u1 := u1) (u0 := u0) (Y := Y) (by omega) (by have := HN.out.lu; omega)
                    rw [hR, hT] at k2
                    rw [hR, ← hZY.out, ← hQY.out] at k1
                    rw [k1, k2]
                    exact ⟨rfl, rfl⟩
                  clear hZ hZY hT hR
                  go_wp2
                  go_ret2
                  exact ⟨ret_ii HF.out.1 HF.out.2, 0, rfl⟩

              · have hZ : Hid (q3 = (R * 4294967296 + u0) / (Y1 * 4294967296 + Y0)) := dAt_done hA3.out y1l y0l (by omega)
                have hZY : Hid (q3 = (R * 4294967296 + u0) / Y) := by unfold Hid; rw [hZ.out, ← HN.out.yy]
                have zb := dig_lt R0 R1 u0l u0h
                rw [← hZY.out] at zb
                have f2 : IntKind.u64.wrap (IntKind.u64.wrap (IntKind.u64.wrap (R * 4294967296) + u0) - IntKind.u64.wrap (q3 * Y)) = T := by
                  have := dig_rest (un := R) (u1 := u0) (Y := Y) (q := q3) (by omega) yyc hZY.out
                  rw [hT] at this
                  simp only [IntKind.wrap_u64]
                  omega
                have HF : Hid (Qv * 4294967296 + q3 = (h * 18446744073709551616 + l) / y ∧ T / D = (h * 18446744073709551616 + l) % y) := by
                  unfold Hid
                  rw [← HN.out.qq, ← HN.out.rr]
                  obtain ⟨k1, k2⟩ := two_digits (V := U * 18446744073709551616 + L) (U := U) (u1 := u1) (u0 := u0) (Y := Y) (by omega) (by have := HN.out.lu; omega)
                  rw [hR, hT] at k2
                  rw [hR, ← hZY.out, ← hQY.out] at k1
                  rw [k1, k2]
                  exact ⟨rfl, rfl⟩
                clear hZ hZY hT hR
                go_wp2
                go_ret2
                exact ⟨ret_ii HF.out.1 HF.out.2, 0, rfl⟩


      · have hpW : p ≤ 18446744065119617025 := by
          have : q2 * Y0 ≤ 4294967295 * 4294967295 := Int.mul_le_mul (by omega) (by omega) y0l (by omega)
          omega
        by_cases c3 : 4294967296 * rh + u1 < p
        · have hd : Hid (DAt U Y1 Y0 u1 (q2 - 1) (rh + Y1)) := dAt_down hA.out y1l y0l u1l u1h uh2.out (Or.inr (by omega))
          have q1 : 1 ≤ q2 := by have := hd.out.1; omega
          by_cases c2 : rh + Y1 < 4294967296
          · go_wp2
            go_round
            case rel => exact ⟨q2 - 1, rh + Y1, rfl, rfl, c2, hd⟩
            case measure => simp [intOf]; omega
          · have hq0 : Hid (q2 - 1 = (U * 4294967296 + u1) / (Y1 * 4294967296 + Y0)) := dAt_done hd.out y1l y0l (dAt_break hd.out (by omega) y0l y0h u1l (by omega))
            obtain ⟨Qv, hqv⟩ : ∃ Qv, q2 - 1 = Qv := ⟨_, rfl⟩
            rw [hqv] at hq0
            have hQ := hq0
            clear hd hq0
            have hQY : Hid (Qv = (U * 4294967296 + u1) / Y) := by unfold Hid; rw [hQ.out, ← HN.out.yy]
            have qb := dig_lt ul uh u1l u1h
            rw [← hQY.out] at qb
            obtain ⟨R, hR⟩ : ∃ R, (U * 4294967296 + u1) % Y = R := ⟨_, rfl⟩
            have R0 : 0 ≤ R := by rw [← hR]; exact Int.emod_nonneg _ (by omega)
            have R1 : R < Y := by rw [← hR]; exact Int.emod_lt_of_pos _ (by omega)
            have f1 : IntKind.u64.wrap (IntKind.u64.wrap (IntKind.u64.wrap (U * 4294967296) + u1) - IntKind.u64.wrap (Qv * Y)) = R := by
              have := dig_rest (un := U) (u1 := u1) (Y := Y) (q := Qv) (by omega) yyc hQY.out
              rw [hR] at this
              simp only [IntKind.wrap_u64]
              omega
            have RY : Hid (R < Y1 * 4294967296 + Y0) := (by have := HN.out.yy; unfold Hid; omega)
            have st2 := dAt_start R0 y1l y1h y0l y0h u0l u0h RY.out
            obtain ⟨z, hz2⟩ : ∃ z, R / Y1 = z := ⟨_, rfl⟩
            rw [hz2] at st2
            obtain ⟨m2, hm2⟩ : ∃ m2, z * Y1 = m2 := ⟨_, rfl⟩
            rw [hm2] at st2
            have ST2 : Hid (DAt R Y1 Y0 u0 z (R - m2)) := st2
            have b1 := st2.1
            have b2 := st2.2.1
            have b3 := st2.2.2.1
            clear st2
            have m0 : 0 ≤ m2 := by rw [← hm2]; exact Int.mul_nonneg b1 (by omega)
            obtain ⟨T, hT⟩ : ∃ T, (R * 4294967296 + u0) % Y = T := ⟨_, rfl⟩
            have T0 : 0 ≤ T := by rw [← hT]; exact Int.emod_nonneg _ (by omega)
            have T1 : T < Y := by rw [← hT]; exact Int.emod_lt_of_pos _ (by omega)
            have HT : Hid ((R * 4294967296 + u0) % Y = T) := hT
            have HRR : Hid ((U * 4294967296 + u1) % Y = R) := hR
            clear hR hT hQ
            go_wp2
            go_loop [18, 16] (fun a b => ∃ q rh : Int, a = .int .u64 q ∧ b = .int .u64 rh ∧ rh < 4294967296 ∧ Hid (DAt R Y1 Y0 u0 q rh)) (fun a _ => (intOf a).toNat)
            case atStart => exact ⟨z, R - m2, by first | rfl | rw [hz2], rfl, (by have := Int.emod_lt_of_pos R (show 0 < Y1 by omega); have := Int.emod_add_mul_ediv R Y1; rw [hz2, Int.mul_comm, hm2] at this; omega), ST2⟩
            case round =>
              clear hz2 hm2 ST2 b1 b2 b3 m0 f1
              have hT := HT.out
              have hR := HRR.out
              obtain ⟨q3, rh3, rfl, rfl, hrh3, hA3⟩ := hrel
              have g1 := hA3.out.1
              have g2 := hA3.out.2.1
              have g3 := hA3.out.2.2.1
              obtain ⟨p, hp⟩ : ∃ p, q3 * Y0 = p := ⟨_, rfl⟩
              have hp0 : 0 ≤ p := by rw [← hp]; exact Int.mul_nonneg g1 y0l
              by_cases c1 : 4294967296 ≤ q3
              · have hd : Hid (DAt R Y1 Y0 u0 (q3 - 1) (rh3 + Y1)) := dAt_down hA3.out y1l y0l u0l u0h RY.out (Or.inl c1)
                by_cases c2 : rh3 + Y1 < 4294967296
                · go_wp2
                  go_round
                  case rel => exact ⟨q3 - 1, rh3 + Y1, rfl, rfl, c2, hd⟩
                  case measure => simp [intOf]; omega
                · have hq0 : Hid (q3 - 1 = (R * 4294967296 + u0) / (Y1 * 4294967296 + Y0)) := dAt_done hd.out y1l y0l (dAt_break hd.out (by omega) y0l y0h u0l (by omega))
                  obtain ⟨Zv, hqv⟩ : ∃ Zv, q3 - 1 = Zv := ⟨_, rfl⟩
                  rw [hqv] at hq0
                  have hZ := hq0
                  clear hd hq0
                  have hZY : Hid (Zv = (R * 4294967296 + u0) / Y) := by unfold Hid; rw [hZ.out, ← HN.out.yy]
                  have zb := dig_lt R0 R1 u0l u0h
                  rw [← hZY.out] at zb
                  have f2 : IntKind.u64.wrap (IntKind.u64.wrap (IntKind.u64.wrap (R * 4294967296) + u0) - IntKind.u64.wrap (Zv * Y)) = T := by
                    have := dig_rest (un := R) (u1 := u0) (Y := Y) (q := Zv) (by omega) yyc hZY.out
                    rw [hT] at this
                    simp only [IntKind.wrap_u64]
                    omega
                  have HF : Hid (Qv * 4294967296 + Zv = (h * 18446744073709551616 + l) / y ∧ T / D = (h * 18446744073709551616 + l) % y) := by
                    unfold Hid
                    rw [← HN.out.qq, ← HN.out.rr]
                    obtain ⟨k1, k2⟩ := two_digits (V := U * 18446744073709551616 + L) (U := U) (u1 := u1) (u0 := u0) (Y := Y) (by omega) (by have := HN.out.lu; omega)
                    rw [hR, hT] at k2
                    rw [hR, ← hZY.out, ← hQY.out] at k1
                    rw [k1, k2]
                    exact ⟨rfl, rfl⟩
                  clear hZ hZY hT hR
                  go_wp2
                  go_ret2
                  exact ⟨ret_ii HF.out.1 HF.out.2, 0, rfl⟩

              · have hpW : p ≤ 18446744065119617025 := by
                  have : q3 * Y0 ≤ 4294967295 * 4294967295 := Int.mul_le_mul (by omega) (by omega) y0l (by omega)
                  omega
                by_cases c3 : 4294967296 * rh3 + u0 < p
                · have hd : Hid (DAt R Y1 Y0 u0 (q3 - 1) (rh3 + Y1)) := dAt_down hA3.out y1l y0l u0l u0h RY.out (Or.inr (by omega))
                  have q1 : 1 ≤ q3 := by have := hd.out.1; omega
                  by_cases c2 : rh3 + Y1 < 4294967296
                  · go_wp2
                    go_round
                    case rel => exact ⟨q3 - 1, rh3 + Y1, rfl, rfl, c2, hd⟩
                    case measure => simp [intOf]; omega
                  · have hq0 : Hid (q3 - 1 = (R * 4294967296 + u0) / (Y1 * 4294967296 + Y0)) := dAt_done hd.out y1l y0l (dAt_break hd.out (by omega) y0l y0h u0l (by omega))
                    obtain ⟨Zv, hqv⟩ : ∃ Zv, q3 - 1 = Zv := ⟨_, rfl⟩
                    rw [hqv] at hq0
                    have hZ := hq0
                    clear hd hq0
                    have hZY : Hid (Zv = (R * 4294967296 + u0) / Y) := by unfold Hid; rw [hZ.out, ← HN.out.yy]
                    have zb := dig_lt R0 R1 u0l u0h
                    rw [← hZY.out] at zb
                    have f2 : IntKind.u64.wrap (IntKind.u64.wrap (IntKind.u64.wrap (R * 4294967296) + u0) - IntKind.u64.wrap (Zv * Y)) = T := by
                      have := dig_rest (un := R) (u1 := u0) (Y := Y) (q := Zv) (by omega) yyc hZY.out
                      rw [hT] at this
                      simp only [IntKind.wrap_u64]
                      omega
                    have HF : Hid (Qv * 4294967296 + Zv = (h * 18446744073709551616 + l) / y ∧ T / D = (h * 18446744073709551616 + l) % y) := by
                      unfold Hid
                      rw [← HN.out.qq, ← HN.out.rr]
                      obtain ⟨k1, k2⟩ := two_digits (V := U * 18446744073709551616 + L) (U := U) (u1 := u1) (u0 := u0) (Y := Y) (by omega) (by have := HN.out.lu; omega)
                      rw [hR, hT] at k2
                      rw [hR, ← hZY.out, ← hQY.out] at k1
                      rw [k1, k2]
                      exact ⟨rfl, rfl⟩
                    clear hZ hZY hT hR
                    go_wp2
                    go_ret2
                    exact ⟨ret_ii HF.out.1 HF.out.2, 0, rfl⟩

                · have hZ : Hid (q3 = (R * 4294967296 + u0) / (Y1 * 4294967296 + Y0)) := dAt_done hA3.out y1l y0l (by omega)
                  have hZY : Hid (q3 = (R * 4294967296 + u0) / Y) := by unfold Hid; rw [hZ.out, ← HN.out.yy]
                  have zb := dig_lt R0 R1 u0l u0h
                  rw [← hZY.out] at zb
                  have f2 : IntKind.u64.wrap (IntKind.u64.wrap (IntKind.u64.wrap (R * 4294967296) + u0) - IntKind.u64.wrap (q3 * Y)) = T := by
                    have := dig_rest (un := R) (u1 := u0) (Y := Y) (q := q3) (by omega) yyc hZY.out
                    rw [hT] at this
                    simp only [IntKind.wrap_u64]
                    omega
                  have HF : Hid (Qv * 4294967296 + q3 = (h * 18446744073709551616 + l) / y ∧ T / D = (h * 18446744073709551616 + l) % y) := by
                    unfold Hid
                    rw [← HN.out.qq, ← HN.out.rr]
                    obtain ⟨k1, k2⟩ := two_digits (V := U * 18446744073709551616 + L) (U := U) (u1 := u1) (u0 := u0) (Y := Y) (by omega) (by have := HN.out.lu; omega)
                    rw [hR, hT] at k2
                    rw [hR, ← hZY.out, ← hQY.out] at k1
                    rw [k1, k2]
                    exact ⟨rfl, rfl⟩
                  clear hZ hZY hT hR
                  go_wp2
                  go_ret2
                  exact ⟨ret_ii HF.out.1 HF.out.2, 0, rfl⟩


        · have hQ : Hid (q2 = (U * 4294967296 + u1) / (Y1 * 4294967296 + Y0)) := dAt_done hA.out y1l y0l (by omega)
          have hQY : Hid (q2 = (U * 4294967296 + u1) / Y) := by unfold Hid; rw [hQ.out, ← HN.out.yy]
          have qb := dig_lt ul uh u1l u1h
          rw [← hQY.out] at qb
          obtain ⟨R, hR⟩ : ∃ R, (U * 4294967296 + u1) % Y = R := ⟨_, rfl⟩
          have R0 : 0 ≤ R := by rw [← hR]; exact Int.emod_nonneg _ (by omega)
          have R1 : R < Y := by rw [← hR]; exact Int.emod_lt_of_pos _ (by omega)
          have f1 : IntKind.u64.wrap (IntKind.u64.wrap (IntKind.u64.wrap (U * 4294967296) + u1) - IntKind.u64.wrap (q2 * Y)) = R := by
            have := dig_rest (un := U) (u1 := u1) (Y := Y) (q := q2) (by omega) yyc hQY.out
            rw [hR] at this
            simp only [IntKind.wrap_u64]
            omega
          have RY : Hid (R < Y1 * 4294967296 + Y0) := (by have := HN.out.yy; unfold Hid; omega)
          have st2 := dAt_start R0 y1l y1h y0l y0h u0l u0h RY.out
          obtain ⟨z, hz2⟩ : ∃ z, R / Y1 = z := ⟨_, rfl⟩
          rw [hz2] at st2
          obtain ⟨m2, hm2⟩ : ∃ m2, z * Y1 = m2 := ⟨_, rfl⟩
          rw [hm2] at st2
          have ST2 : Hid (DAt R Y1 Y0 u0 z (R - m2)) := st2
          have b1 := st2.1
          have b2 := st2.2.1
          have b3 := st2.2.2.1
          clear st2
          have m0 : 0 ≤ m2 := by rw [← hm2]; exact Int.mul_nonneg b1 (by omega)
          obtain ⟨T, hT⟩ : ∃ T, (R * 4294967296 + u0) % Y = T := ⟨_, rfl⟩
          have T0 : 0 ≤ T := by rw [← hT]; exact Int.emod_nonneg _ (by omega)
          have T1 : T < Y := by rw [← hT]; exact Int.emod_lt_of_pos _ (by omega)
          have HT : Hid ((R * 4294967296 + u0) % Y = T) := hT
          have HRR : Hid ((U * 4294967296 + u1) % Y = R) := hR
          clear hR hT hQ
          go_wp2
          go_loop [18, 16] (fun a b => ∃ q rh : Int, a = .int .u64 q ∧ b = .int .u64 rh ∧ rh < 4294967296 ∧ Hid (DAt R Y1 Y0 u0 q rh)) (fun a _ => (intOf a).toNat)
          case atStart => exact ⟨z, R - m2, by first | rfl | rw [hz2], rfl, (by have := Int.emod_lt_of_pos R (show 0 < Y1 by omega); have := Int.emod_add_mul_ediv R Y1; rw [hz2, Int.mul_comm, hm2] at this; omega), ST2⟩
          case round =>
            clear hz2 hm2 ST2 b1 b2 b3 m0 f1
            have hT := HT.out
            have hR := HRR.out
            obtain ⟨q3, rh3, rfl, rfl, hrh3, hA3⟩ := hrel
            have g1 := hA3.out.1
            have g2 := hA3.out.2.1
            have g3 := hA3.out.2.2.1
            obtain ⟨p, hp⟩ : ∃ p, q3 * Y0 = p := ⟨_, rfl⟩
            have hp0 : 0 ≤ p := by rw [← hp]; exact Int.mul_nonneg g1 y0l
            by_cases c1 : 4294967296 ≤ q3
            · have hd : Hid (DAt R Y1 Y0 u0 (q3 - 1) (rh3 + Y1)) := dAt_down hA3.out y1l y0l u0l u0h RY.out (Or.inl c1)
              by_cases c2 : rh3 + Y1 < 4294967296
              · go_wp2
                go_round
                case rel => exact ⟨q3 - 1, rh3 + Y1, rfl, rfl, c2, hd⟩
                case measure => simp [intOf]; omega
              · have hq0 : Hid (q3 - 1 = (R * 4294967296 + u0) / (Y1 * 4294967296 + Y0)) := dAt_done hd.out y1l y0l (dAt_break hd.out (by omega) y0l y0h u0l (by omega))
                obtain ⟨Zv, hqv⟩ : ∃ Zv, q3 - 1 = Zv := ⟨_, rfl⟩
                rw [hqv] at hq0
                have hZ := hq0
                clear hd hq0
                have hZY : Hid (Zv = (R * 4294967296 + u0) / Y) := by unfold Hid; rw [hZ.out, ← HN.out.yy]
                have zb := dig_lt R0 R1 u0l u0h
                rw [← hZY.out] at zb
                have f2 : IntKind.u64.wrap (IntKind.u64.wrap (IntKind.u64.wrap (R * 4294967296) + u0) - IntKind.u64.wrap (Zv * Y)) = T := by
                  have := dig_rest (un := R) (u1 := u0) (Y := Y) (q := Zv) (by omega) yyc hZY.out
                  rw [hT] at this
                  simp only [IntKind.wrap_u64]
                  omega
                have HF : Hid (q2 * 4294967296 + Zv = (h * 18446744073709551616 + l) / y ∧ T / D = (h * 18446744073709551616 + l) % y) := by
                  unfold Hid
                  rw [← HN.out.qq, ← HN.out.rr]
                  obtain ⟨k1, k2⟩ := two_digits (V := U * 18446744073709551616 + L) (U := U) (u1 := u1) (u0 := u0) (Y := Y) (by omega) (by have := HN.out.lu; omega)
                  rw [hR, hT] at k2
                  rw [hR, ← hZY.out, ← hQY.out] at k1
                  rw [k1, k2]
                  exact ⟨rfl, rfl⟩
                clear hZ hZY hT hR
                go_wp2
                go_ret2
                exact ⟨ret_ii HF.out.1 HF.out.2, 0, rfl⟩

            · have hpW : p ≤ 18446744065119617025 := by
                have : q3 * Y0 ≤ 4294967295 * 4294967295 := Int.mul_le_mul (by omega) (by omega) y0l (by omega)
                omega
              by_cases c3 : 4294967296 * rh3 + u0 < p
              · have hd : Hid (DAt R Y1 Y0 u0 (q3 - 1) (rh3 + Y1)) := dAt_down hA3.out y1l y0l u0l u0h RY.out (Or.inr (by omega))
                have q1 : 1 ≤ q3 := by have := hd.out.1; omega
                by_cases c2 : rh3 + Y1 < 4294967296
                · go_wp2
                  go_round
                  case rel => exact ⟨q3 - 1, rh3 + Y1, rfl, rfl, c2, hd⟩
                  case measure => simp [intOf]; omega
                · have hq0 : Hid (q3 - 1 = (R * 4294967296 + u0) / (Y1 * 4294967296 + Y0)) := dAt_done hd.out y1l y0l (dAt_break hd.out (by omega) y0l y0h u0l (by omega))
                  obtain ⟨Zv, hqv⟩ : ∃ Zv, q3 - 1 = Zv := ⟨_, rfl⟩
                  rw [hqv] at hq0
                  have hZ := hq0
                  clear hd hq0
                  have hZY : Hid (Zv = (R * 4294967296 + u0) / Y) := by unfold Hid; rw [hZ.out, ← HN.out.yy]
                  have zb := dig_lt R0 R1 u0l u0h
                  rw [← hZY.out] at zb
                  have f2 : IntKind.u64.wrap (IntKind.u64.wrap (IntKind.u64.wrap (R * 4294967296) + u0) - IntKind.u64.wrap (Zv * Y)) = T := by
                    have := dig_rest (un := R) (u1 := u0) (Y := Y) (q := Zv) (by omega) yyc hZY.out
                    rw [hT] at this
                    simp only [IntKind.wrap_u64]
                    omega
                  have HF : Hid (q2 * 4294967296 + Zv = (h * 18446744073709551616 + l) / y ∧ T / D = (h * 18446744073709551616 + l) % y) := by
                    unfold Hid
                    rw [← HN.out.qq, ← HN.out.rr]
                    obtain ⟨k1, k2⟩ := two_digits (V := U * 18446744073709551616 + L) (U := U) (u1 := u1) (u0 := u0) (Y := Y) (by omega) (by have := HN.out.lu; omega)
                    rw [hR, hT] at k2
                    rw [hR, ← hZY.out, ← hQY.out] at k1
                    rw [k1, k2]
                    exact ⟨rfl, rfl⟩
                  clear hZ hZY hT hR
                  go_wp2
                  go_ret2
                  exact ⟨ret_ii HF.out.1 HF.out.2, 0, rfl⟩

              · have hZ : Hid (q3 = (R * 4294967296 + u0) / (Y1 * 4294967296 + Y0)) := dAt_done hA3.out y1l y0l (by omega)
                have hZY : Hid (q3 = (R * 4294967296 + u0) / Y) := by unfold Hid; rw [hZ.out, ← HN.out.yy]
                have zb := dig_lt R0 R1 u0l u0h
                rw [← hZY.out] at zb
                have f2 : IntKind.u64.wrap (IntKind.u64.wrap (IntKind.u64.wrap (R * 4294967296) + u0) - IntKind.u64.wrap (q3 * Y)) = T := by
                  have := dig_rest (un := R) (u1 := u0) (Y := Y) (q := q3) (by omega) yyc hZY.out
                  rw [hT] at this
                  simp only [IntKind.wrap_u64]
                  omega
                have HF : Hid (q2 * 4294967296 + q3 = (h * 18446744073709551616 + l) / y ∧ T / D = (h * 18446744073709551616 + l) % y) := by
                  unfold Hid
                  rw [← HN.out.qq, ← HN.out.rr]
                  obtain ⟨k1, k2⟩ := two_digits (V := U * 18446744073709551616 + L) (U := U) (u1 := u1) (u0 := u0) (Y := Y) (by omega) (by have := HN.out.lu; omega)
                  rw [hR, hT] at k2
                  rw [hR, ← hZY.out, ← hQY.out] at k1
                  rw [k1, k2]
                  exact ⟨rfl, rfl⟩
                clear hZ hZY hT hR
                go_wp2
                go_ret2
                exact ⟨ret_ii HF.out.1 HF.out.2, 0, rfl⟩



end Go.Proofs.YtlomfjacgomhdaaDoor
