/-
  Go's own division of two words by one.
-/
import Derived.Test.YtnjiilknnlcblaaGreatDoorM11
import Derived.Test.YtnjiilknnlcblaaGreatDoorQL
import Derived.Test.YtnjiilknnlcblaaGreatDoorPure
import Derived.Test.YtnjiilknnlcblaaGreatDoorTgA
import Derived.Test.YtnjiilknnlcblaaGreatDoorM1
import Derived.Laws.BitsAllLaws
import Derived.Deep.RegionWith
set_option linter.unusedSimpArgs false
set_option linter.unusedVariables false
namespace Go.Proofs.YtnjiilknnlcblaaGreatDoor
open Go.RowKit Qn

set_option maxHeartbeats 400000 in
theorem zeros64_any (x : Int) (w : World) (h0 : 0 < x) (h1 : x ≤ 18446744073709551615) :
    Calls Tryz.prog 110 #[.int .u64 x] w fun e w' => ∃ s : Nat, e = .returned (.int .i64 (s : Int)) ∧ s ≤ 63 ∧ 9223372036854775808 ≤ x * 2 ^ s ∧ x * 2 ^ s < 18446744073709551616 ∧ w' = w := by
  obtain ⟨s, e1, e2, e3, e4⟩ := zeros_spec x.toNat (by omega) (by omega)
  have hx : ((x.toNat : Nat) : Int) = x := by omega
  have hc : x * 2 ^ s = ((x.toNat * 2 ^ s : Nat) : Int) := by rw [Int.natCast_mul, hx, Int.natCast_pow]; rfl
  have e3' : 9223372036854775808 ≤ x * 2 ^ s := by rw [hc]; omega
  have e4' : x * 2 ^ s < 18446744073709551616 := by rw [hc]; omega
  have E1 : Hid (s + Lib.bitLen x.toNat = 64) := e1
  clear e1 e3 e4 hx hc
  go_enter Tryz.func110, Tryz.ntmps110
  go_wp2_with (go_at_call 111; refine (len64_int x _ (by omega) h1).mono ?_; rintro e w' ⟨rfl, rfl⟩)
  go_ret
  refine ⟨s, congrArg Ending.returned (congrArg (Value.int IntKind.i64) ?_), e2, e3', e4', rfl⟩
  have := E1.out
  simp only [wrap64, IntKind.wrap_i64]
  omega

namespace Qn
theorem or_up (a b D : Int) (s : Nat) (hD : (2 : Int) ^ s = D) (hb0 : 0 ≤ b) (hb : b < D) (ha0 : 0 ≤ a) (ha1 : a < 18446744073709551616) (hDW : D ≤ 18446744073709551616) (hk : ∃ k : Int, 0 ≤ k ∧ a = D * k) : bits .or .u64 a b = a + b := by
  obtain ⟨k, hk0, hk⟩ := hk
  obtain ⟨A, rfl⟩ := Int.eq_ofNat_of_zero_le ha0
  obtain ⟨B, rfl⟩ := Int.eq_ofNat_of_zero_le hb0
  obtain ⟨K, rfl⟩ := Int.eq_ofNat_of_zero_le hk0
  have hD' : D = ((2 ^ s : Nat) : Int) := by rw [← hD]; simp
  subst hD'
  rw [bits_or_u64_nat A B (by omega) (by omega)]
  have hA : A = 2 ^ s * K := by have := hk; rw [← Int.natCast_mul] at this; omega
  rw [nat_join s A B (by rw [hA]; exact Nat.mul_mod_right _ _) (by omega)]
  omega
theorem mask_half (x : Int) (h0 : 0 ≤ x) (h1 : x ≤ 18446744073709551615) : bits .and .u64 x 4294967295 = x % 4294967296 := by
  obtain ⟨X, rfl⟩ := Int.eq_ofNat_of_zero_le h0
  rw [mask32 X (by omega)]
  omega
end Qn

namespace Qn
/-- The names of what the division works with, and what is known of them. -/
structure DivNames (h l y D E Y Y1 Y0 U L u1 u0 : Int) : Prop where
  a1 : y * D = Y
  a2 : Y / 4294967296 = Y1
  a3 : bits .and .u64 Y 4294967295 = Y0
  a5 : bits .or .u64 (IntKind.u64.wrap (h * D)) (l / E) = U
  a6 : IntKind.u64.wrap (l * D) = L
  a7 : L / 4294967296 = u1
  a8 : bits .and .u64 L 4294967295 = u0
  y1l : 2147483648 ≤ Y1
  y1h : Y1 < 4294967296
  y0l : 0 ≤ Y0
  y0h : Y0 < 4294967296
  yy : Y = Y1 * 4294967296 + Y0
  ul : 0 ≤ U
  uh : U < Y
  ll : 0 ≤ L
  lh : L < 18446744073709551616
  u1l : 0 ≤ u1
  u1h : u1 < 4294967296
  u0l : 0 ≤ u0
  u0h : u0 < 4294967296
  lu : L = u1 * 4294967296 + u0
  qq : (U * 18446744073709551616 + L) / Y = (h * 18446744073709551616 + l) / y
  rr : (U * 18446744073709551616 + L) % Y / D = (h * 18446744073709551616 + l) % y

theorem div_names (h l y D E : Int) (s t : Nat) (h0 : 0 ≤ h) (h1 : h < y) (l0 : 0 ≤ l) (l1 : l ≤ 18446744073709551615) (hst : s + t = 64) (hD : (2 : Int) ^ s = D) (hE : (2 : Int) ^ t = E) (e3 : 9223372036854775808 ≤ y * D) (e4 : y * D < 18446744073709551616) :
    ∃ Y Y1 Y0 U L u1 u0, DivNames h l y D E Y Y1 Y0 U L u1 u0 := by
  have hD0 : 0 < D := by rw [← hD]; exact Int.pow_pos (by omega)
  have hE0 : 0 < E := by rw [← hE]; exact Int.pow_pos (by omega)
  have hDE : D * E = 18446744073709551616 := by rw [← hD, ← hE, ← Int.pow_add, hst]; rfl
  have hDW : D ≤ 18446744073709551616 := by
    have : D * 1 ≤ D * E := Int.mul_le_mul_of_nonneg_left (by omega) (by omega)
    omega
  have hhD : h * D + D ≤ y * D := by
    have : (h + 1) * D ≤ y * D := Int.mul_le_mul_of_nonneg_right (by omega) (by omega)
    rw [Int.add_mul, Int.one_mul] at this
    exact this
  have hhD0 : 0 ≤ h * D := Int.mul_nonneg h0 (by omega)
  have hle0 : 0 ≤ l / E := Int.ediv_nonneg l0 (by omega)
  have hle1 : l / E < D := Int.ediv_lt_of_lt_mul hE0 (by rw [hDE]; omega)
  have hw : IntKind.u64.wrap (h * D) = h * D := by rw [IntKind.wrap_u64]; omega
  have hor : bits .or .u64 (IntKind.u64.wrap (h * D)) (l / E) = h * D + l / E := by
    rw [hw]
    exact or_up _ _ D s hD hle0 hle1 hhD0 (by omega) hDW ⟨h, h0, Int.mul_comm _ _⟩
  have hL : IntKind.u64.wrap (l * D) = l * D % 18446744073709551616 := by rw [IntKind.wrap_u64]
  have hL0 : 0 ≤ l * D % 18446744073709551616 := by omega
  have hL1 : l * D % 18446744073709551616 < 18446744073709551616 := by omega
  obtain ⟨k1, k2⟩ := shifted (h := h) (l := l) (y := y) (U := h * D + l / E) (L := l * D % 18446744073709551616) (by omega) hD0 hE0 hDE l0 rfl rfl
  generalize hLn : l * D % 18446744073709551616 = L at *
  generalize hYn : y * D = Y at *
  exact ⟨Y, Y / 4294967296, Y % 4294967296, h * D + l / E, L, L / 4294967296, L % 4294967296, { a1 := hYn, a2 := rfl, a3 := mask_half Y (by omega) (by omega), a5 := hor, a6 := hL, a7 := rfl, a8 := mask_half L hL0 (by omega), y1l := by omega, y1h := by omega, y0l := by omega, y0h := by omega, yy := by omega, ul := by omega, uh := by omega, ll := hL0, lh := hL1, u1l := by omega, u1h := by omega, u0l := by omega, u0h := by omega, lu := by omega, qq := k1, rr := k2 }⟩
end Qn

set_option maxHeartbeats 2000000 in
theorem div64_any (h l y : Int) (w : World) (h0 : 0 ≤ h) (h1 : h < y) (l0 : 0 ≤ l) (l1 : l ≤ 18446744073709551615) (y1 : y ≤ 18446744073709551615) :
    Calls Tryz.prog 109 #[.int .u64 h, .int .u64 l, .int .u64 y] w fun e w' => e = .returned (.tuple #[.int .u64 ((h * 18446744073709551616 + l) / y), .int .u64 ((h * 18446744073709551616 + l) % y)]) ∧ ∃ n, w' = w.drewN n := by
  have hy0 : 0 < y := by omega
  have hyb : (y == 0) = false := by simp; omega
  by_cases hz : h = 0
  · subst hz
    go_enter Tryz.func109, Tryz.ntmps109
    go_wp2
    go_quiet (fail)
    go_wp2
    go_ret2
    exact ⟨ret_ii (by rw [Int.zero_mul, Int.zero_add]) (by rw [Int.zero_mul, Int.zero_add]), _, rfl⟩
  · have hzb : (h == 0) = false := by simpa using hz
    go_enter Tryz.func109, Tryz.ntmps109
    go_wp2_with fail
    refine (zeros64_any y _ hy0 y1).mono ?_
    rintro e w' ⟨s, rfl, hs, e3, e4, rfl⟩
    obtain ⟨t, hst⟩ : ∃ t, s + t = 64 := ⟨64 - s, by omega⟩
    obtain ⟨D, hD⟩ : ∃ D, (2 : Int) ^ s = D := ⟨_, rfl⟩
    obtain ⟨E, hE⟩ : ∃ E, (2 : Int) ^ t = E := ⟨_, rfl⟩
    rw [hD] at e3 e4
    have hs0 : (0 : Int) ≤ (s : Int) := by omega
    have hs1 : (s : Int) ≤ 63 := by omega
    have ht0 : (0 : Int) ≤ (t : Int) := by omega
    have ht1 : (t : Int) ≤ 64 := by omega
    have a4 : IntKind.u64.wrap (64 - (s : Int)) = (t : Int) := by rw [IntKind.wrap_u64]; omega
    obtain ⟨Y, Y1, Y0, U, L, u1, u0, N⟩ := div_names h l y D E s t h0 h1 l0 l1 hst hD hE e3 e4
    have HN : Hid (DivNames h l y D E Y Y1 Y0 U L u1 u0) := N
    obtain ⟨a1, a2, a3, a5, a6, a7, a8, y1l, y1h, y0l, y0h, yy, ul, uh, ll, lh, u1l, u1h, u0l, u0h, lu, _, _⟩ := N
    have st1 := dAt_start ul y1l y1h y0l y0h u1l u1h (by omega)
    obtain ⟨q, hq⟩ : ∃ q, U / Y1 = q := ⟨_, rfl⟩
    rw [hq] at st1
    obtain ⟨m, hm⟩ : ∃ m, q * Y1 = m := ⟨_, rfl⟩
    rw [hm] at st1
    have ST : Hid (DAt U Y1 Y0 u1 q (U - m)) := st1
    obtain ⟨b1, b2, b3, b4, _⟩ := st1
    have m0 : 0 ≤ m := by rw [← hm]; exact Int.mul_nonneg b1 (by omega)
    have yyb : 9223372036854775808 ≤ Y := by omega
    have yyc : Y < 18446744073709551616 := by omega
    clear hst b4 e3 e4 yy lu h1 hz
    have uh2 : Hid (U < Y1 * 4294967296 + Y0) := (by have := HN.out.yy; unfold Hid; omega)
    go_wp2
    go_loop [15, 16] (fun a b => ∃ q rh : Int, a = .int .u64 q ∧ b = .int .u64 rh ∧ rh < 4294967296 ∧ Hid (DAt U Y1 Y0 u1 q rh)) (fun a _ => (intOf a).toNat)
    case atStart => exact ⟨q, U - m, by rw [hq], rfl, (by have := Int.emod_lt_of_pos U (show 0 < Y1 by omega); have := Int.emod_add_mul_ediv U Y1; rw [hq, Int.mul_comm, hm] at this; omega), ST⟩
    case round =>
      clear hq hm ST b1 b2 b3 m0
      obtain ⟨q2, rh, rfl, rfl, hrh, hA⟩ := hrel
      have g1 := hA.out.1
      have g2 := hA.out.2.1
      have g3 := hA.out.2.2.1
      obtain ⟨p, hp⟩ : ∃ p, q2 * Y0 = p := ⟨_, rfl⟩
      have hp0 : 0 ≤ p := by rw [← hp]; exact Int.mul_nonneg g1 y0l
      by_cases c1 : 4294967296 ≤ q2
      · have hd : Hid (DAt U Y1 Y0 u1 (q2 - 1) (rh + Y1)) := dAt_down hA.out y1l y0l u1l u1h uh2.out (Or.inl c1)
        by_cases c2 : rh + Y1 < 4294967296
        · go_wp2
          go_round
          case rel => exact ⟨q2 - 1, rh + Y1, rfl, rfl, c2, hd⟩
          case measure => simp [intOf]; omega
        · have hq0 : Hid (q2 - 1 = (U * 4294967296 + u1) / (Y1 * 4294967296 + Y0)) := dAt_done hd.out y1l y0l (dAt_break hd.out (by omega) y0l y0h u1l (by omega))
          obtain ⟨Qv, hqv⟩ : ∃ Qv, q2 - 1 = Qv := ⟨_, rfl⟩
          rw [hqv] at hq0
          have hQ := hq0
          clear hd hq0
          have hQY : Hid (Qv = (U * 4294967296 + u1) / Y) := by unfold Hid; rw [hQ.out, ← HN.out.yy]
          have qb := dig_lt ul uh u1l u1h
          rw [← hQY.out] at qb
          obtain ⟨R, hR⟩ : ∃ R, (U * 4294967296 + u1) % Y = R := ⟨_, rfl⟩
          have R0 : 0 ≤ R := by rw [← hR]; exact Int.emod_nonneg _ (by omega)
          have R1 : R < Y := by rw [← hR]; exact Int.emod_lt_of_pos _ (by omega)
          have f1 : IntKind.u64.wrap (IntKind.u64.wrap (IntKind.u64.wrap (U * 4294967296) + u1) - IntKind.u64.wrap (Qv * Y)) = R := by
            have := dig_rest (un := U) (u1 := u1) (Y := Y) (q := Qv) (by omega) yyc hQY.out
            rw [hR] at this
            simp only [IntKind.wrap_u64]
            omega
          have RY : Hid (R < Y1 * 4294967296 + Y0) := (by have := HN.out.yy; unfold Hid; omega)
          have st2 := dAt_start R0 y1l y1h y0l y0h u0l u0h RY.out
          obtain ⟨z, hz2⟩ : ∃ z, R / Y1 = z := ⟨_, rfl⟩
          rw [hz2] at st2
          obtain ⟨m2, hm2⟩ : ∃ m2, z * Y1 = m2 := ⟨_, rfl⟩
          rw [hm2] at st2
          have ST2 : Hid (DAt R Y1 Y0 u0 z (R - m2)) := st2
          have b1 := st2.1
          have b2 := st2.2.1
          have b3 := st2.2.2.1
          clear st2
          have m0 : 0 ≤ m2 := by rw [← hm2]; exact Int.mul_nonneg b1 (by omega)
          obtain ⟨T, hT⟩ : ∃ T, (R * 4294967296 + u0) % Y = T := ⟨_, rfl⟩
          have T0 : 0 ≤ T := by rw [← hT]; exact Int.emod_nonneg _ (by omega)
          have T1 : T < Y := by rw [← hT]; exact Int.emod_lt_of_pos _ (by omega)
          have HT : Hid ((R * 4294967296 + u0) % Y = T) := hT
          have HRR : Hid ((U * 4294967296 + u1) % Y = R) := hR
          clear hR hT hQ
          go_wp2
          go_loop [18, 16] (fun a b => ∃ q rh : Int, a = .int .u64 q ∧ b = .int .u64 rh ∧ rh < 4294967296 ∧ Hid (DAt R Y1 Y0 u0 q rh)) (fun a _ => (intOf a).toNat)
          case atStart => exact ⟨z, R - m2, by first | rfl | rw [hz2], rfl, (by have := Int.emod_lt_of_pos R (show 0 < Y1 by omega); have := Int.emod_add_mul_ediv R Y1; rw [hz2, Int.mul_comm, hm2] at this; omega), ST2⟩
          case round =>
            clear hz2 hm2 ST2 b1 b2 b3 m0 f1
            have hT := HT.out
            have hR := HRR.out
            obtain ⟨q3, rh3, rfl, rfl, hrh3, hA3⟩ := hrel
            have g1 := hA3.out.1
            have g2 := hA3.out.2.1
            have g3 := hA3.out.2.2.1
            obtain ⟨p, hp⟩ : ∃ p, q3 * Y0 = p := ⟨_, rfl⟩
            have hp0 : 0 ≤ p := by rw [← hp]; exact Int.mul_nonneg g1 y0l
            by_cases c1 : 4294967296 ≤ q3
            · have hd : Hid (DAt R Y1 Y0 u0 (q3 - 1) (rh3 + Y1)) := dAt_down hA3.out y1l y0l u0l u0h RY.out (Or.inl c1)
              by_cases c2 : rh3 + Y1 < 4294967296
              · go_wp2
                go_round
                case rel => exact ⟨q3 - 1, rh3 + Y1, rfl, rfl, c2, hd⟩
                case measure => simp [intOf]; omega
              · have hq0 : Hid (q3 - 1 = (R * 4294967296 + u0) / (Y1 * 4294967296 + Y0)) := dAt_done hd.out y1l y0l (dAt_break hd.out (by omega) y0l y0h u0l (by omega))
                obtain ⟨Zv, hqv⟩ : ∃ Zv, q3 - 1 = Zv := ⟨_, rfl⟩
                rw [hqv] at hq0
                have hZ := hq0
                clear hd hq0
                have hZY : Hid (Zv = (R * 4294967296 + u0) / Y) := by unfold Hid; rw [hZ.out, ← HN.out.yy]
                have zb := dig_lt R0 R1 u0l u0h
                rw [← hZY.out] at zb
                have f2 : IntKind.u64.wrap (IntKind.u64.wrap (IntKind.u64.wrap (R * 4294967296) + u0) - IntKind.u64.wrap (Zv * Y)) = T := by
                  have := dig_rest (un := R) (u1 := u0) (Y := Y) (q := Zv) (by omega) yyc hZY.out
                  rw [hT] at this
                  simp only [IntKind.wrap_u64]
                  omega
                have HF : Hid (Qv * 4294967296 + Zv = (h * 18446744073709551616 + l) / y ∧ T / D = (h * 18446744073709551616 + l) % y) := by
                  unfold Hid
                  rw [← HN.out.qq, ← HN.out.rr]
                  obtain ⟨k1, k2⟩ := two_digits (V := U * 18446744073709551616 + L) (U := U) (u1 := u1) (u0 := u0) (Y := Y) (by omega) (by have := HN.out.lu; omega)
                  rw [hR, hT] at k2
                  rw [hR, ← hZY.out, ← hQY.out] at k1
                  rw [k1, k2]
                  exact ⟨rfl, rfl⟩
                clear hZ hZY hT hR
                go_wp2
                go_ret2
                exact ⟨ret_ii HF.out.1 HF.out.2, 0, rfl⟩

            · have hpW : p ≤ 18446744065119617025 := by
                have : q3 * Y0 ≤ 4294967295 * 4294967295 := Int.mul_le_mul (by omega) (by omega) y0l (by omega)
                omega
              by_cases c3 : 4294967296 * rh3 + u0 < p
              · have hd : Hid (DAt R Y1 Y0 u0 (q3 - 1) (rh3 + Y1)) := dAt_down hA3.out y1l y0l u0l u0h RY.out (Or.inr (by omega))
                have q1 : 1 ≤ q3 := by have := hd.out.1; omega
                by_cases c2 : rh3 + Y1 < 4294967296
                · go_wp2
                  go_round
                  case rel => exact ⟨q3 - 1, rh3 + Y1, rfl, rfl, c2, hd⟩
                  case measure => simp [intOf]; omega
                · have hq0 : Hid (q3 - 1 = (R * 4294967296 + u0) / (Y1 * 4294967296 + Y0)) := dAt_done hd.out y1l y0l (dAt_break hd.out (by omega) y0l y0h u0l (by omega))
                  obtain ⟨Zv, hqv⟩ : ∃ Zv, q3 - 1 = Zv := ⟨_, rfl⟩
                  rw [hqv] at hq0
                  have hZ := hq0
                  clear hd hq0
                  have hZY : Hid (Zv = (R * 4294967296 + u0) / Y) := by unfold Hid; rw [hZ.out, ← HN.out.yy]
                  have zb := dig_lt R0 R1 u0l u0h
                  rw [← hZY.out] at zb
                  have f2 : IntKind.u64.wrap (IntKind.u64.wrap (IntKind.u64.wrap (R * 4294967296) + u0) - IntKind.u64.wrap (Zv * Y)) = T := by
                    have := dig_rest (un := R) (u1 := u0) (Y := Y) (q := Zv) (by omega) yyc hZY.out
                    rw [hT] at this
                    simp only [IntKind.wrap_u64]
                    omega
                  have HF : Hid (Qv * 4294967296 + Zv = (h * 18446744073709551616 + l) / y ∧ T / D = (h * 18446744073709551616 + l) % y) := by
                    unfold Hid
                    rw [← HN.out.qq, ← HN.out.rr]
                    obtain ⟨k1, k2⟩ := two_digits (V := U * 18446744073709551616 + L) (U := U) (u1 := u1) (u0 := u0) (Y := Y) (by omega) (by have := HN.out.lu; omega)
                    rw [hR, hT] at k2
                    rw [hR, ← hZY.out, ← hQY.out] at k1
                    rw [k1, k2]
                    exact ⟨rfl, rfl⟩
                  clear hZ hZY hT hR
                  go_wp2
                  go_ret2
                  exact ⟨ret_ii HF.out.1 HF.out.2, 0, rfl⟩

              · have hZ : Hid (q3 = (R * 4294967296 + u0) / (Y1 * 4294967296 + Y0)) := dAt_done hA3.out y1l y0l (by omega)
                have hZY : Hid (q3 = (R * 4294967296 + u0) / Y) := by unfold Hid; rw [hZ.out, ← HN.out.yy]
                have zb := dig_lt R0 R1 u0l u0h
                rw [← hZY.out] at zb
                have f2 : IntKind.u64.wrap (IntKind.u64.wrap (IntKind.u64.wrap (R * 4294967296) + u0) - IntKind.u64.wrap (q3 * Y)) = T := by
                  have := dig_rest (un := R) (u1 := u0) (Y := Y) (q := q3) (by omega) yyc hZY.out
                  rw [hT] at this
                  simp only [IntKind.wrap_u64]
                  omega
                have HF : Hid (Qv * 4294967296 + q3 = (h * 18446744073709551616 + l) / y ∧ T / D = (h * 18446744073709551616 + l) % y) := by
                  unfold Hid
                  rw [← HN.out.qq, ← HN.out.rr]
                  obtain ⟨k1, k2⟩ := two_digits (V := U * 18446744073709551616 + L) (U := U) (u1 := u1) (u0 := u0) (Y := Y) (by omega) (by have := HN.out.lu; omega)
                  rw [hR, hT] at k2
                  rw [hR, ← hZY.out, ← hQY.out] at k1
                  rw [k1, k2]
                  exact ⟨rfl, rfl⟩
                clear hZ hZY hT hR
                go_wp2
                go_ret2
                exact ⟨ret_ii HF.out.1 HF.out.2, 0, rfl⟩


      · have hpW : p ≤ 18446744065119617025 := by
          have : q2 * Y0 ≤ 4294967295 * 4294967295 := Int.mul_le_mul (by omega) (by omega) y0l (by omega)
          omega
        by_cases c3 : 4294967296 * rh + u1 < p
        · have hd : Hid (DAt U Y1 Y0 u1 (q2 - 1) (rh + Y1)) := dAt_down hA.out y1l y0l u1l u1h uh2.out (Or.inr (by omega))
          have q1 : 1 ≤ q2 := by have := hd.out.1; omega
          by_cases c2 : rh + Y1 < 4294967296
          · go_wp2
            go_round
            case rel => exact ⟨q2 - 1, rh + Y1, rfl, rfl, c2, hd⟩
            case measure => simp [intOf]; omega
          · have hq0 : Hid (q2 - 1 = (U * 4294967296 + u1) / (Y1 * 4294967296 + Y0)) := dAt_done hd.out y1l y0l (dAt_break hd.out (by omega) y0l y0h u1l (by omega))
            obtain ⟨Qv, hqv⟩ : ∃ Qv, q2 - 1 = Qv := ⟨_, rfl⟩
            rw [hqv] at hq0
            have hQ := hq0
            clear hd hq0
            have hQY : Hid (Qv = (U * 4294967296 + u1) / Y) := by unfold Hid; rw [hQ.out, ← HN.out.yy]
            have qb := dig_lt ul uh u1l u1h
            rw [← hQY.out] at qb
            obtain ⟨R, hR⟩ : ∃ R, (U * 4294967296 + u1) % Y = R := ⟨_, rfl⟩
            have R0 : 0 ≤ R := by rw [← hR]; exact Int.emod_nonneg _ (by omega)
            have R1 : R < Y := by rw [← hR]; exact Int.emod_lt_of_pos _ (by omega)
            have f1 : IntKind.u64.wrap (IntKind.u64.wrap (IntKind.u64.wrap (U * 4294967296) + u1) - IntKind.u64.wrap (Qv * Y)) = R := by
              have := dig_rest (un := U) (u1 := u1) (Y := Y) (q := Qv) (by omega) yyc hQY.out
              rw [hR] at this
              simp only [IntKind.wrap_u64]
              omega
            have RY : Hid (R < Y1 * 4294967296 + Y0) := (by have := HN.out.yy; unfold Hid; omega)
            have st2 := dAt_start R0 y1l y1h y0l y0h u0l u0h RY.out
            obtain ⟨z, hz2⟩ : ∃ z, R / Y1 = z := ⟨_, rfl⟩
            rw [hz2] at st2
            obtain ⟨m2, hm2⟩ : ∃ m2, z * Y1 = m2 := ⟨_, rfl⟩
            rw [hm2] at st2
            have ST2 : Hid (DAt R Y1 Y0 u0 z (R - m2)) := st2
            have b1 := st2.1
            have b2 := st2.2.1
            have b3 := st2.2.2.1
            clear st2
            have m0 : 0 ≤ m2 := by rw [← hm2]; exact Int.mul_nonneg b1 (by omega)
            obtain ⟨T, hT⟩ : ∃ T, (R * 4294967296 + u0) % Y = T := ⟨_, rfl⟩
            have T0 : 0 ≤ T := by rw [← hT]; exact Int.emod_nonneg _ (by omega)
            have T1 : T < Y := by rw [← hT]; exact Int.emod_lt_of_pos _ (by omega)
            have HT : Hid ((R * 4294967296 + u0) % Y = T) := hT
            have HRR : Hid ((U * 4294967296 + u1) % Y = R) := hR
            clear hR hT hQ
            go_wp2
            go_loop [18, 16] (fun a b => ∃ q rh : Int, a = .int .u64 q ∧ b = .int .u64 rh ∧ rh < 4294967296 ∧ Hid (DAt R Y1 Y0 u0 q rh)) (fun a _ => (intOf a).toNat)
            case atStart => exact ⟨z, R - m2, by first | rfl | rw [hz2], rfl, (by have := Int.emod_lt_of_pos R (show 0 < Y1 by omega); have := Int.emod_add_mul_ediv R Y1; rw [hz2, Int.mul_comm, hm2] at this; omega), ST2⟩
            case round =>
              clear hz2 hm2 ST2 b1 b2 b3 m0 f1
              have hT := HT.out
              have hR := HRR.out
              obtain ⟨q3, rh3, rfl, rfl, hrh3, hA3⟩ := hrel
              have g1 := hA3.out.1
              have g2 := hA3.out.2.1
              have g3 := hA3.out.2.2.1
              obtain ⟨p, hp⟩ : ∃ p, q3 * Y0 = p := ⟨_, rfl⟩
              have hp0 : 0 ≤ p := by rw [← hp]; exact Int.mul_nonneg g1 y0l
              by_cases c1 : 4294967296 ≤ q3
              · have hd : Hid (DAt R Y1 Y0 u0 (q3 - 1) (rh3 + Y1)) := dAt_down hA3.out y1l y0l u0l u0h RY.out (Or.inl c1)
                by_cases c2 : rh3 + Y1 < 4294967296
                · go_wp2
                  go_round
                  case rel => exact ⟨q3 - 1, rh3 + Y1, rfl, rfl, c2, hd⟩
                  case measure => simp [intOf]; omega
                · have hq0 : Hid (q3 - 1 = (R * 4294967296 + u0) / (Y1 * 4294967296 + Y0)) := dAt_done hd.out y1l y0l (dAt_break hd.out (by omega) y0l y0h u0l (by omega))
                  obtain ⟨Zv, hqv⟩ : ∃ Zv, q3 - 1 = Zv := ⟨_, rfl⟩
                  rw [hqv] at hq0
                  have hZ := hq0
                  clear hd hq0
                  have hZY : Hid (Zv = (R * 4294967296 + u0) / Y) := by unfold Hid; rw [hZ.out, ← HN.out.yy]
                  have zb := dig_lt R0 R1 u0l u0h
                  rw [← hZY.out] at zb
                  have f2 : IntKind.u64.wrap (IntKind.u64.wrap (IntKind.u64.wrap (R * 4294967296) + u0) - IntKind.u64.wrap (Zv * Y)) = T := by
                    have := dig_rest (un := R) (u1 := u0) (Y := Y) (q := Zv) (by omega) yyc hZY.out
                    rw [hT] at this
                    simp only [IntKind.wrap_u64]
                    omega
                  have HF : Hid (Qv * 4294967296 + Zv = (h * 18446744073709551616 + l) / y ∧ T / D = (h * 18446744073709551616 + l) % y) := by
                    unfold Hid
                    rw [← HN.out.qq, ← HN.out.rr]
                    obtain ⟨k1, k2⟩ := two_digits (V := U * 18446744073709551616 + L) (U := U) (u1 := u1) (u0 := u0) (Y := Y) (by omega) (by have := HN.out.lu; omega)
                    rw [hR, hT] at k2
                    rw [hR, ← hZY.out, ← hQY.out] at k1
                    rw [k1, k2]
                    exact ⟨rfl, rfl⟩
                  clear hZ hZY hT hR
                  go_wp2
                  go_ret2
                  exact ⟨ret_ii HF.out.1 HF.out.2, 0, rfl⟩

              · have hpW : p ≤ 18446744065119617025 := by
                  have : q3 * Y0 ≤ 4294967295 * 4294967295 := Int.mul_le_mul (by omega) (by omega) y0l (by omega)
                  omega
                by_cases c3 : 4294967296 * rh3 + u0 < p
                · have hd : Hid (DAt R Y1 Y0 u0 (q3 - 1) (rh3 + Y1)) := dAt_down hA3.out y1l y0l u0l u0h RY.out (Or.inr (by omega))
                  have q1 : 1 ≤ q3 := by have := hd.out.1; omega
                  by_cases c2 : rh3 + Y1 < 4294967296
                  · go_wp2
                    go_round
                    case rel => exact ⟨q3 - 1, rh3 + Y1, rfl, rfl, c2, hd⟩
                    case measure => simp [intOf]; omega
                  · have hq0 : Hid (q3 - 1 = (R * 4294967296 + u0) / (Y1 * 4294967296 + Y0)) := dAt_done hd.out y1l y0l (dAt_break hd.out (by omega) y0l y0h u0l (by omega))
                    obtain ⟨Zv, hqv⟩ : ∃ Zv, q3 - 1 = Zv := ⟨_, rfl⟩
                    rw [hqv] at hq0
                    have hZ := hq0
                    clear hd hq0
                    have hZY : Hid (Zv = (R * 4294967296 + u0) / Y) := by unfold Hid; rw [hZ.out, ← HN.out.yy]
                    have zb := dig_lt R0 R1 u0l u0h
                    rw [← hZY.out] at zb
                    have f2 : IntKind.u64.wrap (IntKind.u64.wrap (IntKind.u64.wrap (R * 4294967296) + u0) - IntKind.u64.wrap (Zv * Y)) = T := by
                      have := dig_rest (un := R) (u1 := u0) (Y := Y) (q := Zv) (by omega) yyc hZY.out
                      rw [hT] at this
                      simp only [IntKind.wrap_u64]
                      omega
                    have HF : Hid (Qv * 4294967296 + Zv = (h * 18446744073709551616 + l) / y ∧ T / D = (h * 18446744073709551616 + l) % y) := by
                      unfold Hid
                      rw [← HN.out.qq, ← HN.out.rr]
                      obtain ⟨k1, k2⟩ := two_digits (V := U * 18446744073709551616 + L) (U := U) (u1 := u1) (u0 := u0) (Y := Y) (by omega) (by have := HN.out.lu; omega)
                      rw [hR, hT] at k2
                      rw [hR, ← hZY.out, ← hQY.out] at k1
                      rw [k1, k2]
                      exact ⟨rfl, rfl⟩
                    clear hZ hZY hT hR
                    go_wp2
                    go_ret2
                    exact ⟨ret_ii HF.out.1 HF.out.2, 0, rfl⟩

                · have hZ : Hid (q3 = (R * 4294967296 + u0) / (Y1 * 4294967296 + Y0)) := dAt_done hA3.out y1l y0l (by omega)
                  have hZY : Hid (q3 = (R * 4294967296 + u0) / Y) := by unfold Hid; rw [hZ.out, ← HN.out.yy]
                  have zb := dig_lt R0 R1 u0l u0h
                  rw [← hZY.out] at zb
                  have f2 : IntKind.u64.wrap (IntKind.u64.wrap (IntKind.u64.wrap (R * 4294967296) + u0) - IntKind.u64.wrap (q3 * Y)) = T := by
                    have := dig_rest (un := R) (u1 := u0) (Y := Y) (q := q3) (by omega) yyc hZY.out
                    rw [hT] at this
                    simp only [IntKind.wrap_u64]
                    omega
                  have HF : Hid (Qv * 4294967296 + q3 = (h * 18446744073709551616 + l) / y ∧ T / D = (h * 18446744073709551616 + l) % y) := by
                    unfold Hid
                    rw [← HN.out.qq, ← HN.out.rr]
                    obtain ⟨k1, k2⟩ := two_digits (V := U * 18446744073709551616 + L) (U := U) (u1 := u1) (u0 := u0) (Y := Y) (by omega) (by have := HN.out.lu; omega)
                    rw [hR, hT] at k2
                    rw [hR, ← hZY.out, ← hQY.out] at k1
                    rw [k1, k2]
                    exact ⟨rfl, rfl⟩
                  clear hZ hZY hT hR
                  go_wp2
                  go_ret2
                  exact ⟨ret_ii HF.out.1 HF.out.2, 0, rfl⟩


        · have hQ : Hid (q2 = (U * 4294967296 + u1) / (Y1 * 4294967296 + Y0)) := dAt_done hA.out y1l y0l (by omega)
          have hQY : Hid (q2 = (U * 4294967296 + u1) / Y) := by unfold Hid; rw [hQ.out, ← HN.out.yy]
          have qb := dig_lt ul uh u1l u1h
          rw [← hQY.out] at qb
          obtain ⟨R, hR⟩ : ∃ R, (U * 4294967296 + u1) % Y = R := ⟨_, rfl⟩
          have R0 : 0 ≤ R := by rw [← hR]; exact Int.emod_nonneg _ (by omega)
          have R1 : R < Y := by rw [← hR]; exact Int.emod_lt_of_pos _ (by omega)
          have f1 : IntKind.u64.wrap (IntKind.u64.wrap (IntKind.u64.wrap (U * 4294967296) + u1) - IntKind.u64.wrap (q2 * Y)) = R := by
            have := dig_rest (un := U) (u1 := u1) (Y := Y) (q := q2) (by omega) yyc hQY.out
            rw [hR] at this
            simp only [IntKind.wrap_u64]
            omega
          have RY : Hid (R < Y1 * 4294967296 + Y0) := (by have := HN.out.yy; unfold Hid; omega)
          have st2 := dAt_start R0 y1l y1h y0l y0h u0l u0h RY.out
          obtain ⟨z, hz2⟩ : ∃ z, R / Y1 = z := ⟨_, rfl⟩
          rw [hz2] at st2
          obtain ⟨m2, hm2⟩ : ∃ m2, z * Y1 = m2 := ⟨_, rfl⟩
          rw [hm2] at st2
          have ST2 : Hid (DAt R Y1 Y0 u0 z (R - m2)) := st2
          have b1 := st2.1
          have b2 := st2.2.1
          have b3 := st2.2.2.1
          clear st2
          have m0 : 0 ≤ m2 := by rw [← hm2]; exact Int.mul_nonneg b1 (by omega)
          obtain ⟨T, hT⟩ : ∃ T, (R * 4294967296 + u0) % Y = T := ⟨_, rfl⟩
          have T0 : 0 ≤ T := by rw [← hT]; exact Int.emod_nonneg _ (by omega)
          have T1 : T < Y := by rw [← hT]; exact Int.emod_lt_of_pos _ (by omega)
          have HT : Hid ((R * 4294967296 + u0) % Y = T) := hT
          have HRR : Hid ((U * 4294967296 + u1) % Y = R) := hR
          clear hR hT hQ
          go_wp2
          go_loop [18, 16] (fun a b => ∃ q rh : Int, a = .int .u64 q ∧ b = .int .u64 rh ∧ rh < 4294967296 ∧ Hid (DAt R Y1 Y0 u0 q rh)) (fun a _ => (intOf a).toNat)
          case atStart => exact ⟨z, R - m2, by first | rfl | rw [hz2], rfl, (by have := Int.emod_lt_of_pos R (show 0 < Y1 by omega); have := Int.emod_add_mul_ediv R Y1; rw [hz2, Int.mul_comm, hm2] at this; omega), ST2⟩
          case round =>
            clear hz2 hm2 ST2 b1 b2 b3 m0 f1
            have hT := HT.out
            have hR := HRR.out
            obtain ⟨q3, rh3, rfl, rfl, hrh3, hA3⟩ := hrel
            have g1 := hA3.out.1
            have g2 := hA3.out.2.1
            have g3 := hA3.out.2.2.1
            obtain ⟨p, hp⟩ : ∃ p, q3 * Y0 = p := ⟨_, rfl⟩
            have hp0 : 0 ≤ p := by rw [← hp]; exact Int.mul_nonneg g1 y0l
            by_cases c1 : 4294967296 ≤ q3
            · have hd : Hid (DAt R Y1 Y0 u0 (q3 - 1) (rh3 + Y1)) := dAt_down hA3.out y1l y0l u0l u0h RY.out (Or.inl c1)
              by_cases c2 : rh3 + Y1 < 4294967296
              · go_wp2
                go_round
                case rel => exact ⟨q3 - 1, rh3 + Y1, rfl, rfl, c2, hd⟩
                case measure => simp [intOf]; omega
              · have hq0 : Hid (q3 - 1 = (R * 4294967296 + u0) / (Y1 * 4294967296 + Y0)) := dAt_done hd.out y1l y0l (dAt_break hd.out (by omega) y0l y0h u0l (by omega))
                obtain ⟨Zv, hqv⟩ : ∃ Zv, q3 - 1 = Zv := ⟨_, rfl⟩
                rw [hqv] at hq0
                have hZ := hq0
                clear hd hq0
                have hZY : Hid (Zv = (R * 4294967296 + u0) / Y) := by unfold Hid; rw [hZ.out, ← HN.out.yy]
                have zb := dig_lt R0 R1 u0l u0h
                rw [← hZY.out] at zb
                have f2 : IntKind.u64.wrap (IntKind.u64.wrap (IntKind.u64.wrap (R * 4294967296) + u0) - IntKind.u64.wrap (Zv * Y)) = T := by
                  have := dig_rest (un := R) (u1 := u0) (Y := Y) (q := Zv) (by omega) yyc hZY.out
                  rw [hT] at this
                  simp only [IntKind.wrap_u64]
                  omega
                have HF : Hid (q2 * 4294967296 + Zv = (h * 18446744073709551616 + l) / y ∧ T / D = (h * 18446744073709551616 + l) % y) := by
                  unfold Hid
                  rw [← HN.out.qq, ← HN.out.rr]
                  obtain ⟨k1, k2⟩ := two_digits (V := U * 18446744073709551616 + L) (U := U) (u1 := u1) (u0 := u0) (Y := Y) (by omega) (by have := HN.out.lu; omega)
                  rw [hR, hT] at k2
                  rw [hR, ← hZY.out, ← hQY.out] at k1
                  rw [k1, k2]
                  exact ⟨rfl, rfl⟩
                clear hZ hZY hT hR
                go_wp2
                go_ret2
                exact ⟨ret_ii HF.out.1 HF.out.2, 0, rfl⟩

            · have hpW : p ≤ 18446744065119617025 := by
                have : q3 * Y0 ≤ 4294967295 * 4294967295 := Int.mul_le_mul (by omega) (by omega) y0l (by omega)
                omega
              by_cases c3 : 4294967296 * rh3 + u0 < p
              · have hd : Hid (DAt R Y1 Y0 u0 (q3 - 1) (rh3 + Y1)) := dAt_down hA3.out y1l y0l u0l u0h RY.out (Or.inr (by omega))
                have q1 : 1 ≤ q3 := by have := hd.out.1; omega
                by_cases c2 : rh3 + Y1 < 4294967296
                · go_wp2
                  go_round
                  case rel => exact ⟨q3 - 1, rh3 + Y1, rfl, rfl, c2, hd⟩
                  case measure => simp [intOf]; omega
                · have hq0 : Hid (q3 - 1 = (R * 4294967296 + u0) / (Y1 * 4294967296 + Y0)) := dAt_done hd.out y1l y0l (dAt_break hd.out (by omega) y0l y0h u0l (by omega))
                  obtain ⟨Zv, hqv⟩ : ∃ Zv, q3 - 1 = Zv := ⟨_, rfl⟩
                  rw [hqv] at hq0
                  have hZ := hq0
                  clear hd hq0
                  have hZY : Hid (Zv = (R * 4294967296 + u0) / Y) := by unfold Hid; rw [hZ.out, ← HN.out.yy]
                  have zb := dig_lt R0 R1 u0l u0h
                  rw [← hZY.out] at zb
                  have f2 : IntKind.u64.wrap (IntKind.u64.wrap (IntKind.u64.wrap (R * 4294967296) + u0) - IntKind.u64.wrap (Zv * Y)) = T := by
                    have := dig_rest (un := R) (u1 := u0) (Y := Y) (q := Zv) (by omega) yyc hZY.out
                    rw [hT] at this
                    simp only [IntKind.wrap_u64]
                    omega
                  have HF : Hid (q2 * 4294967296 + Zv = (h * 18446744073709551616 + l) / y ∧ T / D = (h * 18446744073709551616 + l) % y) := by
                    unfold Hid
                    rw [← HN.out.qq, ← HN.out.rr]
                    obtain ⟨k1, k2⟩ := two_digits (V := U * 18446744073709551616 + L) (U := U) (u1 := u1) (u0 := u0) (Y := Y) (by omega) (by have := HN.out.lu; omega)
                    rw [hR, hT] at k2
                    rw [hR, ← hZY.out, ← hQY.out] at k1
                    rw [k1, k2]
                    exact ⟨rfl, rfl⟩
                  clear hZ hZY hT hR
                  go_wp2
                  go_ret2
                  exact ⟨ret_ii HF.out.1 HF.out.2, 0, rfl⟩

              · have hZ : Hid (q3 = (R * 4294967296 + u0) / (Y1 * 4294967296 + Y0)) := dAt_done hA3.out y1l y0l (by omega)
                have hZY : Hid (q3 = (R * 4294967296 + u0) / Y) := by unfold Hid; rw [hZ.out, ← HN.out.yy]
                have zb := dig_lt R0 R1 u0l u0h
                rw [← hZY.out] at zb
                have f2 : IntKind.u64.wrap (IntKind.u64.wrap (IntKind.u64.wrap (R * 4294967296) + u0) - IntKind.u64.wrap (q3 * Y)) = T := by
                  have := dig_rest (un := R) (u1 := u0) (Y := Y) (q := q3) (by omega) yyc hZY.out
                  rw [hT] at this
                  simp only [IntKind.wrap_u64]
                  omega
                have HF : Hid (q2 * 4294967296 + q3 = (h * 18446744073709551616 + l) / y ∧ T / D = (h * 18446744073709551616 + l) % y) := by
                  unfold Hid
                  rw [← HN.out.qq, ← HN.out.rr]
                  obtain ⟨k1, k2⟩ := two_digits (V := U * 18446744073709551616 + L) (U := U) (u1 := u1) (u0 := u0) (Y := Y) (by omega) (by have := HN.out.lu; omega)
                  rw [hR, hT] at k2
                  rw [hR, ← hZY.out, ← hQY.out] at k1
                  rw [k1, k2]
                  exact ⟨rfl, rfl⟩
                clear hZ hZY hT hR
                go_wp2
                go_ret2
                exact ⟨ret_ii HF.out.1 HF.out.2, 0, rfl⟩



end Go.Proofs.YtnjiilknnlcblaaGreatDoor

/-
  The quotient of a product, rounded.
-/
set_option linter.unusedSimpArgs false
set_option linter.unusedVariables false
namespace Go.Proofs.YtnjiilknnlcblaaGreatDoor
open Go.RowKit Qn

namespace Qn
theorem quo_words {n c : Int} (h0 : 0 ≤ n) (h1 : n < 340282366920938463463374607431768211456) (hc : 0 < c) (hc1 : c ≤ 18446744073709551615) :
    (mi n % c * 18446744073709551616 + lo n) / c = lo (n / c) ∧ mi n / c = mi (n / c) ∧ (0 : Int) = hi (n / c) ∧ (mi n % c * 18446744073709551616 + lo n) % c = n % c := by
  have hn : n = mi n * 18446744073709551616 + lo n := by unfold mi lo; omega
  have hm0 := (mi_bd n).1
  have hm1 := (mi_bd n).2
  have hl0 := (lo_bd n).1
  have hl1 := (lo_bd n).2
  generalize hM : mi n = M at *
  generalize hL : lo n = L at *
  have hd := Int.emod_add_mul_ediv M c
  have he0 := Int.emod_nonneg M (show c ≠ 0 by omega)
  have he1 := Int.emod_lt_of_pos M hc
  have e : n = M % c * 18446744073709551616 + L + c * (M / c * 18446744073709551616) := by
    have h2 : c * (M / c * 18446744073709551616) = c * (M / c) * 18446744073709551616 := by rw [Int.mul_assoc]
    rw [h2]
    omega
  have e1 : n / c = M / c * 18446744073709551616 + (M % c * 18446744073709551616 + L) / c := by
    rw [e, Int.add_mul_ediv_left _ _ (by omega)]; omega
  have e2 : n % c = (M % c * 18446744073709551616 + L) % c := by
    rw [e, Int.add_mul_emod_self_left]
  have f0 : 0 ≤ (M % c * 18446744073709551616 + L) / c := Int.ediv_nonneg (by omega) (by omega)
  have f1 : (M % c * 18446744073709551616 + L) / c < 18446744073709551616 := Int.ediv_lt_of_lt_mul hc (by omega)
  have g0 : 0 ≤ M / c := Int.ediv_nonneg hm0 (by omega)
  have g1 : M / c ≤ M := Int.ediv_le_self _ hm0
  refine ⟨?_, ?_, ?_, e2.symm⟩
  · rw [e1]; unfold lo; omega
  · rw [e1]; unfold mi; omega
  · rw [e1]; unfold hi; omega

theorem rne_if {n d : Int} : rne n d = if n % d < d - n % d ∨ n % d = d - n % d ∧ n / d % 2 = 0 then n / d else n / d + 1 := by
  unfold rne
  by_cases c1 : 2 * (n % d) < d
  · rw [if_pos (Or.inl c1), if_pos (Or.inl (by omega))]
  · by_cases c2 : 2 * (n % d) = d ∧ n / d % 2 = 0
    · rw [if_pos (Or.inr c2), if_pos (Or.inr (by omega))]
    · rw [if_neg (by omega), if_neg (by omega)]
end Qn

set_option maxHeartbeats 2000000 in
theorem quotient_any (a b c : Int) (w : World) (ha0 : 0 ≤ a) (ha1 : a ≤ 18446744073709551615) (hb0 : 0 ≤ b) (hb1 : b ≤ 18446744073709551615) (hc0 : 0 < c) (hc1 : c ≤ 18446744073709551615) :
    Calls Tryz.prog 98 #[.int .u64 a, .int .u64 b, .int .u64 c] w fun e w' => e = .returned (.agg #[.int .u64 (lo (rne (a * b) c)), .int .u64 (mi (rne (a * b) c)), .int .u64 (hi (rne (a * b) c))]) ∧ Below w.heap.size w w' := by
  have hp0 : 0 ≤ a * b := Int.mul_nonneg ha0 hb0
  have hp1 : a * b < 340282366920938463463374607431768211456 := by
    have : a * b ≤ 18446744073709551615 * 18446744073709551615 := Int.mul_le_mul ha1 hb1 hb0 (by omega)
    omega
  have HM : Hid (∀ wx, Calls Tryz.prog 107 #[.int .u64 a, .int .u64 b] wx fun e w' => e = .returned (.tuple #[.int .u64 (mi (a * b)), .int .u64 (lo (a * b))]) ∧ w' = wx) := fun wx => mul64_any a b ha0 ha1 hb0 hb1 wx
  generalize a * b = n at *
  obtain ⟨e1, e2, e3, e4⟩ := quo_words hp0 hp1 hc0 hc1
  have hm0 := (mi_bd n).1
  have hm1 := (mi_bd n).2
  have hl0 := (lo_bd n).1
  have hl1 := (lo_bd n).2
  have he0 := Int.emod_nonneg (mi n) (show c ≠ 0 by omega)
  have he1 := Int.emod_lt_of_pos (mi n) hc0
  have hr0 := Int.emod_nonneg n (show c ≠ 0 by omega)
  have hr1 := Int.emod_lt_of_pos n hc0
  have hcb : (c == 0) = false := by simp; omega
  have hw : IntKind.u64.wrap (c - n % c) = c - n % c := by rw [IntKind.wrap_u64]; omega
  have E3 : Hid ((0 : Int) = hi (n / c)) := e3
  clear e3
  go_enter Tryz.func98, Tryz.ntmps98
  go_wp2_with (go_at_call 107; refine (HM.out _).mono ?_; rintro e w' ⟨rfl, rfl⟩)
  go_quiet (fail)
  go_wp2_with fail
  refine (div64_any (mi n % c) (lo n) c _ he0 he1 hl0 hl1 hc1).mono ?_
  rintro e w1 ⟨rfl, nn, rfl⟩
  go_wp2_with fail
  have hR := rounded_any (n / c) (n % c) (c - n % c) ((w.alloc (.cells #[.int .u64 0, .int .u64 0, .int .u64 0] 129)).drewN (nq + nn)) hr0 (by omega) (by omega) (by omega) (rne n c) rne_if
  rw [← E3.out] at hR
  refine hR.mono ?_
  rintro e w2 ⟨rfl, hb⟩
  have S0 := ((row3_new w 0 0 0).drewN (nq + nn)).keep hb
  go_wp2_with (refine wpList_store3 rfl (.tmp 6) (.tmp 39) rfl _ _ _ _ _ _ _ rfl rfl S0 ?_)
  exact bodyPost_ret (v := .agg #[.int .u64 (lo (rne n c)), .int .u64 (mi (rne n c)), .int .u64 (hi (rne n c))]) (results_3 Tryz.results98 _ _ w.heap.size _ _ _ rfl (S0.row _ _ _)) rfl ⟨rfl, below_setRow (below_tr (below_drewN (below_al (Below.refl _ _) _) _) hb) (by omega) _⟩

end Go.Proofs.YtnjiilknnlcblaaGreatDoor

/-
  Add, Sub, Mul, Div, Move and Root of package qnum: exactly, then rounded, then bounded.
-/
set_option linter.unusedSimpArgs false
set_option linter.unusedVariables false
namespace Go.Proofs.YtnjiilknnlcblaaGreatDoor
open Go.RowKit Qn
attribute [local go_sem ↓] Go.wp_at_zero Go.wp_at_succ

namespace Qn
theorem in3_of {n : Int} (h0 : -1361129467683753853853498429727072845824 ≤ n) (h1 : n ≤ 1361129467683753853853498429727072845824) : In3 n := by unfold In3; omega
theorem rne_bd {n d : Int} (hd : 0 < d) {A : Int} (h0 : -A ≤ n) (h1 : n ≤ A) (hA : 0 ≤ A) : -A ≤ rne n d ∧ rne n d ≤ A + 1 := by
  have e0 : -A ≤ n / d := by
    refine Int.le_ediv_of_mul_le hd ?_
    have : A * 1 ≤ A * d := Int.mul_le_mul_of_nonneg_left (by omega) hA
    rw [Int.neg_mul]
    omega
  have e1 : n / d ≤ A := by
    have : n / d < A + 1 := Int.ediv_lt_of_lt_mul hd (by
      have : (A + 1) * 1 ≤ (A + 1) * d := Int.mul_le_mul_of_nonneg_left (by omega) (by omega)
      omega)
    omega
  unfold rne
  split <;> omega
theorem pow_pos2 (p : Nat) : (0 : Int) < 2 ^ p := Int.pow_pos (by omega)
theorem pow_le62 {p : Nat} (hp : p ≤ 62) : (2 : Int) ^ p ≤ 4611686018427387904 := by
  have h1 : (2 : Nat) ^ p ≤ 2 ^ 62 := Nat.pow_le_pow_right (by omega) hp
  have h2 : (2 : Int) ^ p = ((2 ^ p : Nat) : Int) := by simp
  omega
theorem mb_nat {p : Nat} (hp : p ≤ 62) : mb (p : Int) = true := by
  unfold mb; rw [decide_eq_true (by omega), decide_eq_true (by omega)]; rfl
end Qn

set_option maxHeartbeats 1000000 in
theorem qadd_any (a b : Int) (w : World) (ha0 : -9223372036854775808 ≤ a) (ha1 : a ≤ 9223372036854775807) (hb0 : -9223372036854775808 ≤ b) (hb1 : b ≤ 9223372036854775807) :
    Calls Tryz.prog 46 #[.int .i64 a, .int .i64 b] w fun e w' => e = .returned (.tuple #[.int .i64 (clamp (a + b)), .bool (great (a + b))]) ∧ Below w.heap.size w w' := by
  go_enter Tryz.func46, Tryz.ntmps46
  go_wp2_with fail
  refine (qof_any a _ ha0 ha1).mono ?_
  rintro e w1 ⟨rfl, k1⟩
  go_wp2_with fail
  refine (qplus_any a b 1 _ hb0 hb1 (by omega) (by omega)).mono ?_
  rintro e w2 ⟨rfl, k2⟩
  rw [Int.mul_one]
  go_wp2_with fail
  refine (bounded_any (a + b) _ (in3_of (by omega) (by omega))).mono ?_
  rintro e w3 ⟨rfl, k3⟩
  go_wp2
  go_ret2
  exact ⟨rfl, below_tr (below_tr k1 k2) k3⟩

set_option maxHeartbeats 1000000 in
theorem qsub_any (a b : Int) (w : World) (ha0 : -9223372036854775808 ≤ a) (ha1 : a ≤ 9223372036854775807) (hb0 : -9223372036854775808 ≤ b) (hb1 : b ≤ 9223372036854775807) :
    Calls Tryz.prog 76 #[.int .i64 a, .int .i64 b] w fun e w' => e = .returned (.tuple #[.int .i64 (clamp (a - b)), .bool (great (a - b))]) ∧ Below w.heap.size w w' := by
  have hm : a + b * (-1) = a - b := by omega
  go_enter Tryz.func76, Tryz.ntmps76
  go_wp2_with fail
  refine (qof_any a _ ha0 ha1).mono ?_
  rintro e w1 ⟨rfl, k1⟩
  go_wp2_with fail
  refine (qplus_any a b (-1) _ hb0 hb1 (by omega) (by omega)).mono ?_
  rintro e w2 ⟨rfl, k2⟩
  rw [hm]
  go_wp2_with fail
  refine (bounded_any (a - b) _ (in3_of (by omega) (by omega))).mono ?_
  rintro e w3 ⟨rfl, k3⟩
  go_wp2
  go_ret2
  exact ⟨rfl, below_tr (below_tr k1 k2) k3⟩

set_option maxHeartbeats 1000000 in
theorem qmul_any (a b : Int) (p : Nat) (w : World) (ha0 : -9223372036854775808 ≤ a) (ha1 : a ≤ 9223372036854775807) (hb0 : -9223372036854775808 ≤ b) (hb1 : b ≤ 9223372036854775807) (hp : p ≤ 62) :
    Calls Tryz.prog 77 #[.int .i64 a, .int .i64 b, .int .i64 p] w fun e w' => e = .returned (.tuple #[.int .i64 (clamp (rne (a * b) (2 ^ p))), .bool (great (rne (a * b) (2 ^ p))), .nilIface]) ∧ Below w.heap.size w w' := by
  have hm := mb_nat hp
  have bd := mul64_bd ha0 ha1 hb0 hb1
  have HI : Hid (In3 (a * b) ∧ In3 (rne (a * b) (2 ^ p))) := by
    have := rne_bd (pow_pos2 p) (A := 85070591730234615865843651857942052864) bd.1 bd.2 (by omega)
    exact ⟨in3_of (by omega) (by omega), in3_of (by omega) (by omega)⟩
  clear bd
  go_enter Tryz.func77, Tryz.ntmps77
  go_wp2_with fail
  refine (mayBe_any _ _).mono ?_
  rintro e w' ⟨rfl, rfl⟩
  rw [hm]
  go_wp2_with fail
  refine (product_any a b _ ha0 ha1 hb0 hb1).mono ?_
  rintro e w1 ⟨rfl, k1⟩
  go_wp2_with fail
  refine (lowered_any (a * b) p _ hp HI.out.1).mono ?_
  rintro e w2 ⟨rfl, k2⟩
  go_wp2_with fail
  refine (bounded_any _ _ HI.out.2).mono ?_
  rintro e w3 ⟨rfl, k3⟩
  go_wp2
  go_ret3
  exact ⟨rfl, below_tr (below_tr k1 k2) k3⟩

namespace Qn
theorem ret_ibn {a b : Int} {c : Bool} (h : a = b) : Ending.returned (.tuple #[.int .i64 a, .bool c, .nilIface]) = .returned (.tuple #[.int .i64 b, .bool c, .nilIface]) := by rw [h]
/-- The sign comes last. -/
def signed (a b n : Int) : Int := if (decide (a < 0) != decide (b < 0)) = true then -n else n
theorem clamp_bd (n : Int) : -4611686018427387903 ≤ clamp n ∧ clamp n ≤ 4611686018427387903 := by unfold clamp; split <;> (try split) <;> omega
theorem abs_bd {a : Int} (h0 : -9223372036854775808 ≤ a) (h1 : a ≤ 9223372036854775807) : 0 ≤ (a.natAbs : Int) ∧ (a.natAbs : Int) ≤ 9223372036854775808 := by omega
end Qn

set_option maxHeartbeats 2000000 in
theorem qdiv_any (a b : Int) (p : Nat) (w : World) (ha0 : -9223372036854775808 ≤ a) (ha1 : a ≤ 9223372036854775807) (hb0 : -9223372036854775808 ≤ b) (hb1 : b ≤ 9223372036854775807) (hb : b ≠ 0) (hp : p ≤ 62) :
    Calls Tryz.prog 75 #[.int .i64 a, .int .i64 b, .int .i64 p] w fun e w' => e = .returned (.tuple #[.int .i64 (signed a b (clamp (rne ((a.natAbs : Int) * 2 ^ p) b.natAbs))), .bool (great (rne ((a.natAbs : Int) * 2 ^ p) b.natAbs)), .nilIface]) ∧ Below w.heap.size w w' := by
  have hm := mb_nat hp
  have hbb : (b == 0) = false := by simpa using hb
  obtain ⟨D, hD⟩ : ∃ D, (2 : Int) ^ p = D := ⟨_, rfl⟩
  have hD0 : 0 < D := by rw [← hD]; exact pow_pos2 p
  have hD1 : D ≤ 4611686018427387904 := by rw [← hD]; exact pow_le62 hp
  have HA := abs_bd ha0 ha1
  have HB := abs_bd hb0 hb1
  have HB0 : 0 < (b.natAbs : Int) := by omega
  rw [hD]
  have hp0 : (0 : Int) ≤ (p : Int) := by omega
  have hp1 : (p : Int) ≤ 62 := by omega
  have hwD : IntKind.u64.wrap D = D := by rw [IntKind.wrap_u64]; omega
  have SA := fun wx => size_any a wx ha0 ha1
  have SB := fun wx => size_any b wx hb0 hb1
  have HI : Hid (In3 (rne ((a.natAbs : Int) * D) b.natAbs)) := by
    have h2 : (a.natAbs : Int) * D ≤ 9223372036854775808 * 4611686018427387904 := Int.mul_le_mul HA.2 hD1 (by omega) (by omega)
    have h3 : 0 ≤ (a.natAbs : Int) * D := Int.mul_nonneg HA.1 (by omega)
    have := rne_bd HB0 (n := (a.natAbs : Int) * D) (A := 85070591730234615865843651857942052864) (by omega) (by omega) (by omega)
    exact in3_of (by omega) (by omega)
  have HSA : Hid (∀ wx, Calls Tryz.prog 99 #[.int .i64 a] wx fun e w' => e = .returned (.int .u64 (a.natAbs : Int)) ∧ w' = wx) := SA
  have HSB : Hid (∀ wx, Calls Tryz.prog 99 #[.int .i64 b] wx fun e w' => e = .returned (.int .u64 (b.natAbs : Int)) ∧ w' = wx) := SB
  clear SA SB hb
  obtain ⟨x, hx⟩ : ∃ x, (a.natAbs : Int) = x := ⟨_, rfl⟩
  obtain ⟨y, hy⟩ : ∃ y, (b.natAbs : Int) = y := ⟨_, rfl⟩
  rw [hx] at HA HSA HI ⊢
  rw [hy] at HB HB0 HSB HI ⊢
  clear hx hy
  have cb := clamp_bd (rne (x * D) y)
  by_cases sa : a < 0 <;> by_cases sb : b < 0
  · have da : decide (a < 0) = true := decide_eq_true sa
    have db : decide (b < 0) = true := decide_eq_true sb
    have HS : Hid (∀ n : Int, signed a b n = n) := fun n => by unfold signed; rw [da, db]; rfl
    go_enter Tryz.func75, Tryz.ntmps75
    go_wp2_with fail
    refine (mayBe_any _ _).mono ?_
    rintro e w' ⟨rfl, rfl⟩
    rw [hm]
    go_wp2_with fail
    go_region_held3 (fun _ => True) (trivial) (first | (go_at_call_of 99 (Value.int IntKind.i64 a); refine (HSA.out _).mono ?_; rintro e w' ⟨rfl, rfl⟩) | (go_at_call_of 99 (Value.int IntKind.i64 b); refine (HSB.out _).mono ?_; rintro e w' ⟨rfl, rfl⟩) | (go_at_call 98; refine (quotient_any x D y _ (by omega) (by omega) (by omega) (by omega) (by omega) (by omega)).mono ?_; rintro e w1 ⟨rfl, k1⟩) | (go_at_call 80; refine (bounded_any _ _ HI.out).mono ?_; rintro e w2 ⟨rfl, k2⟩))
    go_wp2
    go_ret3
    exact ⟨ret_ibn (HS.out _).symm, below_tr (below_tr (Below.refl _ _).drew k1) k2⟩
  · have da : decide (a < 0) = true := decide_eq_true sa
    have db : decide (b < 0) = false := decide_eq_false sb
    have HS : Hid (∀ n : Int, signed a b n = -n) := fun n => by unfold signed; rw [da, db]; rfl
    go_enter Tryz.func75, Tryz.ntmps75
    go_wp2_with fail
    refine (mayBe_any _ _).mono ?_
    rintro e w' ⟨rfl, rfl⟩
    rw [hm]
    go_wp2_with fail
    go_region_held3 (fun _ => True) (trivial) (first | (go_at_call_of 99 (Value.int IntKind.i64 a); refine (HSA.out _).mono ?_; rintro e w' ⟨rfl, rfl⟩) | (go_at_call_of 99 (Value.int IntKind.i64 b); refine (HSB.out _).mono ?_; rintro e w' ⟨rfl, rfl⟩) | (go_at_call 98; refine (quotient_any x D y _ (by omega) (by omega) (by omega) (by omega) (by omega) (by omega)).mono ?_; rintro e w1 ⟨rfl, k1⟩) | (go_at_call 80; refine (bounded_any _ _ HI.out).mono ?_; rintro e w2 ⟨rfl, k2⟩))
    go_wp2
    go_ret3
    exact ⟨ret_ibn (HS.out _).symm, below_tr (below_tr (Below.refl _ _).drew k1) k2⟩
  · have da : decide (a < 0) = false := decide_eq_false sa
    have db : decide (b < 0) = true := decide_eq_true sb
    have HS : Hid (∀ n : Int, signed a b n = -n) := fun n => by unfold signed; rw [da, db]; rfl
    go_enter Tryz.func75, Tryz.ntmps75
    go_wp2_with fail
    refine (mayBe_any _ _).mono ?_
    rintro e w' ⟨rfl, rfl⟩
    rw [hm]
    go_wp2_with fail
    go_region_held3 (fun _ => True) (trivial) (first | (go_at_call_of 99 (Value.int IntKind.i64 a); refine (HSA.out _).mono ?_; rintro e w' ⟨rfl, rfl⟩) | (go_at_call_of 99 (Value.int IntKind.i64 b); refine (HSB.out _).mono ?_; rintro e w' ⟨rfl, rfl⟩) | (go_at_call 98; refine (quotient_any x D y _ (by omega) (by omega) (by omega) (by omega) (by omega) (by omega)).mono ?_; rintro e w1 ⟨rfl, k1⟩) | (go_at_call 80; refine (bounded_any _ _ HI.out).mono ?_; rintro e w2 ⟨rfl, k2⟩))
    go_wp2
    go_ret3
    exact ⟨ret_ibn (HS.out _).symm, below_tr (below_tr (Below.refl _ _).drew k1) k2⟩
  · have da : decide (a < 0) = false := decide_eq_false sa
    have db : decide (b < 0) = false := decide_eq_false sb
    have HS : Hid (∀ n : Int, signed a b n = n) := fun n => by unfold signed; rw [da, db]; rfl
    go_enter Tryz.func75, Tryz.ntmps75
    go_wp2_with fail
    refine (mayBe_any _ _).mono ?_
    rintro e w' ⟨rfl, rfl⟩
    rw [hm]
    go_wp2_with fail
    go_region_held3 (fun _ => True) (trivial) (first | (go_at_call_of 99 (Value.int IntKind.i64 a); refine (HSA.out _).mono ?_; rintro e w' ⟨rfl, rfl⟩) | (go_at_call_of 99 (Value.int IntKind.i64 b); refine (HSB.out _).mono ?_; rintro e w' ⟨rfl, rfl⟩) | (go_at_call 98; refine (quotient_any x D y _ (by omega) (by omega) (by omega) (by omega) (by omega) (by omega)).mono ?_; rintro e w1 ⟨rfl, k1⟩) | (go_at_call 80; refine (bounded_any _ _ HI.out).mono ?_; rintro e w2 ⟨rfl, k2⟩))
    go_wp2
    go_ret3
    exact ⟨ret_ibn (HS.out _).symm, below_tr (below_tr (Below.refl _ _).drew k1) k2⟩

end Go.Proofs.YtnjiilknnlcblaaGreatDoor

/-
  Move of package qnum; and what the laws of layer 3 ask first of all (sure).
-/
set_option linter.unusedSimpArgs false
set_option linter.unusedVariables false
namespace Go.Proofs.YtnjiilknnlcblaaGreatDoor
open Go.RowKit Qn

set_option maxHeartbeats 2000000 in
theorem qmove_any (a : Int) (f t : Nat) (w : World) (ha0 : -9223372036854775808 ≤ a) (ha1 : a ≤ 9223372036854775807) (hf : f ≤ 62) (ht : t ≤ 62) :
    Calls Tryz.prog 73 #[.int .i64 a, .int .i64 f, .int .i64 t] w fun e w' => e = .returned (.tuple #[.int .i64 (clamp (rne (a * 2 ^ (t - f)) (2 ^ (f - t)))), .bool (great (rne (a * 2 ^ (t - f)) (2 ^ (f - t)))), .nilIface]) ∧ Below w.heap.size w w' := by
  have hmf := mb_nat hf
  have hmt := mb_nat ht
  obtain ⟨u, hu⟩ : ∃ u : Nat, t - f = u := ⟨_, rfl⟩
  obtain ⟨d, hd⟩ : ∃ d : Nat, f - t = d := ⟨_, rfl⟩
  rw [hu, hd]
  have hu1 : u ≤ 62 := by omega
  have hd1 : d ≤ 62 := by omega
  obtain ⟨U, hU⟩ : ∃ U, (2 : Int) ^ u = U := ⟨_, rfl⟩
  have hU0 : 0 < U := by rw [← hU]; exact pow_pos2 u
  have hU1 : U ≤ 4611686018427387904 := by rw [← hU]; exact pow_le62 hu1
  rw [hU]
  have HI : Hid (In3 (a * U) ∧ In3 (rne (a * U) (2 ^ d))) := by
    have bd := mul64_bd ha0 ha1 (b := U) (by omega) (by omega)
    have := rne_bd (pow_pos2 d) (A := 85070591730234615865843651857942052864) bd.1 bd.2 (by omega)
    exact ⟨in3_of (by omega) (by omega), in3_of (by omega) (by omega)⟩
  have x1 : max ((t : Int) - (f : Int)) 0 = (u : Int) := by omega
  have x2 : max ((f : Int) - (t : Int)) 0 = (d : Int) := by omega
  have hu0 : (0 : Int) ≤ (u : Int) := by omega
  have hu2 : (u : Int) ≤ 62 := by omega
  have hf2 : (f : Int) ≤ 62 := by omega
  have ht2 : (t : Int) ≤ 62 := by omega
  go_enter Tryz.func73, Tryz.ntmps73
  go_wp2_with fail
  refine (mayBe_any _ _).mono ?_
  rintro e w' ⟨rfl, rfl⟩
  rw [hmf]
  go_wp2_with fail
  refine (mayBe_any _ _).mono ?_
  rintro e w' ⟨rfl, rfl⟩
  rw [hmt]
  go_wp2_with fail
  refine (product_any a U _ ha0 ha1 (by omega) (by omega)).mono ?_
  rintro e w1 ⟨rfl, k1⟩
  go_wp2_with fail
  refine (lowered_any (a * U) d _ hd1 HI.out.1).mono ?_
  rintro e w2 ⟨rfl, k2⟩
  go_wp2_with fail
  refine (bounded_any _ _ HI.out.2).mono ?_
  rintro e w3 ⟨rfl, k3⟩
  go_wp2
  go_ret3
  exact ⟨rfl, below_tr (below_tr k1 k2) k3⟩

namespace Qn
theorem root_two {r : Int} (h : IsRoot (2 * 2 ^ 2) r) : r = 2 := by
  obtain ⟨h1, h2, h3, h4⟩ := h
  have e : (2 : Int) * 2 ^ 2 = 8 := by decide
  rw [e] at h3 h4
  have l1 : r ≤ 2 := by
    rcases Int.lt_or_le 2 r with k | k
    · have : 3 * 3 ≤ r * r := Int.mul_le_mul (by omega) (by omega) (by omega) (by omega)
      omega
    · exact k
  have l2 : 2 ≤ r := by
    rcases Int.lt_or_le r 2 with k | k
    · have : (r + 1) * (r + 1) ≤ 2 * 2 := Int.mul_le_mul (by omega) (by omega) (by omega) (by omega)
      omega
    · exact k
  omega
end Qn

end Go.Proofs.YtnjiilknnlcblaaGreatDoor

/-
  The sine and the cosine of a direction: the steps of package trig.
-/
set_option linter.unusedSimpArgs false
set_option linter.unusedVariables false
namespace Go.Proofs.YtnjiilknnlcblaaGreatDoor
open Go.RowKit Tg
attribute [local go_sem ↓] Go.wp_at_zero Go.wp_at_succ

namespace Tg
/-- By two to the power of thirty, rounded, bounded. -/
def rd (n : Int) : Int := Qn.clamp (Qn.rne n 1073741824)
theorem hide {p : Prop} (h : p) : Hid p := h
end Tg

set_option maxHeartbeats 400000 in
theorem moved_any (a : Int) (f : Nat) (w : World) (hf : f = 60 ∨ f = 62) (ha0 : -9223372036854775808 ≤ a) (ha1 : a ≤ 9223372036854775807) :
    Calls Tryz.prog 106 #[.int .i64 a, .int .i64 f, .int .i64 ((f - 30 : Nat) : Int)] w fun e w' => e = .returned (.int .i64 (rd a)) ∧ Below w.heap.size w w' := by
  have hc := qmove_any a f (f - 30)
  have e1 : f - 30 - f = 0 := by omega
  have e2 : f - (f - 30) = 30 := by omega
  rw [e1, e2, Int.pow_zero, Int.mul_one, show (2 : Int) ^ 30 = 1073741824 by decide] at hc
  have HC := hide hc
  clear hc e1 e2
  go_enter Tryz.func106, Tryz.ntmps106
  go_wp2_with fail
  refine (HC.out _ ha0 ha1 (by omega) (by omega)).mono ?_
  rintro e w1 ⟨rfl, k1⟩
  go_wp2
  go_ret
  exact ⟨rfl, k1⟩

theorem moved60 (a : Int) (w : World) (ha0 : -9223372036854775808 ≤ a) (ha1 : a ≤ 9223372036854775807) :
    Calls Tryz.prog 106 #[.int .i64 a, .int .i64 60, .int .i64 30] w fun e w' => e = .returned (.int .i64 (rd a)) ∧ Below w.heap.size w w' := moved_any a 60 w (.inl rfl) ha0 ha1
theorem moved62 (a : Int) (w : World) (ha0 : -9223372036854775808 ≤ a) (ha1 : a ≤ 9223372036854775807) :
    Calls Tryz.prog 106 #[.int .i64 a, .int .i64 62, .int .i64 32] w fun e w' => e = .returned (.int .i64 (rd a)) ∧ Below w.heap.size w w' := moved_any a 62 w (.inr rfl) ha0 ha1

namespace Tg
/-- Where a direction's steps begin. -/
def beg (t : Int) : St := ⟨495056041134655927, 495056041134655927, t % 1073741824 * 1073741824 - 576460752303423488⟩
theorem beg_ok (t : Int) : Ok 0 (beg t) := by
  have : gr 0 = 1152921504606846976 := rfl
  have : zs 0 = 576460752303423488 := rfl
  constructor <;> simp only [beg] <;> omega
theorem and_u32 (t : Int) (h0 : 0 ≤ t) (h1 : t ≤ 4294967295) : bits .and .u32 t 1073741823 = t % 1073741824 := by
  obtain ⟨A, rfl⟩ := Int.eq_ofNat_of_zero_le h0
  have g1 : (BitVec.ofInt 32 (A : Int)).toNat = A := by rw [BitVec.ofInt_natCast, BitVec.toNat_ofNat]; exact Nat.mod_eq_of_lt (by omega)
  have g2 : (BitVec.ofInt 32 1073741823).toNat = 1073741823 := by rfl
  show IntKind.u32.wrap ((BitVec.ofInt 32 (A : Int) &&& BitVec.ofInt 32 1073741823).toNat : Int) = _
  rw [BitVec.toNat_and, g1, g2, show 1073741823 = 2 ^ 30 - 1 by decide, Nat.and_two_pow_sub_one_eq_mod, IntKind.wrap_u32]
  omega
end Tg

set_option maxRecDepth 10000 in
set_option maxHeartbeats 1000000 in
theorem first_any (t : Int) (w : World) (hT : AngTab w) (h0 : 0 ≤ t) (h1 : t ≤ 4294967295) :
    Calls Tryz.prog 92 #[.int .u32 t] w fun e w' => e = .returned (.tuple #[.int .i64 (rd (bst (beg t) 40).y), .int .i64 (rd (bst (beg t) 40).x)]) ∧ Below w.heap.size w w' := by
  have a1 := and_u32 t h0 h1
  go_enter Tryz.func92, Tryz.ntmps92
  go_wp2_with (first | (refine wpList_loadTab rfl _ rfl rfl (hT.below (below_al (Below.refl _ _) _)) ?_))
  go_loopw [5, 15] (fun z i wr => ∃ k : Nat, k ≤ 40 ∧ i = .int .i64 (k : Int) ∧ z = .int .i64 (bst (beg t) k).z ∧ RowP wr w.heap.size (bst (beg t) k).x (bst (beg t) k).y ∧ Below w.heap.size w wr) (fun _ i _ => 40 - (intOf i).toNat)
  case atStart => exact ⟨0, by omega, rfl, rfl, rowP_new w _ _, below_al (Below.refl _ _) _⟩
  case round =>
    obtain ⟨k, hk, rfl, rfl, hP, hbel⟩ := hrel
    have ok := (beg_ok t).bst hk
    have bd := ok.bd hk
    by_cases h40 : k < 40
    · have hidx := fun (w : World) => run_angle w h40
      have ab := ang_bd h40
      have okl := (ok.lf h40).bd (by omega)
      have okr := (ok.rt h40).bd (by omega)
      have hl : 0 ≤ (bst (beg t) k).z → bst (beg t) (k + 1) = lf k (bst (beg t) k) := fun h => if_pos h
      have hr : ¬ 0 ≤ (bst (beg t) k).z → bst (beg t) (k + 1) = rt k (bst (beg t) k) := fun h => if_neg h
      have HL := hide hl
      have HR := hide hr
      clear hl hr ok
      obtain ⟨s, hs⟩ : ∃ s, s = bst (beg t) k := ⟨_, rfl⟩
      rw [← hs] at bd okl okr HL HR hP ⊢
      clear hs
      obtain ⟨x, y, z⟩ := s
      simp only [lf, rt] at okl okr bd HL HR hP ⊢
      by_cases hz : 0 ≤ z
      · go_wp2_with (first | (refine wpList_loadP rfl (.tmp 4) rfl _ _ _ rfl hP ?_))
        refine (anti_any x y k _ (by omega) (by omega) (by omega) (by omega) (by omega)).mono ?_
        rintro e w1 ⟨rfl, k1⟩
        have hP1 := hP.keep k1
        go_wp2_with (first | (refine wpList_storeP rfl (.tmp 4) (.tmp 23) rfl _ _ _ _ _ rfl rfl hP1 ?_))
        go_roundw
        case rel =>
          refine ⟨k + 1, by omega, by go_num, ?_, ?_, belowRow (below_tr hbel k1) (Nat.le_refl _) _⟩
          · rw [HL.out hz]
          · rw [HL.out hz]; exact hP1.row _ _
        case measure => simp [intOf]; omega
      · go_wp2_with (first | (refine wpList_loadP rfl (.tmp 4) rfl _ _ _ rfl hP ?_))
        refine (clock_any x y k _ (by omega) (by omega) (by omega) (by omega) (by omega)).mono ?_
        rintro e w1 ⟨rfl, k1⟩
        have hP1 := hP.keep k1
        go_wp2_with (first | (refine wpList_storeP rfl (.tmp 4) (.tmp 29) rfl _ _ _ _ _ rfl rfl hP1 ?_))
        go_roundw
        case rel =>
          refine ⟨k + 1, by omega, by go_num, ?_, ?_, belowRow (below_tr hbel k1) (Nat.le_refl _) _⟩
          · rw [HR.out hz]
          · rw [HR.out hz]; exact hP1.row _ _
        case measure => simp [intOf]; omega
    · obtain rfl : k = 40 := by omega
      obtain ⟨x, hx⟩ : ∃ x, x = (bst (beg t) 40).x := ⟨_, rfl⟩
      obtain ⟨y, hy⟩ : ∃ y, y = (bst (beg t) 40).y := ⟨_, rfl⟩
      rw [← hx, ← hy] at bd hP
      have c0 := hP.c0
      have c1 := hP.c1
      have HX := hide hx
      have HY := hide hy
      clear hx hy
      go_wp2
      go_region_with (go_at_call 106; refine (moved60 _ _ (by omega) (by omega)).mono ?_; rintro e w1 ⟨rfl, hb⟩; (try (have hc := keep_cell hb c0; have hd := keep_cell hb c1)))
      all_goals go_wp2
      all_goals go_ret2
      all_goals (rw [HX.out, HY.out]; exact ⟨rfl, below_tr (below_tr hbel.drew ‹Below wr.drew.heap.size wr.drew _›) hb⟩)

namespace Tg
/-- The sine and the cosine. -/
def sn (t : Int) : Int := rd (bst (beg t) 40).y
def cs (t : Int) : Int := rd (bst (beg t) 40).x
theorem rd_bd {n : Int} (h0 : -5600000000000000000 ≤ n) (h1 : n ≤ 5600000000000000000) : -5215406418 ≤ rd n ∧ rd n ≤ 5215406418 := by
  have : -5215406418 ≤ Qn.rne n 1073741824 ∧ Qn.rne n 1073741824 ≤ 5215406418 := by
    unfold Qn.rne; split <;> omega
  unfold rd Qn.clamp
  split
  · omega
  · split <;> omega
theorem sn_bd (t : Int) : -5215406418 ≤ sn t ∧ sn t ≤ 5215406418 := by
  have h := ((beg_ok t).bst (k := 40) (by omega)).bd (by omega)
  exact rd_bd h.2.1.1 h.2.1.2
theorem cs_bd (t : Int) : -5215406418 ≤ cs t ∧ cs t ≤ 5215406418 := by
  have h := ((beg_ok t).bst (k := 40) (by omega)).bd (by omega)
  exact rd_bd h.1.1 h.1.2
/-- Of a whole turn. -/
def sine (t : Int) : Int := if t < 1073741824 then sn t else if t < 2147483648 then cs t else if t < 3221225472 then -sn t else -cs t
def cosine (t : Int) : Int := if t < 1073741824 then cs t else if t < 2147483648 then -sn t else if t < 3221225472 then -cs t else sn t
theorem sine_bd (t : Int) : -5215406418 ≤ sine t ∧ sine t ≤ 5215406418 := by
  have := sn_bd t
  have := cs_bd t
  unfold sine; split
  · omega
  · split
    · omega
    · split <;> omega
theorem cosine_bd (t : Int) : -5215406418 ≤ cosine t ∧ cosine t ≤ 5215406418 := by
  have := sn_bd t
  have := cs_bd t
  unfold cosine; split
  · omega
  · split
    · omega
    · split <;> omega
end Tg

set_option maxHeartbeats 1000000 in
theorem both_any (t : Int) (w : World) (hT : AngTab w) (h0 : 0 ≤ t) (h1 : t ≤ 4294967295) :
    Calls Tryz.prog 71 #[.int .u32 t] w fun e w' => e = .returned (.tuple #[.int .i64 (sine t), .int .i64 (cosine t)]) ∧ Below w.heap.size w w' := by
  have hs := sn_bd t
  have hc := cs_bd t
  have HF := hide (first_any t w hT h0 h1)
  obtain ⟨s, es⟩ : ∃ s, s = sn t := ⟨_, rfl⟩
  obtain ⟨c, ec⟩ : ∃ c, c = cs t := ⟨_, rfl⟩
  have HF' : Hid (Calls Tryz.prog 92 #[.int .u32 t] w fun e w' => e = .returned (.tuple #[.int .i64 s, .int .i64 c]) ∧ Below w.heap.size w w') := by
    rw [es, ec]; exact HF
  have E1 : t < 1073741824 → sine t = s ∧ cosine t = c := fun h => by unfold sine cosine; rw [if_pos h, if_pos h]; exact ⟨es.symm, ec.symm⟩
  have E2 : ¬ t < 1073741824 → t < 2147483648 → sine t = c ∧ cosine t = -s := fun h h2 => by unfold sine cosine; rw [if_neg h, if_neg h, if_pos h2, if_pos h2, es, ec]; exact ⟨rfl, rfl⟩
  have E3 : ¬ t < 1073741824 → ¬ t < 2147483648 → t < 3221225472 → sine t = -s ∧ cosine t = -c := fun h h2 h3 => by unfold sine cosine; rw [if_neg h, if_neg h, if_neg h2, if_neg h2, if_pos h3, if_pos h3, es, ec]; exact ⟨rfl, rfl⟩
  have E4 : ¬ t < 1073741824 → ¬ t < 2147483648 → ¬ t < 3221225472 → sine t = -c ∧ cosine t = s := fun h h2 h3 => by unfold sine cosine; rw [if_neg h, if_neg h, if_neg h2, if_neg h2, if_neg h3, if_neg h3, es, ec]; exact ⟨rfl, rfl⟩
  rw [← es] at hs
  rw [← ec] at hc
  clear HF es ec
  rcases Int.lt_or_le t 1073741824 with h | h
  · rw [(E1 h).1, (E1 h).2]
    clear E1 E2 E3 E4
    go_enter Tryz.func71, Tryz.ntmps71
    go_wp2_with fail
    refine HF'.out.mono ?_
    rintro e w1 ⟨rfl, k1⟩
    go_wp2
    go_ret2
    exact ⟨rfl, k1⟩
  rcases Int.lt_or_le t 2147483648 with h2 | h2
  · rw [(E2 (by omega) h2).1, (E2 (by omega) h2).2]
    clear E1 E2 E3 E4
    go_enter Tryz.func71, Tryz.ntmps71
    go_wp2_with fail
    refine HF'.out.mono ?_
    rintro e w1 ⟨rfl, k1⟩
    go_wp2
    go_ret2
    exact ⟨rfl, k1⟩
  rcases Int.lt_or_le t 3221225472 with h3 | h3
  · rw [(E3 (by omega) (by omega) h3).1, (E3 (by omega) (by omega) h3).2]
    clear E1 E2 E3 E4
    go_enter Tryz.func71, Tryz.ntmps71
    go_wp2_with fail
    refine HF'.out.mono ?_
    rintro e w1 ⟨rfl, k1⟩
    go_wp2
    go_ret2
    exact ⟨rfl, k1⟩
  · rw [(E4 (by omega) (by omega) (by omega)).1, (E4 (by omega) (by omega) (by omega)).2]
    clear E1 E2 E3 E4
    go_enter Tryz.func71, Tryz.ntmps71
    go_wp2_with fail
    refine HF'.out.mono ?_
    rintro e w1 ⟨rfl, k1⟩
    go_wp2
    go_ret2
    exact ⟨rfl, k1⟩

end Go.Proofs.YtnjiilknnlcblaaGreatDoor

/-
  Places by range and angle: sine and cosine make one; how great, how the rounded spreads go.
-/
set_option linter.unusedSimpArgs false
set_option linter.unusedVariables false
namespace Go.Proofs.YtnjiilknnlcblaaGreatDoor
namespace Po
open Qn Tg

theorem rne_near (n : Int) {d : Int} (hd : 0 < d) : 2 * (d * rne n d) ≤ 2 * n + d ∧ 2 * n - d ≤ 2 * (d * rne n d) := by
  have h1 := Int.emod_nonneg n (by omega : d ≠ 0)
  have h2 := Int.emod_lt_of_pos n hd
  have h3 := Int.mul_ediv_add_emod n d
  unfold rne
  split
  · omega
  · rw [Int.mul_add, Int.mul_one]; omega
theorem rne_up {a b d : Int} (hd : 0 < d) (h : a ≤ b) : rne a d ≤ rne b d := by
  have e1 := Int.mul_ediv_add_emod a d
  have e2 := Int.mul_ediv_add_emod b d
  have h1 := Int.emod_nonneg a (by omega : d ≠ 0)
  have h2 := Int.emod_lt_of_pos a hd
  have h3 := Int.emod_nonneg b (by omega : d ≠ 0)
  have h4 := Int.emod_lt_of_pos b hd
  have h5 : a / d ≤ b / d := Int.ediv_le_ediv hd h
  rcases Int.lt_or_le (a / d) (b / d) with h6 | h6
  · unfold rne; split <;> split <;> omega
  · have h7 : a / d = b / d := by omega
    rw [h7] at e1
    unfold rne
    rw [h7]
    split <;> split <;> omega
theorem rne_nought {d : Int} (hd : 0 < d) : rne 0 d = 0 := by unfold rne; rw [Int.zero_emod, Int.zero_ediv, if_pos (Or.inl (by omega))]
theorem rne_nn {n d : Int} (hd : 0 < d) (h : 0 ≤ n) : 0 ≤ rne n d := by
  have := rne_up hd h
  rwa [rne_nought hd] at this
theorem sq_nn (x : Int) : 0 ≤ x * x := by
  rcases Int.le_total 0 x with h | h
  · exact Int.mul_nonneg h h
  · exact Int.mul_nonneg_of_nonpos_of_nonpos h h
/-- A rest by a quotient is no greater than the number. -/
theorem rest_bd {y q r s M B : Int} (hM : 0 < M) (e : M * q + r = y) (hr0 : 0 ≤ r) (hr1 : r < M) (hs0 : 0 ≤ s) (hs1 : s < M) (hy0 : -B ≤ y) (hy1 : y ≤ B) : -(B + M) ≤ s * q ∧ s * q ≤ B + M := by
  rcases Int.le_total 0 q with h | h
  · have h1 : 0 ≤ s * q := Int.mul_nonneg hs0 h
    have h2 : s * q ≤ M * q := Int.mul_le_mul_of_nonneg_right (by omega) h
    omega
  · have h1 : s * q ≤ 0 := Int.mul_nonpos_of_nonneg_of_nonpos hs0 h
    have h2 : M * q ≤ s * q := Int.mul_le_mul_of_nonpos_right (by omega) h
    omega
/-- A quotient's square. -/
theorem sq_cut {x p s M B : Int} (hM : 0 < M) (e : M * p + s = x) (hs0 : 0 ≤ s) (hs1 : s < M) (hx0 : -B ≤ x) (hx1 : x ≤ B) : x * x - (2 * B + M) * M ≤ M * M * (p * p) ∧ M * M * (p * p) ≤ x * x + (2 * B + M) * M := by
  have e1 : M * M * (p * p) = (x - s) * (x - s) := by
    rw [show x - s = M * p by omega]
    simp only [Int.mul_assoc, Int.mul_left_comm, Int.mul_comm]
  have e2 : (x - s) * (x - s) = x * x - (2 * x - s) * s := by
    rw [Int.sub_mul, Int.mul_sub, Int.mul_sub, Int.sub_mul, Int.mul_comm s x, Int.mul_assoc 2 x s]; omega
  have hB : 0 ≤ B := by omega
  have u1 : (2 * x - s) * s ≤ (2 * B + M) * s := Int.mul_le_mul_of_nonneg_right (by omega) hs0
  have u2 : (2 * B + M) * s ≤ (2 * B + M) * M := Int.mul_le_mul_of_nonneg_left (by omega) (by omega)
  have u3 : (-(2 * B + M)) * s ≤ (2 * x - s) * s := Int.mul_le_mul_of_nonneg_right (by omega) hs0
  rw [Int.neg_mul] at u3
  omega
/-- How a step changes a pair's length. -/
theorem step_len {x y : Int} (k : Nat) {n B : Int} (hx0 : -B ≤ x) (hx1 : x ≤ B) (hy0 : -B ≤ y) (hy1 : y ≤ B) (hk : (2 : Int) ^ k ≤ 549755813888)
    (sg : Int) (hs : sg = 1 ∨ sg = -1) (hn : n = x * x + y * y) :
    n + n / (2 ^ k * 2 ^ k) - (8 * B + 3000000000000) ≤ (x - sg * fl y k) * (x - sg * fl y k) + (y + sg * fl x k) * (y + sg * fl x k) ∧
      (x - sg * fl y k) * (x - sg * fl y k) + (y + sg * fl x k) * (y + sg * fl x k) ≤ n + n / (2 ^ k * 2 ^ k) + (8 * B + 3000000000000) := by
  have hM : (0 : Int) < 2 ^ k := Int.pow_pos (by omega)
  have ex := Int.mul_ediv_add_emod x (2 ^ k)
  have ey := Int.mul_ediv_add_emod y (2 ^ k)
  have s0 := Int.emod_nonneg x (by omega : (2 : Int) ^ k ≠ 0)
  have s1 := Int.emod_lt_of_pos x hM
  have r0 := Int.emod_nonneg y (by omega : (2 : Int) ^ k ≠ 0)
  have r1 := Int.emod_lt_of_pos y hM
  unfold fl
  generalize (2 : Int) ^ k = M at *
  generalize x / M = p at *
  generalize y / M = q at *
  generalize x % M = s at *
  generalize y % M = r at *
  have a1 := rest_bd hM ey r0 r1 s0 s1 hy0 hy1
  have a2 := rest_bd hM ex s0 s1 r0 r1 hx0 hx1
  have b1 := sq_cut hM ex s0 s1 hx0 hx1
  have b2 := sq_cut hM ey r0 r1 hy0 hy1
  have hMM : 0 < M * M := Int.mul_pos hM hM
  have e3 := Int.mul_ediv_add_emod n (M * M)
  have t0 := Int.emod_nonneg n (by omega : M * M ≠ 0)
  have t1 := Int.emod_lt_of_pos n hMM
  generalize n / (M * M) = c at *
  generalize n % (M * M) = t at *
  have hB : 0 ≤ B := by omega
  have c1 : (2 * B + M) * M + (2 * B + M) * M ≤ M * M * (4 * B + 2) := by
    have : 1 * (4 * B * M) ≤ M * (4 * B * M) := Int.mul_le_mul_of_nonneg_right (by omega) (Int.mul_nonneg (by omega) (by omega))
    have e4 : M * (4 * B * M) = M * M * (4 * B) := by simp only [Int.mul_assoc, Int.mul_left_comm, Int.mul_comm]
    have e5 : 4 * B * M = 2 * (2 * B * M) := by rw [← Int.mul_assoc, ← Int.mul_assoc]; rfl
    rw [Int.mul_add, Int.add_mul]
    omega
  have d0 : M * M * (p * p + q * q) = M * M * (p * p) + M * M * (q * q) := Int.mul_add _ _ _
  have d1 : c - (4 * B + 2) ≤ p * p + q * q := by
    refine Int.le_of_mul_le_mul_left (a := M * M) ?_ hMM
    rw [Int.mul_sub]; omega
  have d2 : p * p + q * q ≤ c + 1 + (4 * B + 2) := by
    refine Int.le_of_mul_le_mul_left (a := M * M) ?_ hMM
    rw [Int.mul_add, Int.mul_add (M * M) (c + 1), Int.mul_add (M * M) c 1, Int.mul_one]; omega
  have f1 : x * q - y * p = s * q - r * p := by
    rw [← ex, ← ey, Int.add_mul, Int.add_mul]
    have : M * p * q = M * q * p := by simp only [Int.mul_assoc, Int.mul_left_comm, Int.mul_comm]
    omega
  rcases hs with rfl | rfl
  · have g : (x - 1 * q) * (x - 1 * q) + (y + 1 * p) * (y + 1 * p) = x * x + y * y + (p * p + q * q) - 2 * (x * q - y * p) := by
      rw [Int.one_mul, Int.one_mul, Int.sub_mul, Int.mul_sub, Int.mul_sub, Int.add_mul, Int.mul_add, Int.mul_add, Int.mul_comm q x, Int.mul_comm p y]; omega
    rw [g, f1, ← hn]
    omega
  · have g : (x - -1 * q) * (x - -1 * q) + (y + -1 * p) * (y + -1 * p) = x * x + y * y + (p * p + q * q) + 2 * (x * q - y * p) := by
      rw [show x - -1 * q = x + q by omega, show y + -1 * p = y - p by omega, Int.sub_mul, Int.mul_sub, Int.mul_sub, Int.add_mul, Int.mul_add, Int.mul_add, Int.mul_comm q x, Int.mul_comm p y]; omega
    rw [g, f1, ← hn]
    omega
/-- How short, how long a pair is, ahead of step k. -/
def lo : Nat → Int
  | 0 => 490160967727836282507484465352458658
  | k + 1 => lo k + lo k / (2 ^ k * 2 ^ k) - 50000000000000000000
def hi : Nat → Int
  | 0 => 490160967727836282507484465352458658
  | k + 1 => hi k + hi k / (2 ^ k * 2 ^ k) + 50000000000000000000
theorem pow_le {k : Nat} (h : k < 40) : (2 : Int) ^ k ≤ 549755813888 := by
  have : ∀ j, j < 40 → (2 : Int) ^ j ≤ 549755813888 := by decide
  exact this k h
theorem len_in (t : Int) : ∀ {k : Nat}, k ≤ 40 → lo k ≤ (bst (beg t) k).x * (bst (beg t) k).x + (bst (beg t) k).y * (bst (beg t) k).y ∧ (bst (beg t) k).x * (bst (beg t) k).x + (bst (beg t) k).y * (bst (beg t) k).y ≤ hi k
  | 0, _ => by
    show lo 0 ≤ 495056041134655927 * 495056041134655927 + 495056041134655927 * 495056041134655927 ∧ 495056041134655927 * 495056041134655927 + 495056041134655927 * 495056041134655927 ≤ hi 0
    decide
  | k + 1, hk => by
    have ih := len_in t (k := k) (by omega)
    have bd := ((beg_ok t).bst (k := k) (by omega)).bd (by omega)
    have hp := pow_le (k := k) (by omega)
    have e1 : lo (k + 1) = lo k + lo k / (2 ^ k * 2 ^ k) - 50000000000000000000 := rfl
    have e2 : hi (k + 1) = hi k + hi k / (2 ^ k * 2 ^ k) + 50000000000000000000 := rfl
    have hM : (0 : Int) < 2 ^ k * 2 ^ k := Int.mul_pos (Int.pow_pos (by omega)) (Int.pow_pos (by omega))
    have ha := Int.ediv_le_ediv hM ih.1
    have hb := Int.ediv_le_ediv hM ih.2
    unfold bst
    generalize bst (beg t) k = s at *
    obtain ⟨x, y, z⟩ := s
    simp only at ih bd ha hb ⊢
    split
    · have h := step_len (x := x) (y := y) k (n := x * x + y * y) (B := 5600000000000000000) bd.1.1 bd.1.2 bd.2.1.1 bd.2.1.2 hp 1 (.inl rfl) rfl
      rw [Int.one_mul, Int.one_mul] at h
      show lo (k + 1) ≤ (x - fl y k) * (x - fl y k) + (y + fl x k) * (y + fl x k) ∧ (x - fl y k) * (x - fl y k) + (y + fl x k) * (y + fl x k) ≤ hi (k + 1)
      omega
    · have h := step_len (x := x) (y := y) k (n := x * x + y * y) (B := 5600000000000000000) bd.1.1 bd.1.2 bd.2.1.1 bd.2.1.2 hp (-1) (.inr rfl) rfl
      rw [show x - -1 * fl y k = x + fl y k by omega, show y + -1 * fl x k = y - fl x k by omega] at h
      show lo (k + 1) ≤ (x + fl y k) * (x + fl y k) + (y - fl x k) * (y - fl x k) ∧ (x + fl y k) * (x + fl y k) + (y - fl x k) * (y - fl x k) ≤ hi (k + 1)
      omega
theorem lo_hi : 1329227995784900000000000000000000000 ≤ lo 40 ∧ hi 40 ≤ 1329227995784930000000000000000000000 := by decide +kernel
/-- A square, rounded. -/
theorem sq_round {x c D H : Int} (hD : D = 1073741824) (h0 : 2 * (D * c) ≤ 2 * x + D) (h1 : 2 * x - D ≤ 2 * (D * c)) (hx0 : -5600000000000000000 ≤ x) (hx1 : x ≤ 5600000000000000000) :
    x * x - 7000000000000000000000000000 ≤ D * D * (c * c) ∧ D * D * (c * c) ≤ x * x + 7000000000000000000000000000 := by
  obtain ⟨e, he⟩ : ∃ e, e = D * c - x := ⟨_, rfl⟩
  have e1 : D * D * (c * c) = (x + e) * (x + e) := by
    rw [show x + e = D * c by omega]
    simp only [Int.mul_left_comm, Int.mul_comm]
  have e2 : (x + e) * (x + e) = x * x + (2 * x + e) * e := by
    rw [Int.add_mul, Int.mul_add, Int.mul_add, Int.add_mul, Int.mul_comm e x, Int.mul_assoc 2 x e]; omega
  have he0 : -536870912 ≤ e := by omega
  have he1 : e ≤ 536870912 := by omega
  rw [e1, e2]
  rcases Int.le_total 0 e with h | h
  · have u1 : (2 * x + e) * e ≤ 11200000001000000000 * e := Int.mul_le_mul_of_nonneg_right (by omega) h
    have u2 : -11200000001000000000 * e ≤ (2 * x + e) * e := Int.mul_le_mul_of_nonneg_right (by omega) h
    omega
  · have u1 : 11200000001000000000 * e ≤ (2 * x + e) * e := Int.mul_le_mul_of_nonpos_right (by omega) h
    have u2 : (2 * x + e) * e ≤ -11200000001000000000 * e := Int.mul_le_mul_of_nonpos_right (by omega) h
    omega
theorem rd_near {n : Int} (h0 : -5600000000000000000 ≤ n) (h1 : n ≤ 5600000000000000000) : 2 * (1073741824 * rd n) ≤ 2 * n + 1073741824 ∧ 2 * n - 1073741824 ≤ 2 * (1073741824 * rd n) := by
  have h := rne_near n (d := 1073741824) (by omega)
  have e : rd n = rne n 1073741824 := by
    unfold rd clamp
    rw [if_neg (by omega), if_neg (by omega)]
  rw [e]; exact h
theorem one_in (t : Int) : 1152921490000000000 ≤ cs t * cs t + sn t * sn t ∧ cs t * cs t + sn t * sn t ≤ 1152921520000000000 := by
  have bd := ((beg_ok t).bst (k := 40) (by omega)).bd (by omega)
  have hl := len_in t (k := 40) (by omega)
  have hh := lo_hi
  unfold cs sn
  generalize bst (beg t) 40 = s at *
  obtain ⟨x, y, z⟩ := s
  simp only at bd hl ⊢
  have hx := rd_near bd.1.1 bd.1.2
  have hy := rd_near bd.2.1.1 bd.2.1.2
  have a := sq_round (H := 0) rfl hx.1 hx.2 bd.1.1 bd.1.2
  have b := sq_round (H := 0) rfl hy.1 hy.2 bd.2.1.1 bd.2.1.2
  generalize rd x * rd x = u at *
  generalize rd y * rd y = v at *
  omega
/-- Sine and cosine of any direction. -/
theorem circle (t : Int) : 1152921490000000000 ≤ sine t * sine t + cosine t * cosine t ∧ sine t * sine t + cosine t * cosine t ≤ 1152921520000000000 := by
  have h := one_in t
  have n1 : -sn t * -sn t = sn t * sn t := Int.neg_mul_neg _ _
  have n2 : -cs t * -cs t = cs t * cs t := Int.neg_mul_neg _ _
  unfold sine cosine
  split
  · omega
  · split
    · rw [n1]; omega
    · split
      · rw [n1, n2]; omega
      · rw [n2]; omega
end Po
end Go.Proofs.YtnjiilknnlcblaaGreatDoor

/-
  Dot of the package qnum: the sum of products, rounded once, and bounded; or the error.
-/
set_option linter.unusedSimpArgs false
set_option linter.unusedVariables false
namespace Go.Proofs.YtnjiilknnlcblaaGreatDoor
open Go.RowKit Qn Dt
attribute [local go_sem ↓] Go.wp_at_zero Go.wp_at_succ

theorem Hid.mkq {p : Prop} (h : p) : Hid p := h

end Go.Proofs.YtnjiilknnlcblaaGreatDoor
