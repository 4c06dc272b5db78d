/-
  Go's own division of two words by one.
-/
import Derived.Test.YtoglokgkgonmdaaGreatDoorM12
import Derived.Test.YtoglokgkgonmdaaGreatDoorQL
import Derived.Test.YtoglokgkgonmdaaGreatDoorM1
import Derived.Deep.RegionWith
import Derived.Test.YtoglokgkgonmdaaGreatDoorM6
import Derived.Deep.RegionHeld3
set_option linter.unusedSimpArgs false
set_option linter.unusedVariables false
namespace Go.Proofs.YtoglokgkgonmdaaGreatDoor
open Go.RowKit Qn
set_option maxHeartbeats 400000 in
theorem zeros64_any (x : Int) (w : World) (h0 : 0 < x) (h1 : x ≤ 18446744073709551615) :
    Calls Tryz.prog 112 #[.int .u64 x] w fun e w' => ∃ s : Nat, e = .returned (.int .i64 (s : Int)) ∧ s ≤ 63 ∧ 9223372036854775808 ≤ x * 2 ^ s ∧ x * 2 ^ s < 18446744073709551616 ∧ w' = w := by
  obtain ⟨s, e1, e2, e3, e4⟩ := zeros_spec x.toNat (by omega) (by omega)
  have hx : ((x.toNat : Nat) : Int) = x := by omega
  have hc : x * 2 ^ s = ((x.toNat * 2 ^ s : Nat) : Int) := by rw [Int.natCast_mul, hx, Int.natCast_pow]; rfl
  have e3' : 9223372036854775808 ≤ x * 2 ^ s := by rw [hc]; omega
  have e4' : x * 2 ^ s < 18446744073709551616 := by rw [hc]; omega
  have E1 : Hid (s + Lib.bitLen x.toNat = 64) := e1
  clear e1 e3 e4 hx hc
  go_enter Tryz.func112, Tryz.ntmps112
  go_wp2_with (go_at_call 125; refine (len64_int x _ (by omega) h1).mono ?_; rintro e w' ⟨rfl, rfl⟩)
  go_ret
  refine ⟨s, congrArg Ending.returned (congrArg (Value.int IntKind.i64) ?_), e2, e3', e4', rfl⟩
  have := E1.out
  simp only [wrap64, IntKind.wrap_i64]
  omega
namespace Qn
theorem or_up (a b D : Int) (s : Nat) (hD : (2 : Int) ^ s = D) (hb0 : 0 ≤ b) (hb : b < D) (ha0 : 0 ≤ a) (ha1 : a < 18446744073709551616) (hDW : D ≤ 18446744073709551616) (hk : ∃ k : Int, 0 ≤ k ∧ a = D * k) : bits .or .u64 a b = a + b := by
  obtain ⟨k, hk0, hk⟩ := hk
  obtain ⟨A, rfl⟩ := Int.eq_ofNat_of_zero_le ha0
  obtain ⟨B, rfl⟩ := Int.eq_ofNat_of_zero_le hb0
  obtain ⟨K, rfl⟩ := Int.eq_ofNat_of_zero_le hk0
  have hD' : D = ((2 ^ s : Nat) : Int) := by rw [← hD]; simp
  subst hD'
  rw [bits_or_u64_nat A B (by omega) (by omega)]
  have hA : A = 2 ^ s * K := by have := hk; rw [← Int.natCast_mul] at this; omega
  rw [nat_join s A B (by rw [hA]; exact Nat.mul_mod_right _ _) (by omega)]
  omega
theorem mask_half (x : Int) (h0 : 0 ≤ x) (h1 : x ≤ 18446744073709551615) : bits .and .u64 x 4294967295 = x % 4294967296 := by
  obtain ⟨X, rfl⟩ := Int.eq_ofNat_of_zero_le h0
  rw [mask32 X (by omega)]
  omega
end Qn
namespace Qn
structure DivNames (h l y D E Y Y1 Y0 U L u1 u0 : Int) : Prop where
  a1 : y * D = Y
  a2 : Y / 4294967296 = Y1
  a3 : bits .and .u64 Y 4294967295 = Y0
  a5 : bits .or .u64 (IntKind.u64.wrap (h * D)) (l / E) = U
  a6 : IntKind.u64.wrap (l * D) = L
  a7 : L / 4294967296 = u1
  a8 : bits .and .u64 L 4294967295 = u0
  y1l : 2147483648 ≤ Y1
  y1h : Y1 < 4294967296
  y0l : 0 ≤ Y0
  y0h : Y0 < 4294967296
  yy : Y = Y1 * 4294967296 + Y0
  ul : 0 ≤ U
  uh : U < Y
  ll : 0 ≤ L
  lh : L < 18446744073709551616
  u1l : 0 ≤ u1
  u1h : u1 < 4294967296
  u0l : 0 ≤ u0
  u0h : u0 < 4294967296
  lu : L = u1 * 4294967296 + u0
  qq : (U * 18446744073709551616 + L) / Y = (h * 18446744073709551616 + l) / y
  rr : (U * 18446744073709551616 + L) % Y / D = (h * 18446744073709551616 + l) % y
theorem div_names (h l y D E : Int) (s t : Nat) (h0 : 0 ≤ h) (h1 : h < y) (l0 : 0 ≤ l) (l1 : l ≤ 18446744073709551615) (hst : s + t = 64) (hD : (2 : Int) ^ s = D) (hE : (2 : Int) ^ t = E) (e3 : 9223372036854775808 ≤ y * D) (e4 : y * D < 18446744073709551616) :
  ∃ Y Y1 Y0 U L u1 u0, DivNames h l y D E Y Y1 Y0 U L u1 u0 := by
 have hD0 : 0 < D := by rw [← hD]; exact Int.pow_pos (by omega)
 have hE0 : 0 < E := by rw [← hE]; exact Int.pow_pos (by omega)
 have hDE : D * E = 18446744073709551616 := by rw [← hD, ← hE, ← Int.pow_add, hst]; rfl
 have hDW : D ≤ 18446744073709551616 := by
  have : D * 1 ≤ D * E := Int.mul_le_mul_of_nonneg_left (by omega) (by omega)
  omega
 have hhD : h * D + D ≤ y * D := by
  have : (h + 1) * D ≤ y * D := Int.mul_le_mul_of_nonneg_right (by omega) (by omega)
  rw [Int.add_mul, Int.one_mul] at this
  exact this
 have hhD0 : 0 ≤ h * D := Int.mul_nonneg h0 (by omega)
 have hle0 : 0 ≤ l / E := Int.ediv_nonneg l0 (by omega)
 have hle1 : l / E < D := Int.ediv_lt_of_lt_mul hE0 (by rw [hDE]; omega)
 have hw : IntKind.u64.wrap (h * D) = h * D := by rw [IntKind.wrap_u64]; omega
 have hor : bits .or .u64 (IntKind.u64.wrap (h * D)) (l / E) = h * D + l / E := by
  rw [hw]
  exact or_up _ _ D s hD hle0 hle1 hhD0 (by omega) hDW ⟨h, h0, Int.mul_comm _ _⟩
 have hL : IntKind.u64.wrap (l * D) = l * D % 18446744073709551616 := by rw [IntKind.wrap_u64]
 have hL0 : 0 ≤ l * D % 18446744073709551616 := by omega
 have hL1 : l * D % 18446744073709551616 < 18446744073709551616 := by omega
 obtain ⟨k1, k2⟩ := shifted (h := h) (l := l) (y := y) (U := h * D + l / E) (L := l * D % 18446744073709551616) (by omega) hD0 hE0 hDE l0 rfl rfl
 generalize hLn : l * D % 18446744073709551616 = L at *
 generalize hYn : y * D = Y at *
 exact ⟨Y, Y / 4294967296, Y % 4294967296, h * D + l / E, L, L / 4294967296, L % 4294967296, { a1 := hYn, a2 := rfl, a3 := mask_half Y (by omega) (by omega), a5 := hor, a6 := hL, a7 := rfl, a8 := mask_half L hL0 (by omega), y1l := by omega, y1h := by omega, y0l := by omega, y0h := by omega, yy := by omega, ul := by omega, uh := by omega, ll := hL0, lh := hL1, u1l := by omega, u1h := by omega, u0l := by omega, u0h := by omega, lu := by omega, qq := k1, rr := k2 }⟩
end Qn
set_option maxHeartbeats 2000000 in
theorem div64_any (h l y : Int) (w : World) (h0 : 0 ≤ h) (h1 : h < y) (l0 : 0 ≤ l) (l1 : l ≤ 18446744073709551615) (y1 : y ≤ 18446744073709551615) :
  Calls Tryz.prog 75 #[.int .u64 h, .int .u64 l, .int .u64 y] w fun e w' => e = .returned (.tuple #[.int .u64 ((h * 18446744073709551616 + l) / y), .int .u64 ((h * 18446744073709551616 + l) % y)]) ∧ ∃ n, w' = w.drewN n := by
 have hy0 : 0 < y := by omega
 have hyb : (y == 0) = false := by simp; omega
 by_cases hz : h = 0
 ·subst hz
  go_enter Tryz.func75, Tryz.ntmps75
  go_wp2
  go_quiet (fail)
  go_wp2
  go_ret2
  exact ⟨ret_ii (by rw [Int.zero_mul, Int.zero_add]) (by rw [Int.zero_mul, Int.zero_add]), _, rfl⟩
 ·have hzb : (h == 0) = false := by simpa using hz
  go_enter Tryz.func75, Tryz.ntmps75
  go_wp2_with fail
  refine (zeros64_any y _ hy0 y1).mono ?_
  rintro e w' ⟨s, rfl, hs, e3, e4, rfl⟩
  obtain ⟨t, hst⟩ : ∃ t, s + t = 64 := ⟨64 - s, by omega⟩
  obtain ⟨D, hD⟩ : ∃ D, (2 : Int) ^ s = D := ⟨_, rfl⟩
  obtain ⟨E, hE⟩ : ∃ E, (2 : Int) ^ t = E := ⟨_, rfl⟩
  rw [hD] at e3 e4
  have hs0 : (0 : Int) ≤ (s : Int) := by omega
  have hs1 : (s : Int) ≤ 63 := by omega
  have ht0 : (0 : Int) ≤ (t : Int) := by omega
  have ht1 : (t : Int) ≤ 64 := by omega
  have a4 : IntKind.u64.wrap (64 - (s : Int)) = (t : Int) := by rw [IntKind.wrap_u64]; omega
  obtain ⟨Y, Y1, Y0, U, L, u1, u0, N⟩ := div_names h l y D E s t h0 h1 l0 l1 hst hD hE e3 e4
  have HN : Hid (DivNames h l y D E Y Y1 Y0 U L u1 u0) := N
  obtain ⟨a1, a2, a3, a5, a6, a7, a8, y1l, y1h, y0l, y0h, yy, ul, uh, ll, lh, u1l, u1h, u0l, u0h, lu, _, _⟩ := N
  have st1 := dAt_start ul y1l y1h y0l y0h u1l u1h (by omega)
  obtain ⟨q, hq⟩ : ∃ q, U / Y1 = q := ⟨_, rfl⟩
  rw [hq] at st1
  obtain ⟨m, hm⟩ : ∃ m, q * Y1 = m := ⟨_, rfl⟩
  rw [hm] at st1
  have ST : Hid (DAt U Y1 Y0 u1 q (U - m)) := st1
  obtain ⟨b1, b2, b3, b4, _⟩ := st1
  have m0 : 0 ≤ m := by rw [← hm]; exact Int.mul_nonneg b1 (by omega)
  have yyb : 9223372036854775808 ≤ Y := by omega
  have yyc : Y < 18446744073709551616 := by omega
  clear hst b4 e3 e4 yy lu h1 hz
  have uh2 : Hid (U < Y1 * 4294967296 + Y0) := (by have := HN.out.yy; unfold Hid; omega)
  go_wp2
  go_loop [15, 16] (fun a b => ∃ q rh : Int, a = .int .u64 q ∧ b = .int .u64 rh ∧ rh < 4294967296 ∧ Hid (DAt U Y1 Y0 u1 q rh)) (fun a _ => (intOf a).toNat)
  case atStart => exact ⟨q, U - m, by rw [hq], rfl, (by have := Int.emod_lt_of_pos U (show 0 < Y1 by omega); have := Int.emod_add_mul_ediv U Y1; rw [hq, Int.mul_comm, hm] at this; omega), ST⟩
  case round =>
   clear hq hm ST b1 b2 b3 m0
   obtain ⟨q2, rh, rfl, rfl, hrh, hA⟩ := hrel
   have g1 := hA.out.1
   have g2 := hA.out.2.1
   have g3 := hA.out.2.2.1
   obtain ⟨p, hp⟩ : ∃ p, q2 * Y0 = p := ⟨_, rfl⟩
   have hp0 : 0 ≤ p := by rw [← hp]; exact Int.mul_nonneg g1 y0l
   by_cases c1 : 4294967296 ≤ q2
   ·have hd : Hid (DAt U Y1 Y0 u1 (q2 - 1) (rh + Y1)) := dAt_down hA.out y1l y0l u1l u1h uh2.out (Or.inl c1)
    by_cases c2 : rh + Y1 < 4294967296
    ·go_wp2
     go_round
     case rel => exact ⟨q2 - 1, rh + Y1, rfl, rfl, c2, hd⟩
     case measure => simp [intOf]; omega
    ·have hq0 : Hid (q2 - 1 = (U * 4294967296 + u1) / (Y1 * 4294967296 + Y0)) := dAt_done hd.out y1l y0l (dAt_break hd.out (by omega) y0l y0h u1l (by omega))
     obtain ⟨Qv, hqv⟩ : ∃ Qv, q2 - 1 = Qv := ⟨_, rfl⟩
     rw [hqv] at hq0
     have hQ := hq0
     clear hd hq0
     have hQY : Hid (Qv = (U * 4294967296 + u1) / Y) := by unfold Hid; rw [hQ.out, ← HN.out.yy]
     have qb := dig_lt ul uh u1l u1h
     rw [← hQY.out] at qb
     obtain ⟨R, hR⟩ : ∃ R, (U * 4294967296 + u1) % Y = R := ⟨_, rfl⟩
     have R0 : 0 ≤ R := by rw [← hR]; exact Int.emod_nonneg _ (by omega)
     have R1 : R < Y := by rw [← hR]; exact Int.emod_lt_of_pos _ (by omega)
     have f1 : IntKind.u64.wrap (IntKind.u64.wrap (IntKind.u64.wrap (U * 4294967296) + u1) - IntKind.u64.wrap (Qv * Y)) = R := by
      have := dig_rest (un := U) (u1 := u1) (Y := Y) (q := Qv) (by omega) yyc hQY.out
      rw [hR] at this
      simp only [IntKind.wrap_u64]
      omega
     have RY : Hid (R < Y1 * 4294967296 + Y0) := (by have := HN.out.yy; unfold Hid; omega)
     have st2 := dAt_start R0 y1l y1h y0l y0h u0l u0h RY.out
     obtain ⟨z, hz2⟩ : ∃ z, R / Y1 = z := ⟨_, rfl⟩
     rw [hz2] at st2
     obtain ⟨m2, hm2⟩ : ∃ m2, z * Y1 = m2 := ⟨_, rfl⟩
     rw [hm2] at st2
     have ST2 : Hid (DAt R Y1 Y0 u0 z (R - m2)) := st2
     have b1 := st2.1
     have b2 := st2.2.1
     have b3 := st2.2.2.1
     clear st2
     have m0 : 0 ≤ m2 := by rw [← hm2]; exact Int.mul_nonneg b1 (by omega)
     obtain ⟨T, hT⟩ : ∃ T, (R * 4294967296 + u0) % Y = T := ⟨_, rfl⟩
     have T0 : 0 ≤ T := by rw [← hT]; exact Int.emod_nonneg _ (by omega)
     have T1 : T < Y := by rw [← hT]; exact Int.emod_lt_of_pos _ (by omega)
     have HT : Hid ((R * 4294967296 + u0) % Y = T) := hT
     have HRR : Hid ((U * 4294967296 + u1) % Y = R) := hR
     clear hR hT hQ
     go_wp2
     go_loop [18, 16] (fun a b => ∃ q rh : Int, a = .int .u64 q ∧ b = .int .u64 rh ∧ rh < 4294967296 ∧ Hid (DAt R Y1 Y0 u0 q rh)) (fun a _ => (intOf a).toNat)
     case atStart => exact ⟨z, R - m2, by first | rfl | rw [hz2], rfl, (by have := Int.emod_lt_of_pos R (show 0 < Y1 by omega); have := Int.emod_add_mul_ediv R Y1; rw [hz2, Int.mul_comm, hm2] at this; omega), ST2⟩
     case round =>
      clear hz2 hm2 ST2 b1 b2 b3 m0 f1
      have hT := HT.out
      have hR := HRR.out
      obtain ⟨q3, rh3, rfl, rfl, hrh3, hA3⟩ := hrel
      have g1 := hA3.out.1
      have g2 := hA3.out.2.1
      have g3 := hA3.out.2.2.1
      obtain ⟨p, hp⟩ : ∃ p, q3 * Y0 = p := ⟨_, rfl⟩
      have hp0 : 0 ≤ p := by rw [← hp]; exact Int.mul_nonneg g1 y0l
      by_cases c1 : 4294967296 ≤ q3
      ·have hd : Hid (DAt R Y1 Y0 u0 (q3 - 1) (rh3 + Y1)) := dAt_down hA3.out y1l y0l u0l u0h RY.out (Or.inl c1)
       by_cases c2 : rh3 + Y1 < 4294967296
       ·go_wp2
        go_round
        case rel => exact ⟨q3 - 1, rh3 + Y1, rfl, rfl, c2, hd⟩
        case measure => simp [intOf]; omega
       ·have hq0 : Hid (q3 - 1 = (R * 4294967296 + u0) / (Y1 * 4294967296 + Y0)) := dAt_done hd.out y1l y0l (dAt_break hd.out (by omega) y0l y0h u0l (by omega))
        obtain ⟨Zv, hqv⟩ : ∃ Zv, q3 - 1 = Zv := ⟨_, rfl⟩
        rw [hqv] at hq0
        have hZ := hq0
        clear hd hq0
        have hZY : Hid (Zv = (R * 4294967296 + u0) / Y) := by unfold Hid; rw [hZ.out, ← HN.out.yy]
        have zb := dig_lt R0 R1 u0l u0h
        rw [← hZY.out] at zb
        have f2 : IntKind.u64.wrap (IntKind.u64.wrap (IntKind.u64.wrap (R * 4294967296) + u0) - IntKind.u64.wrap (Zv * Y)) = T := by
         have := dig_rest (un := R) (u1 := u0) (Y := Y) (q := Zv) (by omega) yyc hZY.out
         rw [hT] at this
         simp only [IntKind.wrap_u64]
         omega
        have HF : Hid (Qv * 4294967296 + Zv = (h * 18446744073709551616 + l) / y ∧ T / D = (h * 18446744073709551616 + l) % y) := by
         unfold Hid
         rw [← HN.out.qq, ← HN.out.rr]
         obtain ⟨k1, k2⟩ := two_digits (V := U * 18446744073709551616 + L) (U := U) (u1 := u1) (u0 := u0) (Y := Y) (by omega) (by have := HN.out.lu; omega)
         rw [hR, hT] at k2
         rw [hR, ← hZY.out, ← hQY.out] at k1
         rw [k1, k2]
         exact ⟨rfl, rfl⟩
        clear hZ hZY hT hR
        go_wp2
        go_ret2
        exact ⟨ret_ii HF.out.1 HF.out.2, 0, rfl⟩

      ·have hpW : p ≤ 18446744065119617025 := by
        have : q3 * Y0 ≤ 4294967295 * 4294967295 := Int.mul_le_mul (by omega) (by omega) y0l (by omega)
        omega
       by_cases c3 : 4294967296 * rh3 + u0 < p
       ·have hd : Hid (DAt R Y1 Y0 u0 (q3 - 1) (rh3 + Y1)) := dAt_down hA3.out y1l y0l u0l u0h RY.out (Or.inr (by omega))
        have q1 : 1 ≤ q3 := by have := hd.out.1; omega
        by_cases c2 : rh3 + Y1 < 4294967296
        ·go_wp2
         go_round
         case rel => exact ⟨q3 - 1, rh3 + Y1, rfl, rfl, c2, hd⟩
         case measure => simp [intOf]; omega
        ·have hq0 : Hid (q3 - 1 = (R * 4294967296 + u0) / (Y1 * 4294967296 + Y0)) := dAt_done hd.out y1l y0l (dAt_break hd.out (by omega) y0l y0h u0l (by omega))
         obtain ⟨Zv, hqv⟩ : ∃ Zv, q3 - 1 = Zv := ⟨_, rfl⟩
         rw [hqv] at hq0
         have hZ := hq0
         clear hd hq0
         have hZY : Hid (Zv = (R * 4294967296 + u0) / Y) := by unfold Hid; rw [hZ.out, ← HN.out.yy]
         have zb := dig_lt R0 R1 u0l u0h
         rw [← hZY.out] at zb
         have f2 : IntKind.u64.wrap (IntKind.u64.wrap (IntKind.u64.wrap (R * 4294967296) + u0) - IntKind.u64.wrap (Zv * Y)) = T := by
          have := dig_rest (un := R) (u1 := u0) (Y := Y) (q := Zv) (by omega) yyc hZY.out
          rw [hT] at this
          simp only [IntKind.wrap_u64]
          omega
         have HF : Hid (Qv * 4294967296 + Zv = (h * 18446744073709551616 + l) / y ∧ T / D = (h * 18446744073709551616 + l) % y) := by
          unfold Hid
          rw [← HN.out.qq, ← HN.out.rr]
          obtain ⟨k1, k2⟩ := two_digits (V := U * 18446744073709551616 + L) (U := U) (u1 := u1) (u0 := u0) (Y := Y) (by omega) (by have := HN.out.lu; omega)
          rw [hR, hT] at k2
          rw [hR, ← hZY.out, ← hQY.out] at k1
          rw [k1, k2]
          exact ⟨rfl, rfl⟩
         clear hZ hZY hT hR
         go_wp2
         go_ret2
         exact ⟨ret_ii HF.out.1 HF.out.2, 0, rfl⟩

       ·have hZ : Hid (q3 = (R * 4294967296 + u0) / (Y1 * 4294967296 + Y0)) := dAt_done hA3.out y1l y0l (by omega)
        have hZY : Hid (q3 = (R * 4294967296 + u0) / Y) := by unfold Hid; rw [hZ.out, ← HN.out.yy]
        have zb := dig_lt R0 R1 u0l u0h
        rw [← hZY.out] at zb
        have f2 : IntKind.u64.wrap (IntKind.u64.wrap (IntKind.u64.wrap (R * 4294967296) + u0) - IntKind.u64.wrap (q3 * Y)) = T := by
         have := dig_rest (un := R) (u1 := u0) (Y := Y) (q := q3) (by omega) yyc hZY.out
         rw [hT] at this
         simp only [IntKind.wrap_u64]
         omega
        have HF : Hid (Qv * 4294967296 + q3 = (h * 18446744073709551616 + l) / y ∧ T / D = (h * 18446744073709551616 + l) % y) := by
         unfold Hid
         rw [← HN.out.qq, ← HN.out.rr]
         obtain ⟨k1, k2⟩ := two_digits (V := U * 18446744073709551616 + L) (U := U) (u1 := u1) (u0 := u0) (Y := Y) (by omega) (by have := HN.out.lu; omega)
         rw [hR, hT] at k2
         rw [hR, ← hZY.out, ← hQY.out] at k1
         rw [k1, k2]
         exact ⟨rfl, rfl⟩
        clear hZ hZY hT hR
        go_wp2
        go_ret2
        exact ⟨ret_ii HF.out.1 HF.out.2, 0, rfl⟩


   ·have hpW : p ≤ 18446744065119617025 := by
     have : q2 * Y0 ≤ 4294967295 * 4294967295 := Int.mul_le_mul (by omega) (by omega) y0l (by omega)
     omega
    by_cases c3 : 4294967296 * rh + u1 < p
    ·have hd : Hid (DAt U Y1 Y0 u1 (q2 - 1) (rh + Y1)) := dAt_down hA.out y1l y0l u1l u1h uh2.out (Or.inr (by omega))
     have q1 : 1 ≤ q2 := by have := hd.out.1; omega
     by_cases c2 : rh + Y1 < 4294967296
     ·go_wp2
      go_round
      case rel => exact ⟨q2 - 1, rh + Y1, rfl, rfl, c2, hd⟩
      case measure => simp [intOf]; omega
     ·have hq0 : Hid (q2 - 1 = (U * 4294967296 + u1) / (Y1 * 4294967296 + Y0)) := dAt_done hd.out y1l y0l (dAt_break hd.out (by omega) y0l y0h u1l (by omega))
      obtain ⟨Qv, hqv⟩ : ∃ Qv, q2 - 1 = Qv := ⟨_, rfl⟩
      rw [hqv] at hq0
      have hQ := hq0
      clear hd hq0
      have hQY : Hid (Qv = (U * 4294967296 + u1) / Y) := by unfold Hid; rw [hQ.out, ← HN.out.yy]
      have qb := dig_lt ul uh u1l u1h
      rw [← hQY.out] at qb
      obtain ⟨R, hR⟩ : ∃ R, (U * 4294967296 + u1) % Y = R := ⟨_, rfl⟩
      have R0 : 0 ≤ R := by rw [← hR]; exact Int.emod_nonneg _ (by omega)
      have R1 : R < Y := by rw [← hR]; exact Int.emod_lt_of_pos _ (by omega)
      have f1 : IntKind.u64.wrap (IntKind.u64.wrap (IntKind.u64.wrap (U * 4294967296) + u1) - IntKind.u64.wrap (Qv * Y)) = R := by
       have := dig_rest (un := U) (u1 := u1) (Y := Y) (q := Qv) (by omega) yyc hQY.out
       rw [hR] at this
       simp only [IntKind.wrap_u64]
       omega
      have RY : Hid (R < Y1 * 4294967296 + Y0) := (by have := HN.out.yy; unfold Hid; omega)
      have st2 := dAt_start R0 y1l y1h y0l y0h u0l u0h RY.out
      obtain ⟨z, hz2⟩ : ∃ z, R / Y1 = z := ⟨_, rfl⟩
      rw [hz2] at st2
      obtain ⟨m2, hm2⟩ : ∃ m2, z * Y1 = m2 := ⟨_, rfl⟩
      rw [hm2] at st2
      have ST2 : Hid (DAt R Y1 Y0 u0 z (R - m2)) := st2
      have b1 := st2.1
      have b2 := st2.2.1
      have b3 := st2.2.2.1
      clear st2
      have m0 : 0 ≤ m2 := by rw [← hm2]; exact Int.mul_nonneg b1 (by omega)
      obtain ⟨T, hT⟩ : ∃ T, (R * 4294967296 + u0) % Y = T := ⟨_, rfl⟩
      have T0 : 0 ≤ T := by rw [← hT]; exact Int.emod_nonneg _ (by omega)
      have T1 : T < Y := by rw [← hT]; exact Int.emod_lt_of_pos _ (by omega)
      have HT : Hid ((R * 4294967296 + u0) % Y = T) := hT
      have HRR : Hid ((U * 4294967296 + u1) % Y = R) := hR
      clear hR hT hQ
      go_wp2
      go_loop [18, 16] (fun a b => ∃ q rh : Int, a = .int .u64 q ∧ b = .int .u64 rh ∧ rh < 4294967296 ∧ Hid (DAt R Y1 Y0 u0 q rh)) (fun a _ => (intOf a).toNat)
      case atStart => exact ⟨z, R - m2, by first | rfl | rw [hz2], rfl, (by have := Int.emod_lt_of_pos R (show 0 < Y1 by omega); have := Int.emod_add_mul_ediv R Y1; rw [hz2, Int.mul_comm, hm2] at this; omega), ST2⟩
      case round =>
       clear hz2 hm2 ST2 b1 b2 b3 m0 f1
       have hT := HT.out
       have hR := HRR.out
       obtain ⟨q3, rh3, rfl, rfl, hrh3, hA3⟩ := hrel
       have g1 := hA3.out.1
       have g2 := hA3.out.2.1
       have g3 := hA3.out.2.2.1
       obtain ⟨p, hp⟩ : ∃ p, q3 * Y0 = p := ⟨_, rfl⟩
       have hp0 : 0 ≤ p := by rw [← hp]; exact Int.mul_nonneg g1 y0l
       by_cases c1 : 4294967296 ≤ q3
       ·have hd : Hid (DAt R Y1 Y0 u0 (q3 - 1) (rh3 + Y1)) := dAt_down hA3.out y1l y0l u0l u0h RY.out (Or.inl c1)
        by_cases c2 : rh3 + Y1 < 4294967296
        ·go_wp2
         go_round
         case rel => exact ⟨q3 - 1, rh3 + Y1, rfl, rfl, c2, hd⟩
         case measure => simp [intOf]; omega
        ·have hq0 : Hid (q3 - 1 = (R * 4294967296 + u0) / (Y1 * 4294967296 + Y0)) := dAt_done hd.out y1l y0l (dAt_break hd.out (by omega) y0l y0h u0l (by omega))
         obtain ⟨Zv, hqv⟩ : ∃ Zv, q3 - 1 = Zv := ⟨_, rfl⟩
         rw [hqv] at hq0
         have hZ := hq0
         clear hd hq0
         have hZY : Hid (Zv = (R * 4294967296 + u0) / Y) := by unfold Hid; rw [hZ.out, ← HN.out.yy]
         have zb := dig_lt R0 R1 u0l u0h
         rw [← hZY.out] at zb
         have f2 : IntKind.u64.wrap (IntKind.u64.wrap (IntKind.u64.wrap (R * 4294967296) + u0) - IntKind.u64.wrap (Zv * Y)) = T := by
          have := dig_rest (un := R) (u1 := u0) (Y := Y) (q := Zv) (by omega) yyc hZY.out
          rw [hT] at this
          simp only [IntKind.wrap_u64]
          omega
         have HF : Hid (Qv * 4294967296 + Zv = (h * 18446744073709551616 + l) / y ∧ T / D = (h * 18446744073709551616 + l) % y) := by
          unfold Hid
          rw [← HN.out.qq, ← HN.out.rr]
          obtain ⟨k1, k2⟩ := two_digits (V := U * 18446744073709551616 + L) (U := U) (u1 := u1) (u0 := u0) (Y := Y) (by omega) (by have := HN.out.lu; omega)
          rw [hR, hT] at k2
          rw [hR, ← hZY.out, ← hQY.out] at k1
          rw [k1, k2]
          exact ⟨rfl, rfl⟩
         clear hZ hZY hT hR
         go_wp2
         go_ret2
         exact ⟨ret_ii HF.out.1 HF.out.2, 0, rfl⟩

       ·have hpW : p ≤ 18446744065119617025 := by
         have : q3 * Y0 ≤ 4294967295 * 4294967295 := Int.mul_le_mul (by omega) (by omega) y0l (by omega)
         omega
        by_cases c3 : 4294967296 * rh3 + u0 < p
        ·have hd : Hid (DAt R Y1 Y0 u0 (q3 - 1) (rh3 + Y1)) := dAt_down hA3.out y1l y0l u0l u0h RY.out (Or.inr (by omega))
         have q1 : 1 ≤ q3 := by have := hd.out.1; omega
         by_cases c2 : rh3 + Y1 < 4294967296
         ·go_wp2
          go_round
          case rel => exact ⟨q3 - 1, rh3 + Y1, rfl, rfl, c2, hd⟩
          case measure => simp [intOf]; omega
         ·have hq0 : Hid (q3 - 1 = (R * 4294967296 + u0) / (Y1 * 4294967296 + Y0)) := dAt_done hd.out y1l y0l (dAt_break hd.out (by omega) y0l y0h u0l (by omega))
          obtain ⟨Zv, hqv⟩ : ∃ Zv, q3 - 1 = Zv := ⟨_, rfl⟩
          rw [hqv] at hq0
          have hZ := hq0
          clear hd hq0
          have hZY : Hid (Zv = (R * 4294967296 + u0) / Y) := by unfold Hid; rw [hZ.out, ← HN.out.yy]
          have zb := dig_lt R0 R1 u0l u0h
          rw [← hZY.out] at zb
          have f2 : IntKind.u64.wrap (IntKind.u64.wrap (IntKind.u64.wrap (R * 4294967296) + u0) - IntKind.u64.wrap (Zv * Y)) = T := by
           have := dig_rest (un := R) (u1 := u0) (Y := Y) (q := Zv) (by omega) yyc hZY.out
           rw [hT] at this
           simp only [IntKind.wrap_u64]
           omega
          have HF : Hid (Qv * 4294967296 + Zv = (h * 18446744073709551616 + l) / y ∧ T / D = (h * 18446744073709551616 + l) % y) := by
           unfold Hid
           rw [← HN.out.qq, ← HN.out.rr]
           obtain ⟨k1, k2⟩ := two_digits (V := U * 18446744073709551616 + L) (U := U) (u1 := u1) (u0 := u0) (Y := Y) (by omega) (by have := HN.out.lu; omega)
           rw [hR, hT] at k2
           rw [hR, ← hZY.out, ← hQY.out] at k1
           rw [k1, k2]
           exact ⟨rfl, rfl⟩
          clear hZ hZY hT hR
          go_wp2
          go_ret2
          exact ⟨ret_ii HF.out.1 HF.out.2, 0, rfl⟩

        ·have hZ : Hid (q3 = (R * 4294967296 + u0) / (Y1 * 4294967296 + Y0)) := dAt_done hA3.out y1l y0l (by omega)
         have hZY : Hid (q3 = (R * 4294967296 + u0) / Y) := by unfold Hid; rw [hZ.out, ← HN.out.yy]
         have zb := dig_lt R0 R1 u0l u0h
         rw [← hZY.out] at zb
         have f2 : IntKind.u64.wrap (IntKind.u64.wrap (IntKind.u64.wrap (R * 4294967296) + u0) - IntKind.u64.wrap (q3 * Y)) = T := by
          have := dig_rest (un := R) (u1 := u0) (Y := Y) (q := q3) (by omega) yyc hZY.out
          rw [hT] at this
          simp only [IntKind.wrap_u64]
          omega
         have HF : Hid (Qv * 4294967296 + q3 = (h * 18446744073709551616 + l) / y ∧ T / D = (h * 18446744073709551616 + l) % y) := by
          unfold Hid
          rw [← HN.out.qq, ← HN.out.rr]
          obtain ⟨k1, k2⟩ := two_digits (V := U * 18446744073709551616 + L) (U := U) (u1 := u1) (u0 := u0) (Y := Y) (by omega) (by have := HN.out.lu; omega)
          rw [hR, hT] at k2
          rw [hR, ← hZY.out, ← hQY.out] at k1
          rw [k1, k2]
          exact ⟨rfl, rfl⟩
         clear hZ hZY hT hR
         go_wp2
         go_ret2
         exact ⟨ret_ii HF.out.1 HF.out.2, 0, rfl⟩


    ·have hQ : Hid (q2 = (U * 4294967296 + u1) / (Y1 * 4294967296 + Y0)) := dAt_done hA.out y1l y0l (by omega)
     have hQY : Hid (q2 = (U * 4294967296 + u1) / Y) := by unfold Hid; rw [hQ.out, ← HN.out.yy]
     have qb := dig_lt ul uh u1l u1h
     rw [← hQY.out] at qb
     obtain ⟨R, hR⟩ : ∃ R, (U * 4294967296 + u1) % Y = R := ⟨_, rfl⟩
     have R0 : 0 ≤ R := by rw [← hR]; exact Int.emod_nonneg _ (by omega)
     have R1 : R < Y := by rw [← hR]; exact Int.emod_lt_of_pos _ (by omega)
     have f1 : IntKind.u64.wrap (IntKind.u64.wrap (IntKind.u64.wrap (U * 4294967296) + u1) - IntKind.u64.wrap (q2 * Y)) = R := by
      have := dig_rest (un := U) (u1 := u1) (Y := Y) (q := q2) (by omega) yyc hQY.out
      rw [hR] at this
      simp only [IntKind.wrap_u64]
      omega
     have RY : Hid (R < Y1 * 4294967296 + Y0) := (by have := HN.out.yy; unfold Hid; omega)
     have st2 := dAt_start R0 y1l y1h y0l y0h u0l u0h RY.out
     obtain ⟨z, hz2⟩ : ∃ z, R / Y1 = z := ⟨_, rfl⟩
     rw [hz2] at st2
     obtain ⟨m2, hm2⟩ : ∃ m2, z * Y1 = m2 := ⟨_, rfl⟩
     rw [hm2] at st2
     have ST2 : Hid (DAt R Y1 Y0 u0 z (R - m2)) := st2
     have b1 := st2.1
     have b2 := st2.2.1
     have b3 := st2.2.2.1
     clear st2
     have m0 : 0 ≤ m2 := by rw [← hm2]; exact Int.mul_nonneg b1 (by omega)
     obtain ⟨T, hT⟩ : ∃ T, (R * 4294967296 + u0) % Y = T := ⟨_, rfl⟩
     have T0 : 0 ≤ T := by rw [← hT]; exact Int.emod_nonneg _ (by omega)
     have T1 : T < Y := by rw [← hT]; exact Int.emod_lt_of_pos _ (by omega)
     have HT : Hid ((R * 4294967296 + u0) % Y = T) := hT
     have HRR : Hid ((U * 4294967296 + u1) % Y = R) := hR
     clear hR hT hQ
     go_wp2
     go_loop [18, 16] (fun a b => ∃ q rh : Int, a = .int .u64 q ∧ b = .int .u64 rh ∧ rh < 4294967296 ∧ Hid (DAt R Y1 Y0 u0 q rh)) (fun a _ => (intOf a).toNat)
     case atStart => exact ⟨z, R - m2, by first | rfl | rw [hz2], rfl, (by have := Int.emod_lt_of_pos R (show 0 < Y1 by omega); have := Int.emod_add_mul_ediv R Y1; rw [hz2, Int.mul_comm, hm2] at this; omega), ST2⟩
     case round =>
      clear hz2 hm2 ST2 b1 b2 b3 m0 f1
      have hT := HT.out
      have hR := HRR.out
      obtain ⟨q3, rh3, rfl, rfl, hrh3, hA3⟩ := hrel
      have g1 := hA3.out.1
      have g2 := hA3.out.2.1
      have g3 := hA3.out.2.2.1
      obtain ⟨p, hp⟩ : ∃ p, q3 * Y0 = p := ⟨_, rfl⟩
      have hp0 : 0 ≤ p := by rw [← hp]; exact Int.mul_nonneg g1 y0l
      by_cases c1 : 4294967296 ≤ q3
      ·have hd : Hid (DAt R Y1 Y0 u0 (q3 - 1) (rh3 + Y1)) := dAt_down hA3.out y1l y0l u0l u0h RY.out (Or.inl c1)
       by_cases c2 : rh3 + Y1 < 4294967296
       ·go_wp2
        go_round
        case rel => exact ⟨q3 - 1, rh3 + Y1, rfl, rfl, c2, hd⟩
        case measure => simp [intOf]; omega
       ·have hq0 : Hid (q3 - 1 = (R * 4294967296 + u0) / (Y1 * 4294967296 + Y0)) := dAt_done hd.out y1l y0l (dAt_break hd.out (by omega) y0l y0h u0l (by omega))
        obtain ⟨Zv, hqv⟩ : ∃ Zv, q3 - 1 = Zv := ⟨_, rfl⟩
        rw [hqv] at hq0
        have hZ := hq0
        clear hd hq0
        have hZY : Hid (Zv = (R * 4294967296 + u0) / Y) := by unfold Hid; rw [hZ.out, ← HN.out.yy]
        have zb := dig_lt R0 R1 u0l u0h
        rw [← hZY.out] at zb
        have f2 : IntKind.u64.wrap (IntKind.u64.wrap (IntKind.u64.wrap (R * 4294967296) + u0) - IntKind.u64.wrap (Zv * Y)) = T := by
         have := dig_rest (un := R) (u1 := u0) (Y := Y) (q := Zv) (by omega) yyc hZY.out
         rw [hT] at this
         simp only [IntKind.wrap_u64]
         omega
        have HF : Hid (q2 * 4294967296 + Zv = (h * 18446744073709551616 + l) / y ∧ T / D = (h * 18446744073709551616 + l) % y) := by
         unfold Hid
         rw [← HN.out.qq, ← HN.out.rr]
         obtain ⟨k1, k2⟩ := two_digits (V := U * 18446744073709551616 + L) (U := U) (u1 := u1) (u0 := u0) (Y := Y) (by omega) (by have := HN.out.lu; omega)
         rw [hR, hT] at k2
         rw [hR, ← hZY.out, ← hQY.out] at k1
         rw [k1, k2]
         exact ⟨rfl, rfl⟩
        clear hZ hZY hT hR
        go_wp2
        go_ret2
        exact ⟨ret_ii HF.out.1 HF.out.2, 0, rfl⟩

      ·have hpW : p ≤ 18446744065119617025 := by
        have : q3 * Y0 ≤ 4294967295 * 4294967295 := Int.mul_le_mul (by omega) (by omega) y0l (by omega)
        omega
       by_cases c3 : 4294967296 * rh3 + u0 < p
       ·have hd : Hid (DAt R Y1 Y0 u0 (q3 - 1) (rh3 + Y1)) := dAt_down hA3.out y1l y0l u0l u0h RY.out (Or.inr (by omega))
        have q1 : 1 ≤ q3 := by have := hd.out.1; omega
        by_cases c2 : rh3 + Y1 < 4294967296
        ·go_wp2
         go_round
         case rel => exact ⟨q3 - 1, rh3 + Y1, rfl, rfl, c2, hd⟩
         case measure => simp [intOf]; omega
        ·have hq0 : Hid (q3 - 1 = (R * 4294967296 + u0) / (Y1 * 4294967296 + Y0)) := dAt_done hd.out y1l y0l (dAt_break hd.out (by omega) y0l y0h u0l (by omega))
         obtain ⟨Zv, hqv⟩ : ∃ Zv, q3 - 1 = Zv := ⟨_, rfl⟩
         rw [hqv] at hq0
         have hZ := hq0
         clear hd hq0
         have hZY : Hid (Zv = (R * 4294967296 + u0) / Y) := by unfold Hid; rw [hZ.out, ← HN.out.yy]
         have zb := dig_lt R0 R1 u0l u0h
         rw [← hZY.out] at zb
         have f2 : IntKind.u64.wrap (IntKind.u64.wrap (IntKind.u64.wrap (R * 4294967296) + u0) - IntKind.u64.wrap (Zv * Y)) = T := by
          have := dig_rest (un := R) (u1 := u0) (Y := Y) (q := Zv) (by omega) yyc hZY.out
          rw [hT] at this
          simp only [IntKind.wrap_u64]
          omega
         have HF : Hid (q2 * 4294967296 + Zv = (h * 18446744073709551616 + l) / y ∧ T / D = (h * 18446744073709551616 + l) % y) := by
          unfold Hid
          rw [← HN.out.qq, ← HN.out.rr]
          obtain ⟨k1, k2⟩ := two_digits (V := U * 18446744073709551616 + L) (U := U) (u1 := u1) (u0 := u0) (Y := Y) (by omega) (by have := HN.out.lu; omega)
          rw [hR, hT] at k2
          rw [hR, ← hZY.out, ← hQY.out] at k1
          rw [k1, k2]
          exact ⟨rfl, rfl⟩
         clear hZ hZY hT hR
         go_wp2
         go_ret2
         exact ⟨ret_ii HF.out.1 HF.out.2, 0, rfl⟩

       ·have hZ : Hid (q3 = (R * 4294967296 + u0) / (Y1 * 4294967296 + Y0)) := dAt_done hA3.out y1l y0l (by omega)
        have hZY : Hid (q3 = (R * 4294967296 + u0) / Y) := by unfold Hid; rw [hZ.out, ← HN.out.yy]
        have zb := dig_lt R0 R1 u0l u0h
        rw [← hZY.out] at zb
        have f2 : IntKind.u64.wrap (IntKind.u64.wrap (IntKind.u64.wrap (R * 4294967296) + u0) - IntKind.u64.wrap (q3 * Y)) = T := by
         have := dig_rest (un := R) (u1 := u0) (Y := Y) (q := q3) (by omega) yyc hZY.out
         rw [hT] at this
         simp only [IntKind.wrap_u64]
         omega
        have HF : Hid (q2 * 4294967296 + q3 = (h * 18446744073709551616 + l) / y ∧ T / D = (h * 18446744073709551616 + l) % y) := by
         unfold Hid
         rw [← HN.out.qq, ← HN.out.rr]
         obtain ⟨k1, k2⟩ := two_digits (V := U * 18446744073709551616 + L) (U := U) (u1 := u1) (u0 := u0) (Y := Y) (by omega) (by have := HN.out.lu; omega)
         rw [hR, hT] at k2
         rw [hR, ← hZY.out, ← hQY.out] at k1
         rw [k1, k2]
         exact ⟨rfl, rfl⟩
        clear hZ hZY hT hR
        go_wp2
        go_ret2
        exact ⟨ret_ii HF.out.1 HF.out.2, 0, rfl⟩
end Go.Proofs.YtoglokgkgonmdaaGreatDoor
namespace Go.Proofs.YtoglokgkgonmdaaGreatDoor
open Go.RowKit Qn
namespace Qn
end Qn
end Go.Proofs.YtoglokgkgonmdaaGreatDoor
namespace Go.Proofs.YtoglokgkgonmdaaGreatDoor
open Go.RowKit Qn
attribute [local go_sem ↓] Go.wp_at_zero Go.wp_at_succ
namespace Qn
theorem in3_of {n : Int} (h0 : -1361129467683753853853498429727072845824 ≤ n) (h1 : n ≤ 1361129467683753853853498429727072845824) : In3 n := by unfold In3; omega
theorem rne_bd {n d : Int} (hd : 0 < d) {A : Int} (h0 : -A ≤ n) (h1 : n ≤ A) (hA : 0 ≤ A) : -A ≤ rne n d ∧ rne n d ≤ A + 1 := by
  have e0 : -A ≤ n / d := by
    refine Int.le_ediv_of_mul_le hd ?_
    have : A * 1 ≤ A * d := Int.mul_le_mul_of_nonneg_left (by omega) hA
    rw [Int.neg_mul]
    omega
  have e1 : n / d ≤ A := by
    have : n / d < A + 1 := Int.ediv_lt_of_lt_mul hd (by
      have : (A + 1) * 1 ≤ (A + 1) * d := Int.mul_le_mul_of_nonneg_left (by omega) (by omega)
      omega)
    omega
  unfold rne
  split <;> omega
theorem pow_pos2 (p : Nat) : (0 : Int) < 2 ^ p := Int.pow_pos (by omega)
theorem mb_nat {p : Nat} (hp : p ≤ 62) : mb (p : Int) = true := by
  unfold mb; rw [decide_eq_true (by omega), decide_eq_true (by omega)]; rfl
end Qn
set_option maxHeartbeats 1000000 in
theorem qadd_any (a b : Int) (w : World) (ha0 : -9223372036854775808 ≤ a) (ha1 : a ≤ 9223372036854775807) (hb0 : -9223372036854775808 ≤ b) (hb1 : b ≤ 9223372036854775807) :
    Calls Tryz.prog 137 #[.int .i64 a, .int .i64 b] w fun e w' => e = .returned (.tuple #[.int .i64 (clamp (a + b)), .bool (great (a + b))]) ∧ Below w.heap.size w w' := by
  go_enter Tryz.func137, Tryz.ntmps137
  go_wp2_with fail
  refine (qof_any a _ ha0 ha1).mono ?_
  rintro e w1 ⟨rfl, k1⟩
  go_wp2_with fail
  refine (qplus_any a b 1 _ hb0 hb1 (by omega) (by omega)).mono ?_
  rintro e w2 ⟨rfl, k2⟩
  rw [Int.mul_one]
  go_wp2_with fail
  refine (bounded_any (a + b) _ (in3_of (by omega) (by omega))).mono ?_
  rintro e w3 ⟨rfl, k3⟩
  go_wp2
  go_ret2
  exact ⟨rfl, below_tr (below_tr k1 k2) k3⟩
set_option maxHeartbeats 1000000 in
theorem qsub_any (a b : Int) (w : World) (ha0 : -9223372036854775808 ≤ a) (ha1 : a ≤ 9223372036854775807) (hb0 : -9223372036854775808 ≤ b) (hb1 : b ≤ 9223372036854775807) :
    Calls Tryz.prog 133 #[.int .i64 a, .int .i64 b] w fun e w' => e = .returned (.tuple #[.int .i64 (clamp (a - b)), .bool (great (a - b))]) ∧ Below w.heap.size w w' := by
  have hm : a + b * (-1) = a - b := by omega
  go_enter Tryz.func133, Tryz.ntmps133
  go_wp2_with fail
  refine (qof_any a _ ha0 ha1).mono ?_
  rintro e w1 ⟨rfl, k1⟩
  go_wp2_with fail
  refine (qplus_any a b (-1) _ hb0 hb1 (by omega) (by omega)).mono ?_
  rintro e w2 ⟨rfl, k2⟩
  rw [hm]
  go_wp2_with fail
  refine (bounded_any (a - b) _ (in3_of (by omega) (by omega))).mono ?_
  rintro e w3 ⟨rfl, k3⟩
  go_wp2
  go_ret2
  exact ⟨rfl, below_tr (below_tr k1 k2) k3⟩
set_option maxHeartbeats 1000000 in
theorem qmul_any (a b : Int) (p : Nat) (w : World) (ha0 : -9223372036854775808 ≤ a) (ha1 : a ≤ 9223372036854775807) (hb0 : -9223372036854775808 ≤ b) (hb1 : b ≤ 9223372036854775807) (hp : p ≤ 62) :
    Calls Tryz.prog 135 #[.int .i64 a, .int .i64 b, .int .i64 p] w fun e w' => e = .returned (.tuple #[.int .i64 (clamp (rne (a * b) (2 ^ p))), .bool (great (rne (a * b) (2 ^ p))), .nilIface]) ∧ Below w.heap.size w w' := by
  have hm := mb_nat hp
  have bd := mul64_bd ha0 ha1 hb0 hb1
  have HI : Hid (In3 (a * b) ∧ In3 (rne (a * b) (2 ^ p))) := by
    have := rne_bd (pow_pos2 p) (A := 85070591730234615865843651857942052864) bd.1 bd.2 (by omega)
    exact ⟨in3_of (by omega) (by omega), in3_of (by omega) (by omega)⟩
  clear bd
  go_enter Tryz.func135, Tryz.ntmps135
  go_wp2_with fail
  refine (mayBe_any _ _).mono ?_
  rintro e w' ⟨rfl, rfl⟩
  rw [hm]
  go_wp2_with fail
  refine (product_any a b _ ha0 ha1 hb0 hb1).mono ?_
  rintro e w1 ⟨rfl, k1⟩
  go_wp2_with fail
  refine (lowered_any (a * b) p _ hp HI.out.1).mono ?_
  rintro e w2 ⟨rfl, k2⟩
  go_wp2_with fail
  refine (bounded_any _ _ HI.out.2).mono ?_
  rintro e w3 ⟨rfl, k3⟩
  go_wp2
  go_ret3
  exact ⟨rfl, below_tr (below_tr k1 k2) k3⟩
namespace Qn
end Qn
end Go.Proofs.YtoglokgkgonmdaaGreatDoor
namespace Go.Proofs.YtoglokgkgonmdaaGreatDoor
open Go.RowKit Qn
namespace Qn
end Qn
end Go.Proofs.YtoglokgkgonmdaaGreatDoor
namespace Go.Proofs.YtoglokgkgonmdaaGreatDoor
open Go.RowKit Qn Dt
attribute [local go_sem ↓] Go.wp_at_zero Go.wp_at_succ
theorem Hid.mkq {p : Prop} (h : p) : Hid p := h
set_option maxRecDepth 20000 in
set_option maxHeartbeats 2000000 in
theorem qdot_any (ao bo : Option Addr) (xa xb : Addr) (n ca cb : Nat) (za zb : Nat → Int) (b : Nat) (w : World) (hn : n ≤ 64) (hao : 0 < n → ao = some xa) (hbo : 0 < n → bo = some xb)
  (hca : ∀ k, k < n → w.cell? (xa.add k) = some (.int .i64 (za k))) (hcb : ∀ k, k < n → w.cell? (xb.add k) = some (.int .i64 (zb k)))
  (ba : ∀ k, -9223372036854775808 ≤ za k ∧ za k ≤ 9223372036854775807) (bb : ∀ k, -9223372036854775808 ≤ zb k ∧ zb k ≤ 9223372036854775807) (hb : b ≤ 62) :
  Calls Tryz.prog 92 #[.slice ao n ca, .slice bo n cb, .int .i64 b] w fun e w' => e = .returned (.tuple #[.int .i64 (clamp (rne (dk za zb n) (2 ^ b))), .bool (great (rne (dk za zb n) (2 ^ b))), .nilIface]) ∧ Below w.heap.size w w' := by
 have hm := mb_nat hb
 have HAO := Hid.mkq hao
 have HBO := Hid.mkq hbo
 have HCA := Hid.mkq hca
 have HCB := Hid.mkq hcb
 have HBA := Hid.mkq ba
 have HBB := Hid.mkq bb
 have hdk := dk_bd za zb ba bb n
 have HI : Hid (In3 (dk za zb n) ∧ In3 (rne (dk za zb n) (2 ^ b))) := by
  have hB : (0 : Int) < 2 ^ b := Int.pow_pos (by omega)
  have hdl : -5444517870735015415413993718908291383296 ≤ dk za zb n ∧ dk za zb n ≤ 5444517870735015415413993718908291383296 := by omega
  have h3 : (dk za zb n / 2 ^ b) ≤ 5444517870735015415413993718908291383296 ∧ -5444517870735015415413993718908291383296 ≤ dk za zb n / 2 ^ b := by
   constructor
   ·refine Int.ediv_le_of_le_mul hB ?_
    have : (5444517870735015415413993718908291383296 : Int) * 1 ≤ 5444517870735015415413993718908291383296 * 2 ^ b := Int.mul_le_mul_of_nonneg_left (by omega) (by omega)
    omega
   ·rw [Int.le_ediv_iff_mul_le hB]
    have : (5444517870735015415413993718908291383296 : Int) * 1 ≤ 5444517870735015415413993718908291383296 * 2 ^ b := Int.mul_le_mul_of_nonneg_left (by omega) (by omega)
    rw [Int.neg_mul]
    omega
  refine ⟨by unfold In3; omega, ?_⟩
  unfold In3 rne
  split <;> omega
 obtain ⟨X, hX⟩ : ∃ X, X = rne (dk za zb n) (2 ^ b) := ⟨_, rfl⟩
 rw [← hX]
 have HX := Hid.mkq hX
 clear hao hbo hca hcb ba bb hX hdk
 go_enter Tryz.func92, Tryz.ntmps92
 go_wp2_with fail
 refine (mayBe_any (b : Int) _).mono ?_
 rintro e w ⟨rfl, rfl⟩
 rw [hm]
 go_wp2
 go_loopw [31] (fun i wr => ∃ k : Nat, k ≤ n ∧ i = .int .i64 (k : Int) ∧ Row3 wr w.heap.size (lo (dk za zb k)) (mi (dk za zb k)) (hi (dk za zb k)) ∧ Below w.heap.size w wr) (fun i _ => n - (intOf i).toNat)
 case atStart => exact ⟨0, by omega, rfl, row3_new w _ _ _, below_al (Below.refl _ _) _⟩
 case round =>
  obtain ⟨k, hk, rfl, hr, hbel⟩ := hrel
  by_cases h : k < n
  ·obtain rfl := HAO.out (by omega)
   obtain rfl := HBO.out (by omega)
   have ca' := keep_cell hbel (HCA.out k h)
   have cb' := keep_cell hbel (HCB.out k h)
   have pa := HBA.out k
   have pb := HBB.out k
   obtain ⟨P, hP⟩ : ∃ P, P = za k := ⟨_, rfl⟩
   obtain ⟨Q, hQ⟩ : ∃ Q, Q = zb k := ⟨_, rfl⟩
   obtain ⟨S, hS⟩ : ∃ S, S = dk za zb k := ⟨_, rfl⟩
   rw [← hP] at ca' pa
   rw [← hQ] at cb' pb
   rw [← hS] at hr
   have HS : Hid (dk za zb (k + 1) = S + P * Q) := by rw [hS, hP, hQ]; rfl
   clear hP hQ hS
   have z0 := hr.c0
   have z1 := hr.c1
   have z2 := hr.c2
   go_wp2
   go_region_with
    (first
     | (go_at_call 115; refine (qplus_any S P Q _ pa.1 pa.2 pb.1 pb.2).mono ?_; rintro e w2 ⟨rfl, hb2⟩; have hr2 := hr.drew.keep hb2; have y0 := hr2.c0; have y1 := hr2.c1; have y2 := hr2.c2; have f0 := hr2.free 0; have f1 := hr2.free 1; have f2 := hr2.free 2))
   all_goals go_wp2
   all_goals go_roundw
   all_goals first
    | (simp [intOf]; omega)
    | exact ⟨k + 1, by omega, by go_num, by rw [HS.out]; exact (((hr2.set0 _).set1 _).set2 _), (((below_tr hbel.drew hb2).setCell (Nat.le_refl _) _).setCell (Nat.le_refl _) _).setCell (Nat.le_refl _) _⟩
    | trace_state
  ·obtain rfl : k = n := by omega
   go_wp2_with (first | (refine wpList_load3 rfl (.tmp 9) rfl _ _ _ _ rfl hr ?_) | fail)
   refine (lowered_any (dk za zb k) b _ hb HI.out.1).mono ?_
   rintro e w2 ⟨rfl, hb2⟩
   go_wp2_with fail
   refine (bounded_any _ _ HI.out.2).mono ?_
   rintro e w3 ⟨rfl, hb3⟩
   rw [← HX.out]
   go_wp2
   go_ret3
   exact ⟨rfl, below_tr (below_tr hbel hb2) hb3⟩
end Go.Proofs.YtoglokgkgonmdaaGreatDoor
namespace Go.Proofs.YtoglokgkgonmdaaGreatDoor
open Go.RowKit Vc Qn
set_option maxRecDepth 10000 in
set_option maxHeartbeats 1000000 in
theorem byPart_Sub (p q : Value) (x : Addr) (m cm n c0 : Nat) (a0 : Option Addr) (r : Nat → Int) (g : Nat → Bool) (w : World) (hm : 0 < m) (hmc : m ≤ cm) (hcm : cm ≤ 9223372036854775807) (h0 : w.cell? x = some (.slice a0 n c0)) (hn : n ≤ 6)
  (hal : Calls Tryz.prog 113 #[.slice (some x) m cm] w fun e w' => e = .returned (.bool true) ∧ w' = w)
  (hcl : ∀ k, k < n → ∀ w1, Below w.heap.size w w1 → Calls Tryz.prog 132 #[.int .i64 (k : Int), p, q] w1 fun e w' => e = .returned (.tuple #[.int .i64 (r k), .bool (g k), .nilIface]) ∧ Below w1.heap.size w1 w') :
  Calls Tryz.prog 90 #[.func (.func 132) #[] #[p, q], .slice (some x) m cm] w fun e w' => ∃ ao ca, e = .returned (.tuple #[.slice ao n ca, .bool (anyb g n), .nilIface]) ∧ Sl w' ao n ca r ∧ Below w.heap.size w w' := by
 have HAL := Hid.mkV hal
 have HCL := Hid.mkV hcl
 clear hal hcl
 obtain ⟨i0, hi, hz0, hz1, hz2⟩ := info_parts infoI64
 go_enter Tryz.func90, Tryz.ntmps90
 go_wp2_with fail
 refine HAL.out.mono ?_
 rintro e w' ⟨rfl, rfl⟩
 go_wp2_with (at_make; refine wpList_make_full _ rfl _ _ 22 rfl w'.heap.size 2 i0 (.int .i64 0) 1 Tryz.underlying22 hi hz0 hz1 _ _ _ _ n rfl rfl (by omega) (by omega) (by rw [hz2]; omega) (by unfold maxLen; omega) (Nat.le_refl _) ?_)
 intro w0 hown0 hgrow0
 have hO0 := own_made hown0 hgrow0 (Nat.le_refl _)
 clear hown0 hgrow0
 go_wp2
 go_loopw [8, 24] (fun gr i wr => ∃ (k : Nat) (z : Nat → Int), k ≤ n ∧ i = .int .i64 (k : Int) ∧ gr = .bool (anyb g k) ∧ (∀ j, j < k → z j = r j) ∧ Own w'.heap.size w' wr (.slice (some ⟨w'.heap.size, 0, none⟩) n n) n z) (fun _ i _ => n - (intOf i).toNat)
 case atStart => exact ⟨0, fun _ => 0, by omega, rfl, rfl, fun j hj => by omega, hO0⟩
 case round =>
  obtain ⟨k, z, hk, rfl, rfl, hzz, hown⟩ := hrel
  by_cases h : k < n
  ·have HC := Hid.mkV (HCL.out k h _ hown.below)
   have HA : Hid (anyb g (k + 1) = (anyb g k || g k)) := rfl
   have HZZ := Hid.mkV hzz
   clear hzz
   obtain ⟨R, hR⟩ : ∃ R, R = r k := ⟨_, rfl⟩
   obtain ⟨G, hG⟩ : ∃ G, G = g k := ⟨_, rfl⟩
   obtain ⟨T, hT⟩ : ∃ T, T = anyb g k := ⟨_, rfl⟩
   rw [← hR, ← hG] at HC
   rw [← hT, ← hG] at HA
   rw [← hT]
   have HR := Hid.mkV hR
   clear hR hG hT
   go_wp2_with fail
   refine HC.out.mono ?_
   rintro e w2 ⟨rfl, k2⟩
   have hown2 := hown.keep k2
   have c3 := hown2.cell h
   have f3 := hown2.free k
   cases T
   all_goals go_wp2
   all_goals go_roundw
   all_goals first
    | (simp [intOf]; omega)
    | exact ⟨k + 1, _, by omega, by go_num, by rw [HA.out]; first | rfl | simp, fun j hj => (by by_cases e : j = k; (rw [if_pos e, e]; exact HR.out); (rw [if_neg e]; exact HZZ.out j (by omega))), hown2.set k R⟩
  ·obtain rfl : k = n := by omega
   go_wp2
   go_ret3
   obtain ⟨ao, ca, e1, e2⟩ := hown.sl
   cases e1
   exact ⟨_, _, rfl, e2.congr hzz, hown.below⟩
set_option maxRecDepth 10000 in
set_option maxHeartbeats 1000000 in
theorem byPart_Join (p q : Value) (x : Addr) (m cm n c0 : Nat) (a0 : Option Addr) (r : Nat → Int) (g : Nat → Bool) (w : World) (hm : 0 < m) (hmc : m ≤ cm) (hcm : cm ≤ 9223372036854775807) (h0 : w.cell? x = some (.slice a0 n c0)) (hn : n ≤ 6)
  (hal : Calls Tryz.prog 113 #[.slice (some x) m cm] w fun e w' => e = .returned (.bool true) ∧ w' = w)
  (hcl : ∀ k, k < n → ∀ w1, Below w.heap.size w w1 → Calls Tryz.prog 91 #[.int .i64 (k : Int), p, q] w1 fun e w' => e = .returned (.tuple #[.int .i64 (r k), .bool (g k), .nilIface]) ∧ Below w1.heap.size w1 w') :
  Calls Tryz.prog 90 #[.func (.func 91) #[] #[p, q], .slice (some x) m cm] w fun e w' => ∃ ao ca, e = .returned (.tuple #[.slice ao n ca, .bool (anyb g n), .nilIface]) ∧ Sl w' ao n ca r ∧ Below w.heap.size w w' := by
 have HAL := Hid.mkV hal
 have HCL := Hid.mkV hcl
 clear hal hcl
 obtain ⟨i0, hi, hz0, hz1, hz2⟩ := info_parts infoI64
 go_enter Tryz.func90, Tryz.ntmps90
 go_wp2_with fail
 refine HAL.out.mono ?_
 rintro e w' ⟨rfl, rfl⟩
 go_wp2_with (at_make; refine wpList_make_full _ rfl _ _ 22 rfl w'.heap.size 2 i0 (.int .i64 0) 1 Tryz.underlying22 hi hz0 hz1 _ _ _ _ n rfl rfl (by omega) (by omega) (by rw [hz2]; omega) (by unfold maxLen; omega) (Nat.le_refl _) ?_)
 intro w0 hown0 hgrow0
 have hO0 := own_made hown0 hgrow0 (Nat.le_refl _)
 clear hown0 hgrow0
 go_wp2
 go_loopw [8, 24] (fun gr i wr => ∃ (k : Nat) (z : Nat → Int), k ≤ n ∧ i = .int .i64 (k : Int) ∧ gr = .bool (anyb g k) ∧ (∀ j, j < k → z j = r j) ∧ Own w'.heap.size w' wr (.slice (some ⟨w'.heap.size, 0, none⟩) n n) n z) (fun _ i _ => n - (intOf i).toNat)
 case atStart => exact ⟨0, fun _ => 0, by omega, rfl, rfl, fun j hj => by omega, hO0⟩
 case round =>
  obtain ⟨k, z, hk, rfl, rfl, hzz, hown⟩ := hrel
  by_cases h : k < n
  ·have HC := Hid.mkV (HCL.out k h _ hown.below)
   have HA : Hid (anyb g (k + 1) = (anyb g k || g k)) := rfl
   have HZZ := Hid.mkV hzz
   clear hzz
   obtain ⟨R, hR⟩ : ∃ R, R = r k := ⟨_, rfl⟩
   obtain ⟨G, hG⟩ : ∃ G, G = g k := ⟨_, rfl⟩
   obtain ⟨T, hT⟩ : ∃ T, T = anyb g k := ⟨_, rfl⟩
   rw [← hR, ← hG] at HC
   rw [← hT, ← hG] at HA
   rw [← hT]
   have HR := Hid.mkV hR
   clear hR hG hT
   go_wp2_with fail
   refine HC.out.mono ?_
   rintro e w2 ⟨rfl, k2⟩
   have hown2 := hown.keep k2
   have c3 := hown2.cell h
   have f3 := hown2.free k
   cases T
   all_goals go_wp2
   all_goals go_roundw
   all_goals first
    | (simp [intOf]; omega)
    | exact ⟨k + 1, _, by omega, by go_num, by rw [HA.out]; first | rfl | simp, fun j hj => (by by_cases e : j = k; (rw [if_pos e, e]; exact HR.out); (rw [if_neg e]; exact HZZ.out j (by omega))), hown2.set k R⟩
  ·obtain rfl : k = n := by omega
   go_wp2
   go_ret3
   obtain ⟨ao, ca, e1, e2⟩ := hown.sl
   cases e1
   exact ⟨_, _, rfl, e2.congr hzz, hown.below⟩
end Go.Proofs.YtoglokgkgonmdaaGreatDoor
namespace Go.Proofs.YtoglokgkgonmdaaGreatDoor
open Go.RowKit Vc Qn Dt
namespace Vc
theorem Sls.two {W : World} {x : Addr} {a b : Option Addr} {n m ca cb : Nat} (h0 : W.cell? x = some (.slice a n ca)) (h1 : W.cell? (x.add 1) = some (.slice b m cb)) : Sls W (some x) 2 2 (fun j => if j = 0 then a else b) (fun j => if j = 0 then n else m) (fun j => if j = 0 then ca else cb) :=
  ⟨Nat.le_refl _, by omega, fun j hj => ⟨x, rfl, by
    match j, hj with
    | 0, _ => exact h0
    | 1, _ => exact h1⟩⟩
theorem Sls.len {W : World} {lo : Option Addr} {m cm : Nat} {A : Nat → Option Addr} {L L' C : Nat → Nat} (h : Sls W lo m cm A L C) (e : ∀ j, j < m → L j = L' j) : Sls W lo m cm A L' C :=
  ⟨h.le, h.cap, fun j hj => by rw [← e j hj]; exact h.at' j hj⟩
end Vc
set_option maxRecDepth 10000 in
set_option maxHeartbeats 1000000 in
theorem vsub1_any (k n ca cb : Nat) (ao bo : Option Addr) (za zb : Nat → Int) (pa pb : Nat) (w : World) (hk : k < n) (ha : Sl w ao n ca za) (hb : Sl w bo n cb zb) (ba : B64 za) (bb : B64 zb)
  (cp : w.cell? ⟨pa, 0, none⟩ = some (.slice ao n ca)) (cq : w.cell? ⟨pb, 0, none⟩ = some (.slice bo n cb)) :
  Calls Tryz.prog 132 #[.int .i64 (k : Int), .pointer (some ⟨pa, 0, none⟩), .pointer (some ⟨pb, 0, none⟩)] w fun e w' => e = .returned (.tuple #[.int .i64 (clamp (za k - zb k)), .bool (great (za k - zb k)), .nilIface]) ∧ Below w.heap.size w w' := by
 obtain ⟨xa, hao, hca⟩ := ha.get
 obtain ⟨xb, hbo, hcb⟩ := hb.get
 obtain rfl := hao (by omega)
 obtain rfl := hbo (by omega)
 have h1 := ha.le
 have h2 := ha.cap
 have h3 := hb.le
 have h4 := hb.cap
 have c1 := hca k hk
 have c2 := hcb k hk
 have HM := Hid.mkV (fun W => qsub_any (za k) (zb k) W (ba k).1 (ba k).2 (bb k).1 (bb k).2)
 obtain ⟨P, hP⟩ : ∃ P, P = za k := ⟨_, rfl⟩
 obtain ⟨Q, hQ⟩ : ∃ Q, Q = zb k := ⟨_, rfl⟩
 rw [← hP, ← hQ] at HM
 rw [← hP] at c1
 rw [← hQ] at c2
 rw [← hP, ← hQ]
 clear hao hbo hca hcb ha hb ba bb hP hQ
 obtain ⟨X, hX⟩ : ∃ X, X = clamp (P - Q) := ⟨_, rfl⟩
 obtain ⟨Y, hY⟩ : ∃ Y, Y = great (P - Q) := ⟨_, rfl⟩
 rw [← hX, ← hY] at HM
 rw [← hX, ← hY]
 clear hX hY
 go_enter Tryz.func132, Tryz.ntmps132
 go_wp2
 go_region_held3 (fun w' => w'.cell? ⟨pa, 0, none⟩ = some (.slice (some xa) n ca) ∧ w'.cell? ⟨pb, 0, none⟩ = some (.slice (some xb) n cb) ∧ w'.cell? (xa.add k) = some (.int .i64 P) ∧ w'.cell? (xb.add k) = some (.int .i64 Q)) (first | exact ⟨cp, cq, c1, c2⟩ | exact ⟨keep_cell kk cp, keep_cell kk cq, keep_cell kk c1, keep_cell kk c2⟩ | go_keep)
  (first | (go_at_call 133; refine (HM.out _).mono ?_; rintro e w2 ⟨rfl, k2⟩; have kk := below_tr (Vc.below_drew' w) k2))
 all_goals go_wp2
 all_goals go_ret3
 all_goals exact ⟨rfl, kk⟩
set_option maxRecDepth 10000 in
set_option maxHeartbeats 1000000 in
theorem vsub_any (n ca cb : Nat) (ao bo : Option Addr) (za zb : Nat → Int) (w : World) (hn : n ≤ 6) (ha : Sl w ao n ca za) (hb : Sl w bo n cb zb) (ba : B64 za) (bb : B64 zb) :
  Calls Tryz.prog 118 #[.slice ao n ca, .slice bo n cb] w fun e w' => ∃ co cc, e = .returned (.tuple #[.slice co n cc, .bool (anyb (fun k => great (za k - zb k)) n), .nilIface]) ∧ Sl w' co n cc (fun k => clamp (za k - zb k)) ∧ Below w.heap.size w w' := by
 have hW := below_al (below_al (below_al (Below.refl _ w) (.cells #[.slice ao n ca] 22)) (.cells #[.slice bo n cb] 22)) (.cells #[.slice ao n ca, .slice bo n cb] 22)
 have d1 : (((w.alloc (.cells #[.slice ao n ca] 22)).alloc (.cells #[.slice bo n cb] 22)).alloc (.cells #[.slice ao n ca, .slice bo n cb] 22)).cell? ⟨w.heap.size, 0, none⟩ = some (.slice ao n ca) := by go_simp
 have d2 : (((w.alloc (.cells #[.slice ao n ca] 22)).alloc (.cells #[.slice bo n cb] 22)).alloc (.cells #[.slice ao n ca, .slice bo n cb] 22)).cell? ⟨w.heap.size + 1, 0, none⟩ = some (.slice bo n cb) := by go_simp
 have d3 : (((w.alloc (.cells #[.slice ao n ca] 22)).alloc (.cells #[.slice bo n cb] 22)).alloc (.cells #[.slice ao n ca, .slice bo n cb] 22)).cell? ⟨w.heap.size + 1 + 1, 0, none⟩ = some (.slice ao n ca) := by go_simp
 have d4 : (((w.alloc (.cells #[.slice ao n ca] 22)).alloc (.cells #[.slice bo n cb] 22)).alloc (.cells #[.slice ao n ca, .slice bo n cb] 22)).cell? ((⟨w.heap.size + 1 + 1, 0, none⟩ : Addr).add 1) = some (.slice bo n cb) := by rw [Addr.add_lit]; go_simp
 have H := Hid.mkV (byPart_Sub (.pointer (some ⟨w.heap.size, 0, none⟩)) (.pointer (some ⟨w.heap.size + 1, 0, none⟩)) ⟨w.heap.size + 1 + 1, 0, none⟩ 2 2 n ca ao (fun k => clamp (za k - zb k)) (fun k => great (za k - zb k)) _ (by omega) (by omega) (by omega) d3 hn
  (alike_yes _ 2 2 _ n _ _ ((Sls.two d3 d4).len (fun j hj => by split <;> rfl)) (by omega) hn)
  (fun k hk w1 b1 => vsub1_any k n ca cb ao bo za zb w.heap.size (w.heap.size + 1) w1 hk (ha.keep (below_tr hW b1)) (hb.keep (below_tr hW b1)) ba bb (keep_cell b1 d1) (keep_cell b1 d2)))
 clear d1 d2 d3 d4 ha hb ba bb
 go_enter Tryz.func118, Tryz.ntmps118
 go_wp2_with fail
 refine H.out.mono ?_
 rintro e w1 ⟨co, cc, rfl, hs, k1⟩
 go_wp2
 go_ret3
 exact ⟨co, cc, rfl, hs, below_tr hW k1⟩
end Go.Proofs.YtoglokgkgonmdaaGreatDoor
namespace Go.Proofs.YtoglokgkgonmdaaGreatDoor
open Go.RowKit Vc Qn Dt
theorem qdot_sl (ao bo : Option Addr) (n ca cb : Nat) (za zb : Nat → Int) (q : Int) (b : Nat) (w : World) (hq : q = (b : Int)) (hn : n ≤ 64) (ha : Sl w ao n ca za) (hb : Sl w bo n cb zb) (ba : B64 za) (bb : B64 zb) (hp : b ≤ 62) :
    Calls Tryz.prog 92 #[.slice ao n ca, .slice bo n cb, .int .i64 q] w fun e w' => e = .returned (.tuple #[.int .i64 (clamp (rne (dk za zb n) (2 ^ b))), .bool (great (rne (dk za zb n) (2 ^ b))), .nilIface]) ∧ Below w.heap.size w w' := by
  subst hq
  obtain ⟨xa, hao, hca⟩ := ha.get
  obtain ⟨xb, hbo, hcb⟩ := hb.get
  exact qdot_any ao bo xa xb n ca cb za zb b w hn hao hbo hca hcb ba bb hp
set_option maxRecDepth 10000 in
set_option maxHeartbeats 1000000 in
theorem vjoin1_any (p : Nat) (lo ho : Option Addr) (m cm hc : Nat) (A : Nat → Option Addr) (L C : Nat → Nat) (Z : Nat → Nat → Int) (c : Nat → Int) (pa pb : Nat) (w : World) (h : Sls w lo m cm A L C) (hz : ∀ k, k < m → Sl w (A k) (L k) (C k) (Z k)) (hp : ∀ k, k < m → p < L k) (hm : m ≤ 4)
  (hch : Sl w ho m hc c) (bz : B64 (fun k => Z k p)) (bc : B64 c) (cp : w.cell? ⟨pa, 0, none⟩ = some (.slice lo m cm)) (cq : w.cell? ⟨pb, 0, none⟩ = some (.slice ho m hc)) :
  Calls Tryz.prog 91 #[.int .i64 (p : Int), .pointer (some ⟨pa, 0, none⟩), .pointer (some ⟨pb, 0, none⟩)] w fun e w' => e = .returned (.tuple #[.int .i64 (clamp (rne (dk (fun k => Z k p) c m) (2 ^ 30))), .bool (great (rne (dk (fun k => Z k p) c m) (2 ^ 30))), .nilIface]) ∧ Below w.heap.size w w' := by
 have HP : Hid (∀ W, Below w.heap.size w W → Calls Tryz.prog 93 #[.int .i64 (p : Int), .slice lo m cm] W fun e w' => ∃ ao ca, e = .returned (.slice ao m ca) ∧ Sl w' ao m ca (fun k => Z k p) ∧ Below W.heap.size W w') :=
  fun W b => partsAt_any p lo m cm A L C Z W (h.keep b) (fun k hk => (hz k hk).keep b) hp (by omega)
 have HD : Hid (∀ ao ca W, Below w.heap.size w W → Sl W ao m ca (fun k => Z k p) → Calls Tryz.prog 92 #[.slice ao m ca, .slice ho m hc, .int .i64 30] W fun e w' => e = .returned (.tuple #[.int .i64 (clamp (rne (dk (fun k => Z k p) c m) (2 ^ 30))), .bool (great (rne (dk (fun k => Z k p) c m) (2 ^ 30))), .nilIface]) ∧ Below W.heap.size W w') :=
  fun ao ca W b hs => qdot_sl ao ho m ca hc _ c 30 30 W rfl (by omega) hs (hch.keep b) bz bc (by omega)
 obtain ⟨X, hX⟩ : ∃ X, X = clamp (rne (dk (fun k => Z k p) c m) (2 ^ 30)) := ⟨_, rfl⟩
 obtain ⟨Y, hY⟩ : ∃ Y, Y = great (rne (dk (fun k => Z k p) c m) (2 ^ 30)) := ⟨_, rfl⟩
 rw [← hX, ← hY] at HD
 rw [← hX, ← hY]
 clear hX hY h hz hp hch bz bc
 go_enter Tryz.func91, Tryz.ntmps91
 go_wp2
 go_region_held3 (fun w' => w'.cell? ⟨pa, 0, none⟩ = some (.slice lo m cm) ∧ w'.cell? ⟨pb, 0, none⟩ = some (.slice ho m hc)) (first | exact ⟨cp, cq⟩ | exact ⟨keep_cell k3 cp, keep_cell k3 cq⟩ | exact ⟨keep_cell kk cp, keep_cell kk cq⟩ | go_keep)
  (first
   | (go_at_call 93; refine (HP.out _ (by exact Vc.below_drew' w)).mono ?_; rintro e w2 ⟨ao, ca, rfl, hs2, k2⟩; have kk := below_tr (Vc.below_drew' w) k2)
   | (go_at_call 92; refine (HD.out _ _ _ (by exact kk) (by exact hs2)).mono ?_; rintro e w3 ⟨rfl, k3'⟩; have k3 := below_tr kk k3'))
 all_goals go_wp2
 all_goals go_ret3
 all_goals exact ⟨rfl, k3⟩
set_option maxRecDepth 10000 in
set_option maxHeartbeats 1000000 in
theorem vjoin_any (n : Nat) (lo ho : Option Addr) (m cm hc : Nat) (A : Nat → Option Addr) (C : Nat → Nat) (Z : Nat → Nat → Int) (c : Nat → Int) (w : World) (h : Sls w lo m cm A (fun _ => n) C) (hz : ∀ k, k < m → Sl w (A k) n (C k) (Z k)) (hn : n ≤ 6) (hm0 : 0 < m) (hm : m ≤ 4)
  (hch : Sl w ho m hc c) (bz : ∀ k, B64 (Z k)) (bc : B64 c) :
  Calls Tryz.prog 59 #[.slice lo m cm, .slice ho m hc] w fun e w' => ∃ co cc, e = .returned (.tuple #[.slice co n cc, .bool (anyb (fun p => great (rne (dk (fun k => Z k p) c m) (2 ^ 30))) n), .nilIface]) ∧ Sl w' co n cc (fun p => clamp (rne (dk (fun k => Z k p) c m) (2 ^ 30))) ∧ Below w.heap.size w w' := by
 obtain ⟨x, hlo, hcl⟩ := h.get
 obtain rfl := hlo hm0
 have hW := below_al (below_al (Below.refl _ w) (.cells #[.slice (some x) m cm] 23)) (.cells #[.slice ho m hc] 22)
 have d1 : ((w.alloc (.cells #[.slice (some x) m cm] 23)).alloc (.cells #[.slice ho m hc] 22)).cell? ⟨w.heap.size, 0, none⟩ = some (.slice (some x) m cm) := by go_simp
 have d2 : ((w.alloc (.cells #[.slice (some x) m cm] 23)).alloc (.cells #[.slice ho m hc] 22)).cell? ⟨w.heap.size + 1, 0, none⟩ = some (.slice ho m hc) := by go_simp
 have d3 := keep_cell hW (hcl 0 hm0)
 have l1 := h.le
 have l2 := h.cap
 have l3 := hch.le
 have l4 := hch.cap
 have H := Hid.mkV (byPart_Join (.pointer (some ⟨w.heap.size, 0, none⟩)) (.pointer (some ⟨w.heap.size + 1, 0, none⟩)) x m cm n (C 0) (A 0) (fun p => clamp (rne (dk (fun k => Z k p) c m) (2 ^ 30))) (fun p => great (rne (dk (fun k => Z k p) c m) (2 ^ 30))) _ hm0 l1 l2 d3 hn
  (alike_yes _ m cm _ n _ _ (h.keep hW) hm0 hn)
  (fun p hp w1 b1 => vjoin1_any p (some x) ho m cm hc A (fun _ => n) C Z c w.heap.size (w.heap.size + 1) w1 (h.keep (below_tr hW b1)) (fun k hk => (hz k hk).keep (below_tr hW b1)) (fun _ _ => hp) hm (hch.keep (below_tr hW b1)) (fun k => bz k p) bc (keep_cell b1 d1) (keep_cell b1 d2)))
 clear d1 d2 d3 h hz hch bz bc hcl hlo
 have e1 : decide ((m : Int) > 4) = false := decide_eq_false (by omega)
 go_enter Tryz.func59, Tryz.ntmps59
 go_wp2_with fail
 refine H.out.mono ?_
 rintro e w1 ⟨co, cc, rfl, hs, k1⟩
 go_wp2
 go_ret3
 exact ⟨co, cc, rfl, hs, below_tr hW k1⟩
end Go.Proofs.YtoglokgkgonmdaaGreatDoor
