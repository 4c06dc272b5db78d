/-
  What is proved: whatever numbers, rows and chances it is given, the law MixSame of layer 15 returns true, ends without a panic, and leaves what was there as it was. (By py/MSame.py.)
-/
import Derived.Test.YtoglokgkgonmdaaM22
import Derived.Test.YtoglokgkgonmdaaM7
import Derived.Test.YtoglokgkgonmdaaM19
import Derived.Test.YtoglokgkgonmdaaPdL
import Derived.Test.YtoglokgkgonmdaaFMixSame
import Derived.Test.YtoglokgkgonmdaaRegM
import Derived.Deep.CutRange
set_option linter.unusedSimpArgs false
set_option linter.unusedVariables false
namespace Go.Proofs.Ytoglokgkgonmdaa
open Go.RowKit Vc St Mt Cn Mx Pd
attribute [local go_sem ↓] Go.wp_at_zero Go.wp_at_succ

namespace Mx
theorem hideM {p : Prop} (h : p) : Hid p := h
theorem svals_congr {X X' z z' : Nat → Int} {r c : Int} (h : ∀ k, k < 6 → X k = X' k) (h' : ∀ k, k < 36 → z k = z' k) : svals X r c z = svals X' r c z' := by
  unfold Pd.svals
  rw [vals_congr h, mvals_congr h']
section
variable {n : Nat} {c : Nat → Int} {X : Nat → Nat → Int} {P : Nat → Nat → Nat → Int} {X0 : Nat → Int} {P0 : Nat → Nat → Int} (hc : Ch n c 0) (h0 : Pr.MayV X0 P0)
  (hX : ∀ k, k < n → c k ≠ 0 → ∀ i, i < 6 → X k i = X0 i) (hP : ∀ k, k < n → c k ≠ 0 → ∀ i j, i < 6 → j < 6 → P k i j = P0 i j)
include hc h0 hX hP
/-- States of which all that count are one: that one, cell by cell. -/
theorem same_cells : svals (jX n c X) 6 6 (mz 6 6 (jP n c X P)) = svals X0 6 6 (mz 6 6 P0) :=
  svals_congr (fun k hk => same_jX hc h0 hX hk) (fun k _ => mz_congr (fun i j hi hj => same_jP hc h0 hX hP hi hj) k)
end
/-- Rows that are all the same slice. -/
theorem els_rows {t : TypeId} {B : Nat} {w0 w : World} {v : Value} {n m cc : Nat} {co : Option Addr} (h : El.Els t 1 B w0 w v n (El.Cs fun _ => [.slice co m cc])) : ∃ lo cm, v = .slice lo n cm ∧ Sls w lo n cm (fun _ => co) (fun _ => m) (fun _ => cc) := by
  rcases Nat.eq_zero_or_pos n with e | e
  · subst e
    obtain ⟨ao, ca, rfl, h1, h2⟩ := h.form
    exact ⟨ao, ca, rfl, h1, h2, fun j hj => by omega⟩
  · obtain ⟨g, cap, S, rfl, h1, h2, _, _, h3, _⟩ := h.at e
    refine ⟨_, _, rfl, h1, h2, fun k hk => ⟨_, rfl, ?_⟩⟩
    have e2 := (h3 k hk).2.2 0 (.slice co m cc) (by rw [(h3 k hk).2.1]; rfl)
    rw [Addr.add_lit, Nat.zero_add]
    simpa using e2
end Mx

set_option maxRecDepth 20000 in
set_option maxHeartbeats 1000000 in
theorem msame_odd (P : Mx.MPkg) (xo po co : Option Addr) (l xc m pc n cc : Nat) (w : World) (X0 z0 : Nat → Int)
    (hSome : Calls Try.prog 5 #[.slice xo l xc, .slice po m pc, .int .i64 68719476736] w fun e w' => ∃ yo yc ro rc, e = .returned (.agg #[.slice yo 6 yc, .slice ro 6 rc]) ∧ (∀ W, Below w'.heap.size w' W → Calls Try.prog 4 #[.agg #[.slice yo 6 yc, .slice ro 6 rc]] W fun e w' => e = .returned (.agg (svals X0 6 6 z0).toArray) ∧ Below W.heap.size W w') ∧ Below w.heap.size w w')
    (hCk : ∀ W, Below w.heap.size w W → Calls Try.prog 6 #[.slice co n cc, .int .i64 0] W fun e w' => e = .returned (.bool false) ∧ Below W.heap.size W w') (hn : n ≤ cc) (hcc : cc ≤ 9223372036854775807) :
    Calls Try.prog 3 #[.slice xo l xc, .slice po m pc, .slice co n cc] w fun e w' => e = .returned (.bool true) ∧ Below w.heap.size w w' := by
  have HSo := hideM hSome
  have HCk := hideM hCk
  have HSu := hideM (msure_any P)
  clear hSome hCk
  go_enter Try.func3, Try.ntmps3
  go_wp2_with fail
  refine (HSo.out).mono ?_
  rintro e w1 ⟨yo, yc, ro, rc, rfl, hg, k1⟩
  have HG := hideM (hg w1 (Below.refl _ _))
  clear hg HSo
  go_wp2_with fail
  refine (HG.out).mono ?_
  rintro e w2 ⟨rfl, k2⟩
  have B2' := below_tr k1 k2
  clear HG k1 k2
  go_wp2_with (first
    | ((with_reducible show wpList _ _ _ _ _ _); rw [zeroS]; refine St.wpList_storeNew isS rfl _ _ (by rfl) _ _ _ (by rfl) (by rfl) (svals_len _ _ _ _) (svals_len _ _ _ _) (one_svals _ _ _ _) ?_; intro w3 t3 k3)
    | fail)
  have B3 := below_tr B2' k3
  refine (HCk.out _ B3).mono ?_
  rintro e w4 ⟨rfl, k4⟩
  go_wp2_with fail
  refine (HSu.out _).mono ?_
  rintro e w5 ⟨rfl, k5⟩
  go_wp2
  go_ret
  exact ⟨rfl, below_tr (below_tr B3 k4) k5⟩

set_option maxRecDepth 20000 in
set_option maxHeartbeats 4000000 in
theorem msame_go (P : Mx.MPkg) (xo po co : Option Addr) (l xc m pc n cc : Nat) (w : World) (X0 z0 : Nat → Int) (hx0 : -68719476736 ≤ X0 0 ∧ X0 0 ≤ 68719476736)
    (hSome : Calls Try.prog 5 #[.slice xo l xc, .slice po m pc, .int .i64 68719476736] w fun e w' => ∃ yo yc ro rc, e = .returned (.agg #[.slice yo 6 yc, .slice ro 6 rc]) ∧ (∀ W, Below w'.heap.size w' W → Calls Try.prog 4 #[.agg #[.slice yo 6 yc, .slice ro 6 rc]] W fun e w' => e = .returned (.agg (svals X0 6 6 z0).toArray) ∧ Below W.heap.size W w') ∧ Below w.heap.size w w')
    (hCk : ∀ W, Below w.heap.size w W → Calls Try.prog 6 #[.slice co n cc, .int .i64 0] W fun e w' => e = .returned (.bool true) ∧ Below W.heap.size W w') (hn : n ≤ cc) (hcc : cc ≤ 9223372036854775807) (n1 : 1 ≤ n) (n4 : n ≤ 4) (ch : Nat → Int) (hs : Sl w co n cc ch)
    (hJ : ∀ W lo cm, Pst W lo n cm (fun _ => X0) (fun _ => 6) (fun _ => 6) (fun _ => z0) → Sl W co n cc ch → Calls Try.prog 8 #[.slice lo n cm, .slice co n cc] W fun e w' => e = .returned (.tuple #[.agg (svals X0 6 6 z0).toArray, .bool false, .nilIface]) ∧ Below W.heap.size W w')
    (hA : ∀ W lo cm ro rm, Pst W lo n cm (fun _ => X0) (fun _ => 6) (fun _ => 6) (fun _ => z0) → Sl W co n cc ch → Sls W ro n rm (fun _ => co) (fun _ => n) (fun _ => cc) → Calls Try.prog 9 #[.slice lo n cm, .slice co n cc, .slice ro n rm] W fun e w' => ∃ vo vc oo oc, e = .returned (.tuple #[.slice vo n vc, .slice oo n oc, .bool false, .nilIface]) ∧ Pst w' vo n vc (fun _ => X0) (fun _ => 6) (fun _ => 6) (fun _ => z0) ∧ Sl w' oo n oc ch ∧ Below W.heap.size W w')
    (hT : ∀ W, Calls Try.prog 8 #[.slice (some ⟨W.heap.size, 0, none⟩) 2 2, .slice (some ⟨W.heap.size + 1, 0, none⟩) 2 2] ((W.alloc (.cells (svals X0 6 6 z0 ++ svals (fun i => if i = 0 then X0 0 + 5242880 else X0 i) 6 6 z0).toArray 29)).alloc (.cells #[.int .i64 1073741824, .int .i64 0] 2)) fun e w' => ∃ b, e = .returned (.tuple #[.agg (svals X0 6 6 z0).toArray, .bool b, .nilIface]) ∧ Below W.heap.size W w') :
    Calls Try.prog 3 #[.slice xo l xc, .slice po m pc, .slice co n cc] w fun e w' => e = .returned (.bool true) ∧ Below w.heap.size w w' := by
  have HSo := hideM hSome
  have HCk := hideM hCk
  have HSu := hideM (msure_any P)
  have HJ := hideM hJ
  have HA := hideM hA
  have HT := hideM hT
  have HS := hideM hs
  have HSa := hideM (fun W => psame_any X0 6 6 z0 X0 6 6 z0 W)
  rw [eqS_same] at HSa
  clear hSome hCk hJ hA hT hs
  go_enter Try.func3, Try.ntmps3
  go_wp2_with fail
  refine (HSo.out).mono ?_
  rintro e w1 ⟨yo, yc, ro, rc, rfl, hg, k1⟩
  have HG := hideM (hg w1 (Below.refl _ _))
  clear hg HSo
  go_wp2_with fail
  refine (HG.out).mono ?_
  rintro e w2 ⟨rfl, k2⟩
  have B2' := below_tr k1 k2
  clear HG k1 k2
  go_wp2_with (first
    | ((with_reducible show wpList _ _ _ _ _ _); rw [zeroS]; refine St.wpList_storeNew isS rfl _ _ (by rfl) _ _ _ (by rfl) (by rfl) (svals_len _ _ _ _) (svals_len _ _ _ _) (one_svals _ _ _ _) ?_; intro w3 t3 k3)
    | fail)
  have B3 := below_tr B2' k3
  refine (HCk.out _ B3).mono ?_
  rintro e w4 ⟨rfl, k4⟩
  have B4 := below_tr B3 k4
  have t4 := CRow.keep t3 k4
  obtain ⟨g, hg⟩ : ∃ g, g = w2.heap.size := ⟨_, rfl⟩
  rw [← hg] at t4 ⊢
  clear k3 k4 t3 B3 B2' HCk hg
  go_wp2
  go_loopw [9, 10, 11] (fun lv rv i wr => ∃ k : Nat, k ≤ n ∧ i = .int .i64 (k : Int) ∧ El.Els 29 44 w4.heap.size w4 wr lv k (El.Cs fun _ => svals X0 6 6 z0) ∧ El.Els 22 1 w4.heap.size w4 wr rv k (El.Cs fun _ => [.slice co n cc]) ∧ ∀ q, El.own lv q → ¬ El.own rv q) (fun _ _ i _ => n - (intOf i).toNat)
  case atStart => exact ⟨0, by omega, rfl, El.Els.nil (Below.refl _ _) (Nat.le_refl _) _ _ _, El.Els.nil (Below.refl _ _) (Nat.le_refl _) _ _ _, fun q e => by cases e⟩
  case round =>
    rename World => wr
    obtain ⟨k, hk, rfl, hL, hR, hap⟩ := hrel
    by_cases hkn : k < n
    · have tr := CRow.keep t4 hL.below
      have HL := hideM hL
      have HRr := hideM hR
      have HAP := hideM hap
      have kn : (k : Int) < n := by omega
      clear hL hR hap
      go_wp2_with (first
        | ((with_reducible show wpList _ _ _ _ _ _); refine St.wpList_load isS (by kernel_rfl) _ (by rfl) _ _ (by rfl) (by with_reducible exact tr) (svals_len _ _ _ _) ?_)
        | ((with_reducible show wpList _ _ _ _ _ _); refine wpList_slice1 _ (by with_reducible rfl) _ _ _ _ (by rfl) (by rfl) ?_)
        | (at_builtin; refine El.push2 (by rfl) (.tmp 40) (.tmp 42) 36 29 44 352 (.agg (svals (fun _ => 0) 0 0 (fun _ => 0)).toArray) (by rfl) Try.underlying36 infoP44 (by simp [Value.cells, Pd.svals_len]) (by decide) (by decide) w4.heap.size w4 _ k _ (by rfl) HL.out (by omega) (svals X0 6 6 z0) (svals_len _ _ _ _) (one_svals _ _ _ _) rfl (by rfl) ?_)
        | fail)
      intro v1 w5 hL5 r5 z5 n5
      have hR5 := HRr.out.other r5 z5 hL5.below (fun q e e' => HAP.out q e' e)
      have hap5 : ∀ q, El.own v1 q → ¬ El.own _ q := fun q e e' => n5 q (HRr.out.lt e').2 (fun e'' => HAP.out q e'' e') e
      have HL5 := hideM hL5
      have HR5 := hideM hR5
      have HAP5 := hideM hap5
      clear hL5 r5 z5 n5 hR5 hap5 HL HRr HAP
      go_wp2_with (at_builtin; refine El.push2 (by rfl) (.tmp 44) (.tmp 46) 23 22 1 24 (.slice none 0 0) (by rfl) Try.underlying23 infoSl rfl (by decide) (by decide) w4.heap.size w4 _ k _ (by rfl) HR5.out (by omega) [.slice co n cc] rfl (by intro u hu; simp at hu; subst hu; rfl) rfl (by rfl) ?_)
      intro v2 w6 hR6 r6 z6 n6
      have hL6 := HL5.out.other r6 z6 hR6.below (fun q e => HAP5.out q e)
      have hap6 : ∀ q, El.own v1 q → ¬ El.own v2 q := fun q e => n6 q (HL5.out.lt e).2 (HAP5.out q e)
      clear HL5 HR5 HAP5 r6 z6 n6
      go_wp2
      go_roundw
      case rel => exact ⟨k + 1, by omega, by go_num, hL6, hR6, hap6⟩
      case measure => simp [intOf]; omega
    · obtain rfl : n = k := by omega
      obtain ⟨vo, vm, rfl, hP⟩ := els_pst hL
      obtain ⟨ro2, rm, rfl, hS⟩ := els_rows hR
      have K4 := hL.below
      have B5 := below_tr B4 K4
      have t5 := CRow.keep t4 K4
      have C1 := hideM (HJ.out wr vo vm hP (HS.out.keep B5))
      have HP := hideM hP
      have HSs := hideM hS
      clear hP hS hL hR hap HJ K4
      go_wp2_with fail
      refine (C1.out).mono ?_
      rintro e w5 ⟨rfl, k5⟩
      have HP5 := hideM (HP.out.keep k5)
      have HS5 := hideM (HSs.out.keep k5)
      have B6 := below_tr B5 k5
      have t6 := CRow.keep t5 k5
      clear C1 k5 HP HSs B5 t5
      go_wp2_with (first
        | ((with_reducible show wpList _ _ _ _ _ _); rw [zeroS]; refine St.wpList_storeNew isS rfl _ _ (by rfl) _ _ _ (by rfl) (by rfl) (svals_len _ _ _ _) (svals_len _ _ _ _) (one_svals _ _ _ _) ?_; intro w6 j6 k6)
        | fail)
      have C2 := hideM (HA.out w6 vo vm ro2 rm (HP5.out.keep k6) (HS.out.keep (below_tr B6 k6)) (HS5.out.keep k6))
      have B7 := below_tr B6 k6
      have t7 := CRow.keep t6 k6
      clear HP5 HS5 B6 t6 k6 HA
      refine (C2.out).mono ?_
      rintro e w7 ⟨ao, ac, oo, oc, rfl, pa, so, k7⟩
      have B8 := below_tr B7 k7
      have t8 := CRow.keep t7 k7
      have j8 := CRow.keep j6 k7
      have hsc := HS.out.keep B8
      obtain ⟨ga, hga, hca⟩ := pa.get
      obtain rfl := hga n1
      have la1 := pa.le
      have la2 := pa.cap
      have HPa := hideM (hca 0 n1)
      obtain ⟨gj, hgj⟩ : ∃ g, g = w5.heap.size := ⟨_, rfl⟩
      rw [← hgj] at j8 ⊢
      clear C2 B7 t7 j6 k7 pa hgj hga hca
      go_wp2_with fail
      refine (nums_yes _ _ _ _ _ _ _ so hsc).mono ?_
      rintro e w9 ⟨rfl, k9⟩
      have B9 := below_tr B8 k9
      have t9 := CRow.keep t8 k9
      have j9 := CRow.keep j8 k9
      have HPa9 := hideM (fun (j : Nat) v (hv : (svals X0 6 6 z0)[j]? = some v) => keep_cell k9 (HPa.out j v hv))
      clear k9 B8 t8 j8 so hsc HPa
      go_wp2
      go_loopw [19] (fun i wl => ∃ k : Nat, k ≤ 6 ∧ i = .int .i64 (k : Int) ∧ Below w9.heap.size w9 wl) (fun i _ => 6 - (intOf i).toNat)
      case atStart => exact ⟨0, by omega, rfl, Below.refl _ _⟩
      case round =>
        rename World => wl
        obtain ⟨i, hi, rfl, kl⟩ := hrel
        by_cases h6 : i < 6
        · have cj := SRow.x (CRow.keep j9 kl) (k := i) h6 rfl
          have cs := SRow.x (CRow.keep t9 kl) (k := i) h6 rfl
          have i6 : (i : Int) < 6 := by omega
          obtain ⟨xi, hxi⟩ : ∃ q, q = X0 i := ⟨_, rfl⟩
          rw [← hxi] at cj cs
          clear hxi
          go_wp2
          go_quiet (fail)
          go_wp2
          go_loopw [20] (fun k wm => ∃ k' : Nat, k' ≤ 6 ∧ k = .int .i64 (k' : Int) ∧ Below w9.heap.size w9 wm) (fun k _ => 6 - (intOf k).toNat)
          case atStart => exact ⟨0, by omega, rfl, Vc.below_drewN kl _⟩
          case round =>
            rename World => wm
            obtain ⟨k, hk, rfl, km⟩ := hrel
            by_cases h7 : k < 6
            · obtain ⟨p, hp⟩ : ∃ p : Nat, p = 6 * i + k := ⟨_, rfl⟩
              have dj := SRow.z (CRow.keep j9 km) (k := p) (o := 8 + p) (by omega) (by omega)
              have ds := SRow.z (CRow.keep t9 km) (k := p) (o := 8 + p) (by omega) (by omega)
              have e1 : IntKind.i64.wrap (6 * (i : Int)) = 6 * (i : Int) := by rw [IntKind.wrap_i64]; omega
              have e2 : IntKind.i64.wrap (6 * (i : Int) + (k : Int)) = (p : Int) := by rw [IntKind.wrap_i64]; omega
              have p36 : (p : Int) < 36 := by omega
              have k6 : (k : Int) < 6 := by omega
              obtain ⟨zi, hzi⟩ : ∃ q, q = z0 p := ⟨_, rfl⟩
              rw [← hzi] at dj ds
              clear hzi hp
              go_wp2
              go_quiet (fail)
              go_wp2
              go_roundw
              case rel => exact ⟨k + 1, by omega, by go_num, Vc.below_drewN km _⟩
              case measure => simp [intOf]; omega
            · obtain rfl : k = 6 := by omega
              go_wp2
              go_roundw
              case rel => exact ⟨i + 1, by omega, by go_num, km⟩
              case measure => simp [intOf]; omega
        · obtain rfl : i = 6 := by omega
          have tl := CRow.keep t9 kl
          have x00 := hx0
          go_upto_region 26 with (first
            | ((with_reducible show wpList _ _ _ _ _ _); refine St.wpList_load isS (by kernel_rfl) _ (by rfl) _ _ (by rfl) (by with_reducible exact tl) (svals_len _ _ _ _) ?_)
            | ((with_reducible show wpList _ _ _ _ _ _); rw [zeroS]; refine St.wpList_storeNew isS rfl _ _ (by rfl) _ _ _ (by rfl) (by rfl) (svals_len _ _ _ _) (svals_len _ _ _ _) (one_svals _ _ _ _) ?_; intro w10 t10 k10)
            | fail)
          have B10 := below_tr kl k10
          obtain ⟨gt, hgt⟩ : ∃ q, q = wl.heap.size := ⟨_, rfl⟩
          have lg : w9.heap.size ≤ gt := by rw [hgt]; exact kl.size
          rw [← hgt] at t10 ⊢
          have c10 := SRow.x t10 (k := 0) (by omega) rfl
          have f10 := CRow.free t10 0
          have t11 := SRow.setx t10 (k := 0) (o := 0) (by omega) rfl (X0 0 + 5242880)
          have B11 : Below w9.heap.size w9 (w10.setCell ⟨gt, 0, none⟩ (.int .i64 (X0 0 + 5242880))) := B10.trans (St.below_set (x := ⟨gt, 0, none⟩) B10.size lg _)
          obtain ⟨w11, hw11⟩ : ∃ q, q = w10.setCell ⟨gt, 0, none⟩ (.int .i64 (X0 0 + 5242880)) := ⟨_, rfl⟩
          rw [← hw11] at t11 B11
          have s11 := CRow.keep t9 B11
          have H11 := hideM hw11
          obtain ⟨a0, ha0⟩ : ∃ q, q = X0 0 := ⟨_, rfl⟩
          rw [← ha0] at c10 H11 x00
          have x01 := x00.1
          have x02 := x00.2
          clear hw11 hgt t10 B10 k10 tl ha0 x00
          go_wp2_with (first
            | (rw [← H11.out]; ((with_reducible show wpList _ _ _ _ _ _); refine St.wpList_load isS (by kernel_rfl) _ (by rfl) _ _ (by rfl) (by with_reducible exact s11) (svals_len _ _ _ _) ?_))
            | ((with_reducible show wpList _ _ _ _ _ _); refine St.wpList_load isS (by kernel_rfl) _ (by rfl) _ _ (by rfl) (by with_reducible exact s11) (svals_len _ _ _ _) ?_)
            | ((with_reducible show wpList _ _ _ _ _ _); refine St.wpList_load isS (by kernel_rfl) _ (by rfl) _ _ (by rfl) (by with_reducible exact t11) (svals_len _ _ _ _) ?_)
            | ((with_reducible show wpList _ _ _ _ _ _); refine wpList_slice2 _ _ (by with_reducible rfl) _ _ _ _ _ _ _ _ (by rfl) (by rfl) (by rfl) ?_)
            | (rw [← H11.out])
            | fail)
          refine (HT.out _).mono ?_
          rintro e w12 ⟨b12, rfl, k12⟩
          have B12 := below_tr B11 k12
          clear k12 B11 H11 s11 t11 c10 f10 HT
          go_upto_region 28 with (first
            | ((with_reducible show wpList _ _ _ _ _ _); rw [zeroS]; refine St.wpList_storeNew isS rfl _ _ (by rfl) _ _ _ (by rfl) (by rfl) (svals_len _ _ _ _) (svals_len _ _ _ _) (one_svals _ _ _ _) ?_; intro w13 t13 k13)
            | fail)
          have B13 := below_tr B12 k13
          have s13 := CRow.keep t9 B13
          have HSt := hideM (fun W (q : Below w13.heap.size w13 W) => (⟨CRow.keep t13 q, CRow.keep s13 q, fun j v hv => keep_cell q (keep_cell B13 (HPa9.out j v hv))⟩ : CRow W w12.heap.size 29 (svals X0 6 6 z0) ∧ CRow W g 29 (svals X0 6 6 z0) ∧ W.rangeAt ga (0 * 44) (svals X0 6 6 z0)))
          have BF := below_tr B9 B13
          have n0 : (0 : Int) < n := by omega
          have nz : ¬ n = 0 := by omega
          clear k13 B12 t13 s13 B13 B9 t9 j9 HPa9
          refine Ru.wp_region_U [] (fun w' => CRow w' w12.heap.size 29 (svals X0 6 6 z0) ∧ CRow w' g 29 (svals X0 6 6 z0) ∧ w'.rangeAt ga (0 * 44) (svals X0 6 6 z0)) (by kernel_rfl) (HSt.out _ (Vc.below_drew' _)) (fun hHeld => ?_)
          refine Ru.wpAnyU_take (i := 0) (v := .nilIface) rfl (by kernel_rfl) (by kernel_rfl) (by kernel_rfl) (by kernel_rfl) (by kernel_rfl) (by kernel_rfl) (fun _ _ _ h => h) (Or.inl ⟨by kernel_rfl, fun w hS => by obtain ⟨sc0, sc1, sc2⟩ := hS; go_simp⟩) hHeld ?_
          simp only [Act.put, List.getElem_toArray, List.getElem_cons_zero, List.getElem_cons_succ, List.setIfInBounds_toArray, List.set_cons_zero, List.set_cons_succ]
          refine Ru.wpAnyU_take (i := 1) (v := .bool true) rfl (by kernel_rfl) (by kernel_rfl) (by kernel_rfl) (by kernel_rfl) (by kernel_rfl) (by kernel_rfl) (fun _ _ _ h => h) (Or.inl ⟨by kernel_rfl, fun w hS => by obtain ⟨sc0, sc1, sc2⟩ := hS; go_simp⟩) hHeld ?_
          simp only [Act.put, List.getElem_toArray, List.getElem_cons_zero, List.getElem_cons_succ, List.setIfInBounds_toArray, List.set_cons_zero, List.set_cons_succ]
          refine Ru.wpAnyU_take (i := 2) (v := .bool true) rfl (by kernel_rfl) (by kernel_rfl) (by kernel_rfl) (by kernel_rfl) (by kernel_rfl) (by kernel_rfl) (fun _ _ _ h => h) (Or.inl ⟨by kernel_rfl, fun w hS => by obtain ⟨sc0, sc1, sc2⟩ := hS; go_simp⟩) hHeld ?_
          simp only [Act.put, List.getElem_toArray, List.getElem_cons_zero, List.getElem_cons_succ, List.setIfInBounds_toArray, List.set_cons_zero, List.set_cons_succ]
          refine Ru.wpAnyU_take (i := 3) (v := .agg (svals X0 6 6 z0).toArray) rfl (by kernel_rfl) (by kernel_rfl) (by kernel_rfl) (by kernel_rfl) (by kernel_rfl) (by kernel_rfl) (fun _ _ _ h => h) (Ru.yieldsC isS (by kernel_rfl) _ (by rfl) w12.heap.size _ (by rfl) (fun w h => h.1) (svals_len _ _ _ _)) hHeld ?_
          simp only [Act.put, List.getElem_toArray, List.getElem_cons_zero, List.getElem_cons_succ, List.setIfInBounds_toArray, List.set_cons_zero, List.set_cons_succ]
          refine Ru.wpAnyU_take (i := 4) (v := .agg (svals X0 6 6 z0).toArray) rfl (by kernel_rfl) (by kernel_rfl) (by kernel_rfl) (by kernel_rfl) (by kernel_rfl) (by kernel_rfl) (fun _ _ _ h => h) (Ru.yieldsC isS (by kernel_rfl) _ (by rfl) g _ (by rfl) (fun w h => h.2.1) (svals_len _ _ _ _)) hHeld ?_
          simp only [Act.put, List.getElem_toArray, List.getElem_cons_zero, List.getElem_cons_succ, List.setIfInBounds_toArray, List.set_cons_zero, List.set_cons_succ]
          refine Ru.wpAnyU_ready (rs := [5]) (by kernel_rfl) (by simp) ?_
          refine Ru.AllReadyU.cons rfl (by kernel_rfl) (fun K hK => ?_) Ru.AllReadyU.nil
          go_simp
          refine (HSa.out _).mono ?_
          rintro _ wq1 ⟨rfl, kk1⟩
          have kq1 := below_tr (Vc.below_drew' w13) kk1
          go_wp2_with fail
          refine hK.out _ _ (HSt.out _ kq1) (fun hHeld => ?_)
          clear hK K
          try simp only [Act.put, List.getElem_toArray, List.getElem_cons_zero, List.getElem_cons_succ, List.setIfInBounds_toArray, List.set_cons_zero, List.set_cons_succ]
          refine Ru.wpAnyU_take (i := 6) (v := .bool true) rfl (by kernel_rfl) (by kernel_rfl) (by kernel_rfl) (by kernel_rfl) (by kernel_rfl) (by kernel_rfl) (fun _ _ _ h => h) (Or.inl ⟨by kernel_rfl, fun w hS => by obtain ⟨sc0, sc1, sc2⟩ := hS; go_simp⟩) hHeld ?_
          simp only [Act.put, List.getElem_toArray, List.getElem_cons_zero, List.getElem_cons_succ, List.setIfInBounds_toArray, List.set_cons_zero, List.set_cons_succ]
          refine Ru.wpAnyU_take (i := 7) (v := .bool true) rfl (by kernel_rfl) (by kernel_rfl) (by kernel_rfl) (by kernel_rfl) (by kernel_rfl) (by kernel_rfl) (fun _ _ _ h => h) (Or.inl ⟨by kernel_rfl, fun w hS => by obtain ⟨sc0, sc1, sc2⟩ := hS; go_simp⟩) hHeld ?_
          simp only [Act.put, List.getElem_toArray, List.getElem_cons_zero, List.getElem_cons_succ, List.setIfInBounds_toArray, List.set_cons_zero, List.set_cons_succ]
          refine Ru.wpAnyU_take (i := 8) (v := .slice (some ⟨ga, 0, none⟩) n ac) rfl (by kernel_rfl) (by kernel_rfl) (by kernel_rfl) (by kernel_rfl) (by kernel_rfl) (by kernel_rfl) (fun _ _ _ h => h) (Or.inl ⟨by kernel_rfl, fun w hS => by obtain ⟨sc0, sc1, sc2⟩ := hS; go_simp⟩) hHeld ?_
          simp only [Act.put, List.getElem_toArray, List.getElem_cons_zero, List.getElem_cons_succ, List.setIfInBounds_toArray, List.set_cons_zero, List.set_cons_succ]
          refine Ru.wpAnyU_take (i := 9) (v := .pointer (some ⟨ga, 0, none⟩)) rfl (by kernel_rfl) (by kernel_rfl) (by kernel_rfl) (by kernel_rfl) (by kernel_rfl) (by kernel_rfl) (fun _ _ _ h => h) (Or.inl ⟨by kernel_rfl, fun w hS => by obtain ⟨sc0, sc1, sc2⟩ := hS; go_simp⟩) hHeld ?_
          simp only [Act.put, List.getElem_toArray, List.getElem_cons_zero, List.getElem_cons_succ, List.setIfInBounds_toArray, List.set_cons_zero, List.set_cons_succ]
          refine Ru.wpAnyU_take (i := 10) (v := .agg (svals X0 6 6 z0).toArray) rfl (by kernel_rfl) (by kernel_rfl) (by kernel_rfl) (by kernel_rfl) (by kernel_rfl) (by kernel_rfl) (fun _ _ _ h => h) (Pd.yieldsP isS (by kernel_rfl) _ (by rfl) ga (0 * 44) _ (by rfl) (fun w h => h.2.2) (svals_len _ _ _ _)) hHeld ?_
          simp only [Act.put, List.getElem_toArray, List.getElem_cons_zero, List.getElem_cons_succ, List.setIfInBounds_toArray, List.set_cons_zero, List.set_cons_succ]
          refine Ru.wpAnyU_take (i := 11) (v := .agg (svals X0 6 6 z0).toArray) rfl (by kernel_rfl) (by kernel_rfl) (by kernel_rfl) (by kernel_rfl) (by kernel_rfl) (by kernel_rfl) (fun _ _ _ h => h) (Ru.yieldsC isS (by kernel_rfl) _ (by rfl) g _ (by rfl) (fun w h => h.2.1) (svals_len _ _ _ _)) hHeld ?_
          simp only [Act.put, List.getElem_toArray, List.getElem_cons_zero, List.getElem_cons_succ, List.setIfInBounds_toArray, List.set_cons_zero, List.set_cons_succ]
          refine Ru.wpAnyU_ready (rs := [12]) (by kernel_rfl) (by simp) ?_
          refine Ru.AllReadyU.cons rfl (by kernel_rfl) (fun K hK => ?_) Ru.AllReadyU.nil
          go_simp
          refine (HSa.out _).mono ?_
          rintro _ wq2 ⟨rfl, kk2⟩
          have kq2 := below_tr kq1 kk2
          go_wp2_with fail
          refine hK.out _ _ (HSt.out _ kq2) (fun hHeld => ?_)
          clear hK K
          try simp only [Act.put, List.getElem_toArray, List.getElem_cons_zero, List.getElem_cons_succ, List.setIfInBounds_toArray, List.set_cons_zero, List.set_cons_succ]
          refine Ru.wpAnyU_take (i := 13) (v := .bool true) rfl (by kernel_rfl) (by kernel_rfl) (by kernel_rfl) (by kernel_rfl) (by kernel_rfl) (by kernel_rfl) (fun _ _ _ h => h) (Or.inl ⟨by kernel_rfl, fun w hS => by obtain ⟨sc0, sc1, sc2⟩ := hS; go_simp⟩) hHeld ?_
          simp only [Act.put, List.getElem_toArray, List.getElem_cons_zero, List.getElem_cons_succ, List.setIfInBounds_toArray, List.set_cons_zero, List.set_cons_succ]
          refine Ru.wpAnyU_take (i := 14) (v := .bool true) rfl (by kernel_rfl) (by kernel_rfl) (by kernel_rfl) (by kernel_rfl) (by kernel_rfl) (by kernel_rfl) (fun _ _ _ h => h) (Or.inl ⟨by kernel_rfl, fun w hS => by obtain ⟨sc0, sc1, sc2⟩ := hS; go_simp⟩) hHeld ?_
          simp only [Act.put, List.getElem_toArray, List.getElem_cons_zero, List.getElem_cons_succ, List.setIfInBounds_toArray, List.set_cons_zero, List.set_cons_succ]
          refine Ru.wpAnyU_ready (rs := [15]) (by kernel_rfl) (by simp) ?_
          refine Ru.AllReadyU.cons rfl (by kernel_rfl) (fun K hK => ?_) Ru.AllReadyU.nil
          go_simp
          refine (HSu.out _).mono ?_
          rintro _ wq3 ⟨rfl, kk3⟩
          have kq3 := below_tr kq2 kk3
          go_wp2_with fail
          refine hK.out _ _ (HSt.out _ kq3) (fun hHeld => ?_)
          clear hK K
          try simp only [Act.put, List.getElem_toArray, List.getElem_cons_zero, List.getElem_cons_succ, List.setIfInBounds_toArray, List.set_cons_zero, List.set_cons_succ]
          refine Ru.wpAnyU_take (i := 16) (v := .bool true) rfl (by kernel_rfl) (by kernel_rfl) (by kernel_rfl) (by kernel_rfl) (by kernel_rfl) (by kernel_rfl) (fun _ _ _ h => h) (Or.inl ⟨by kernel_rfl, fun w hS => by obtain ⟨sc0, sc1, sc2⟩ := hS; go_simp⟩) hHeld ?_
          simp only [Act.put, List.getElem_toArray, List.getElem_cons_zero, List.getElem_cons_succ, List.setIfInBounds_toArray, List.set_cons_zero, List.set_cons_succ]
          refine Ru.wpAnyU_take (i := 17) (v := .bool true) rfl (by kernel_rfl) (by kernel_rfl) (by kernel_rfl) (by kernel_rfl) (by kernel_rfl) (by kernel_rfl) (fun _ _ _ h => h) (Or.inl ⟨by kernel_rfl, fun w hS => by obtain ⟨sc0, sc1, sc2⟩ := hS; go_simp⟩) hHeld ?_
          simp only [Act.put, List.getElem_toArray, List.getElem_cons_zero, List.getElem_cons_succ, List.setIfInBounds_toArray, List.set_cons_zero, List.set_cons_succ]
          refine Ru.wpAnyU_done (by kernel_rfl) ?_
          go_wp2
          go_ret
          exact ⟨rfl, below_tr BF kq3⟩
end Go.Proofs.Ytoglokgkgonmdaa
