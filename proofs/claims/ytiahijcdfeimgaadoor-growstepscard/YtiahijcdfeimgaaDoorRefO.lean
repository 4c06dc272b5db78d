/-
  Round of the document's answer of layer 2 (radomeref02), of any number by one above 0: the nearest whole number to a quotient, of two such the even one.
-/
import Derived.Test.YtiahijcdfeimgaaDoorRefN
import Derived.Test.YtiahijcdfeimgaaDoorTMath
import Derived.Test.YtiahijcdfeimgaaDoorRefI
import Derived.Deep.RegionWith
set_option linter.unusedSimpArgs false
set_option linter.unusedVariables false
namespace Go.Proofs.YtiahijcdfeimgaaDoor
open Go.RowKit Dec
attribute [local go_sem ↓] Go.wp_at_zero Go.wp_at_succ

namespace Dec
theorem isNum_emod {w : World} {v : Value} {n : Int} {d : Nat} (hd : 0 < d) (h : IsNum w v (n % (d : Int))) : IsNum w v ((n % (d : Int)).toNat : Int) := by
  have := Int.emod_nonneg n (show (d : Int) ≠ 0 by omega)
  rw [Int.toNat_of_nonneg this]; exact h
theorem len_q {n : Int} {d : Nat} (hd : 0 < d) : (n / (d : Int)).natAbs ≤ n.natAbs := by
  by_cases h : 0 ≤ n
  · have h1 := Int.ediv_nonneg h (show (0 : Int) ≤ (d : Int) by omega)
    have h2 := Int.ediv_le_self (d : Int) h
    omega
  · have h1 : n / (d : Int) < 0 := Int.ediv_neg_of_neg_of_pos (by omega) (by omega)
    have h2 : n ≤ n / (d : Int) := by
      rw [Int.le_ediv_iff_mul_le (by omega)]
      have h3 : n * (d : Int) ≤ n * 1 := Int.mul_le_mul_of_nonpos_left (by omega) (by omega)
      omega
    omega
end Dec

set_option maxRecDepth 100000 in
set_option maxHeartbeats 2000000 in
theorem round_any (va vb : Value) (N : Int) (D : Nat) (w : World) (hD : 0 < D) (hn : (digs N.natAbs).length ≤ 800000) (hd : (digs D).length ≤ 800000) (ha : IsNum w va N) (hb : IsNum w vb (D : Int)) :
    Calls Tryd.prog 28 #[va, vb] w fun e w' => ∃ v, e = .returned v ∧ IsNum w' v (Tn.rne N (D : Int)) ∧ Below w.heap.size w w' := by
  obtain ⟨an, Ln, cn, hva⟩ := ha.form
  obtain ⟨sn, hsn⟩ : ∃ s, s = decide (N < 0) := ⟨_, rfl⟩
  rw [← hsn] at hva
  subst hva
  clear hsn
  obtain ⟨ad, Ld, cd, rfl⟩ := hb.form0
  obtain ⟨q, hq⟩ : ∃ q : Int, q = N / (D : Int) := ⟨_, rfl⟩
  obtain ⟨r, hr⟩ : ∃ r : Nat, r = (N % (D : Int)).toNat := ⟨_, rfl⟩
  have hlq : (digs q.natAbs).length ≤ 800000 := by rw [hq]; exact Nat.le_trans (length_le_of_le (len_q hD)) hn
  have hrD : r < D := by
    have h1 := Int.emod_lt_of_pos N (show (0 : Int) < (D : Int) by omega)
    have h2 := Int.emod_nonneg N (show (D : Int) ≠ 0 by omega)
    omega
  have hlr : (digs r).length ≤ 800000 := Nat.le_trans (length_le_of_le (Nat.le_of_lt hrD)) hd
  have hlrr : (digs (r + r)).length ≤ 800001 := by
    have h2 : (digs (r + r)).length ≤ (digs r).length + 1 := by
      refine length_digs_le ?_
      have := lt_pow_digs r
      rw [Nat.pow_succ]; omega
    omega
  have l2 : (digs (2 : Int).natAbs).length ≤ 900000 := by
    have := length_digs_le (show (2 : Int).natAbs < 10 ^ 1 by decide)
    omega
  have l2' : (digs 2).length ≤ 900000 := l2
  have l1 : (digs (1 : Int).natAbs).length ≤ 900000 := by
    have := length_digs_le (show (1 : Int).natAbs < 10 ^ 1 by decide)
    omega
  have hrn : Tn.rne N (D : Int) = if 2 * (r : Int) < (D : Int) ∨ 2 * (r : Int) = (D : Int) ∧ q % 2 = 0 then q else q + 1 := by
    have h2 := Int.emod_nonneg N (show (D : Int) ≠ 0 by omega)
    have h3 : (r : Int) = N % (D : Int) := by rw [hr]; exact Int.toNat_of_nonneg h2
    rw [h3, hq]; rfl
  obtain ⟨zr, hzr⟩ : ∃ zr : Int, zr = Tn.rne N (D : Int) := ⟨_, rfl⟩
  rw [← hzr]
  rw [hrn] at hzr
  have HZr := Hid.mk' hzr
  clear hzr
  have HQ := Hid.mk' hq
  have HR := Hid.mk' hr
  clear hrn
  have hDiv := div_up (.agg #[.bool sn, .slice an Ln cn]) (.agg #[.bool false, .slice ad Ld cd]) N D
  go_enter Tryd.func28, Tryd.ntmps28
  go_wp2_with fail
  refine (hDiv _ (by omega) hD (by omega) (ha.below (below_al (below_al (below_al (Below.refl _ _) _) _) _)) (hb.below (below_al (below_al (below_al (Below.refl _ _) _) _) _))).mono ?_
  rintro e w1 ⟨u, v, rfl, hu, hv, hb1⟩
  replace hv := isNum_emod hD hv
  rw [← hq] at hu
  rw [← hr] at hv
  obtain ⟨a1, L1, c1, hv1⟩ := hu.form
  obtain ⟨sq, hsq⟩ : ∃ s, s = decide (q < 0) := ⟨_, rfl⟩
  rw [← hsq] at hv1
  subst hv1
  clear hsq
  obtain ⟨a2, L2, c2, rfl⟩ := hv.form0
  have hw1 : Below w.heap.size w w1 := below_tr (below_al (below_al (below_al (Below.refl _ _) _) _) _) hb1
  have s1 : w.heap.size + 1 + 1 + 1 ≤ w1.heap.size := by have := hb1.size; simp at this; omega
  have kD : Row2 w1 (w.heap.size + 1) (.bool false) (.slice ad Ld cd) := ((row2_at (w.alloc _) (by simp) _ _).alloc _).keep hb1
  have kR : Row2 w1 (w.heap.size + 1 + 1) (.bool false) (.slice none 0 0) := (row2_at ((w.alloc _).alloc _) (by simp) _ _).keep hb1
  clear hDiv hq hr
  go_upto_region 2 with fail
  have hu2 := hu.below (below_al (below_al (Below.refl _ w1) (.cells #[.bool sq, .slice a1 L1 c1] 48)) (.cells #[.bool false, .slice a2 L2 c2] 48))
  have hv2 := hv.below (below_al (below_al (Below.refl _ w1) (.cells #[.bool sq, .slice a1 L1 c1] 48)) (.cells #[.bool false, .slice a2 L2 c2] 48))
  have hw2 := below_al (below_al hw1 (.cells #[.bool sq, .slice a1 L1 c1] 48)) (.cells #[.bool false, .slice a2 L2 c2] 48)
  have kD2 := (kD.alloc (.cells #[.bool sq, .slice a1 L1 c1] 48)).alloc (.cells #[.bool false, .slice a2 L2 c2] 48)
  have kR2 := (kR.alloc (.cells #[.bool sq, .slice a1 L1 c1] 48)).alloc (.cells #[.bool false, .slice a2 L2 c2] 48)
  have kQ2 := (row2_new w1 (.bool sq) (.slice a1 L1 c1)).alloc (.cells #[.bool false, .slice a2 L2 c2] 48)
  have kr2 := row2_at (w1.alloc (.cells #[.bool sq, .slice a1 L1 c1] 48)) (g := w1.heap.size + 1) (by simp) (.bool false) (.slice a2 L2 c2)
  obtain ⟨g, hg⟩ : ∃ g, g = w1.heap.size := ⟨_, rfl⟩
  generalize (w1.alloc (.cells #[.bool sq, .slice a1 L1 c1] 48)).alloc (.cells #[.bool false, .slice a2 L2 c2] 48) = W2 at *
  rw [← hg] at kQ2 kr2 s1 ⊢
  clear hu hv hw1 kD kR hb1 hg
  have hd2 := hb.below hw2
  have x0 := kD2.c0
  have x1 := kD2.c1
  have y0 := kr2.c0
  have y1 := kr2.c1
  go_cut [7] (fun c wx => c = .int .i64 (((r : Int) + (r : Int)) - (D : Int)).sign ∧ Below W2.heap.size W2 wx)
  case first =>
    go_region_held3 (fun w' => w'.cell? ⟨w.heap.size + 1, 0, none⟩ = some (.bool false) ∧ w'.cell? ⟨w.heap.size + 1, 1, none⟩ = some (.slice ad Ld cd) ∧ w'.cell? ⟨g + 1, 0, none⟩ = some (.bool false) ∧ w'.cell? ⟨g + 1, 1, none⟩ = some (.slice a2 L2 c2)) (first | exact ⟨x0, x1, y0, y1⟩ | exact ⟨keep_cell hb3 x0, keep_cell hb3 x1, keep_cell hb3 y0, keep_cell hb3 y1⟩ | exact ⟨keep_cell hb4 (keep_cell hb3 x0), keep_cell hb4 (keep_cell hb3 x1), keep_cell hb4 (keep_cell hb3 y0), keep_cell hb4 (keep_cell hb3 y1)⟩ | go_keep)
      (first
        | (go_at_call 25; refine (add_any _ _ (r : Int) (r : Int) _ (by rw [len_nat]; omega) (by rw [len_nat]; omega) (hv2.below (Below.refl _ _).drew) (hv2.below (Below.refl _ _).drew)).mono ?_; rintro e w3 ⟨v3, rfl, hn3, hb3⟩)
        | (go_at_call 47; refine (cmp_any _ _ ((r : Int) + (r : Int)) (D : Int) _ (by have := len_nat (r + r); rw [Int.natCast_add] at this; omega) (by rw [len_nat]; omega) hn3 (hd2.below (below_tr (Below.refl _ _).drew hb3))).mono ?_; rintro e w4 ⟨rfl, hb4⟩))
    all_goals go_wp2_with fail
    all_goals go_meet
    all_goals exact ⟨rfl, below_tr (below_tr (Below.refl _ _).drew hb3) hb4⟩
  case rest =>
    obtain ⟨rfl, hbx⟩ := hcut
    have hqc := hu2.below hbx
    have z0 := keep_cell hbx kQ2.c0
    have z1 := keep_cell hbx kQ2.c1
    have gl : g + 1 < wc.heap.size := Nat.lt_of_lt_of_le kr2.lt hbx.size
    have ng0 : g ≠ wc.heap.size := by omega
    have ng1 : g ≠ wc.heap.size + 1 := by omega
    go_upto_region 3 with fail
    go_cut [8, 9] (fun p8 p9 wy => ∃ (h : Nat) (a4 : Option Addr) (L4 c4 : Nat), p9 = .pointer (some ⟨h, 0, none⟩) ∧ Row2 wy h (.bool false) (.slice a4 L4 c4) ∧ IsNum wy (.agg #[.bool false, .slice a4 L4 c4]) ((q % ((2 : Nat) : Int)).toNat : Int) ∧ Below wc.heap.size wc wy)
    case first =>
      clear ha hb hn hd hlr hlrr l1 HQ HR s1 hu2 hv2 hw2 kD2 kR2 kQ2 kr2 hd2 x0 x1 y0 y1 hbx
      go_region_held3 (fun w' => w'.cell? ⟨g, 0, none⟩ = some (.bool sq) ∧ w'.cell? ⟨g, 1, none⟩ = some (.slice a1 L1 c1)) (first | (refine ⟨?_, ?_⟩ <;> (repeat first | with_reducible exact z0 | with_reducible exact z1 | with_reducible refine keep_alloc _ ?_ | with_reducible refine keep_drew ?_ | with_reducible refine keep_cell hb6 ?_ | with_reducible refine keep_cell hb5 ?_ | with_reducible refine keep_set ?_ ng0 _ | with_reducible refine keep_set ?_ ng1 _ | with_reducible refine keep_set ?_ ng5 _ | with_reducible refine keep_set ?_ ng51 _)))
        (first
          | (go_at_call 21; refine (of_any 2 _ (by omega) (by omega)).mono ?_; rintro e w5 ⟨v5, rfl, hn5, hb5⟩; replace hn5 : IsNum w5 v5 ((2 : Nat) : Int) := hn5; have k5 : Below wc.heap.size wc w5 := (by first | with_reducible exact below_tr (Below.refl _ _).drew hb5 | with_reducible exact below_tr (below_al (Below.refl _ _) _).drew hb5 | with_reducible exact below_tr (below_al (below_al (Below.refl _ _) _) _).drew hb5); have s5 : wc.heap.size ≤ w5.heap.size := k5.size; have ng5 : g ≠ w5.heap.size := (by omega); have ng51 : g ≠ w5.heap.size + 1 := (by omega); (try (have s5x := hb5.size; simp at s5x)); (try (have dAP : wc.heap.size ≠ w5.heap.size := (by omega); have dPA : w5.heap.size ≠ wc.heap.size := (by omega))))
          | (go_at_call 23; refine (div_up _ _ q 2 _ (by omega) (by omega) l2' (by repeat first | with_reducible exact hqc | with_reducible refine IsNum.below ?_ hb5 | with_reducible refine IsNum.drew ?_ | with_reducible refine IsNum.alloc ?_ _) (by repeat first | with_reducible exact hn5 | with_reducible refine IsNum.alloc ?_ _)).mono ?_; rintro e w6 ⟨v6, v7, rfl, hn6, hn7, hb6⟩; have k6 : Below wc.heap.size wc w6 := (by first | with_reducible exact below_tr k5 hb6 | with_reducible exact below_tr (below_al k5 _) hb6 | with_reducible exact below_tr (below_al (below_al k5 _) _) hb6); replace hn7 := isNum_emod (d := 2) (by omega) hn7; obtain ⟨a6, L6, c6, hv6⟩ := hn6.form; obtain ⟨s6, hs6⟩ : ∃ s, s = decide (q / ((2 : Nat) : Int) < 0) := ⟨_, rfl⟩; rw [← hs6] at hv6; clear hs6; obtain ⟨a7, L7, c7, hv7⟩ := hn7.form0; subst hv6; subst hv7; (try (have A0 : Row2 w6 wc.heap.size (.bool false) (.slice none 0 0) := (by first | with_reducible exact ((row2_new wc _ _).drew.keep hb5).keep hb6 | with_reducible exact (((row2_new wc _ _).drew.keep hb5).alloc _).keep hb6 | with_reducible exact (((row2_new wc _ _).alloc _).drew.keep hb5).keep hb6); have A0c := A0.c0; have A0d := A0.c1; have A0e := A0.free 0; have A0f := A0.free 1; have A0l := A0.lt)); (try (have A1 : Row2 w6 (wc.heap.size + 1) (.bool false) (.slice none 0 0) := (by first | with_reducible exact ((row2_at (wc.alloc _) (by simp) _ _).drew.keep hb5).keep hb6); have A1c := A1.c0; have A1d := A1.c1; have A1e := A1.free 0; have A1f := A1.free 1; have A1l := A1.lt)); (try (have P0 : Row2 w6 w5.heap.size (.bool false) (.slice none 0 0) := (by first | with_reducible exact (row2_new w5 _ _).keep hb6 | with_reducible exact ((row2_new w5 _ _).alloc _).keep hb6); have P0c := P0.c0; have P0d := P0.c1; have P0e := P0.free 0; have P0f := P0.free 1; have P0l := P0.lt)); (try (have P1 : Row2 w6 (w5.heap.size + 1) (.bool false) (.slice none 0 0) := (by first | with_reducible exact (row2_at (w5.alloc _) (by simp) _ _).keep hb6); have P1c := P1.c0; have P1d := P1.c1; have P1e := P1.free 0; have P1f := P1.free 1; have P1l := P1.lt))))
      all_goals go_wp2_with fail
      all_goals go_meet
      all_goals refine ⟨_, a7, L7, c7, rfl, ?_, ?_, ?_⟩
      all_goals first | (first | with_reducible exact row2_at (w6.alloc _) (by simp) _ _ | with_reducible exact (row2_new w6 _ _).alloc _ | with_reducible exact row2_after2 w6 _ _ _ _ _ | with_reducible exact (A0.set2 _ _).alloc _ | with_reducible exact (A1.set2 _ _).alloc _ | with_reducible exact (P0.set2 _ _).alloc _ | with_reducible exact (P1.set2 _ _).alloc _ | with_reducible exact (P1.other2 (Nat.succ_ne_self _) _ _).set2 _ _ | with_reducible exact (P0.other2 (Ne.symm (Nat.succ_ne_self _)) _ _).set2 _ _ | with_reducible exact (P0.other2 dPA _ _).set2 _ _ | with_reducible exact (A0.other2 dAP _ _).set2 _ _ | with_reducible exact (A1.other2 (Nat.succ_ne_self _) _ _).set2 _ _ | with_reducible exact (A0.other2 (Ne.symm (Nat.succ_ne_self _)) _ _).set2 _ _) | (first | with_reducible exact (hn7.alloc _).alloc _ | with_reducible exact (hn7.row2 A0 _ _).alloc _ | with_reducible exact (hn7.row2 A1 _ _).alloc _ | with_reducible exact (hn7.row2 P0 _ _).alloc _ | with_reducible exact (hn7.row2 P1 _ _).alloc _ | with_reducible exact (hn7.row2 P0 _ _).row2 (P1.other2 (Nat.succ_ne_self _) _ _) _ _ | with_reducible exact (hn7.row2 P1 _ _).row2 (P0.other2 (Ne.symm (Nat.succ_ne_self _)) _ _) _ _ | with_reducible exact (hn7.row2 A0 _ _).row2 (P0.other2 dPA _ _) _ _ | with_reducible exact (hn7.row2 P0 _ _).row2 (A0.other2 dAP _ _) _ _ | with_reducible exact (hn7.row2 A0 _ _).row2 (A1.other2 (Nat.succ_ne_self _) _ _) _ _ | with_reducible exact (hn7.row2 A1 _ _).row2 (A0.other2 (Ne.symm (Nat.succ_ne_self _)) _ _) _ _) | (first | with_reducible exact below_al (below_al k6 _) _ | with_reducible exact below_al (below_set2 k6 (Nat.le_refl _) _ _) _ | with_reducible exact below_al (below_set2 k6 (Nat.le_succ _) _ _) _ | with_reducible exact below_al (below_set2 k6 s5 _ _) _ | with_reducible exact below_al (below_set2 k6 (Nat.le_succ_of_le s5) _ _) _ | with_reducible exact below_set2 (below_set2 k6 s5 _ _) (Nat.le_succ_of_le s5) _ _ | with_reducible exact below_set2 (below_set2 k6 (Nat.le_succ_of_le s5) _ _) s5 _ _ | with_reducible exact below_set2 (below_set2 k6 (Nat.le_refl _) _ _) s5 _ _ | with_reducible exact below_set2 (below_set2 k6 s5 _ _) (Nat.le_refl _) _ _ | with_reducible exact below_set2 (below_set2 k6 (Nat.le_refl _) _ _) (Nat.le_succ _) _ _ | with_reducible exact below_set2 (below_set2 k6 (Nat.le_succ _) _ _) (Nat.le_refl _) _ _)
    case rest =>
      obtain ⟨h, a4, L4, c4, rfl, hrow4, hn4, hby⟩ := hcut
      have hbxy := below_tr hbx hby
      have kQ3 := kQ2.keep hbxy
      have kR3 := kR2.keep hbxy
      have hq3 := hu2.below hbxy
      have hw3 := below_tr hw2 hbxy
      have m0 := kQ3.c0
      have m1 := kQ3.c1
      have m2 := kR3.c0
      have m3 := kR3.c1
      have m4 := kR3.free 0
      have m5 := kR3.free 1
      have m6 := hrow4.c0
      have m7 := hrow4.c1
      have gB : w.heap.size + 1 + 1 < g := by omega
      clear ha hb hn hd HQ HR hu2 hv2 hw2 kD2 kR2 kQ2 kr2 hd2 x0 x1 y0 y1 hbx hby hqc z0 z1 gl ng0 ng1 hrow4
      rcases Int.lt_trichotomy ((r : Int) + (r : Int) - (D : Int)) 0 with hs | hs | hs
      · rw [Int.sign_eq_neg_one_of_neg hs]
        go_wp2
        have e5 := kR3.set2 (.bool sq) (.slice a1 L1 c1)
        have u0 := e5.c0
        have u1 := e5.c1
        refine bodyPost_ret (v := .agg #[.bool sq, .slice a1 L1 c1]) ?_ rfl ⟨_, rfl, by rw [HZr.out, if_pos (Or.inl (by omega))]; exact hq3.row2 kR3 _ _, below_set2 hw3 (by omega) _ _⟩
        clear e5 m0 m1 m2 m3 m4 m5
        revert u0 u1
        generalize (wc.setCell ⟨w.heap.size + 1 + 1, 0, none⟩ (.bool sq)).setCell ⟨w.heap.size + 1 + 1, 1, none⟩ (.slice a1 L1 c1) = W5
        intro u0 u1
        simp [results, Tryd.results28, go_sem, u0, u1]
      · rw [hs, Int.sign_zero]
        by_cases hod : q % 2 = 0
        · rw [show (q % ((2 : Nat) : Int)).toNat = 0 by omega] at hn4
          have hn40 : IsNum wc (.agg #[.bool false, .slice a4 L4 c4]) 0 := hn4
          go_wp2_with fail
          refine (sign_any _ 0 _ (by decide) hn40).mono ?_
          rintro e w7 ⟨rfl, hb7⟩
          rw [Int.sign_zero]
          have kQ7 := kQ3.keep hb7
          have kR7 := kR3.keep hb7
          have hq7 := hq3.below hb7
          have hw7 := below_tr hw3 hb7
          clear m0 m1 m2 m3 m4 m5 m6 m7
          have m0 := kQ7.c0
          have m1 := kQ7.c1
          have m2 := kR7.c0
          have m3 := kR7.c1
          have m4 := kR7.free 0
          have m5 := kR7.free 1
          go_wp2
          have e5 := kR7.set2 (.bool sq) (.slice a1 L1 c1)
          have u0 := e5.c0
          have u1 := e5.c1
          refine bodyPost_ret (v := .agg #[.bool sq, .slice a1 L1 c1]) ?_ rfl ⟨_, rfl, by rw [HZr.out, if_pos (Or.inr ⟨by omega, hod⟩)]; exact hq7.row2 kR7 _ _, below_set2 hw7 (by omega) _ _⟩
          clear e5 m0 m1 m2 m3 m4 m5
          revert u0 u1
          generalize (w7.setCell ⟨w.heap.size + 1 + 1, 0, none⟩ (.bool sq)).setCell ⟨w.heap.size + 1 + 1, 1, none⟩ (.slice a1 L1 c1) = W5
          intro u0 u1
          simp [results, Tryd.results28, go_sem, u0, u1]
        · have hod1 : q % 2 = 1 := by omega
          rw [show (q % ((2 : Nat) : Int)).toNat = 1 by omega] at hn4
          have hn41 : IsNum wc (.agg #[.bool false, .slice a4 L4 c4]) 1 := hn4
          go_wp2_with fail
          refine (sign_any _ 1 _ (by omega) hn41).mono ?_
          rintro e w7 ⟨rfl, hb7⟩
          rw [show (1 : Int).sign = 1 from rfl]
          have kQ7 := kQ3.keep hb7
          have kR7 := kR3.keep hb7
          have hq7 := hq3.below hb7
          have hw7 := below_tr hw3 hb7
          clear m0 m1 m2 m3 m4 m5 m6 m7
          have m0 := kQ7.c0
          have m1 := kQ7.c1
          have m2 := kR7.c0
          have m3 := kR7.c1
          have m4 := kR7.free 0
          have m5 := kR7.free 1
          go_wp2
          go_region_with
            (first
              | (go_at_call 21; refine (of_any 1 _ (by omega) (by omega)).mono ?_; rintro e w8 ⟨v8, rfl, hn8, hb8⟩; have y0 := keep_cell hb8 m0; have y1 := keep_cell hb8 m1)
              | (go_at_call 25; refine (add_any _ _ q 1 _ (by omega) (by omega) (hq7.below (below_tr (Below.refl _ _).drew hb8)) hn8).mono ?_; rintro e w9 ⟨v9, rfl, hn9, hb9⟩; have hn9' := hn9; obtain ⟨a9, L9, c9, hv9⟩ := hn9'.form; obtain ⟨s8, hs8⟩ : ∃ s, s = decide (q + 1 < 0) := ⟨_, rfl⟩; rw [← hs8] at hv9; subst hv9; clear hs8; have kR9 := (kR7.drew.keep hb8).keep hb9; have q0 := kR9.c0; have q1 := kR9.c1; have q2 := kR9.free 0; have q3 := kR9.free 1))
          all_goals go_wp2
          all_goals
            have e5 := kR9.set2 (.bool s8) (.slice a9 L9 c9)
            have u0 := e5.c0
            have u1 := e5.c1
            refine bodyPost_ret (v := .agg #[.bool s8, .slice a9 L9 c9]) ?_ rfl ⟨_, rfl, by rw [HZr.out, if_neg (by omega)]; exact hn9'.row2 kR9 _ _, below_set2 (below_tr (below_tr hw7.drew hb8) hb9) (by omega) _ _⟩
            clear e5 m0 m1 m2 m3 m4 m5 y0 y1 q0 q1 q2 q3
            revert u0 u1
            generalize (w9.setCell ⟨w.heap.size + 1 + 1, 0, none⟩ (.bool s8)).setCell ⟨w.heap.size + 1 + 1, 1, none⟩ (.slice a9 L9 c9) = W5
            intro u0 u1
            simp [results, Tryd.results28, go_sem, u0, u1]
      · rw [Int.sign_eq_one_of_pos hs]
        go_wp2
        go_region_with
          (first
            | (go_at_call 21; refine (of_any 1 _ (by omega) (by omega)).mono ?_; rintro e w8 ⟨v8, rfl, hn8, hb8⟩; have y0 := keep_cell hb8 m0; have y1 := keep_cell hb8 m1)
            | (go_at_call 25; refine (add_any _ _ q 1 _ (by omega) (by omega) (hq3.below (below_tr (Below.refl _ _).drew hb8)) hn8).mono ?_; rintro e w9 ⟨v9, rfl, hn9, hb9⟩; have hn9' := hn9; obtain ⟨a9, L9, c9, hv9⟩ := hn9'.form; obtain ⟨s8, hs8⟩ : ∃ s, s = decide (q + 1 < 0) := ⟨_, rfl⟩; rw [← hs8] at hv9; subst hv9; clear hs8; have kR9 := (kR3.drew.keep hb8).keep hb9; have q0 := kR9.c0; have q1 := kR9.c1; have q2 := kR9.free 0; have q3 := kR9.free 1))
        all_goals go_wp2
        all_goals
          have e5 := kR9.set2 (.bool s8) (.slice a9 L9 c9)
          have u0 := e5.c0
          have u1 := e5.c1
          refine bodyPost_ret (v := .agg #[.bool s8, .slice a9 L9 c9]) ?_ rfl ⟨_, rfl, by rw [HZr.out, if_neg (by omega)]; exact hn9'.row2 kR9 _ _, below_set2 (below_tr (below_tr hw3.drew hb8) hb9) (by omega) _ _⟩
          clear e5 m0 m1 m2 m3 m4 m5 y0 y1 q0 q1 q2 q3
          revert u0 u1
          generalize (w9.setCell ⟨w.heap.size + 1 + 1, 0, none⟩ (.bool s8)).setCell ⟨w.heap.size + 1 + 1, 1, none⟩ (.slice a9 L9 c9) = W5
          intro u0 u1
          simp [results, Tryd.results28, go_sem, u0, u1]

end Go.Proofs.YtiahijcdfeimgaaDoor
