/-
  Far of the document's answer of layer 5 (radomeref05): of a root, cut down and bounded, it is true.
-/
import Derived.Test.YtmijmfdamommaaaDoorTgR
import Derived.Test.YtmijmfdamommaaaDoorQJ
import Derived.Deep.DeepCutAuto
import Derived.Deep.RegionHeld3
import Derived.Deep.CutRange
set_option linter.unusedSimpArgs false
set_option linter.unusedVariables false
namespace Go.Proofs.YtmijmfdamommaaaDoor
open Go.RowKit Tg Dec
attribute [local go_sem ↓] Go.wp_at_zero Go.wp_at_succ

namespace Tg
theorem len40 {n : Int} (h0 : -(10 ^ 40) < n) (h1 : n < 10 ^ 40) : (digs n.natAbs).length ≤ 1000000 := by
  have := length_digs_le (show n.natAbs < 10 ^ 40 by omega)
  omega
theorem sq40 {n : Int} (h0 : -4611686018427387904 ≤ n) (h1 : n ≤ 4611686018427387904) : 0 ≤ n * n ∧ n * n ≤ 21267647932558653966460912964485513216 := by
  have e : (n.natAbs : Int) * (n.natAbs : Int) = n * n := Int.natAbs_mul_self
  rw [← e]
  have h : (n.natAbs : Int) ≤ 4611686018427387904 := by omega
  exact ⟨Int.mul_nonneg (by omega) (by omega), Int.le_trans (Int.mul_le_mul h h (by omega) (by omega)) (by decide)⟩
theorem sign_gt {z : Int} : decide (0 < z.sign) = decide (0 < z) := by
  rw [decide_eq_decide]; exact Int.sign_pos_iff
end Tg

set_option maxRecDepth 10000 in
set_option maxHeartbeats 2000000 in
theorem rfar_any (n x y : Int) (w : World) (h0 : -4611686018427387903 ≤ x) (h1 : x ≤ 4611686018427387903) (g0 : -4611686018427387903 ≤ y) (g1 : y ≤ 4611686018427387903) (hr : Qn.IsRoot (x * x + y * y) n) :
    Calls Tryd.prog 16 #[.int .i64 n, .int .i64 x, .int .i64 y] w fun e w' => e = .returned (.bool true) ∧ Below w.heap.size w w' := by
  obtain ⟨r0, r1, r2, r3⟩ := hr
  have sx := sq40 (n := x) (by omega) (by omega)
  have sy := sq40 (n := y) (by omega) (by omega)
  have sn := sq40 (n := n) (by omega) (by omega)
  have sm := sq40 (n := n + 1) (by omega) (by omega)
  have HX := Hid.mk' (fun W => of_any x W (by omega) (by omega))
  have HY := Hid.mk' (fun W => of_any y W (by omega) (by omega))
  have HN := Hid.mk' (fun W => of_any n W (by omega) (by omega))
  have H1 := Hid.mk' (fun W => of_any 1 W (by omega) (by omega))
  have MX := Hid.mk' (fun va vb W => mul_any va vb x x W (len40 (by omega) (by omega)) (len40 (by omega) (by omega)))
  have MY := Hid.mk' (fun va vb W => mul_any va vb y y W (len40 (by omega) (by omega)) (len40 (by omega) (by omega)))
  have MN := Hid.mk' (fun va vb W => mul_any va vb n n W (len40 (by omega) (by omega)) (len40 (by omega) (by omega)))
  have MM := Hid.mk' (fun va vb W => mul_any va vb (n + 1) (n + 1) W (len40 (by omega) (by omega)) (len40 (by omega) (by omega)))
  have AS := Hid.mk' (fun va vb W => add_any va vb (x * x) (y * y) W (len40 (by omega) (by omega)) (len40 (by omega) (by omega)))
  have AN := Hid.mk' (fun va vb W => add_any va vb n 1 W (len40 (by omega) (by omega)) (len40 (by omega) (by omega)))
  have CN := Hid.mk' (fun va vb W => cmp_any va vb (n * n) (x * x + y * y) W (len40 (by omega) (by omega)) (len40 (by omega) (by omega)))
  have CM := Hid.mk' (fun va vb W => cmp_any va vb ((n + 1) * (n + 1)) (x * x + y * y) W (len40 (by omega) (by omega)) (len40 (by omega) (by omega)))
  obtain ⟨P, hP⟩ : ∃ P, P = (n * n - (x * x + y * y)).sign := ⟨_, rfl⟩
  obtain ⟨Q, hQ⟩ : ∃ Q, Q = ((n + 1) * (n + 1) - (x * x + y * y)).sign := ⟨_, rfl⟩
  have p0 : ¬ 0 < P := by rw [hP, Int.sign_pos_iff]; omega
  have q0 : ¬ n = 4611686018427387903 → 0 < Q := fun h => by rw [hQ, Int.sign_pos_iff]; omega
  have Q0 := Hid.mk' q0
  have Q1 := Hid.mk' (show 0 < Q → Q = 1 from fun h => by rw [hQ] at h ⊢; exact Int.sign_eq_one_of_pos (Int.sign_pos_iff.1 h))
  rw [← hP] at CN
  rw [← hQ] at CM
  clear hP hQ q0 r2 r3 sx sy sn sm
  obtain ⟨SX, hSX⟩ : ∃ S, S = x * x := ⟨_, rfl⟩
  obtain ⟨SY, hSY⟩ : ∃ S, S = y * y := ⟨_, rfl⟩
  rw [← hSX] at MX AS CN CM
  rw [← hSY] at MY AS CN CM
  obtain ⟨S, hS⟩ : ∃ S, S = SX + SY := ⟨_, rfl⟩
  rw [← hS] at AS CN CM
  obtain ⟨m, hm⟩ : ∃ m, m = n + 1 := ⟨_, rfl⟩
  rw [← hm] at MM AN CM
  obtain ⟨NN, hNN⟩ : ∃ S, S = n * n := ⟨_, rfl⟩
  obtain ⟨MMv, hMM⟩ : ∃ S, S = m * m := ⟨_, rfl⟩
  rw [← hNN] at MN CN
  rw [← hMM] at MM CM
  clear hSX hSY hS hm hNN hMM
  go_enter Tryd.func16, Tryd.ntmps16
  go_wp2_with fail
  refine (HX.out _).mono ?_
  rintro e w1 ⟨v1, rfl, i1, k1⟩
  go_wp2_with fail
  refine (HX.out _).mono ?_
  rintro e w2 ⟨v2, rfl, i2, k2⟩
  go_wp2_with fail
  refine (MX.out _ _ _ (i1.below k2) i2).mono ?_
  rintro e w3 ⟨v3, rfl, i3, k3⟩
  go_wp2_with fail
  refine (HY.out _).mono ?_
  rintro e w4 ⟨v4, rfl, i4, k4⟩
  go_wp2_with fail
  refine (HY.out _).mono ?_
  rintro e w5 ⟨v5, rfl, i5, k5⟩
  go_wp2_with fail
  refine (MY.out _ _ _ (i4.below k5) i5).mono ?_
  rintro e w6 ⟨v6, rfl, i6, k6⟩
  go_wp2_with fail
  refine (AS.out _ _ _ (((i3.below k4).below k5).below k6) i6).mono ?_
  rintro e w7 ⟨v7, rfl, i7, k7⟩
  have K7 := below_tr (below_tr (below_tr (below_tr (below_tr (below_tr k1 k2) k3) k4) k5) k6) k7
  clear k1 k2 k3 k4 k5 k6 k7 i1 i2 i3 i4 i5 i6
  obtain ⟨a7, L7, c7, rfl⟩ := i7.form
  obtain ⟨s7, hs7⟩ : ∃ s, s = decide (S < 0) := ⟨_, rfl⟩
  rw [← hs7] at i7 ⊢
  clear hs7
  have R7 : Row2 (w7.alloc (Obj.cells #[.bool s7, .slice a7 L7 c7] 45)) w7.heap.size (.bool s7) (.slice a7 L7 c7) := row2_new w7 _ _
  have I7 : IsNum (w7.alloc (Obj.cells #[.bool s7, .slice a7 L7 c7] 45)) (.agg #[.bool s7, .slice a7 L7 c7]) S := i7.below (below_al (Below.refl _ _) _)
  have K8 : Below w.heap.size w (w7.alloc (Obj.cells #[.bool s7, .slice a7 L7 c7] 45)) := below_al K7 _
  have B7 : w7.heap.size < (w7.alloc (Obj.cells #[.bool s7, .slice a7 L7 c7] 45)).heap.size := R7.lt
  clear i7 K7
  go_wp2_with fail
  refine (HN.out _).mono ?_
  rintro e w8 ⟨v8, rfl, i8, k8⟩
  obtain ⟨a8, L8, c8, rfl⟩ := i8.form
  obtain ⟨s8, hs8⟩ : ∃ s, s = decide (n < 0) := ⟨_, rfl⟩
  rw [← hs8] at i8 ⊢
  clear hs8
  go_wp2_with fail
  refine (HN.out _).mono ?_
  rintro e w9 ⟨v9, rfl, i9, k9⟩
  go_wp2_with fail
  refine (H1.out _).mono ?_
  rintro e w10 ⟨v10, rfl, i10, k10⟩
  go_wp2_with fail
  refine (AN.out _ _ _ (i9.below k10) i10).mono ?_
  rintro e w11 ⟨v11, rfl, i11, k11⟩
  obtain ⟨a9, L9, c9, rfl⟩ := i11.form
  obtain ⟨s9, hs9⟩ : ∃ s, s = decide (m < 0) := ⟨_, rfl⟩
  rw [← hs9] at i11 ⊢
  clear hs9
  have R7' := (((R7.keep k8).keep k9).keep k10).keep k11
  have I7' := (((I7.below k8).below k9).below k10).below k11
  have I8' := ((i8.below k9).below k10).below k11
  have K11 := below_tr (below_tr (below_tr (below_tr K8 k8) k9) k10) k11
  have B11 : w7.heap.size < w11.heap.size := R7'.lt
  clear R7 I7 i8 K8 k8 k9 k10 k11 i9 i10 B7
  have KW : Below w11.heap.size w11 ((w11.alloc (Obj.cells #[.bool s8, .slice a8 L8 c8] 45)).alloc (Obj.cells #[.bool s9, .slice a9 L9 c9] 45)).drew := (below_al (below_al (Below.refl _ _) _) _).drew
  have J7 : Row2 ((w11.alloc (Obj.cells #[.bool s8, .slice a8 L8 c8] 45)).alloc (Obj.cells #[.bool s9, .slice a9 L9 c9] 45)).drew w7.heap.size (.bool s7) (.slice a7 L7 c7) := R7'.keep KW
  have J8 : Row2 ((w11.alloc (Obj.cells #[.bool s8, .slice a8 L8 c8] 45)).alloc (Obj.cells #[.bool s9, .slice a9 L9 c9] 45)).drew w11.heap.size (.bool s8) (.slice a8 L8 c8) := ((row2_new w11 _ _).alloc _).drew
  have J9 : Row2 ((w11.alloc (Obj.cells #[.bool s8, .slice a8 L8 c8] 45)).alloc (Obj.cells #[.bool s9, .slice a9 L9 c9] 45)).drew (w11.heap.size + 1) (.bool s9) (.slice a9 L9 c9) := (row2_at (w11.alloc (Obj.cells #[.bool s8, .slice a8 L8 c8] 45)) (by simp) _ _).drew
  have N7 := I7'.below KW
  have N8 := I8'.below KW
  have N9 := i11.below KW
  have j70 := J7.c0
  have j71 := J7.c1
  have j80 := J8.c0
  have j81 := J8.c1
  have n0 : ¬ n < 0 := by omega
  have n1 : decide (n < 0) = false := decide_eq_false n0
  clear R7' I7' I8' i11
  go_upto_region 3 with fail
  go_cut [36] (fun c wx => c = .bool false ∧ Below ((w11.alloc (Obj.cells #[.bool s8, .slice a8 L8 c8] 45)).alloc (Obj.cells #[.bool s9, .slice a9 L9 c9] 45)).drew.heap.size ((w11.alloc (Obj.cells #[.bool s8, .slice a8 L8 c8] 45)).alloc (Obj.cells #[.bool s9, .slice a9 L9 c9] 45)).drew wx)
  case first =>
    go_region_with (first
      | (go_at_call 35; refine (MN.out _ _ _ N8 N8).mono ?_; rintro e w12 ⟨v12, rfl, i12, k12⟩; have q7 := J7.keep k12; have q70 := q7.c0; have q71 := q7.c1; have M7 := N7.below k12)
      | (go_at_call 37; refine (CN.out _ _ _ i12 M7).mono ?_; rintro e w13 ⟨rfl, k13⟩))
    all_goals go_wp2_with fail
    all_goals go_meet
    all_goals exact ⟨by simp; omega, below_tr k12 k13⟩
  case rest =>
    obtain ⟨rfl, hbx⟩ := hcut
    have Q9 := (J9.keep hbx).drew
    have Q7 := (J7.keep hbx).drew
    have M9 : IsNum wc.drew (.agg #[.bool s9, .slice a9 L9 c9]) m := (N9.below hbx).below (Below.refl _ _).drew
    have M7 : IsNum wc.drew (.agg #[.bool s7, .slice a7 L7 c7]) S := (N7.below hbx).below (Below.refl _ _).drew
    have KK := (below_tr (below_tr K11 KW) hbx).drew
    have q90 := Q9.c0
    have q91 := Q9.c1
    have q70 := Q7.c0
    have q71 := Q7.c1
    clear J7 J8 J9 N7 N8 N9 j70 j71 j80 j81 K11 KW hbx
    by_cases hq : 0 < Q
    · have hq1 := Q1.out hq
      subst hq1
      clear Q0 Q1
      go_wp2
      first
        | (go_region_with (first
            | (go_at_call 35; refine (MM.out _ _ _ M9 M9).mono ?_; rintro e w12 ⟨v12, rfl, i12, k12⟩; have q7 := Q7.keep k12; have q70 := q7.c0; have q71 := q7.c1; have M7' := M7.below k12)
            | (go_at_call 37; refine (CM.out _ _ _ i12 M7').mono ?_; rintro e w13 ⟨rfl, k13⟩)))
        | fail
      all_goals go_wp2
      all_goals go_ret
      all_goals refine ⟨?_, below_tr (below_tr KK k12) k13⟩
      all_goals simp only [Act.put, List.getElem_toArray, List.getElem_cons_zero, List.getElem_cons_succ]
      all_goals simp
    · have hn : n = 4611686018427387903 := by
        have := Q0.out
        omega
      have hn1 : (n == 4611686018427387903) = true := by rw [hn]; rfl
      have hq1 : decide (0 < Q) = false := decide_eq_false hq
      clear hn
      go_wp2
      go_region_with (first
        | (go_at_call 35; refine (MM.out _ _ _ M9 M9).mono ?_; rintro e w12 ⟨v12, rfl, i12, k12⟩; have q7 := Q7.keep k12; have q70 := q7.c0; have q71 := q7.c1; have M7' := M7.below k12)
        | (go_at_call 37; refine (CM.out _ _ _ i12 M7').mono ?_; rintro e w13 ⟨rfl, k13⟩))
      all_goals go_wp2
      all_goals go_ret
      all_goals refine ⟨?_, below_tr (below_tr KK k12) k13⟩
      all_goals simp only [Act.put, List.getElem_toArray, List.getElem_cons_zero, List.getElem_cons_succ]
      all_goals simp
end Go.Proofs.YtmijmfdamommaaaDoor
