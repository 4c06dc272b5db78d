/-
  Layer 16's law LikeOf, from package like's contracts and what update's Of answers. (By py/LkU.py.)
-/
import Derived.Test.YtdgcnaijndocnaaGreatDoorLkQ
import Derived.Test.YtdgcnaijndocnaaGreatDoorM35
import Derived.Test.YtdgcnaijndocnaaGreatDoorM36
import Derived.Test.YtdgcnaijndocnaaGreatDoorPdL
import Derived.Test.YtdgcnaijndocnaaGreatDoorLieS
import Derived.Test.YtdgcnaijndocnaaGreatDoorRegM
import Derived.Test.YtdgcnaijndocnaaGreatDoorErrA
import Derived.Test.YtdgcnaijndocnaaGreatDoorM34
import Derived.Test.YtdgcnaijndocnaaGreatDoorFLikeOf
import Derived.Deep.DeepCutAuto
import Derived.Deep.CutRange
set_option linter.unusedSimpArgs false
set_option linter.unusedVariables false
namespace Go.Proofs.YtdgcnaijndocnaaGreatDoor
open Go.RowKit Vc St Mt Pr Qn Ud Up Ld
attribute [local go_sem ↓] Go.wp_at_zero Go.wp_at_succ
theorem Lk.v_bK (X : Nat → Int) (x y : Int) : B64 (v2 (ox X x) (oy X y)) := v2_b (cl64 _) (cl64 _)
set_option maxRecDepth 20000 in
set_option maxHeartbeats 8000000 in
theorem lo_bad (Q : Lk.LPkg) (xo po : Option Addr) (xc n pc : Nat) (X : Nat → Int) (r c' : Int) (z : Nat → Int) (x y a b c : Int) (k : Int) (w : World) (hE : ErrTab w)
  (hG : ∀ W, Below w.heap.size w W → Calls Tryz.prog 7 #[.agg #[.slice xo 6 xc, .slice po n pc]] W fun e w' => e = .returned (.agg (Pd.svals X r c' z).toArray) ∧ Below W.heap.size W w')
  (hN : ∀ W, Calls Tryz.prog 6 #[.agg (Pd.svals X r c' z).toArray, .agg (pv x y a b c).toArray] W fun e w' => e = .returned (.tuple #[.agg (gvals (fun _ => 0) 0 (fun _ => 0) (fun _ => 0)).toArray, .bool false, .iface 70 (.int .i64 k)]) ∧ Below W.heap.size W w')
  (hD : ∀ W, Below w.heap.size w W → Calls Tryz.prog 9 #[.agg #[.slice xo 6 xc, .slice po n pc], .agg (pv x y a b c).toArray] W fun e w' => e = .returned (.tuple #[.agg #[.slice none 0 0, .slice none 0 0, .slice none 0 0], .bool false, .int .i64 k]) ∧ Below W.heap.size W w')
  : Calls Tryz.prog 3 #[.agg #[.slice xo 6 xc, .slice po n pc], .agg (pv x y a b c).toArray] w fun e w' => e = .returned (.bool true) ∧ Below w.heap.size w w' := by
 have HE := Ud.hide hE
 have HG := Ud.hide hG
 have HN := Ud.hide hN
 have HD := Ud.hide hD
 have HSu := Ud.hide (lsure_any Q)
 have HK : Hid (∀ W, Calls Tryz.prog 8 #[.agg (gvals (fun _ => 0) 0 (fun _ => 0) (fun _ => 0)).toArray] W fun e w' => e = .returned (.tuple #[.int .i64 0, .bool false, .iface 70 (.int .i64 1)]) ∧ Below W.heap.size W w') := Q.none
 clear hE hG hN hD
 have m0 := (crow_new w 25 [.slice xo 6 xc, .slice po n pc]).alloc (.cells (pv x y a b c).toArray 27)
 have p0 := crow_new1 w (.cells [.slice xo 6 xc, .slice po n pc].toArray 25) 27 (pv x y a b c)
 have B0 : Below w.heap.size w ((w.alloc (.cells [.slice xo 6 xc, .slice po n pc].toArray 25)).alloc (.cells (pv x y a b c).toArray 27)) := below_al (below_al (Below.refl _ _) _) _
 obtain ⟨W, hW⟩ : ∃ W, W = (w.alloc (.cells [.slice xo 6 xc, .slice po n pc].toArray 25)).alloc (.cells (pv x y a b c).toArray 27) := ⟨_, rfl⟩
 rw [← hW] at m0 p0 B0
 have HW := Ud.hide hW
 have c0 : W.cell? ⟨w.heap.size, 0, none⟩ = some (.slice xo 6 xc) := CRow.cell m0 (k := 0) rfl rfl
 clear hW
 go_enter Tryz.func3, Tryz.ntmps3
 go_upto_region 3 with (first | (erw [← HW.out]) | fail)
 go_cut [5, 6, 7] (fun p o f wx => ∃ g : Nat, p = .pointer (some ⟨g, 0, none⟩) ∧ o = .bool false ∧ f = .iface 70 (.int .i64 k) ∧ CRow wx g 35 (gvals (fun _ => 0) 0 (fun _ => 0) (fun _ => 0)) ∧ Below W.heap.size W wx)
 case first =>
  have hS : ∀ V, Below W.heap.size W V → (CRow V w.heap.size 25 [.slice xo 6 xc, .slice po n pc] ∧ CRow V (w.heap.size + 1) 27 (pv x y a b c)) := fun V q => ⟨CRow.keep m0 q, CRow.keep p0 q⟩
  have KQ := Ud.hide B0
  have lx := CRow.lt p0
  clear c0 m0 p0 B0
  refine Ru.wp_region_U [] (fun w' => CRow w' w.heap.size 25 [.slice xo 6 xc, .slice po n pc] ∧ CRow w' (w.heap.size + 1) 27 (pv x y a b c)) (by kernel_rfl) (hS _ (Vc.below_drew' _)) (fun hHeld => ?_)
  refine Ru.wpAnyU_take (i := 0) (v := .agg [.slice xo 6 xc, .slice po n pc].toArray) rfl (by kernel_rfl) (by kernel_rfl) (by kernel_rfl) (by kernel_rfl) (by kernel_rfl) (by kernel_rfl) (fun _ _ _ h => h) (Ru.yieldsC isSt (by kernel_rfl) _ (by rfl) w.heap.size _ (by rfl) (fun w h => h.1) rfl) hHeld ?_
  simp only [Act.put, zq1, zq2, zq3, zq4, zq5, zq6]
  refine Ru.wpAnyU_take (i := 2) (v := .agg (pv x y a b c).toArray) rfl (by kernel_rfl) (by kernel_rfl) (by kernel_rfl) (by kernel_rfl) (by kernel_rfl) (by kernel_rfl) (fun _ _ _ h => h) (Ru.yieldsC isSeen (by kernel_rfl) _ (by rfl) (w.heap.size + 1) _ (by rfl) (fun w h => h.2) rfl) hHeld ?_
  simp only [Act.put, zq1, zq2, zq3, zq4, zq5, zq6]
  refine Ru.wpAnyU_ready (rs := [1, 8]) (by kernel_rfl) (by simp) ?_
  refine Ru.AllReadyU.cons rfl (by kernel_rfl) (fun K hK => ?_) ?_
  ·go_simp
   refine (HG.out _ (below_tr KQ.out (Vc.below_drew' W))).mono ?_
   rintro e v_1 ⟨rfl, k_1⟩
   have D_1 := below_tr (Vc.below_drew' W) k_1
   go_wp2_with fail
   refine hK.out _ _ (hS _ D_1) (fun hHeld => ?_)
   clear hK K
   try simp only [Act.put, zq1, zq2, zq3, zq4, zq5, zq6]
   refine Ru.wpAnyU_ready (rs := [3, 8]) (by kernel_rfl) (by simp) ?_
   refine Ru.AllReadyU.cons rfl (by kernel_rfl) (fun K hK => ?_) ?_
   ·go_simp
    refine (HN.out _).mono ?_
    rintro e v_2 ⟨rfl, k_2⟩
    have D_2 := below_tr D_1 k_2
    go_wp2_with fail
    refine hK.out _ _ (hS _ D_2) (fun hHeld => ?_)
    clear hK K
    try simp only [Act.put, zq1, zq2, zq3, zq4, zq5, zq6]
    refine Ru.wpAnyU_take (i := 4) (v := .tuple #[.agg (gvals (fun _ => 0) 0 (fun _ => 0) (fun _ => 0)).toArray, .bool false, .iface 70 (.int .i64 k)]) rfl (by kernel_rfl) (by kernel_rfl) (by kernel_rfl) (by kernel_rfl) (by kernel_rfl) (by kernel_rfl) (fun _ _ _ h => h) (Or.inl ⟨by kernel_rfl, fun w hS => by obtain ⟨sc0, sc1⟩ := hS; go_simp⟩) hHeld ?_
    simp only [Act.put, zq1, zq2, zq3, zq4, zq5, zq6]
    refine Ru.wpAnyU_take (i := 5) (v := .agg (gvals (fun _ => 0) 0 (fun _ => 0) (fun _ => 0)).toArray) rfl (by kernel_rfl) (by kernel_rfl) (by kernel_rfl) (by kernel_rfl) (by kernel_rfl) (by kernel_rfl) (fun _ _ _ h => h) (Or.inl ⟨by kernel_rfl, fun w hS => by obtain ⟨sc0, sc1⟩ := hS; go_simp⟩) hHeld ?_
    simp only [Act.put, zq1, zq2, zq3, zq4, zq5, zq6]
    refine Ru.wpAnyU_take (i := 6) (v := .bool false) rfl (by kernel_rfl) (by kernel_rfl) (by kernel_rfl) (by kernel_rfl) (by kernel_rfl) (by kernel_rfl) (fun _ _ _ h => h) (Or.inl ⟨by kernel_rfl, fun w hS => by obtain ⟨sc0, sc1⟩ := hS; go_simp⟩) hHeld ?_
    simp only [Act.put, zq1, zq2, zq3, zq4, zq5, zq6]
    refine Ru.wpAnyU_take (i := 7) (v := .iface 70 (.int .i64 k)) rfl (by kernel_rfl) (by kernel_rfl) (by kernel_rfl) (by kernel_rfl) (by kernel_rfl) (by kernel_rfl) (fun _ _ _ h => h) (Or.inl ⟨by kernel_rfl, fun w hS => by obtain ⟨sc0, sc1⟩ := hS; go_simp⟩) hHeld ?_
    simp only [Act.put, zq1, zq2, zq3, zq4, zq5, zq6]
    refine Ru.wpAnyU_ready (rs := [8]) (by kernel_rfl) (by simp) ?_
    refine Ru.AllReadyU.cons rfl (by kernel_rfl) (fun K hK => ?_) Ru.AllReadyU.nil
    go_simp
    try rw [zeroUp]
    have n_3 : CRow (v_2.alloc (.cells (gvals (fun _ => 0) 0 (fun _ => 0) (fun _ => 0)).toArray 35)) (v_2.heap.size) 35 (gvals (fun _ => 0) 0 (fun _ => 0) (fun _ => 0)) := crow_new v_2 35 (gvals (fun _ => 0) 0 (fun _ => 0) (fun _ => 0))
    have a_3 := below_al (Below.refl _ v_2) (.cells (gvals (fun _ => 0) 0 (fun _ => 0) (fun _ => 0)).toArray 35)
    have g_3 := D_2.size
    have D_3 := below_tr D_2 a_3
    refine hK.out _ _ (hS _ D_3) (fun hHeld => ?_)
    clear hK K
    try simp only [Act.put, zq1, zq2, zq3, zq4, zq5, zq6]
    refine Ru.wpAnyU_ready (rs := [9]) (by kernel_rfl) (by simp) ?_
    refine Ru.AllReadyU.cons rfl (by kernel_rfl) (fun K hK => ?_) Ru.AllReadyU.nil
    refine Ru.stepC Up.isG (by kernel_rfl) _ _ (by rfl) (v_2.heap.size) _ (gvals (fun _ => 0) 0 (fun _ => 0) (fun _ => 0)) (by rfl) (by rfl) n_3 (gvals_len _ _ _ _) (gvals_len _ _ _ _) (one_gvals _ _ _ _) ?_
    have nE := CRow.row n_3 (gvals (fun _ => 0) 0 (fun _ => 0) (fun _ => 0))
    have xE := CRow.rowOther (hS _ D_3).1 (g := v_2.heap.size) (by omega) (gvals (fun _ => 0) 0 (fun _ => 0) (fun _ => 0)).toArray
    have yE := CRow.rowOther (hS _ D_3).2 (g := v_2.heap.size) (by omega) (gvals (fun _ => 0) 0 (fun _ => 0) (fun _ => 0)).toArray
    have bE := St.below_row D_3 (g := v_2.heap.size) (by omega) (gvals (fun _ => 0) 0 (fun _ => 0) (fun _ => 0)).toArray
    refine hK.out _ _ ⟨xE, yE⟩ (fun hHeld => ?_)
    clear hK K
    try simp only [Act.put, zq1, zq2, zq3, zq4, zq5, zq6]
    refine Ru.wpAnyU_take (i := 10) (v := .bool false) rfl (by kernel_rfl) (by kernel_rfl) (by kernel_rfl) (by kernel_rfl) (by kernel_rfl) (by kernel_rfl) (fun _ _ _ h => h) (Or.inl ⟨by kernel_rfl, fun w hS => by obtain ⟨sc0, sc1⟩ := hS; go_simp⟩) hHeld ?_
    simp only [Act.put, zq1, zq2, zq3, zq4, zq5, zq6]
    refine Ru.wpAnyU_take (i := 11) (v := .iface 70 (.int .i64 k)) rfl (by kernel_rfl) (by kernel_rfl) (by kernel_rfl) (by kernel_rfl) (by kernel_rfl) (by kernel_rfl) (fun _ _ _ h => h) (Or.inl ⟨by kernel_rfl, fun w hS => by obtain ⟨sc0, sc1⟩ := hS; go_simp⟩) hHeld ?_
    simp only [Act.put, zq1, zq2, zq3, zq4, zq5, zq6]
    refine Ru.wpAnyU_done (by kernel_rfl) ?_
    go_wp2_with fail
    go_meet
    exact ⟨_, rfl, rfl, rfl, nE, bE⟩
   refine Ru.AllReadyU.cons rfl (by kernel_rfl) (fun K hK => ?_) Ru.AllReadyU.nil
   go_simp
   try rw [zeroUp]
   have n_4 : CRow (v_1.alloc (.cells (gvals (fun _ => 0) 0 (fun _ => 0) (fun _ => 0)).toArray 35)) (v_1.heap.size) 35 (gvals (fun _ => 0) 0 (fun _ => 0) (fun _ => 0)) := crow_new v_1 35 (gvals (fun _ => 0) 0 (fun _ => 0) (fun _ => 0))
   have a_4 := below_al (Below.refl _ v_1) (.cells (gvals (fun _ => 0) 0 (fun _ => 0) (fun _ => 0)).toArray 35)
   have g_4 := D_1.size
   have D_4 := below_tr D_1 a_4
   refine hK.out _ _ (hS _ D_4) (fun hHeld => ?_)
   clear hK K
   try simp only [Act.put, zq1, zq2, zq3, zq4, zq5, zq6]
   refine Ru.wpAnyU_ready (rs := [3]) (by kernel_rfl) (by simp) ?_
   refine Ru.AllReadyU.cons rfl (by kernel_rfl) (fun K hK => ?_) Ru.AllReadyU.nil
   go_simp
   refine (HN.out _).mono ?_
   rintro e v_5 ⟨rfl, k_5⟩
   have D_5 := below_tr D_4 k_5
   have n_5 := CRow.keep n_4 k_5
   go_wp2_with fail
   refine hK.out _ _ (hS _ D_5) (fun hHeld => ?_)
   clear hK K
   try simp only [Act.put, zq1, zq2, zq3, zq4, zq5, zq6]
   refine Ru.wpAnyU_take (i := 4) (v := .tuple #[.agg (gvals (fun _ => 0) 0 (fun _ => 0) (fun _ => 0)).toArray, .bool false, .iface 70 (.int .i64 k)]) rfl (by kernel_rfl) (by kernel_rfl) (by kernel_rfl) (by kernel_rfl) (by kernel_rfl) (by kernel_rfl) (fun _ _ _ h => h) (Or.inl ⟨by kernel_rfl, fun w hS => by obtain ⟨sc0, sc1⟩ := hS; go_simp⟩) hHeld ?_
   simp only [Act.put, zq1, zq2, zq3, zq4, zq5, zq6]
   refine Ru.wpAnyU_take (i := 5) (v := .agg (gvals (fun _ => 0) 0 (fun _ => 0) (fun _ => 0)).toArray) rfl (by kernel_rfl) (by kernel_rfl) (by kernel_rfl) (by kernel_rfl) (by kernel_rfl) (by kernel_rfl) (fun _ _ _ h => h) (Or.inl ⟨by kernel_rfl, fun w hS => by obtain ⟨sc0, sc1⟩ := hS; go_simp⟩) hHeld ?_
   simp only [Act.put, zq1, zq2, zq3, zq4, zq5, zq6]
   refine Ru.wpAnyU_take (i := 6) (v := .bool false) rfl (by kernel_rfl) (by kernel_rfl) (by kernel_rfl) (by kernel_rfl) (by kernel_rfl) (by kernel_rfl) (fun _ _ _ h => h) (Or.inl ⟨by kernel_rfl, fun w hS => by obtain ⟨sc0, sc1⟩ := hS; go_simp⟩) hHeld ?_
   simp only [Act.put, zq1, zq2, zq3, zq4, zq5, zq6]
   refine Ru.wpAnyU_take (i := 7) (v := .iface 70 (.int .i64 k)) rfl (by kernel_rfl) (by kernel_rfl) (by kernel_rfl) (by kernel_rfl) (by kernel_rfl) (by kernel_rfl) (fun _ _ _ h => h) (Or.inl ⟨by kernel_rfl, fun w hS => by obtain ⟨sc0, sc1⟩ := hS; go_simp⟩) hHeld ?_
   simp only [Act.put, zq1, zq2, zq3, zq4, zq5, zq6]
   refine Ru.wpAnyU_ready (rs := [9]) (by kernel_rfl) (by simp) ?_
   refine Ru.AllReadyU.cons rfl (by kernel_rfl) (fun K hK => ?_) Ru.AllReadyU.nil
   refine Ru.stepC Up.isG (by kernel_rfl) _ _ (by rfl) (v_1.heap.size) _ (gvals (fun _ => 0) 0 (fun _ => 0) (fun _ => 0)) (by rfl) (by rfl) n_5 (gvals_len _ _ _ _) (gvals_len _ _ _ _) (one_gvals _ _ _ _) ?_
   have nE := CRow.row n_5 (gvals (fun _ => 0) 0 (fun _ => 0) (fun _ => 0))
   have xE := CRow.rowOther (hS _ D_5).1 (g := v_1.heap.size) (by omega) (gvals (fun _ => 0) 0 (fun _ => 0) (fun _ => 0)).toArray
   have yE := CRow.rowOther (hS _ D_5).2 (g := v_1.heap.size) (by omega) (gvals (fun _ => 0) 0 (fun _ => 0) (fun _ => 0)).toArray
   have bE := St.below_row D_5 (g := v_1.heap.size) (by omega) (gvals (fun _ => 0) 0 (fun _ => 0) (fun _ => 0)).toArray
   refine hK.out _ _ ⟨xE, yE⟩ (fun hHeld => ?_)
   clear hK K
   try simp only [Act.put, zq1, zq2, zq3, zq4, zq5, zq6]
   refine Ru.wpAnyU_take (i := 10) (v := .bool false) rfl (by kernel_rfl) (by kernel_rfl) (by kernel_rfl) (by kernel_rfl) (by kernel_rfl) (by kernel_rfl) (fun _ _ _ h => h) (Or.inl ⟨by kernel_rfl, fun w hS => by obtain ⟨sc0, sc1⟩ := hS; go_simp⟩) hHeld ?_
   simp only [Act.put, zq1, zq2, zq3, zq4, zq5, zq6]
   refine Ru.wpAnyU_take (i := 11) (v := .iface 70 (.int .i64 k)) rfl (by kernel_rfl) (by kernel_rfl) (by kernel_rfl) (by kernel_rfl) (by kernel_rfl) (by kernel_rfl) (fun _ _ _ h => h) (Or.inl ⟨by kernel_rfl, fun w hS => by obtain ⟨sc0, sc1⟩ := hS; go_simp⟩) hHeld ?_
   simp only [Act.put, zq1, zq2, zq3, zq4, zq5, zq6]
   refine Ru.wpAnyU_done (by kernel_rfl) ?_
   go_wp2_with fail
   go_meet
   exact ⟨_, rfl, rfl, rfl, nE, bE⟩
  refine Ru.AllReadyU.cons rfl (by kernel_rfl) (fun K hK => ?_) Ru.AllReadyU.nil
  go_simp
  try rw [zeroUp]
  have n_6 : CRow (W.drew.alloc (.cells (gvals (fun _ => 0) 0 (fun _ => 0) (fun _ => 0)).toArray 35)) (W.heap.size) 35 (gvals (fun _ => 0) 0 (fun _ => 0) (fun _ => 0)) := crow_new W.drew 35 (gvals (fun _ => 0) 0 (fun _ => 0) (fun _ => 0))
  have a_6 := below_al (Below.refl _ W.drew) (.cells (gvals (fun _ => 0) 0 (fun _ => 0) (fun _ => 0)).toArray 35)
  have g_6 := (Vc.below_drew' W).size
  have e_6 : W.drew.heap.size = W.heap.size := rfl
  have D_6 := below_tr (Vc.below_drew' W) a_6
  refine hK.out _ _ (hS _ D_6) (fun hHeld => ?_)
  clear hK K
  try simp only [Act.put, zq1, zq2, zq3, zq4, zq5, zq6]
  refine Ru.wpAnyU_ready (rs := [1]) (by kernel_rfl) (by simp) ?_
  refine Ru.AllReadyU.cons rfl (by kernel_rfl) (fun K hK => ?_) Ru.AllReadyU.nil
  go_simp
  refine (HG.out _ (below_tr KQ.out D_6)).mono ?_
  rintro e v_7 ⟨rfl, k_7⟩
  have D_7 := below_tr D_6 k_7
  have n_7 := CRow.keep n_6 k_7
  go_wp2_with fail
  refine hK.out _ _ (hS _ D_7) (fun hHeld => ?_)
  clear hK K
  try simp only [Act.put, zq1, zq2, zq3, zq4, zq5, zq6]
  refine Ru.wpAnyU_ready (rs := [3]) (by kernel_rfl) (by simp) ?_
  refine Ru.AllReadyU.cons rfl (by kernel_rfl) (fun K hK => ?_) Ru.AllReadyU.nil
  go_simp
  refine (HN.out _).mono ?_
  rintro e v_8 ⟨rfl, k_8⟩
  have D_8 := below_tr D_7 k_8
  have n_8 := CRow.keep n_7 k_8
  go_wp2_with fail
  refine hK.out _ _ (hS _ D_8) (fun hHeld => ?_)
  clear hK K
  try simp only [Act.put, zq1, zq2, zq3, zq4, zq5, zq6]
  refine Ru.wpAnyU_take (i := 4) (v := .tuple #[.agg (gvals (fun _ => 0) 0 (fun _ => 0) (fun _ => 0)).toArray, .bool false, .iface 70 (.int .i64 k)]) rfl (by kernel_rfl) (by kernel_rfl) (by kernel_rfl) (by kernel_rfl) (by kernel_rfl) (by kernel_rfl) (fun _ _ _ h => h) (Or.inl ⟨by kernel_rfl, fun w hS => by obtain ⟨sc0, sc1⟩ := hS; go_simp⟩) hHeld ?_
  simp only [Act.put, zq1, zq2, zq3, zq4, zq5, zq6]
  refine Ru.wpAnyU_take (i := 5) (v := .agg (gvals (fun _ => 0) 0 (fun _ => 0) (fun _ => 0)).toArray) rfl (by kernel_rfl) (by kernel_rfl) (by kernel_rfl) (by kernel_rfl) (by kernel_rfl) (by kernel_rfl) (fun _ _ _ h => h) (Or.inl ⟨by kernel_rfl, fun w hS => by obtain ⟨sc0, sc1⟩ := hS; go_simp⟩) hHeld ?_
  simp only [Act.put, zq1, zq2, zq3, zq4, zq5, zq6]
  refine Ru.wpAnyU_take (i := 6) (v := .bool false) rfl (by kernel_rfl) (by kernel_rfl) (by kernel_rfl) (by kernel_rfl) (by kernel_rfl) (by kernel_rfl) (fun _ _ _ h => h) (Or.inl ⟨by kernel_rfl, fun w hS => by obtain ⟨sc0, sc1⟩ := hS; go_simp⟩) hHeld ?_
  simp only [Act.put, zq1, zq2, zq3, zq4, zq5, zq6]
  refine Ru.wpAnyU_take (i := 7) (v := .iface 70 (.int .i64 k)) rfl (by kernel_rfl) (by kernel_rfl) (by kernel_rfl) (by kernel_rfl) (by kernel_rfl) (by kernel_rfl) (fun _ _ _ h => h) (Or.inl ⟨by kernel_rfl, fun w hS => by obtain ⟨sc0, sc1⟩ := hS; go_simp⟩) hHeld ?_
  simp only [Act.put, zq1, zq2, zq3, zq4, zq5, zq6]
  refine Ru.wpAnyU_ready (rs := [9]) (by kernel_rfl) (by simp) ?_
  refine Ru.AllReadyU.cons rfl (by kernel_rfl) (fun K hK => ?_) Ru.AllReadyU.nil
  refine Ru.stepC Up.isG (by kernel_rfl) _ _ (by rfl) (W.heap.size) _ (gvals (fun _ => 0) 0 (fun _ => 0) (fun _ => 0)) (by rfl) (by rfl) n_8 (gvals_len _ _ _ _) (gvals_len _ _ _ _) (one_gvals _ _ _ _) ?_
  have nE := CRow.row n_8 (gvals (fun _ => 0) 0 (fun _ => 0) (fun _ => 0))
  have xE := CRow.rowOther (hS _ D_8).1 (g := W.heap.size) (by omega) (gvals (fun _ => 0) 0 (fun _ => 0) (fun _ => 0)).toArray
  have yE := CRow.rowOther (hS _ D_8).2 (g := W.heap.size) (by omega) (gvals (fun _ => 0) 0 (fun _ => 0) (fun _ => 0)).toArray
  have bE := St.below_row D_8 (g := W.heap.size) (by omega) (gvals (fun _ => 0) 0 (fun _ => 0) (fun _ => 0)).toArray
  refine hK.out _ _ ⟨xE, yE⟩ (fun hHeld => ?_)
  clear hK K
  try simp only [Act.put, zq1, zq2, zq3, zq4, zq5, zq6]
  refine Ru.wpAnyU_take (i := 10) (v := .bool false) rfl (by kernel_rfl) (by kernel_rfl) (by kernel_rfl) (by kernel_rfl) (by kernel_rfl) (by kernel_rfl) (fun _ _ _ h => h) (Or.inl ⟨by kernel_rfl, fun w hS => by obtain ⟨sc0, sc1⟩ := hS; go_simp⟩) hHeld ?_
  simp only [Act.put, zq1, zq2, zq3, zq4, zq5, zq6]
  refine Ru.wpAnyU_take (i := 11) (v := .iface 70 (.int .i64 k)) rfl (by kernel_rfl) (by kernel_rfl) (by kernel_rfl) (by kernel_rfl) (by kernel_rfl) (by kernel_rfl) (fun _ _ _ h => h) (Or.inl ⟨by kernel_rfl, fun w hS => by obtain ⟨sc0, sc1⟩ := hS; go_simp⟩) hHeld ?_
  simp only [Act.put, zq1, zq2, zq3, zq4, zq5, zq6]
  refine Ru.wpAnyU_done (by kernel_rfl) ?_
  go_wp2_with fail
  go_meet
  exact ⟨_, rfl, rfl, rfl, nE, bE⟩
 rename World => wc
 obtain ⟨gn, rfl, rfl, rfl, nc, kc⟩ := hcut
 have KC := below_tr B0 kc
 have mc := CRow.keep m0 kc
 have pc_ := CRow.keep p0 kc
 clear m0 p0 B0 kc c0 HN HG HW
 go_wp2_with (first
  | ((with_reducible show wpList _ _ _ _ _ _); refine St.wpList_load Up.isG (by rfl) _ (by rfl) _ _ (by rfl) (by with_reducible exact nc) (gvals_len _ _ _ _) ?_)
  | fail)
 refine (HK.out _).mono ?_
 rintro e wq1 ⟨rfl, kq1⟩
 have KK1 := below_tr KC kq1
 have m_1 := CRow.keep mc kq1
 have p_1 := CRow.keep pc_ kq1
 clear KC mc pc_
 go_wp2_with (first
  | ((with_reducible show wpList _ _ _ _ _ _); refine St.wpList_load isSt (by rfl) _ (by rfl) _ _ (by rfl) (by with_reducible exact m_1) rfl ?_)
  | ((with_reducible show wpList _ _ _ _ _ _); refine St.wpList_load isSeen (by rfl) _ (by rfl) _ _ (by rfl) (by with_reducible exact p_1) rfl ?_)
  | fail)
 refine (HD.out _ KK1).mono ?_
 rintro e wq2 ⟨rfl, kq2⟩
 have KK2 := below_tr KK1 kq2
 clear KK1
 go_wp2_with (first
  | ((with_reducible show wpList _ _ _ _ _ _); refine St.wpList_storeNew isGap rfl _ _ (by rfl) _ [.slice none 0 0, .slice none 0 0, .slice none 0 0] _ (by rfl) (by rfl) rfl rfl (by intro v hv; simp only [List.mem_cons, List.not_mem_nil, or_false] at hv; rcases hv with rfl | rfl | rfl <;> rfl) ?_; intro ws3 ns3 ks3; have KK3 := below_tr KK2 ks3; clear KK2)
  | fail)
 refine (num_err k _ (HE.out.below KK3)).mono ?_
 rintro e wq4 ⟨rfl, kq4⟩
 have KK4 := below_tr KK3 kq4
 clear KK3
 go_wp2_with (first
  | fail)
 refine (num_err 1 _ (HE.out.below KK4)).mono ?_
 rintro e wq5 ⟨rfl, kq5⟩
 have KK5 := below_tr KK4 kq5
 clear KK4
 go_wp2_with (first
  | fail)
 refine (HSu.out _ (HE.out.below KK5)).mono ?_
 rintro e wq6 ⟨rfl, kq6⟩
 have KK6 := below_tr KK5 kq6
 clear KK5
 go_wp2
 go_ret
 exact ⟨rfl, KK6⟩
set_option maxRecDepth 20000 in
set_option maxHeartbeats 8000000 in
theorem lo_good (Q : Lk.LPkg) (xo po : Option Addr) (xc n pc : Nat) (X : Nat → Int) (r c' : Int) (z : Nat → Int) (x y a b c : Int) (V : Nat → Int) (L : Nat → Nat → Int) (d : Nat → Int) (ob : Bool) (w : World) (hE : ErrTab w)
  (hG : ∀ W, Below w.heap.size w W → Calls Tryz.prog 7 #[.agg #[.slice xo 6 xc, .slice po n pc]] W fun e w' => e = .returned (.agg (Pd.svals X r c' z).toArray) ∧ Below W.heap.size W w')
  (hN : ∀ W, Calls Tryz.prog 6 #[.agg (Pd.svals X r c' z).toArray, .agg (pv x y a b c).toArray] W fun e w' => e = .returned (.tuple #[.agg (gvals V 2 (mz 2 2 L) d).toArray, .bool ob, .nilIface]) ∧ Below W.heap.size W w')
  (hD : ∀ W, Below w.heap.size w W → Calls Tryz.prog 9 #[.agg #[.slice xo 6 xc, .slice po n pc], .agg (pv x y a b c).toArray] W fun e w' => ∃ gv lo cl do' cd, e = .returned (.tuple #[.agg #[.slice (some ⟨gv, 0, none⟩) 2 2, .slice lo 2 cl, .slice do' 2 cd], .bool ob, .int .i64 0]) ∧ (Sl w' (some ⟨gv, 0, none⟩) 2 2 V ∧ Grid w' lo 2 cl 2 L ∧ Sl w' do' 2 cd d) ∧ Below W.heap.size W w')
  (hK : ∀ W, Calls Tryz.prog 8 #[.agg (gvals V 2 (mz 2 2 L) d).toArray] W fun e w' => e = .returned (.tuple #[.int .i64 (Lk.ofN L d V), .bool (Lk.ofO L d V), .nilIface]) ∧ Below W.heap.size W w')
  (bd : ∀ k, k < 2 → 1 ≤ d k ∧ d k ≤ 4611686018427387903) (bV : B64 V) (bL : ∀ a, B64 (L a))
  : Calls Tryz.prog 3 #[.agg #[.slice xo 6 xc, .slice po n pc], .agg (pv x y a b c).toArray] w fun e w' => e = .returned (.bool true) ∧ Below w.heap.size w w' := by
 have HE := Ud.hide hE
 have HG := Ud.hide hG
 have HN := Ud.hide hN
 have HD := Ud.hide hD
 have HSu := Ud.hide (lsure_any Q)
 have HK := Ud.hide hK
 have HR := Ud.hide (fun (gv : Nat) (lo do' : Option Addr) (cl cd : Nat) U (sv : Sl U (some ⟨gv, 0, none⟩) 2 2 V) (gl : Grid U lo 2 cl 2 L) (sd : Sl U do' 2 cd d) => rof16_any (some ⟨gv, 0, none⟩) lo do' 2 cl cd V L d U sv gl sd bL bd bV)
 obtain ⟨xf, hxf⟩ : ∃ q, q = Lk.ofN L d V := ⟨_, rfl⟩
 obtain ⟨qf, hqf⟩ : ∃ q, q = Lk.ofO L d V := ⟨_, rfl⟩
 rw [← hxf, ← hqf] at HK HR
 obtain ⟨zL, hzL⟩ : ∃ z, z = mz 2 2 L := ⟨_, rfl⟩
 rw [← hzL] at HN HK
 have exf : (xf == xf) = true := beq_self_eq_true _
 have eqf : (qf == qf) = true := beq_self_eq_true _
 clear hxf hqf hzL bd bV bL hK
 clear hE hG hN hD
 have m0 := (crow_new w 25 [.slice xo 6 xc, .slice po n pc]).alloc (.cells (pv x y a b c).toArray 27)
 have p0 := crow_new1 w (.cells [.slice xo 6 xc, .slice po n pc].toArray 25) 27 (pv x y a b c)
 have B0 : Below w.heap.size w ((w.alloc (.cells [.slice xo 6 xc, .slice po n pc].toArray 25)).alloc (.cells (pv x y a b c).toArray 27)) := below_al (below_al (Below.refl _ _) _) _
 obtain ⟨W, hW⟩ : ∃ W, W = (w.alloc (.cells [.slice xo 6 xc, .slice po n pc].toArray 25)).alloc (.cells (pv x y a b c).toArray 27) := ⟨_, rfl⟩
 rw [← hW] at m0 p0 B0
 have HW := Ud.hide hW
 have c0 : W.cell? ⟨w.heap.size, 0, none⟩ = some (.slice xo 6 xc) := CRow.cell m0 (k := 0) rfl rfl
 clear hW
 go_enter Tryz.func3, Tryz.ntmps3
 go_upto_region 3 with (first | (erw [← HW.out]) | fail)
 go_cut [5, 6, 7] (fun p o f wx => ∃ g : Nat, p = .pointer (some ⟨g, 0, none⟩) ∧ o = .bool ob ∧ f = .nilIface ∧ CRow wx g 35 (gvals V 2 zL d) ∧ Below W.heap.size W wx)
 case first =>
  have hS : ∀ V, Below W.heap.size W V → (CRow V w.heap.size 25 [.slice xo 6 xc, .slice po n pc] ∧ CRow V (w.heap.size + 1) 27 (pv x y a b c)) := fun V q => ⟨CRow.keep m0 q, CRow.keep p0 q⟩
  have KQ := Ud.hide B0
  have lx := CRow.lt p0
  clear c0 m0 p0 B0
  refine Ru.wp_region_U [] (fun w' => CRow w' w.heap.size 25 [.slice xo 6 xc, .slice po n pc] ∧ CRow w' (w.heap.size + 1) 27 (pv x y a b c)) (by kernel_rfl) (hS _ (Vc.below_drew' _)) (fun hHeld => ?_)
  refine Ru.wpAnyU_take (i := 0) (v := .agg [.slice xo 6 xc, .slice po n pc].toArray) rfl (by kernel_rfl) (by kernel_rfl) (by kernel_rfl) (by kernel_rfl) (by kernel_rfl) (by kernel_rfl) (fun _ _ _ h => h) (Ru.yieldsC isSt (by kernel_rfl) _ (by rfl) w.heap.size _ (by rfl) (fun w h => h.1) rfl) hHeld ?_
  simp only [Act.put, zq1, zq2, zq3, zq4, zq5, zq6]
  refine Ru.wpAnyU_take (i := 2) (v := .agg (pv x y a b c).toArray) rfl (by kernel_rfl) (by kernel_rfl) (by kernel_rfl) (by kernel_rfl) (by kernel_rfl) (by kernel_rfl) (fun _ _ _ h => h) (Ru.yieldsC isSeen (by kernel_rfl) _ (by rfl) (w.heap.size + 1) _ (by rfl) (fun w h => h.2) rfl) hHeld ?_
  simp only [Act.put, zq1, zq2, zq3, zq4, zq5, zq6]
  refine Ru.wpAnyU_ready (rs := [1, 8]) (by kernel_rfl) (by simp) ?_
  refine Ru.AllReadyU.cons rfl (by kernel_rfl) (fun K hK => ?_) ?_
  ·go_simp
   refine (HG.out _ (below_tr KQ.out (Vc.below_drew' W))).mono ?_
   rintro e v_1 ⟨rfl, k_1⟩
   have D_1 := below_tr (Vc.below_drew' W) k_1
   go_wp2_with fail
   refine hK.out _ _ (hS _ D_1) (fun hHeld => ?_)
   clear hK K
   try simp only [Act.put, zq1, zq2, zq3, zq4, zq5, zq6]
   refine Ru.wpAnyU_ready (rs := [3, 8]) (by kernel_rfl) (by simp) ?_
   refine Ru.AllReadyU.cons rfl (by kernel_rfl) (fun K hK => ?_) ?_
   ·go_simp
    refine (HN.out _).mono ?_
    rintro e v_2 ⟨rfl, k_2⟩
    have D_2 := below_tr D_1 k_2
    go_wp2_with fail
    refine hK.out _ _ (hS _ D_2) (fun hHeld => ?_)
    clear hK K
    try simp only [Act.put, zq1, zq2, zq3, zq4, zq5, zq6]
    refine Ru.wpAnyU_take (i := 4) (v := .tuple #[.agg (gvals V 2 zL d).toArray, .bool ob, .nilIface]) rfl (by kernel_rfl) (by kernel_rfl) (by kernel_rfl) (by kernel_rfl) (by kernel_rfl) (by kernel_rfl) (fun _ _ _ h => h) (Or.inl ⟨by kernel_rfl, fun w hS => by obtain ⟨sc0, sc1⟩ := hS; go_simp⟩) hHeld ?_
    simp only [Act.put, zq1, zq2, zq3, zq4, zq5, zq6]
    refine Ru.wpAnyU_take (i := 5) (v := .agg (gvals V 2 zL d).toArray) rfl (by kernel_rfl) (by kernel_rfl) (by kernel_rfl) (by kernel_rfl) (by kernel_rfl) (by kernel_rfl) (fun _ _ _ h => h) (Or.inl ⟨by kernel_rfl, fun w hS => by obtain ⟨sc0, sc1⟩ := hS; go_simp⟩) hHeld ?_
    simp only [Act.put, zq1, zq2, zq3, zq4, zq5, zq6]
    refine Ru.wpAnyU_take (i := 6) (v := .bool ob) rfl (by kernel_rfl) (by kernel_rfl) (by kernel_rfl) (by kernel_rfl) (by kernel_rfl) (by kernel_rfl) (fun _ _ _ h => h) (Or.inl ⟨by kernel_rfl, fun w hS => by obtain ⟨sc0, sc1⟩ := hS; go_simp⟩) hHeld ?_
    simp only [Act.put, zq1, zq2, zq3, zq4, zq5, zq6]
    refine Ru.wpAnyU_take (i := 7) (v := .nilIface) rfl (by kernel_rfl) (by kernel_rfl) (by kernel_rfl) (by kernel_rfl) (by kernel_rfl) (by kernel_rfl) (fun _ _ _ h => h) (Or.inl ⟨by kernel_rfl, fun w hS => by obtain ⟨sc0, sc1⟩ := hS; go_simp⟩) hHeld ?_
    simp only [Act.put, zq1, zq2, zq3, zq4, zq5, zq6]
    refine Ru.wpAnyU_ready (rs := [8]) (by kernel_rfl) (by simp) ?_
    refine Ru.AllReadyU.cons rfl (by kernel_rfl) (fun K hK => ?_) Ru.AllReadyU.nil
    go_simp
    try rw [zeroUp]
    have n_3 : CRow (v_2.alloc (.cells (gvals (fun _ => 0) 0 (fun _ => 0) (fun _ => 0)).toArray 35)) (v_2.heap.size) 35 (gvals (fun _ => 0) 0 (fun _ => 0) (fun _ => 0)) := crow_new v_2 35 (gvals (fun _ => 0) 0 (fun _ => 0) (fun _ => 0))
    have a_3 := below_al (Below.refl _ v_2) (.cells (gvals (fun _ => 0) 0 (fun _ => 0) (fun _ => 0)).toArray 35)
    have g_3 := D_2.size
    have D_3 := below_tr D_2 a_3
    refine hK.out _ _ (hS _ D_3) (fun hHeld => ?_)
    clear hK K
    try simp only [Act.put, zq1, zq2, zq3, zq4, zq5, zq6]
    refine Ru.wpAnyU_ready (rs := [9]) (by kernel_rfl) (by simp) ?_
    refine Ru.AllReadyU.cons rfl (by kernel_rfl) (fun K hK => ?_) Ru.AllReadyU.nil
    refine Ru.stepC Up.isG (by kernel_rfl) _ _ (by rfl) (v_2.heap.size) _ (gvals V 2 zL d) (by rfl) (by rfl) n_3 (gvals_len _ _ _ _) (gvals_len _ _ _ _) (one_gvals _ _ _ _) ?_
    have nE := CRow.row n_3 (gvals V 2 zL d)
    have xE := CRow.rowOther (hS _ D_3).1 (g := v_2.heap.size) (by omega) (gvals V 2 zL d).toArray
    have yE := CRow.rowOther (hS _ D_3).2 (g := v_2.heap.size) (by omega) (gvals V 2 zL d).toArray
    have bE := St.below_row D_3 (g := v_2.heap.size) (by omega) (gvals V 2 zL d).toArray
    refine hK.out _ _ ⟨xE, yE⟩ (fun hHeld => ?_)
    clear hK K
    try simp only [Act.put, zq1, zq2, zq3, zq4, zq5, zq6]
    refine Ru.wpAnyU_take (i := 10) (v := .bool ob) rfl (by kernel_rfl) (by kernel_rfl) (by kernel_rfl) (by kernel_rfl) (by kernel_rfl) (by kernel_rfl) (fun _ _ _ h => h) (Or.inl ⟨by kernel_rfl, fun w hS => by obtain ⟨sc0, sc1⟩ := hS; go_simp⟩) hHeld ?_
    simp only [Act.put, zq1, zq2, zq3, zq4, zq5, zq6]
    refine Ru.wpAnyU_take (i := 11) (v := .nilIface) rfl (by kernel_rfl) (by kernel_rfl) (by kernel_rfl) (by kernel_rfl) (by kernel_rfl) (by kernel_rfl) (fun _ _ _ h => h) (Or.inl ⟨by kernel_rfl, fun w hS => by obtain ⟨sc0, sc1⟩ := hS; go_simp⟩) hHeld ?_
    simp only [Act.put, zq1, zq2, zq3, zq4, zq5, zq6]
    refine Ru.wpAnyU_done (by kernel_rfl) ?_
    go_wp2_with fail
    go_meet
    exact ⟨_, rfl, rfl, rfl, nE, bE⟩
   refine Ru.AllReadyU.cons rfl (by kernel_rfl) (fun K hK => ?_) Ru.AllReadyU.nil
   go_simp
   try rw [zeroUp]
   have n_4 : CRow (v_1.alloc (.cells (gvals (fun _ => 0) 0 (fun _ => 0) (fun _ => 0)).toArray 35)) (v_1.heap.size) 35 (gvals (fun _ => 0) 0 (fun _ => 0) (fun _ => 0)) := crow_new v_1 35 (gvals (fun _ => 0) 0 (fun _ => 0) (fun _ => 0))
   have a_4 := below_al (Below.refl _ v_1) (.cells (gvals (fun _ => 0) 0 (fun _ => 0) (fun _ => 0)).toArray 35)
   have g_4 := D_1.size
   have D_4 := below_tr D_1 a_4
   refine hK.out _ _ (hS _ D_4) (fun hHeld => ?_)
   clear hK K
   try simp only [Act.put, zq1, zq2, zq3, zq4, zq5, zq6]
   refine Ru.wpAnyU_ready (rs := [3]) (by kernel_rfl) (by simp) ?_
   refine Ru.AllReadyU.cons rfl (by kernel_rfl) (fun K hK => ?_) Ru.AllReadyU.nil
   go_simp
   refine (HN.out _).mono ?_
   rintro e v_5 ⟨rfl, k_5⟩
   have D_5 := below_tr D_4 k_5
   have n_5 := CRow.keep n_4 k_5
   go_wp2_with fail
   refine hK.out _ _ (hS _ D_5) (fun hHeld => ?_)
   clear hK K
   try simp only [Act.put, zq1, zq2, zq3, zq4, zq5, zq6]
   refine Ru.wpAnyU_take (i := 4) (v := .tuple #[.agg (gvals V 2 zL d).toArray, .bool ob, .nilIface]) rfl (by kernel_rfl) (by kernel_rfl) (by kernel_rfl) (by kernel_rfl) (by kernel_rfl) (by kernel_rfl) (fun _ _ _ h => h) (Or.inl ⟨by kernel_rfl, fun w hS => by obtain ⟨sc0, sc1⟩ := hS; go_simp⟩) hHeld ?_
   simp only [Act.put, zq1, zq2, zq3, zq4, zq5, zq6]
   refine Ru.wpAnyU_take (i := 5) (v := .agg (gvals V 2 zL d).toArray) rfl (by kernel_rfl) (by kernel_rfl) (by kernel_rfl) (by kernel_rfl) (by kernel_rfl) (by kernel_rfl) (fun _ _ _ h => h) (Or.inl ⟨by kernel_rfl, fun w hS => by obtain ⟨sc0, sc1⟩ := hS; go_simp⟩) hHeld ?_
   simp only [Act.put, zq1, zq2, zq3, zq4, zq5, zq6]
   refine Ru.wpAnyU_take (i := 6) (v := .bool ob) rfl (by kernel_rfl) (by kernel_rfl) (by kernel_rfl) (by kernel_rfl) (by kernel_rfl) (by kernel_rfl) (fun _ _ _ h => h) (Or.inl ⟨by kernel_rfl, fun w hS => by obtain ⟨sc0, sc1⟩ := hS; go_simp⟩) hHeld ?_
   simp only [Act.put, zq1, zq2, zq3, zq4, zq5, zq6]
   refine Ru.wpAnyU_take (i := 7) (v := .nilIface) rfl (by kernel_rfl) (by kernel_rfl) (by kernel_rfl) (by kernel_rfl) (by kernel_rfl) (by kernel_rfl) (fun _ _ _ h => h) (Or.inl ⟨by kernel_rfl, fun w hS => by obtain ⟨sc0, sc1⟩ := hS; go_simp⟩) hHeld ?_
   simp only [Act.put, zq1, zq2, zq3, zq4, zq5, zq6]
   refine Ru.wpAnyU_ready (rs := [9]) (by kernel_rfl) (by simp) ?_
   refine Ru.AllReadyU.cons rfl (by kernel_rfl) (fun K hK => ?_) Ru.AllReadyU.nil
   refine Ru.stepC Up.isG (by kernel_rfl) _ _ (by rfl) (v_1.heap.size) _ (gvals V 2 zL d) (by rfl) (by rfl) n_5 (gvals_len _ _ _ _) (gvals_len _ _ _ _) (one_gvals _ _ _ _) ?_
   have nE := CRow.row n_5 (gvals V 2 zL d)
   have xE := CRow.rowOther (hS _ D_5).1 (g := v_1.heap.size) (by omega) (gvals V 2 zL d).toArray
   have yE := CRow.rowOther (hS _ D_5).2 (g := v_1.heap.size) (by omega) (gvals V 2 zL d).toArray
   have bE := St.below_row D_5 (g := v_1.heap.size) (by omega) (gvals V 2 zL d).toArray
   refine hK.out _ _ ⟨xE, yE⟩ (fun hHeld => ?_)
   clear hK K
   try simp only [Act.put, zq1, zq2, zq3, zq4, zq5, zq6]
   refine Ru.wpAnyU_take (i := 10) (v := .bool ob) rfl (by kernel_rfl) (by kernel_rfl) (by kernel_rfl) (by kernel_rfl) (by kernel_rfl) (by kernel_rfl) (fun _ _ _ h => h) (Or.inl ⟨by kernel_rfl, fun w hS => by obtain ⟨sc0, sc1⟩ := hS; go_simp⟩) hHeld ?_
   simp only [Act.put, zq1, zq2, zq3, zq4, zq5, zq6]
   refine Ru.wpAnyU_take (i := 11) (v := .nilIface) rfl (by kernel_rfl) (by kernel_rfl) (by kernel_rfl) (by kernel_rfl) (by kernel_rfl) (by kernel_rfl) (fun _ _ _ h => h) (Or.inl ⟨by kernel_rfl, fun w hS => by obtain ⟨sc0, sc1⟩ := hS; go_simp⟩) hHeld ?_
   simp only [Act.put, zq1, zq2, zq3, zq4, zq5, zq6]
   refine Ru.wpAnyU_done (by kernel_rfl) ?_
   go_wp2_with fail
   go_meet
   exact ⟨_, rfl, rfl, rfl, nE, bE⟩
  refine Ru.AllReadyU.cons rfl (by kernel_rfl) (fun K hK => ?_) Ru.AllReadyU.nil
  go_simp
  try rw [zeroUp]
  have n_6 : CRow (W.drew.alloc (.cells (gvals (fun _ => 0) 0 (fun _ => 0) (fun _ => 0)).toArray 35)) (W.heap.size) 35 (gvals (fun _ => 0) 0 (fun _ => 0) (fun _ => 0)) := crow_new W.drew 35 (gvals (fun _ => 0) 0 (fun _ => 0) (fun _ => 0))
  have a_6 := below_al (Below.refl _ W.drew) (.cells (gvals (fun _ => 0) 0 (fun _ => 0) (fun _ => 0)).toArray 35)
  have g_6 := (Vc.below_drew' W).size
  have e_6 : W.drew.heap.size = W.heap.size := rfl
  have D_6 := below_tr (Vc.below_drew' W) a_6
  refine hK.out _ _ (hS _ D_6) (fun hHeld => ?_)
  clear hK K
  try simp only [Act.put, zq1, zq2, zq3, zq4, zq5, zq6]
  refine Ru.wpAnyU_ready (rs := [1]) (by kernel_rfl) (by simp) ?_
  refine Ru.AllReadyU.cons rfl (by kernel_rfl) (fun K hK => ?_) Ru.AllReadyU.nil
  go_simp
  refine (HG.out _ (below_tr KQ.out D_6)).mono ?_
  rintro e v_7 ⟨rfl, k_7⟩
  have D_7 := below_tr D_6 k_7
  have n_7 := CRow.keep n_6 k_7
  go_wp2_with fail
  refine hK.out _ _ (hS _ D_7) (fun hHeld => ?_)
  clear hK K
  try simp only [Act.put, zq1, zq2, zq3, zq4, zq5, zq6]
  refine Ru.wpAnyU_ready (rs := [3]) (by kernel_rfl) (by simp) ?_
  refine Ru.AllReadyU.cons rfl (by kernel_rfl) (fun K hK => ?_) Ru.AllReadyU.nil
  go_simp
  refine (HN.out _).mono ?_
  rintro e v_8 ⟨rfl, k_8⟩
  have D_8 := below_tr D_7 k_8
  have n_8 := CRow.keep n_7 k_8
  go_wp2_with fail
  refine hK.out _ _ (hS _ D_8) (fun hHeld => ?_)
  clear hK K
  try simp only [Act.put, zq1, zq2, zq3, zq4, zq5, zq6]
  refine Ru.wpAnyU_take (i := 4) (v := .tuple #[.agg (gvals V 2 zL d).toArray, .bool ob, .nilIface]) rfl (by kernel_rfl) (by kernel_rfl) (by kernel_rfl) (by kernel_rfl) (by kernel_rfl) (by kernel_rfl) (fun _ _ _ h => h) (Or.inl ⟨by kernel_rfl, fun w hS => by obtain ⟨sc0, sc1⟩ := hS; go_simp⟩) hHeld ?_
  simp only [Act.put, zq1, zq2, zq3, zq4, zq5, zq6]
  refine Ru.wpAnyU_take (i := 5) (v := .agg (gvals V 2 zL d).toArray) rfl (by kernel_rfl) (by kernel_rfl) (by kernel_rfl) (by kernel_rfl) (by kernel_rfl) (by kernel_rfl) (fun _ _ _ h => h) (Or.inl ⟨by kernel_rfl, fun w hS => by obtain ⟨sc0, sc1⟩ := hS; go_simp⟩) hHeld ?_
  simp only [Act.put, zq1, zq2, zq3, zq4, zq5, zq6]
  refine Ru.wpAnyU_take (i := 6) (v := .bool ob) rfl (by kernel_rfl) (by kernel_rfl) (by kernel_rfl) (by kernel_rfl) (by kernel_rfl) (by kernel_rfl) (fun _ _ _ h => h) (Or.inl ⟨by kernel_rfl, fun w hS => by obtain ⟨sc0, sc1⟩ := hS; go_simp⟩) hHeld ?_
  simp only [Act.put, zq1, zq2, zq3, zq4, zq5, zq6]
  refine Ru.wpAnyU_take (i := 7) (v := .nilIface) rfl (by kernel_rfl) (by kernel_rfl) (by kernel_rfl) (by kernel_rfl) (by kernel_rfl) (by kernel_rfl) (fun _ _ _ h => h) (Or.inl ⟨by kernel_rfl, fun w hS => by obtain ⟨sc0, sc1⟩ := hS; go_simp⟩) hHeld ?_
  simp only [Act.put, zq1, zq2, zq3, zq4, zq5, zq6]
  refine Ru.wpAnyU_ready (rs := [9]) (by kernel_rfl) (by simp) ?_
  refine Ru.AllReadyU.cons rfl (by kernel_rfl) (fun K hK => ?_) Ru.AllReadyU.nil
  refine Ru.stepC Up.isG (by kernel_rfl) _ _ (by rfl) (W.heap.size) _ (gvals V 2 zL d) (by rfl) (by rfl) n_8 (gvals_len _ _ _ _) (gvals_len _ _ _ _) (one_gvals _ _ _ _) ?_
  have nE := CRow.row n_8 (gvals V 2 zL d)
  have xE := CRow.rowOther (hS _ D_8).1 (g := W.heap.size) (by omega) (gvals V 2 zL d).toArray
  have yE := CRow.rowOther (hS _ D_8).2 (g := W.heap.size) (by omega) (gvals V 2 zL d).toArray
  have bE := St.below_row D_8 (g := W.heap.size) (by omega) (gvals V 2 zL d).toArray
  refine hK.out _ _ ⟨xE, yE⟩ (fun hHeld => ?_)
  clear hK K
  try simp only [Act.put, zq1, zq2, zq3, zq4, zq5, zq6]
  refine Ru.wpAnyU_take (i := 10) (v := .bool ob) rfl (by kernel_rfl) (by kernel_rfl) (by kernel_rfl) (by kernel_rfl) (by kernel_rfl) (by kernel_rfl) (fun _ _ _ h => h) (Or.inl ⟨by kernel_rfl, fun w hS => by obtain ⟨sc0, sc1⟩ := hS; go_simp⟩) hHeld ?_
  simp only [Act.put, zq1, zq2, zq3, zq4, zq5, zq6]
  refine Ru.wpAnyU_take (i := 11) (v := .nilIface) rfl (by kernel_rfl) (by kernel_rfl) (by kernel_rfl) (by kernel_rfl) (by kernel_rfl) (by kernel_rfl) (fun _ _ _ h => h) (Or.inl ⟨by kernel_rfl, fun w hS => by obtain ⟨sc0, sc1⟩ := hS; go_simp⟩) hHeld ?_
  simp only [Act.put, zq1, zq2, zq3, zq4, zq5, zq6]
  refine Ru.wpAnyU_done (by kernel_rfl) ?_
  go_wp2_with fail
  go_meet
  exact ⟨_, rfl, rfl, rfl, nE, bE⟩
 rename World => wc
 obtain ⟨gn, rfl, rfl, rfl, nc, kc⟩ := hcut
 have KC := below_tr B0 kc
 have mc := CRow.keep m0 kc
 have pc_ := CRow.keep p0 kc
 clear m0 p0 B0 kc c0 HN HG HW
 go_wp2_with (first
  | ((with_reducible show wpList _ _ _ _ _ _); refine St.wpList_load Up.isG (by rfl) _ (by rfl) _ _ (by rfl) (by with_reducible exact nc) (gvals_len _ _ _ _) ?_)
  | fail)
 refine (HK.out _).mono ?_
 rintro e wq1 ⟨rfl, kq1⟩
 have KK1 := below_tr KC kq1
 have m_1 := CRow.keep mc kq1
 have p_1 := CRow.keep pc_ kq1
 clear KC mc pc_
 go_wp2_with (first
  | ((with_reducible show wpList _ _ _ _ _ _); refine St.wpList_load isSt (by rfl) _ (by rfl) _ _ (by rfl) (by with_reducible exact m_1) rfl ?_)
  | ((with_reducible show wpList _ _ _ _ _ _); refine St.wpList_load isSeen (by rfl) _ (by rfl) _ _ (by rfl) (by with_reducible exact p_1) rfl ?_)
  | fail)
 refine (HD.out _ KK1).mono ?_
 rintro e wq2 ⟨gv, lo, cl, do', cd, rfl, ⟨sV, gL, sD⟩, kq2⟩
 have KK2 := below_tr KK1 kq2
 clear KK1
 go_wp2_with (first
  | ((with_reducible show wpList _ _ _ _ _ _); refine St.wpList_storeNew isGap rfl _ _ (by rfl) _ [.slice none 0 0, .slice none 0 0, .slice none 0 0] _ (by rfl) (by rfl) rfl rfl (by intro v hv; simp only [List.mem_cons, List.not_mem_nil, or_false] at hv; rcases hv with rfl | rfl | rfl <;> rfl) ?_; intro ws3 ns3 ks3; have KK3 := below_tr KK2 ks3; have v_3 := sV.keep ks3; have g_3 := gL.keep ks3; have d_3 := sD.keep ks3; clear KK2 sV gL sD)
  | fail)
 refine (num_nil _).mono ?_
 rintro e wq4 ⟨rfl, kq4⟩
 have KK4 := below_tr KK3 kq4
 have v_4 := v_3.keep kq4
 have g_4 := g_3.keep kq4
 have d_4 := d_3.keep kq4
 have y_4 := CRow.keep ns3 kq4
 clear KK3 v_3 g_3 d_3 ns3
 go_wp2_with (first
  | ((with_reducible show wpList _ _ _ _ _ _); refine St.wpList_load isGap (by rfl) _ (by rfl) _ _ (by rfl) (by with_reducible exact y_4) rfl ?_)
  | fail)
 refine (HR.out gv lo do' cl cd _ v_4 g_4 d_4).mono ?_
 rintro e wq5 ⟨rfl, kq5⟩
 have KK5 := below_tr KK4 kq5
 clear KK4
 go_wp2_with (first
  | fail)
 refine (HSu.out _ (HE.out.below KK5)).mono ?_
 rintro e wq6 ⟨rfl, kq6⟩
 have KK6 := below_tr KK5 kq6
 clear KK5
 go_wp2
 go_ret
 exact ⟨rfl, KK6⟩
set_option maxRecDepth 20000 in
set_option maxHeartbeats 2000000 in
theorem lo_short (Q : Lk.LPkg) (xo po : Option Addr) (m xc n pc : Nat) (x y a b c : Int) (w : World) (h : m ≠ 6) (hm : m ≤ 9223372036854775807) (hE : ErrTab w) :
    Calls Tryz.prog 3 #[.agg #[.slice xo m xc, .slice po n pc], .agg (pv x y a b c).toArray] w fun e w' => e = .returned (.bool true) ∧ Below w.heap.size w w' := by
  have K0 := below_al (below_al (Below.refl _ w) (.cells [.slice xo m xc, .slice po n pc].toArray 25)) (.cells (pv x y a b c).toArray 27)
  have e1 : ((m : Int) == 6) = false := beq_eq_false_iff_ne.2 (by omega)
  have e2 : ((m : Int) != 6) = true := by rw [bne, e1]; rfl
  have HS := Ud.hide (lsure_any Q _ (hE.below K0))
  clear h hE
  go_enter Tryz.func3, Tryz.ntmps3
  go_wp2_with fail
  refine HS.out.mono ?_
  rintro e w1 ⟨rfl, k1⟩
  go_wp2
  go_ret
  exact ⟨rfl, below_tr K0 k1⟩
theorem likeof_walk (Q : Lk.LPkg) (hA : ∀ (X : Nat → Int) (P : Nat → Nat → Int) (x y a b c : Int) (w : World), MayV X P → MayN x y a b c → B64 X → B2 P → (∀ i, i < 2 → fine (oM P a b c) i) → Calls Tryz.prog 6 #[.agg (Pd.svals X 6 6 (mz 6 6 P)).toArray, .agg (pv x y a b c).toArray] w fun e w' => e = .returned (.tuple #[.agg (gvals (v2 (ox X x) (oy X y)) 2 (mz 2 2 (fL P a b c)) (fD P a b c)).toArray, .bool (og X P x y a b c), .nilIface]) ∧ Below w.heap.size w w') : FLikeOf.Walk := by
 intro c0 x y a b c w hL wx wy wa wb wc hE
 obtain ⟨xo, m, xc, X, po, n, pc, A, K, C, Z, rfl, sX, bX, sP, qP⟩ := state_lies hL
 by_cases h6 : m = 6
 ·subst h6
  rcases six_cases sP qP with ⟨F, rfl, gP, bP⟩ | ⟨r, c', z, hbad, hmat, hsix⟩
  ·have hG := fun W (b : Below w.heap.size w W) => pgive_any xo po xc 6 pc X 6 6 (mz 6 6 F) W (sX.keep b) (fun V k => matOf_six gP V (below_tr b k))
   by_cases hm : MayV X F
   ·have hC := fun W => pcheck_six X F true W ⟨fun _ => hm, fun _ => rfl⟩
    have hM := fun W (b : Below w.heap.size w W) => rmay12_grid true xo po xc pc X F W (sX.keep b) (gP.keep b) ⟨fun _ => hm, fun _ => rfl⟩
    by_cases hp : MayN x y a b c
    ·by_cases hf : ∀ i, i < 2 → fine (oM F a b c) i
     ·refine lo_good Q xo po xc 6 pc X 6 6 (mz 6 6 F) x y a b c (v2 (ox X x) (oy X y)) (fL F a b c) (fD F a b c) (og X F x y a b c) w hE hG (fun W => hA X F x y a b c W hm hp bX bP hf) (fun W b' => ?_) (fun W => Q.of W X F x y a b c hf) (Ud.fD_b hf) (Lk.v_bK X x y) (fL_b F a b c)
      refine (dof13_any xo po xc pc X F x y a b c W (sX.keep b') (gP.keep b') hm hp).mono ?_
      rintro e w' ⟨hc, k⟩
      rcases hc with ⟨hn, _⟩ | ⟨_, gv, lo, cl, do', cd, rfl, s1, s2, s3⟩
      ·exact absurd hf hn
      ·exact ⟨gv, lo, cl, do', cd, rfl, ⟨s1, s2, s3⟩, k⟩
     ·refine lo_bad Q xo po xc 6 pc X 6 6 (mz 6 6 F) x y a b c 8 w hE hG (fun V => uof_none X F x y a b c V hm hp bX bP hf) (fun V b' => ?_)
      refine (dof13_any xo po xc pc X F x y a b c V (sX.keep b') (gP.keep b') hm hp).mono ?_
      rintro e w' ⟨hc, k⟩
      rcases hc with ⟨_, rfl⟩ | ⟨hy, _⟩
      ·exact ⟨rfl, k⟩
      ·exact absurd hy hf
    ·exact lo_bad Q xo po xc 6 pc X 6 6 (mz 6 6 F) x y a b c 1 w hE hG (fun V => uof_place X 6 6 (mz 6 6 F) x y a b c V hC hp) (fun V b' => dof13_place xo po 6 xc pc x y a b c V (fun U ku => hM U (below_tr b' ku)) hp)
   ·have hC := fun W => pcheck_six X F false W ⟨fun q => (by cases q), fun q => absurd q hm⟩
    have hM := fun W (b : Below w.heap.size w W) => rmay12_grid false xo po xc pc X F W (sX.keep b) (gP.keep b) ⟨fun q => (by cases q), fun q => absurd q hm⟩
    exact lo_bad Q xo po xc 6 pc X 6 6 (mz 6 6 F) x y a b c 1 w hE hG (fun V => uof_chk X 6 6 (mz 6 6 F) x y a b c V hC) (fun V b' => dof13_state xo po 6 xc pc x y a b c V (fun U ku => hM U (below_tr b' ku)))
  ·have hC := fun W => pcheck_no X r c' z W hbad
   exact lo_bad Q xo po xc n pc X r c' z x y a b c 1 w hE (fun W b => pgive_any xo po xc n pc X r c' z W (sX.keep b) (fun V k => hmat V (below_tr b k))) (fun V => uof_chk X r c' z x y a b c V hC) (fun V b' => dof13_state xo po n xc pc x y a b c V (fun U ku => rmay12_not xo po n xc pc U (fun T kt => hsix T (below_tr (below_tr b' ku) kt))))
 ·exact lo_short Q xo po m xc n pc x y a b c w h6 (by have := sX.le; have := sX.cap; omega) hE
end Go.Proofs.YtdgcnaijndocnaaGreatDoor
