/-
  Layer 13's law UpdateOf, by what the program's Of answers.
-/
import Derived.Test.YtlomfjacgomhdaaGreatDoorM22
import Derived.Test.YtlomfjacgomhdaaGreatDoorM28
import Derived.Test.YtlomfjacgomhdaaGreatDoorPdS
import Derived.Test.YtlomfjacgomhdaaGreatDoorPdL
import Derived.Test.YtlomfjacgomhdaaGreatDoorLieS
import Derived.Test.YtlomfjacgomhdaaGreatDoorRegM
import Derived.Test.YtlomfjacgomhdaaGreatDoorErrA
import Derived.Test.YtlomfjacgomhdaaGreatDoorM17
import Derived.Test.YtlomfjacgomhdaaGreatDoorFUpdateOf
import Derived.Deep.DeepCutAuto
import Derived.Deep.CutRange
set_option linter.unusedSimpArgs false
set_option linter.unusedVariables false
namespace Go.Proofs.YtlomfjacgomhdaaGreatDoor
open Go.RowKit Vc St Mt Pr Qn Ud Up Ld
attribute [local go_sem ↓] Go.wp_at_zero Go.wp_at_succ

namespace Up
theorem head36 (g : Nat) (w : World) : (Instr.sliceAt 30 (.pointer (some ⟨g, 3, none⟩)) none (some (.int .i64 4)) none).run Tryz.prog w = .ok (.slice (some ⟨g, 3, none⟩) 4 36) w := by kernel_rfl
theorem head6 (g : Nat) (w : World) : (Instr.sliceAt 31 (.pointer (some ⟨g, 39, none⟩)) none (some (.int .i64 2)) none).run Tryz.prog w = .ok (.slice (some ⟨g, 39, none⟩) 2 6) w := by kernel_rfl
theorem GRow.n {w : World} {g : Nat} {V : Nat → Int} {n : Int} {z d : Nat → Int} (h : GRow w g V n z d) : w.cell? ⟨g, 2, none⟩ = some (.int .i64 n) := h.cell (k := 2) (by rw [gvals_f V n z d 0]; rfl) rfl
theorem GRow.z {w : World} {g : Nat} {V : Nat → Int} {n : Int} {z d : Nat → Int} (h : GRow w g V n z d) : Sl w (some ⟨g, 3, none⟩) 4 36 z :=
  ⟨by omega, by omega, fun k hk => ⟨_, rfl, by rw [Addr.add_lit]; exact h.cell (k := k + 3) (by rw [show k + 3 = (k + 1) + 2 by omega, gvals_f]; exact fvals_z (by omega)) (by omega)⟩⟩
theorem GRow.d {w : World} {g : Nat} {V : Nat → Int} {n : Int} {z d : Nat → Int} (h : GRow w g V n z d) : Sl w (some ⟨g, 39, none⟩) 2 6 d :=
  ⟨by omega, by omega, fun k hk => ⟨_, rfl, by rw [Addr.add_lit]; exact h.cell (k := k + 39) (by rw [show k + 39 = (k + 37) + 2 by omega, gvals_f]; exact fvals_d (by omega)) (by omega)⟩⟩
def four (a b c d : Int) : Nat → Int
  | 0 => a
  | 1 => b
  | 2 => c
  | _ => d
theorem four_L {L : Nat → Nat → Int} (h : L 0 1 = 0) {k : Nat} (hk : k < 4) : four (L 0 0) 0 (L 1 0) (L 1 1) k = mz 2 2 L k := by
  match k, hk with
  | 0, _ => exact (mz_at (n := 2) (c := 2) (i := 0) (j := 0) (by omega) (by omega)).symm
  | 1, _ => exact h.symm.trans (mz_at (n := 2) (c := 2) (i := 0) (j := 1) (by omega) (by omega)).symm
  | 2, _ => exact (mz_at (n := 2) (c := 2) (i := 1) (j := 0) (by omega) (by omega)).symm
  | 3, _ => exact (mz_at (n := 2) (c := 2) (i := 1) (j := 1) (by omega) (by omega)).symm
end Up

set_option maxRecDepth 20000 in
set_option maxHeartbeats 8000000 in
theorem uo_bad (xo po : Option Addr) (xc n pc : Nat) (X : Nat → Int) (r c' : Int) (z : Nat → Int) (x y a b c : Int) (k : Int) (w : World) (hE : ErrTab w)
    (hG : ∀ W, Below w.heap.size w W → Calls Tryz.prog 7 #[.agg #[.slice xo 6 xc, .slice po n pc]] W fun e w' => e = .returned (.agg (Pd.svals X r c' z).toArray) ∧ Below W.heap.size W w')
    (hN : ∀ W, Calls Tryz.prog 6 #[.agg (Pd.svals X r c' z).toArray, .agg (pv x y a b c).toArray] W fun e w' => e = .returned (.tuple #[.agg (gvals (fun _ => 0) 0 (fun _ => 0) (fun _ => 0)).toArray, .bool false, .iface 67 (.int .i64 k)]) ∧ Below W.heap.size W w')
    (hD : ∀ W, Below w.heap.size w W → Calls Tryz.prog 9 #[.agg #[.slice xo 6 xc, .slice po n pc], .agg (pv x y a b c).toArray] W fun e w' => e = .returned (.tuple #[.agg #[.slice none 0 0, .slice none 0 0, .slice none 0 0], .bool false, .int .i64 k]) ∧ Below W.heap.size W w')
    : Calls Tryz.prog 3 #[.agg #[.slice xo 6 xc, .slice po n pc], .agg (pv x y a b c).toArray] w fun e w' => e = .returned (.bool true) ∧ Below w.heap.size w w' := by
  have HE := Ud.hide hE
  have HG := Ud.hide hG
  have HN := Ud.hide hN
  have HD := Ud.hide hD
  clear hE hG hN hD
  have m0 := (crow_new w 25 [.slice xo 6 xc, .slice po n pc]).alloc (.cells (pv x y a b c).toArray 27)
  have p0 := crow_new1 w (.cells [.slice xo 6 xc, .slice po n pc].toArray 25) 27 (pv x y a b c)
  have B0 : Below w.heap.size w ((w.alloc (.cells [.slice xo 6 xc, .slice po n pc].toArray 25)).alloc (.cells (pv x y a b c).toArray 27)) := below_al (below_al (Below.refl _ _) _) _
  obtain ⟨W, hW⟩ : ∃ W, W = (w.alloc (.cells [.slice xo 6 xc, .slice po n pc].toArray 25)).alloc (.cells (pv x y a b c).toArray 27) := ⟨_, rfl⟩
  rw [← hW] at m0 p0 B0
  have HW := Ud.hide hW
  have c0 : W.cell? ⟨w.heap.size, 0, none⟩ = some (.slice xo 6 xc) := CRow.cell m0 (k := 0) rfl rfl
  clear hW
  go_enter Tryz.func3, Tryz.ntmps3
  go_upto_region 3 with (first | (erw [← HW.out]) | fail)
  go_cut [5, 6, 7] (fun p o f wx => ∃ g : Nat, p = .pointer (some ⟨g, 0, none⟩) ∧ o = .bool false ∧ f = .iface 67 (.int .i64 k) ∧ CRow wx g 35 (gvals (fun _ => 0) 0 (fun _ => 0) (fun _ => 0)) ∧ Below W.heap.size W wx)
  case first =>
    have hS : ∀ V, Below W.heap.size W V → (CRow V w.heap.size 25 [.slice xo 6 xc, .slice po n pc] ∧ CRow V (w.heap.size + 1) 27 (pv x y a b c)) := fun V q => ⟨CRow.keep m0 q, CRow.keep p0 q⟩
    have KQ := Ud.hide B0
    have lx := CRow.lt p0
    clear c0 m0 p0 B0
    refine Ru.wp_region_U [] (fun w' => CRow w' w.heap.size 25 [.slice xo 6 xc, .slice po n pc] ∧ CRow w' (w.heap.size + 1) 27 (pv x y a b c)) (by kernel_rfl) (hS _ (Vc.below_drew' _)) (fun hHeld => ?_)
    refine Ru.wpAnyU_take (i := 0) (v := .agg [.slice xo 6 xc, .slice po n pc].toArray) rfl (by kernel_rfl) (by kernel_rfl) (by kernel_rfl) (by kernel_rfl) (by kernel_rfl) (by kernel_rfl) (fun _ _ _ h => h) (Ru.yieldsC isSt (by kernel_rfl) _ (by rfl) w.heap.size _ (by rfl) (fun w h => h.1) rfl) hHeld ?_
    simp only [Act.put, List.getElem_toArray, List.getElem_cons_zero, List.getElem_cons_succ, List.setIfInBounds_toArray, List.set_cons_zero, List.set_cons_succ]
    refine Ru.wpAnyU_take (i := 2) (v := .agg (pv x y a b c).toArray) rfl (by kernel_rfl) (by kernel_rfl) (by kernel_rfl) (by kernel_rfl) (by kernel_rfl) (by kernel_rfl) (fun _ _ _ h => h) (Ru.yieldsC isSeen (by kernel_rfl) _ (by rfl) (w.heap.size + 1) _ (by rfl) (fun w h => h.2) rfl) hHeld ?_
    simp only [Act.put, List.getElem_toArray, List.getElem_cons_zero, List.getElem_cons_succ, List.setIfInBounds_toArray, List.set_cons_zero, List.set_cons_succ]
    refine Ru.wpAnyU_ready (rs := [1, 8]) (by kernel_rfl) (by simp) ?_
    refine Ru.AllReadyU.cons rfl (by kernel_rfl) (fun K hK => ?_) ?_
    · go_simp
      refine (HG.out _ (below_tr KQ.out (Vc.below_drew' W))).mono ?_
      rintro e v_1 ⟨rfl, k_1⟩
      have D_1 := below_tr (Vc.below_drew' W) k_1
      go_wp2_with fail
      refine hK.out _ _ (hS _ D_1) (fun hHeld => ?_)
      clear hK K
      try simp only [Act.put, List.getElem_toArray, List.getElem_cons_zero, List.getElem_cons_succ, List.setIfInBounds_toArray, List.set_cons_zero, List.set_cons_succ]
      refine Ru.wpAnyU_ready (rs := [3, 8]) (by kernel_rfl) (by simp) ?_
      refine Ru.AllReadyU.cons rfl (by kernel_rfl) (fun K hK => ?_) ?_
      · go_simp
        refine (HN.out _).mono ?_
        rintro e v_2 ⟨rfl, k_2⟩
        have D_2 := below_tr D_1 k_2
        go_wp2_with fail
        refine hK.out _ _ (hS _ D_2) (fun hHeld => ?_)
        clear hK K
        try simp only [Act.put, List.getElem_toArray, List.getElem_cons_zero, List.getElem_cons_succ, List.setIfInBounds_toArray, List.set_cons_zero, List.set_cons_succ]
        refine Ru.wpAnyU_take (i := 4) (v := .tuple #[.agg (gvals (fun _ => 0) 0 (fun _ => 0) (fun _ => 0)).toArray, .bool false, .iface 67 (.int .i64 k)]) rfl (by kernel_rfl) (by kernel_rfl) (by kernel_rfl) (by kernel_rfl) (by kernel_rfl) (by kernel_rfl) (fun _ _ _ h => h) (Or.inl ⟨by kernel_rfl, fun w hS => by obtain ⟨sc0, sc1⟩ := hS; go_simp⟩) hHeld ?_
        simp only [Act.put, List.getElem_toArray, List.getElem_cons_zero, List.getElem_cons_succ, List.setIfInBounds_toArray, List.set_cons_zero, List.set_cons_succ]
        refine Ru.wpAnyU_take (i := 5) (v := .agg (gvals (fun _ => 0) 0 (fun _ => 0) (fun _ => 0)).toArray) rfl (by kernel_rfl) (by kernel_rfl) (by kernel_rfl) (by kernel_rfl) (by kernel_rfl) (by kernel_rfl) (fun _ _ _ h => h) (Or.inl ⟨by kernel_rfl, fun w hS => by obtain ⟨sc0, sc1⟩ := hS; go_simp⟩) hHeld ?_
        simp only [Act.put, List.getElem_toArray, List.getElem_cons_zero, List.getElem_cons_succ, List.setIfInBounds_toArray, List.set_cons_zero, List.set_cons_succ]
        refine Ru.wpAnyU_take (i := 6) (v := .bool false) rfl (by kernel_rfl) (by kernel_rfl) (by kernel_rfl) (by kernel_rfl) (by kernel_rfl) (by kernel_rfl) (fun _ _ _ h => h) (Or.inl ⟨by kernel_rfl, fun w hS => by obtain ⟨sc0, sc1⟩ := hS; go_simp⟩) hHeld ?_
        simp only [Act.put, List.getElem_toArray, List.getElem_cons_zero, List.getElem_cons_succ, List.setIfInBounds_toArray, List.set_cons_zero, List.set_cons_succ]
        refine Ru.wpAnyU_take (i := 7) (v := .iface 67 (.int .i64 k)) rfl (by kernel_rfl) (by kernel_rfl) (by kernel_rfl) (by kernel_rfl) (by kernel_rfl) (by kernel_rfl) (fun _ _ _ h => h) (Or.inl ⟨by kernel_rfl, fun w hS => by obtain ⟨sc0, sc1⟩ := hS; go_simp⟩) hHeld ?_
        simp only [Act.put, List.getElem_toArray, List.getElem_cons_zero, List.getElem_cons_succ, List.setIfInBounds_toArray, List.set_cons_zero, List.set_cons_succ]
        refine Ru.wpAnyU_ready (rs := [8]) (by kernel_rfl) (by simp) ?_
        refine Ru.AllReadyU.cons rfl (by kernel_rfl) (fun K hK => ?_) Ru.AllReadyU.nil
        go_simp
        try rw [zeroG]
        have n_3 : CRow (v_2.alloc (.cells (gvals (fun _ => 0) 0 (fun _ => 0) (fun _ => 0)).toArray 35)) (v_2.heap.size) 35 (gvals (fun _ => 0) 0 (fun _ => 0) (fun _ => 0)) := crow_new v_2 35 (gvals (fun _ => 0) 0 (fun _ => 0) (fun _ => 0))
        have a_3 := below_al (Below.refl _ v_2) (.cells (gvals (fun _ => 0) 0 (fun _ => 0) (fun _ => 0)).toArray 35)
        have g_3 := D_2.size
        have D_3 := below_tr D_2 a_3
        refine hK.out _ _ (hS _ D_3) (fun hHeld => ?_)
        clear hK K
        try simp only [Act.put, List.getElem_toArray, List.getElem_cons_zero, List.getElem_cons_succ, List.setIfInBounds_toArray, List.set_cons_zero, List.set_cons_succ]
        refine Ru.wpAnyU_ready (rs := [9]) (by kernel_rfl) (by simp) ?_
        refine Ru.AllReadyU.cons rfl (by kernel_rfl) (fun K hK => ?_) Ru.AllReadyU.nil
        refine Ru.stepC Up.isG (by kernel_rfl) _ _ (by rfl) (v_2.heap.size) _ (gvals (fun _ => 0) 0 (fun _ => 0) (fun _ => 0)) (by rfl) (by rfl) n_3 (gvals_len _ _ _ _) (gvals_len _ _ _ _) (one_gvals _ _ _ _) ?_
        have nE := CRow.row n_3 (gvals (fun _ => 0) 0 (fun _ => 0) (fun _ => 0))
        have xE := CRow.rowOther (hS _ D_3).1 (g := v_2.heap.size) (by omega) (gvals (fun _ => 0) 0 (fun _ => 0) (fun _ => 0)).toArray
        have yE := CRow.rowOther (hS _ D_3).2 (g := v_2.heap.size) (by omega) (gvals (fun _ => 0) 0 (fun _ => 0) (fun _ => 0)).toArray
        have bE := St.below_row D_3 (g := v_2.heap.size) (by omega) (gvals (fun _ => 0) 0 (fun _ => 0) (fun _ => 0)).toArray
        refine hK.out _ _ ⟨xE, yE⟩ (fun hHeld => ?_)
        clear hK K
        try simp only [Act.put, List.getElem_toArray, List.getElem_cons_zero, List.getElem_cons_succ, List.setIfInBounds_toArray, List.set_cons_zero, List.set_cons_succ]
        refine Ru.wpAnyU_take (i := 10) (v := .bool false) rfl (by kernel_rfl) (by kernel_rfl) (by kernel_rfl) (by kernel_rfl) (by kernel_rfl) (by kernel_rfl) (fun _ _ _ h => h) (Or.inl ⟨by kernel_rfl, fun w hS => by obtain ⟨sc0, sc1⟩ := hS; go_simp⟩) hHeld ?_
        simp only [Act.put, List.getElem_toArray, List.getElem_cons_zero, List.getElem_cons_succ, List.setIfInBounds_toArray, List.set_cons_zero, List.set_cons_succ]
        refine Ru.wpAnyU_take (i := 11) (v := .iface 67 (.int .i64 k)) rfl (by kernel_rfl) (by kernel_rfl) (by kernel_rfl) (by kernel_rfl) (by kernel_rfl) (by kernel_rfl) (fun _ _ _ h => h) (Or.inl ⟨by kernel_rfl, fun w hS => by obtain ⟨sc0, sc1⟩ := hS; go_simp⟩) hHeld ?_
        simp only [Act.put, List.getElem_toArray, List.getElem_cons_zero, List.getElem_cons_succ, List.setIfInBounds_toArray, List.set_cons_zero, List.set_cons_succ]
        refine Ru.wpAnyU_done (by kernel_rfl) ?_
        go_wp2_with fail
        go_meet
        exact ⟨_, rfl, rfl, rfl, nE, bE⟩
      refine Ru.AllReadyU.cons rfl (by kernel_rfl) (fun K hK => ?_) Ru.AllReadyU.nil
      go_simp
      try rw [zeroG]
      have n_4 : CRow (v_1.alloc (.cells (gvals (fun _ => 0) 0 (fun _ => 0) (fun _ => 0)).toArray 35)) (v_1.heap.size) 35 (gvals (fun _ => 0) 0 (fun _ => 0) (fun _ => 0)) := crow_new v_1 35 (gvals (fun _ => 0) 0 (fun _ => 0) (fun _ => 0))
      have a_4 := below_al (Below.refl _ v_1) (.cells (gvals (fun _ => 0) 0 (fun _ => 0) (fun _ => 0)).toArray 35)
      have g_4 := D_1.size
      have D_4 := below_tr D_1 a_4
      refine hK.out _ _ (hS _ D_4) (fun hHeld => ?_)
      clear hK K
      try simp only [Act.put, List.getElem_toArray, List.getElem_cons_zero, List.getElem_cons_succ, List.setIfInBounds_toArray, List.set_cons_zero, List.set_cons_succ]
      refine Ru.wpAnyU_ready (rs := [3]) (by kernel_rfl) (by simp) ?_
      refine Ru.AllReadyU.cons rfl (by kernel_rfl) (fun K hK => ?_) Ru.AllReadyU.nil
      go_simp
      refine (HN.out _).mono ?_
      rintro e v_5 ⟨rfl, k_5⟩
      have D_5 := below_tr D_4 k_5
      have n_5 := CRow.keep n_4 k_5
      go_wp2_with fail
      refine hK.out _ _ (hS _ D_5) (fun hHeld => ?_)
      clear hK K
      try simp only [Act.put, List.getElem_toArray, List.getElem_cons_zero, List.getElem_cons_succ, List.setIfInBounds_toArray, List.set_cons_zero, List.set_cons_succ]
      refine Ru.wpAnyU_take (i := 4) (v := .tuple #[.agg (gvals (fun _ => 0) 0 (fun _ => 0) (fun _ => 0)).toArray, .bool false, .iface 67 (.int .i64 k)]) rfl (by kernel_rfl) (by kernel_rfl) (by kernel_rfl) (by kernel_rfl) (by kernel_rfl) (by kernel_rfl) (fun _ _ _ h => h) (Or.inl ⟨by kernel_rfl, fun w hS => by obtain ⟨sc0, sc1⟩ := hS; go_simp⟩) hHeld ?_
      simp only [Act.put, List.getElem_toArray, List.getElem_cons_zero, List.getElem_cons_succ, List.setIfInBounds_toArray, List.set_cons_zero, List.set_cons_succ]
      refine Ru.wpAnyU_take (i := 5) (v := .agg (gvals (fun _ => 0) 0 (fun _ => 0) (fun _ => 0)).toArray) rfl (by kernel_rfl) (by kernel_rfl) (by kernel_rfl) (by kernel_rfl) (by kernel_rfl) (by kernel_rfl) (fun _ _ _ h => h) (Or.inl ⟨by kernel_rfl, fun w hS => by obtain ⟨sc0, sc1⟩ := hS; go_simp⟩) hHeld ?_
      simp only [Act.put, List.getElem_toArray, List.getElem_cons_zero, List.getElem_cons_succ, List.setIfInBounds_toArray, List.set_cons_zero, List.set_cons_succ]
      refine Ru.wpAnyU_take (i := 6) (v := .bool false) rfl (by kernel_rfl) (by kernel_rfl) (by kernel_rfl) (by kernel_rfl) (by kernel_rfl) (by kernel_rfl) (fun _ _ _ h => h) (Or.inl ⟨by kernel_rfl, fun w hS => by obtain ⟨sc0, sc1⟩ := hS; go_simp⟩) hHeld ?_
      simp only [Act.put, List.getElem_toArray, List.getElem_cons_zero, List.getElem_cons_succ, List.setIfInBounds_toArray, List.set_cons_zero, List.set_cons_succ]
      refine Ru.wpAnyU_take (i := 7) (v := .iface 67 (.int .i64 k)) rfl (by kernel_rfl) (by kernel_rfl) (by kernel_rfl) (by kernel_rfl) (by kernel_rfl) (by kernel_rfl) (fun _ _ _ h => h) (Or.inl ⟨by kernel_rfl, fun w hS => by obtain ⟨sc0, sc1⟩ := hS; go_simp⟩) hHeld ?_
      simp only [Act.put, List.getElem_toArray, List.getElem_cons_zero, List.getElem_cons_succ, List.setIfInBounds_toArray, List.set_cons_zero, List.set_cons_succ]
      refine Ru.wpAnyU_ready (rs := [9]) (by kernel_rfl) (by simp) ?_
      refine Ru.AllReadyU.cons rfl (by kernel_rfl) (fun K hK => ?_) Ru.AllReadyU.nil
      refine Ru.stepC Up.isG (by kernel_rfl) _ _ (by rfl) (v_1.heap.size) _ (gvals (fun _ => 0) 0 (fun _ => 0) (fun _ => 0)) (by rfl) (by rfl) n_5 (gvals_len _ _ _ _) (gvals_len _ _ _ _) (one_gvals _ _ _ _) ?_
      have nE := CRow.row n_5 (gvals (fun _ => 0) 0 (fun _ => 0) (fun _ => 0))
      have xE := CRow.rowOther (hS _ D_5).1 (g := v_1.heap.size) (by omega) (gvals (fun _ => 0) 0 (fun _ => 0) (fun _ => 0)).toArray
      have yE := CRow.rowOther (hS _ D_5).2 (g := v_1.heap.size) (by omega) (gvals (fun _ => 0) 0 (fun _ => 0) (fun _ => 0)).toArray
      have bE := St.below_row D_5 (g := v_1.heap.size) (by omega) (gvals (fun _ => 0) 0 (fun _ => 0) (fun _ => 0)).toArray
      refine hK.out _ _ ⟨xE, yE⟩ (fun hHeld => ?_)
      clear hK K
      try simp only [Act.put, List.getElem_toArray, List.getElem_cons_zero, List.getElem_cons_succ, List.setIfInBounds_toArray, List.set_cons_zero, List.set_cons_succ]
      refine Ru.wpAnyU_take (i := 10) (v := .bool false) rfl (by kernel_rfl) (by kernel_rfl) (by kernel_rfl) (by kernel_rfl) (by kernel_rfl) (by kernel_rfl) (fun _ _ _ h => h) (Or.inl ⟨by kernel_rfl, fun w hS => by obtain ⟨sc0, sc1⟩ := hS; go_simp⟩) hHeld ?_
      simp only [Act.put, List.getElem_toArray, List.getElem_cons_zero, List.getElem_cons_succ, List.setIfInBounds_toArray, List.set_cons_zero, List.set_cons_succ]
      refine Ru.wpAnyU_take (i := 11) (v := .iface 67 (.int .i64 k)) rfl (by kernel_rfl) (by kernel_rfl) (by kernel_rfl) (by kernel_rfl) (by kernel_rfl) (by kernel_rfl) (fun _ _ _ h => h) (Or.inl ⟨by kernel_rfl, fun w hS => by obtain ⟨sc0, sc1⟩ := hS; go_simp⟩) hHeld ?_
      simp only [Act.put, List.getElem_toArray, List.getElem_cons_zero, List.getElem_cons_succ, List.setIfInBounds_toArray, List.set_cons_zero, List.set_cons_succ]
      refine Ru.wpAnyU_done (by kernel_rfl) ?_
      go_wp2_with fail
      go_meet
      exact ⟨_, rfl, rfl, rfl, nE, bE⟩
    refine Ru.AllReadyU.cons rfl (by kernel_rfl) (fun K hK => ?_) Ru.AllReadyU.nil
    go_simp
    try rw [zeroG]
    have n_6 : CRow (W.drew.alloc (.cells (gvals (fun _ => 0) 0 (fun _ => 0) (fun _ => 0)).toArray 35)) (W.heap.size) 35 (gvals (fun _ => 0) 0 (fun _ => 0) (fun _ => 0)) := crow_new W.drew 35 (gvals (fun _ => 0) 0 (fun _ => 0) (fun _ => 0))
    have a_6 := below_al (Below.refl _ W.drew) (.cells (gvals (fun _ => 0) 0 (fun _ => 0) (fun _ => 0)).toArray 35)
    have g_6 := (Vc.below_drew' W).size
    have e_6 : W.drew.heap.size = W.heap.size := rfl
    have D_6 := below_tr (Vc.below_drew' W) a_6
    refine hK.out _ _ (hS _ D_6) (fun hHeld => ?_)
    clear hK K
    try simp only [Act.put, List.getElem_toArray, List.getElem_cons_zero, List.getElem_cons_succ, List.setIfInBounds_toArray, List.set_cons_zero, List.set_cons_succ]
    refine Ru.wpAnyU_ready (rs := [1]) (by kernel_rfl) (by simp) ?_
    refine Ru.AllReadyU.cons rfl (by kernel_rfl) (fun K hK => ?_) Ru.AllReadyU.nil
    go_simp
    refine (HG.out _ (below_tr KQ.out D_6)).mono ?_
    rintro e v_7 ⟨rfl, k_7⟩
    have D_7 := below_tr D_6 k_7
    have n_7 := CRow.keep n_6 k_7
    go_wp2_with fail
    refine hK.out _ _ (hS _ D_7) (fun hHeld => ?_)
    clear hK K
    try simp only [Act.put, List.getElem_toArray, List.getElem_cons_zero, List.getElem_cons_succ, List.setIfInBounds_toArray, List.set_cons_zero, List.set_cons_succ]
    refine Ru.wpAnyU_ready (rs := [3]) (by kernel_rfl) (by simp) ?_
    refine Ru.AllReadyU.cons rfl (by kernel_rfl) (fun K hK => ?_) Ru.AllReadyU.nil
    go_simp
    refine (HN.out _).mono ?_
    rintro e v_8 ⟨rfl, k_8⟩
    have D_8 := below_tr D_7 k_8
    have n_8 := CRow.keep n_7 k_8
    go_wp2_with fail
    refine hK.out _ _ (hS _ D_8) (fun hHeld => ?_)
    clear hK K
    try simp only [Act.put, List.getElem_toArray, List.getElem_cons_zero, List.getElem_cons_succ, List.setIfInBounds_toArray, List.set_cons_zero, List.set_cons_succ]
    refine Ru.wpAnyU_take (i := 4) (v := .tuple #[.agg (gvals (fun _ => 0) 0 (fun _ => 0) (fun _ => 0)).toArray, .bool false, .iface 67 (.int .i64 k)]) rfl (by kernel_rfl) (by kernel_rfl) (by kernel_rfl) (by kernel_rfl) (by kernel_rfl) (by kernel_rfl) (fun _ _ _ h => h) (Or.inl ⟨by kernel_rfl, fun w hS => by obtain ⟨sc0, sc1⟩ := hS; go_simp⟩) hHeld ?_
    simp only [Act.put, List.getElem_toArray, List.getElem_cons_zero, List.getElem_cons_succ, List.setIfInBounds_toArray, List.set_cons_zero, List.set_cons_succ]
    refine Ru.wpAnyU_take (i := 5) (v := .agg (gvals (fun _ => 0) 0 (fun _ => 0) (fun _ => 0)).toArray) rfl (by kernel_rfl) (by kernel_rfl) (by kernel_rfl) (by kernel_rfl) (by kernel_rfl) (by kernel_rfl) (fun _ _ _ h => h) (Or.inl ⟨by kernel_rfl, fun w hS => by obtain ⟨sc0, sc1⟩ := hS; go_simp⟩) hHeld ?_
    simp only [Act.put, List.getElem_toArray, List.getElem_cons_zero, List.getElem_cons_succ, List.setIfInBounds_toArray, List.set_cons_zero, List.set_cons_succ]
    refine Ru.wpAnyU_take (i := 6) (v := .bool false) rfl (by kernel_rfl) (by kernel_rfl) (by kernel_rfl) (by kernel_rfl) (by kernel_rfl) (by kernel_rfl) (fun _ _ _ h => h) (Or.inl ⟨by kernel_rfl, fun w hS => by obtain ⟨sc0, sc1⟩ := hS; go_simp⟩) hHeld ?_
    simp only [Act.put, List.getElem_toArray, List.getElem_cons_zero, List.getElem_cons_succ, List.setIfInBounds_toArray, List.set_cons_zero, List.set_cons_succ]
    refine Ru.wpAnyU_take (i := 7) (v := .iface 67 (.int .i64 k)) rfl (by kernel_rfl) (by kernel_rfl) (by kernel_rfl) (by kernel_rfl) (by kernel_rfl) (by kernel_rfl) (fun _ _ _ h => h) (Or.inl ⟨by kernel_rfl, fun w hS => by obtain ⟨sc0, sc1⟩ := hS; go_simp⟩) hHeld ?_
    simp only [Act.put, List.getElem_toArray, List.getElem_cons_zero, List.getElem_cons_succ, List.setIfInBounds_toArray, List.set_cons_zero, List.set_cons_succ]
    refine Ru.wpAnyU_ready (rs := [9]) (by kernel_rfl) (by simp) ?_
    refine Ru.AllReadyU.cons rfl (by kernel_rfl) (fun K hK => ?_) Ru.AllReadyU.nil
    refine Ru.stepC Up.isG (by kernel_rfl) _ _ (by rfl) (W.heap.size) _ (gvals (fun _ => 0) 0 (fun _ => 0) (fun _ => 0)) (by rfl) (by rfl) n_8 (gvals_len _ _ _ _) (gvals_len _ _ _ _) (one_gvals _ _ _ _) ?_
    have nE := CRow.row n_8 (gvals (fun _ => 0) 0 (fun _ => 0) (fun _ => 0))
    have xE := CRow.rowOther (hS _ D_8).1 (g := W.heap.size) (by omega) (gvals (fun _ => 0) 0 (fun _ => 0) (fun _ => 0)).toArray
    have yE := CRow.rowOther (hS _ D_8).2 (g := W.heap.size) (by omega) (gvals (fun _ => 0) 0 (fun _ => 0) (fun _ => 0)).toArray
    have bE := St.below_row D_8 (g := W.heap.size) (by omega) (gvals (fun _ => 0) 0 (fun _ => 0) (fun _ => 0)).toArray
    refine hK.out _ _ ⟨xE, yE⟩ (fun hHeld => ?_)
    clear hK K
    try simp only [Act.put, List.getElem_toArray, List.getElem_cons_zero, List.getElem_cons_succ, List.setIfInBounds_toArray, List.set_cons_zero, List.set_cons_succ]
    refine Ru.wpAnyU_take (i := 10) (v := .bool false) rfl (by kernel_rfl) (by kernel_rfl) (by kernel_rfl) (by kernel_rfl) (by kernel_rfl) (by kernel_rfl) (fun _ _ _ h => h) (Or.inl ⟨by kernel_rfl, fun w hS => by obtain ⟨sc0, sc1⟩ := hS; go_simp⟩) hHeld ?_
    simp only [Act.put, List.getElem_toArray, List.getElem_cons_zero, List.getElem_cons_succ, List.setIfInBounds_toArray, List.set_cons_zero, List.set_cons_succ]
    refine Ru.wpAnyU_take (i := 11) (v := .iface 67 (.int .i64 k)) rfl (by kernel_rfl) (by kernel_rfl) (by kernel_rfl) (by kernel_rfl) (by kernel_rfl) (by kernel_rfl) (fun _ _ _ h => h) (Or.inl ⟨by kernel_rfl, fun w hS => by obtain ⟨sc0, sc1⟩ := hS; go_simp⟩) hHeld ?_
    simp only [Act.put, List.getElem_toArray, List.getElem_cons_zero, List.getElem_cons_succ, List.setIfInBounds_toArray, List.set_cons_zero, List.set_cons_succ]
    refine Ru.wpAnyU_done (by kernel_rfl) ?_
    go_wp2_with fail
    go_meet
    exact ⟨_, rfl, rfl, rfl, nE, bE⟩
  rename World => wc
  obtain ⟨gn, rfl, rfl, rfl, nc, kc⟩ := hcut
  have KC := below_tr B0 kc
  have mc := CRow.keep m0 kc
  have pc_ := CRow.keep p0 kc
  clear m0 p0 B0 kc c0 HN HG HW
  go_wp2_with (first
    | ((with_reducible show wpList _ _ _ _ _ _); refine St.wpList_load Up.isG (by rfl) _ (by rfl) _ _ (by rfl) (by with_reducible exact nc) (gvals_len _ _ _ _) ?_)
    | fail)
  refine (ufar_none _).mono ?_
  rintro e wq1 ⟨rfl, kq1⟩
  have KK1 := below_tr KC kq1
  have m_1 := CRow.keep mc kq1
  have p_1 := CRow.keep pc_ kq1
  have n_1 := CRow.keep nc kq1
  clear KC mc pc_ nc
  go_wp2_with (first
    | ((with_reducible show wpList _ _ _ _ _ _); refine St.wpList_load isSt (by rfl) _ (by rfl) _ _ (by rfl) (by with_reducible exact m_1) rfl ?_)
    | ((with_reducible show wpList _ _ _ _ _ _); refine St.wpList_load isSeen (by rfl) _ (by rfl) _ _ (by rfl) (by with_reducible exact p_1) rfl ?_)
    | fail)
  refine (HD.out _ KK1).mono ?_
  rintro e wq2 ⟨rfl, kq2⟩
  have KK2 := below_tr KK1 kq2
  have n_2 := CRow.keep n_1 kq2
  clear KK1 n_1
  go_wp2_with (first
    | ((with_reducible show wpList _ _ _ _ _ _); refine St.wpList_storeNew isGap rfl _ _ (by rfl) _ [.slice none 0 0, .slice none 0 0, .slice none 0 0] _ (by rfl) (by rfl) rfl rfl (by intro v hv; simp only [List.mem_cons, List.not_mem_nil, or_false] at hv; rcases hv with rfl | rfl | rfl <;> rfl) ?_; intro ws3 ns3 ks3; have KK3 := below_tr KK2 ks3; have n_3 := CRow.keep n_2 ks3; clear KK2 n_2)
    | fail)
  refine (num_err k _ (HE.out.below KK3)).mono ?_
  rintro e wq4 ⟨rfl, kq4⟩
  have KK4 := below_tr KK3 kq4
  have n_4 := CRow.keep n_3 kq4
  clear KK3 n_3
  go_wp2_with (first
    | ((with_reducible show wpList _ _ _ _ _ _); refine St.wpList_load Up.isG (by rfl) _ (by rfl) _ _ (by rfl) (by with_reducible exact n_4) (gvals_len _ _ _ _) ?_)
    | ((with_reducible show wpList _ _ _ _ _ _); refine Up.buildG0 (by with_reducible rfl) (by kernel_rfl) ?_)
    | ((with_reducible show wpList _ _ _ _ _ _); refine Up.eqlG _ _ _ (by with_reducible rfl) _ _ _ _ (by rfl) (by rfl) (by kernel_rfl) ?_)
    | fail)
  refine (num_err 1 _ (HE.out.below KK4)).mono ?_
  rintro e wq5 ⟨rfl, kq5⟩
  have KK5 := below_tr KK4 kq5
  clear KK4
  go_wp2_with (first
    | fail)
  refine (usure_any _).mono ?_
  rintro e wq6 ⟨rfl, kq6⟩
  have KK6 := below_tr KK5 kq6
  clear KK5
  go_wp2
  go_ret
  exact ⟨rfl, KK6⟩

set_option maxRecDepth 20000 in
set_option maxHeartbeats 8000000 in
theorem uo_good (xo po : Option Addr) (xc n pc : Nat) (X : Nat → Int) (r c' : Int) (z : Nat → Int) (x y a b c : Int) (V : Nat → Int) (L : Nat → Nat → Int) (d : Nat → Int) (ob : Bool) (w : World) (hE : ErrTab w)
    (hG : ∀ W, Below w.heap.size w W → Calls Tryz.prog 7 #[.agg #[.slice xo 6 xc, .slice po n pc]] W fun e w' => e = .returned (.agg (Pd.svals X r c' z).toArray) ∧ Below W.heap.size W w')
    (hN : ∀ W, Calls Tryz.prog 6 #[.agg (Pd.svals X r c' z).toArray, .agg (pv x y a b c).toArray] W fun e w' => e = .returned (.tuple #[.agg (gvals V 2 (mz 2 2 L) d).toArray, .bool ob, .nilIface]) ∧ Below W.heap.size W w')
    (hD : ∀ W, Below w.heap.size w W → Calls Tryz.prog 9 #[.agg #[.slice xo 6 xc, .slice po n pc], .agg (pv x y a b c).toArray] W fun e w' => ∃ gv lo cl do' cd, e = .returned (.tuple #[.agg #[.slice (some ⟨gv, 0, none⟩) 2 2, .slice lo 2 cl, .slice do' 2 cd], .bool ob, .int .i64 0]) ∧ (Sl w' (some ⟨gv, 0, none⟩) 2 2 V ∧ Grid w' lo 2 cl 2 L ∧ Sl w' do' 2 cd d) ∧ Below W.heap.size W w')
    (hm : FMay 2 (mz 2 2 L) d) (hl : L 0 1 = 0) (bV : B64 V) (bL : ∀ a, B64 (L a))
    : Calls Tryz.prog 3 #[.agg #[.slice xo 6 xc, .slice po n pc], .agg (pv x y a b c).toArray] w fun e w' => e = .returned (.bool true) ∧ Below w.heap.size w w' := by
  have HE := Ud.hide hE
  have HG := Ud.hide hG
  have HN := Ud.hide hN
  have HD := Ud.hide hD
  have HF := Ud.hide (fun W => ufar_by V 2 (mz 2 2 L) d _ _ _ W fun g U hs => lfar_any 2 (some ⟨g, 0, none⟩) 2 V L d U hm hs bV bL)
  have HF2 := Ud.hide (fun g U (hs : Sl U (some ⟨g, 0, none⟩) 2 2 V) => lfar_any 2 (some ⟨g, 0, none⟩) 2 V L d U hm hs bV bL)
  have H4 : Hid (∀ k, k < 4 → four (L 0 0) 0 (L 1 0) (L 1 1) k = mz 2 2 L k) := fun k hk => four_L hl hk
  obtain ⟨xf, hxf⟩ : ∃ q, q = farV (downV L V 2) d 2 := ⟨_, rfl⟩
  obtain ⟨qf, hqf⟩ : ∃ q, q = (downO L V 2 || farO (downV L V 2) d 2) := ⟨_, rfl⟩
  rw [← hxf, ← hqf] at HF HF2
  obtain ⟨zL, hzL⟩ : ∃ z, z = mz 2 2 L := ⟨_, rfl⟩
  rw [← hzL] at HN HF HF2 H4
  have exf : (xf == xf) = true := beq_self_eq_true _
  have eqf : (qf == qf) = true := beq_self_eq_true _
  clear hxf hqf hzL hm hl bV bL
  clear hE hG hN hD
  have m0 := (crow_new w 25 [.slice xo 6 xc, .slice po n pc]).alloc (.cells (pv x y a b c).toArray 27)
  have p0 := crow_new1 w (.cells [.slice xo 6 xc, .slice po n pc].toArray 25) 27 (pv x y a b c)
  have B0 : Below w.heap.size w ((w.alloc (.cells [.slice xo 6 xc, .slice po n pc].toArray 25)).alloc (.cells (pv x y a b c).toArray 27)) := below_al (below_al (Below.refl _ _) _) _
  obtain ⟨W, hW⟩ : ∃ W, W = (w.alloc (.cells [.slice xo 6 xc, .slice po n pc].toArray 25)).alloc (.cells (pv x y a b c).toArray 27) := ⟨_, rfl⟩
  rw [← hW] at m0 p0 B0
  have HW := Ud.hide hW
  have c0 : W.cell? ⟨w.heap.size, 0, none⟩ = some (.slice xo 6 xc) := CRow.cell m0 (k := 0) rfl rfl
  clear hW
  go_enter Tryz.func3, Tryz.ntmps3
  go_upto_region 3 with (first | (erw [← HW.out]) | fail)
  go_cut [5, 6, 7] (fun p o f wx => ∃ g : Nat, p = .pointer (some ⟨g, 0, none⟩) ∧ o = .bool ob ∧ f = .nilIface ∧ CRow wx g 35 (gvals V 2 zL d) ∧ Below W.heap.size W wx)
  case first =>
    have hS : ∀ V, Below W.heap.size W V → (CRow V w.heap.size 25 [.slice xo 6 xc, .slice po n pc] ∧ CRow V (w.heap.size + 1) 27 (pv x y a b c)) := fun V q => ⟨CRow.keep m0 q, CRow.keep p0 q⟩
    have KQ := Ud.hide B0
    have lx := CRow.lt p0
    clear c0 m0 p0 B0
    refine Ru.wp_region_U [] (fun w' => CRow w' w.heap.size 25 [.slice xo 6 xc, .slice po n pc] ∧ CRow w' (w.heap.size + 1) 27 (pv x y a b c)) (by kernel_rfl) (hS _ (Vc.below_drew' _)) (fun hHeld => ?_)
    refine Ru.wpAnyU_take (i := 0) (v := .agg [.slice xo 6 xc, .slice po n pc].toArray) rfl (by kernel_rfl) (by kernel_rfl) (by kernel_rfl) (by kernel_rfl) (by kernel_rfl) (by kernel_rfl) (fun _ _ _ h => h) (Ru.yieldsC isSt (by kernel_rfl) _ (by rfl) w.heap.size _ (by rfl) (fun w h => h.1) rfl) hHeld ?_
    simp only [Act.put, List.getElem_toArray, List.getElem_cons_zero, List.getElem_cons_succ, List.setIfInBounds_toArray, List.set_cons_zero, List.set_cons_succ]
    refine Ru.wpAnyU_take (i := 2) (v := .agg (pv x y a b c).toArray) rfl (by kernel_rfl) (by kernel_rfl) (by kernel_rfl) (by kernel_rfl) (by kernel_rfl) (by kernel_rfl) (fun _ _ _ h => h) (Ru.yieldsC isSeen (by kernel_rfl) _ (by rfl) (w.heap.size + 1) _ (by rfl) (fun w h => h.2) rfl) hHeld ?_
    simp only [Act.put, List.getElem_toArray, List.getElem_cons_zero, List.getElem_cons_succ, List.setIfInBounds_toArray, List.set_cons_zero, List.set_cons_succ]
    refine Ru.wpAnyU_ready (rs := [1, 8]) (by kernel_rfl) (by simp) ?_
    refine Ru.AllReadyU.cons rfl (by kernel_rfl) (fun K hK => ?_) ?_
    · go_simp
      refine (HG.out _ (below_tr KQ.out (Vc.below_drew' W))).mono ?_
      rintro e v_1 ⟨rfl, k_1⟩
      have D_1 := below_tr (Vc.below_drew' W) k_1
      go_wp2_with fail
      refine hK.out _ _ (hS _ D_1) (fun hHeld => ?_)
      clear hK K
      try simp only [Act.put, List.getElem_toArray, List.getElem_cons_zero, List.getElem_cons_succ, List.setIfInBounds_toArray, List.set_cons_zero, List.set_cons_succ]
      refine Ru.wpAnyU_ready (rs := [3, 8]) (by kernel_rfl) (by simp) ?_
      refine Ru.AllReadyU.cons rfl (by kernel_rfl) (fun K hK => ?_) ?_
      · go_simp
        refine (HN.out _).mono ?_
        rintro e v_2 ⟨rfl, k_2⟩
        have D_2 := below_tr D_1 k_2
        go_wp2_with fail
        refine hK.out _ _ (hS _ D_2) (fun hHeld => ?_)
        clear hK K
        try simp only [Act.put, List.getElem_toArray, List.getElem_cons_zero, List.getElem_cons_succ, List.setIfInBounds_toArray, List.set_cons_zero, List.set_cons_succ]
        refine Ru.wpAnyU_take (i := 4) (v := .tuple #[.agg (gvals V 2 zL d).toArray, .bool ob, .nilIface]) rfl (by kernel_rfl) (by kernel_rfl) (by kernel_rfl) (by kernel_rfl) (by kernel_rfl) (by kernel_rfl) (fun _ _ _ h => h) (Or.inl ⟨by kernel_rfl, fun w hS => by obtain ⟨sc0, sc1⟩ := hS; go_simp⟩) hHeld ?_
        simp only [Act.put, List.getElem_toArray, List.getElem_cons_zero, List.getElem_cons_succ, List.setIfInBounds_toArray, List.set_cons_zero, List.set_cons_succ]
        refine Ru.wpAnyU_take (i := 5) (v := .agg (gvals V 2 zL d).toArray) rfl (by kernel_rfl) (by kernel_rfl) (by kernel_rfl) (by kernel_rfl) (by kernel_rfl) (by kernel_rfl) (fun _ _ _ h => h) (Or.inl ⟨by kernel_rfl, fun w hS => by obtain ⟨sc0, sc1⟩ := hS; go_simp⟩) hHeld ?_
        simp only [Act.put, List.getElem_toArray, List.getElem_cons_zero, List.getElem_cons_succ, List.setIfInBounds_toArray, List.set_cons_zero, List.set_cons_succ]
        refine Ru.wpAnyU_take (i := 6) (v := .bool ob) rfl (by kernel_rfl) (by kernel_rfl) (by kernel_rfl) (by kernel_rfl) (by kernel_rfl) (by kernel_rfl) (fun _ _ _ h => h) (Or.inl ⟨by kernel_rfl, fun w hS => by obtain ⟨sc0, sc1⟩ := hS; go_simp⟩) hHeld ?_
        simp only [Act.put, List.getElem_toArray, List.getElem_cons_zero, List.getElem_cons_succ, List.setIfInBounds_toArray, List.set_cons_zero, List.set_cons_succ]
        refine Ru.wpAnyU_take (i := 7) (v := .nilIface) rfl (by kernel_rfl) (by kernel_rfl) (by kernel_rfl) (by kernel_rfl) (by kernel_rfl) (by kernel_rfl) (fun _ _ _ h => h) (Or.inl ⟨by kernel_rfl, fun w hS => by obtain ⟨sc0, sc1⟩ := hS; go_simp⟩) hHeld ?_
        simp only [Act.put, List.getElem_toArray, List.getElem_cons_zero, List.getElem_cons_succ, List.setIfInBounds_toArray, List.set_cons_zero, List.set_cons_succ]
        refine Ru.wpAnyU_ready (rs := [8]) (by kernel_rfl) (by simp) ?_
        refine Ru.AllReadyU.cons rfl (by kernel_rfl) (fun K hK => ?_) Ru.AllReadyU.nil
        go_simp
        try rw [zeroG]
        have n_3 : CRow (v_2.alloc (.cells (gvals (fun _ => 0) 0 (fun _ => 0) (fun _ => 0)).toArray 35)) (v_2.heap.size) 35 (gvals (fun _ => 0) 0 (fun _ => 0) (fun _ => 0)) := crow_new v_2 35 (gvals (fun _ => 0) 0 (fun _ => 0) (fun _ => 0))
        have a_3 := below_al (Below.refl _ v_2) (.cells (gvals (fun _ => 0) 0 (fun _ => 0) (fun _ => 0)).toArray 35)
        have g_3 := D_2.size
        have D_3 := below_tr D_2 a_3
        refine hK.out _ _ (hS _ D_3) (fun hHeld => ?_)
        clear hK K
        try simp only [Act.put, List.getElem_toArray, List.getElem_cons_zero, List.getElem_cons_succ, List.setIfInBounds_toArray, List.set_cons_zero, List.set_cons_succ]
        refine Ru.wpAnyU_ready (rs := [9]) (by kernel_rfl) (by simp) ?_
        refine Ru.AllReadyU.cons rfl (by kernel_rfl) (fun K hK => ?_) Ru.AllReadyU.nil
        refine Ru.stepC Up.isG (by kernel_rfl) _ _ (by rfl) (v_2.heap.size) _ (gvals V 2 zL d) (by rfl) (by rfl) n_3 (gvals_len _ _ _ _) (gvals_len _ _ _ _) (one_gvals _ _ _ _) ?_
        have nE := CRow.row n_3 (gvals V 2 zL d)
        have xE := CRow.rowOther (hS _ D_3).1 (g := v_2.heap.size) (by omega) (gvals V 2 zL d).toArray
        have yE := CRow.rowOther (hS _ D_3).2 (g := v_2.heap.size) (by omega) (gvals V 2 zL d).toArray
        have bE := St.below_row D_3 (g := v_2.heap.size) (by omega) (gvals V 2 zL d).toArray
        refine hK.out _ _ ⟨xE, yE⟩ (fun hHeld => ?_)
        clear hK K
        try simp only [Act.put, List.getElem_toArray, List.getElem_cons_zero, List.getElem_cons_succ, List.setIfInBounds_toArray, List.set_cons_zero, List.set_cons_succ]
        refine Ru.wpAnyU_take (i := 10) (v := .bool ob) rfl (by kernel_rfl) (by kernel_rfl) (by kernel_rfl) (by kernel_rfl) (by kernel_rfl) (by kernel_rfl) (fun _ _ _ h => h) (Or.inl ⟨by kernel_rfl, fun w hS => by obtain ⟨sc0, sc1⟩ := hS; go_simp⟩) hHeld ?_
        simp only [Act.put, List.getElem_toArray, List.getElem_cons_zero, List.getElem_cons_succ, List.setIfInBounds_toArray, List.set_cons_zero, List.set_cons_succ]
        refine Ru.wpAnyU_take (i := 11) (v := .nilIface) rfl (by kernel_rfl) (by kernel_rfl) (by kernel_rfl) (by kernel_rfl) (by kernel_rfl) (by kernel_rfl) (fun _ _ _ h => h) (Or.inl ⟨by kernel_rfl, fun w hS => by obtain ⟨sc0, sc1⟩ := hS; go_simp⟩) hHeld ?_
        simp only [Act.put, List.getElem_toArray, List.getElem_cons_zero, List.getElem_cons_succ, List.setIfInBounds_toArray, List.set_cons_zero, List.set_cons_succ]
        refine Ru.wpAnyU_done (by kernel_rfl) ?_
        go_wp2_with fail
        go_meet
        exact ⟨_, rfl, rfl, rfl, nE, bE⟩
      refine Ru.AllReadyU.cons rfl (by kernel_rfl) (fun K hK => ?_) Ru.AllReadyU.nil
      go_simp
      try rw [zeroG]
      have n_4 : CRow (v_1.alloc (.cells (gvals (fun _ => 0) 0 (fun _ => 0) (fun _ => 0)).toArray 35)) (v_1.heap.size) 35 (gvals (fun _ => 0) 0 (fun _ => 0) (fun _ => 0)) := crow_new v_1 35 (gvals (fun _ => 0) 0 (fun _ => 0) (fun _ => 0))
      have a_4 := below_al (Below.refl _ v_1) (.cells (gvals (fun _ => 0) 0 (fun _ => 0) (fun _ => 0)).toArray 35)
      have g_4 := D_1.size
      have D_4 := below_tr D_1 a_4
      refine hK.out _ _ (hS _ D_4) (fun hHeld => ?_)
      clear hK K
      try simp only [Act.put, List.getElem_toArray, List.getElem_cons_zero, List.getElem_cons_succ, List.setIfInBounds_toArray, List.set_cons_zero, List.set_cons_succ]
      refine Ru.wpAnyU_ready (rs := [3]) (by kernel_rfl) (by simp) ?_
      refine Ru.AllReadyU.cons rfl (by kernel_rfl) (fun K hK => ?_) Ru.AllReadyU.nil
      go_simp
      refine (HN.out _).mono ?_
      rintro e v_5 ⟨rfl, k_5⟩
      have D_5 := below_tr D_4 k_5
      have n_5 := CRow.keep n_4 k_5
      go_wp2_with fail
      refine hK.out _ _ (hS _ D_5) (fun hHeld => ?_)
      clear hK K
      try simp only [Act.put, List.getElem_toArray, List.getElem_cons_zero, List.getElem_cons_succ, List.setIfInBounds_toArray, List.set_cons_zero, List.set_cons_succ]
      refine Ru.wpAnyU_take (i := 4) (v := .tuple #[.agg (gvals V 2 zL d).toArray, .bool ob, .nilIface]) rfl (by kernel_rfl) (by kernel_rfl) (by kernel_rfl) (by kernel_rfl) (by kernel_rfl) (by kernel_rfl) (fun _ _ _ h => h) (Or.inl ⟨by kernel_rfl, fun w hS => by obtain ⟨sc0, sc1⟩ := hS; go_simp⟩) hHeld ?_
      simp only [Act.put, List.getElem_toArray, List.getElem_cons_zero, List.getElem_cons_succ, List.setIfInBounds_toArray, List.set_cons_zero, List.set_cons_succ]
      refine Ru.wpAnyU_take (i := 5) (v := .agg (gvals V 2 zL d).toArray) rfl (by kernel_rfl) (by kernel_rfl) (by kernel_rfl) (by kernel_rfl) (by kernel_rfl) (by kernel_rfl) (fun _ _ _ h => h) (Or.inl ⟨by kernel_rfl, fun w hS => by obtain ⟨sc0, sc1⟩ := hS; go_simp⟩) hHeld ?_
      simp only [Act.put, List.getElem_toArray, List.getElem_cons_zero, List.getElem_cons_succ, List.setIfInBounds_toArray, List.set_cons_zero, List.set_cons_succ]
      refine Ru.wpAnyU_take (i := 6) (v := .bool ob) rfl (by kernel_rfl) (by kernel_rfl) (by kernel_rfl) (by kernel_rfl) (by kernel_rfl) (by kernel_rfl) (fun _ _ _ h => h) (Or.inl ⟨by kernel_rfl, fun w hS => by obtain ⟨sc0, sc1⟩ := hS; go_simp⟩) hHeld ?_
      simp only [Act.put, List.getElem_toArray, List.getElem_cons_zero, List.getElem_cons_succ, List.setIfInBounds_toArray, List.set_cons_zero, List.set_cons_succ]
      refine Ru.wpAnyU_take (i := 7) (v := .nilIface) rfl (by kernel_rfl) (by kernel_rfl) (by kernel_rfl) (by kernel_rfl) (by kernel_rfl) (by kernel_rfl) (fun _ _ _ h => h) (Or.inl ⟨by kernel_rfl, fun w hS => by obtain ⟨sc0, sc1⟩ := hS; go_simp⟩) hHeld ?_
      simp only [Act.put, List.getElem_toArray, List.getElem_cons_zero, List.getElem_cons_succ, List.setIfInBounds_toArray, List.set_cons_zero, List.set_cons_succ]
      refine Ru.wpAnyU_ready (rs := [9]) (by kernel_rfl) (by simp) ?_
      refine Ru.AllReadyU.cons rfl (by kernel_rfl) (fun K hK => ?_) Ru.AllReadyU.nil
      refine Ru.stepC Up.isG (by kernel_rfl) _ _ (by rfl) (v_1.heap.size) _ (gvals V 2 zL d) (by rfl) (by rfl) n_5 (gvals_len _ _ _ _) (gvals_len _ _ _ _) (one_gvals _ _ _ _) ?_
      have nE := CRow.row n_5 (gvals V 2 zL d)
      have xE := CRow.rowOther (hS _ D_5).1 (g := v_1.heap.size) (by omega) (gvals V 2 zL d).toArray
      have yE := CRow.rowOther (hS _ D_5).2 (g := v_1.heap.size) (by omega) (gvals V 2 zL d).toArray
      have bE := St.below_row D_5 (g := v_1.heap.size) (by omega) (gvals V 2 zL d).toArray
      refine hK.out _ _ ⟨xE, yE⟩ (fun hHeld => ?_)
      clear hK K
      try simp only [Act.put, List.getElem_toArray, List.getElem_cons_zero, List.getElem_cons_succ, List.setIfInBounds_toArray, List.set_cons_zero, List.set_cons_succ]
      refine Ru.wpAnyU_take (i := 10) (v := .bool ob) rfl (by kernel_rfl) (by kernel_rfl) (by kernel_rfl) (by kernel_rfl) (by kernel_rfl) (by kernel_rfl) (fun _ _ _ h => h) (Or.inl ⟨by kernel_rfl, fun w hS => by obtain ⟨sc0, sc1⟩ := hS; go_simp⟩) hHeld ?_
      simp only [Act.put, List.getElem_toArray, List.getElem_cons_zero, List.getElem_cons_succ, List.setIfInBounds_toArray, List.set_cons_zero, List.set_cons_succ]
      refine Ru.wpAnyU_take (i := 11) (v := .nilIface) rfl (by kernel_rfl) (by kernel_rfl) (by kernel_rfl) (by kernel_rfl) (by kernel_rfl) (by kernel_rfl) (fun _ _ _ h => h) (Or.inl ⟨by kernel_rfl, fun w hS => by obtain ⟨sc0, sc1⟩ := hS; go_simp⟩) hHeld ?_
      simp only [Act.put, List.getElem_toArray, List.getElem_cons_zero, List.getElem_cons_succ, List.setIfInBounds_toArray, List.set_cons_zero, List.set_cons_succ]
      refine Ru.wpAnyU_done (by kernel_rfl) ?_
      go_wp2_with fail
      go_meet
      exact ⟨_, rfl, rfl, rfl, nE, bE⟩
    refine Ru.AllReadyU.cons rfl (by kernel_rfl) (fun K hK => ?_) Ru.AllReadyU.nil
    go_simp
    try rw [zeroG]
    have n_6 : CRow (W.drew.alloc (.cells (gvals (fun _ => 0) 0 (fun _ => 0) (fun _ => 0)).toArray 35)) (W.heap.size) 35 (gvals (fun _ => 0) 0 (fun _ => 0) (fun _ => 0)) := crow_new W.drew 35 (gvals (fun _ => 0) 0 (fun _ => 0) (fun _ => 0))
    have a_6 := below_al (Below.refl _ W.drew) (.cells (gvals (fun _ => 0) 0 (fun _ => 0) (fun _ => 0)).toArray 35)
    have g_6 := (Vc.below_drew' W).size
    have e_6 : W.drew.heap.size = W.heap.size := rfl
    have D_6 := below_tr (Vc.below_drew' W) a_6
    refine hK.out _ _ (hS _ D_6) (fun hHeld => ?_)
    clear hK K
    try simp only [Act.put, List.getElem_toArray, List.getElem_cons_zero, List.getElem_cons_succ, List.setIfInBounds_toArray, List.set_cons_zero, List.set_cons_succ]
    refine Ru.wpAnyU_ready (rs := [1]) (by kernel_rfl) (by simp) ?_
    refine Ru.AllReadyU.cons rfl (by kernel_rfl) (fun K hK => ?_) Ru.AllReadyU.nil
    go_simp
    refine (HG.out _ (below_tr KQ.out D_6)).mono ?_
    rintro e v_7 ⟨rfl, k_7⟩
    have D_7 := below_tr D_6 k_7
    have n_7 := CRow.keep n_6 k_7
    go_wp2_with fail
    refine hK.out _ _ (hS _ D_7) (fun hHeld => ?_)
    clear hK K
    try simp only [Act.put, List.getElem_toArray, List.getElem_cons_zero, List.getElem_cons_succ, List.setIfInBounds_toArray, List.set_cons_zero, List.set_cons_succ]
    refine Ru.wpAnyU_ready (rs := [3]) (by kernel_rfl) (by simp) ?_
    refine Ru.AllReadyU.cons rfl (by kernel_rfl) (fun K hK => ?_) Ru.AllReadyU.nil
    go_simp
    refine (HN.out _).mono ?_
    rintro e v_8 ⟨rfl, k_8⟩
    have D_8 := below_tr D_7 k_8
    have n_8 := CRow.keep n_7 k_8
    go_wp2_with fail
    refine hK.out _ _ (hS _ D_8) (fun hHeld => ?_)
    clear hK K
    try simp only [Act.put, List.getElem_toArray, List.getElem_cons_zero, List.getElem_cons_succ, List.setIfInBounds_toArray, List.set_cons_zero, List.set_cons_succ]
    refine Ru.wpAnyU_take (i := 4) (v := .tuple #[.agg (gvals V 2 zL d).toArray, .bool ob, .nilIface]) rfl (by kernel_rfl) (by kernel_rfl) (by kernel_rfl) (by kernel_rfl) (by kernel_rfl) (by kernel_rfl) (fun _ _ _ h => h) (Or.inl ⟨by kernel_rfl, fun w hS => by obtain ⟨sc0, sc1⟩ := hS; go_simp⟩) hHeld ?_
    simp only [Act.put, List.getElem_toArray, List.getElem_cons_zero, List.getElem_cons_succ, List.setIfInBounds_toArray, List.set_cons_zero, List.set_cons_succ]
    refine Ru.wpAnyU_take (i := 5) (v := .agg (gvals V 2 zL d).toArray) rfl (by kernel_rfl) (by kernel_rfl) (by kernel_rfl) (by kernel_rfl) (by kernel_rfl) (by kernel_rfl) (fun _ _ _ h => h) (Or.inl ⟨by kernel_rfl, fun w hS => by obtain ⟨sc0, sc1⟩ := hS; go_simp⟩) hHeld ?_
    simp only [Act.put, List.getElem_toArray, List.getElem_cons_zero, List.getElem_cons_succ, List.setIfInBounds_toArray, List.set_cons_zero, List.set_cons_succ]
    refine Ru.wpAnyU_take (i := 6) (v := .bool ob) rfl (by kernel_rfl) (by kernel_rfl) (by kernel_rfl) (by kernel_rfl) (by kernel_rfl) (by kernel_rfl) (fun _ _ _ h => h) (Or.inl ⟨by kernel_rfl, fun w hS => by obtain ⟨sc0, sc1⟩ := hS; go_simp⟩) hHeld ?_
    simp only [Act.put, List.getElem_toArray, List.getElem_cons_zero, List.getElem_cons_succ, List.setIfInBounds_toArray, List.set_cons_zero, List.set_cons_succ]
    refine Ru.wpAnyU_take (i := 7) (v := .nilIface) rfl (by kernel_rfl) (by kernel_rfl) (by kernel_rfl) (by kernel_rfl) (by kernel_rfl) (by kernel_rfl) (fun _ _ _ h => h) (Or.inl ⟨by kernel_rfl, fun w hS => by obtain ⟨sc0, sc1⟩ := hS; go_simp⟩) hHeld ?_
    simp only [Act.put, List.getElem_toArray, List.getElem_cons_zero, List.getElem_cons_succ, List.setIfInBounds_toArray, List.set_cons_zero, List.set_cons_succ]
    refine Ru.wpAnyU_ready (rs := [9]) (by kernel_rfl) (by simp) ?_
    refine Ru.AllReadyU.cons rfl (by kernel_rfl) (fun K hK => ?_) Ru.AllReadyU.nil
    refine Ru.stepC Up.isG (by kernel_rfl) _ _ (by rfl) (W.heap.size) _ (gvals V 2 zL d) (by rfl) (by rfl) n_8 (gvals_len _ _ _ _) (gvals_len _ _ _ _) (one_gvals _ _ _ _) ?_
    have nE := CRow.row n_8 (gvals V 2 zL d)
    have xE := CRow.rowOther (hS _ D_8).1 (g := W.heap.size) (by omega) (gvals V 2 zL d).toArray
    have yE := CRow.rowOther (hS _ D_8).2 (g := W.heap.size) (by omega) (gvals V 2 zL d).toArray
    have bE := St.below_row D_8 (g := W.heap.size) (by omega) (gvals V 2 zL d).toArray
    refine hK.out _ _ ⟨xE, yE⟩ (fun hHeld => ?_)
    clear hK K
    try simp only [Act.put, List.getElem_toArray, List.getElem_cons_zero, List.getElem_cons_succ, List.setIfInBounds_toArray, List.set_cons_zero, List.set_cons_succ]
    refine Ru.wpAnyU_take (i := 10) (v := .bool ob) rfl (by kernel_rfl) (by kernel_rfl) (by kernel_rfl) (by kernel_rfl) (by kernel_rfl) (by kernel_rfl) (fun _ _ _ h => h) (Or.inl ⟨by kernel_rfl, fun w hS => by obtain ⟨sc0, sc1⟩ := hS; go_simp⟩) hHeld ?_
    simp only [Act.put, List.getElem_toArray, List.getElem_cons_zero, List.getElem_cons_succ, List.setIfInBounds_toArray, List.set_cons_zero, List.set_cons_succ]
    refine Ru.wpAnyU_take (i := 11) (v := .nilIface) rfl (by kernel_rfl) (by kernel_rfl) (by kernel_rfl) (by kernel_rfl) (by kernel_rfl) (by kernel_rfl) (fun _ _ _ h => h) (Or.inl ⟨by kernel_rfl, fun w hS => by obtain ⟨sc0, sc1⟩ := hS; go_simp⟩) hHeld ?_
    simp only [Act.put, List.getElem_toArray, List.getElem_cons_zero, List.getElem_cons_succ, List.setIfInBounds_toArray, List.set_cons_zero, List.set_cons_succ]
    refine Ru.wpAnyU_done (by kernel_rfl) ?_
    go_wp2_with fail
    go_meet
    exact ⟨_, rfl, rfl, rfl, nE, bE⟩
  rename World => wc
  obtain ⟨gn, rfl, rfl, rfl, nc, kc⟩ := hcut
  have KC := below_tr B0 kc
  have mc := CRow.keep m0 kc
  have pc_ := CRow.keep p0 kc
  clear m0 p0 B0 kc c0 HN HG HW
  go_wp2_with (first
    | ((with_reducible show wpList _ _ _ _ _ _); refine St.wpList_load Up.isG (by rfl) _ (by rfl) _ _ (by rfl) (by with_reducible exact nc) (gvals_len _ _ _ _) ?_)
    | fail)
  refine (HF.out _).mono ?_
  rintro e wq1 ⟨rfl, kq1⟩
  have KK1 := below_tr KC kq1
  have m_1 := CRow.keep mc kq1
  have p_1 := CRow.keep pc_ kq1
  have n_1 := CRow.keep nc kq1
  clear KC mc pc_ nc
  go_wp2_with (first
    | ((with_reducible show wpList _ _ _ _ _ _); refine St.wpList_load isSt (by rfl) _ (by rfl) _ _ (by rfl) (by with_reducible exact m_1) rfl ?_)
    | ((with_reducible show wpList _ _ _ _ _ _); refine St.wpList_load isSeen (by rfl) _ (by rfl) _ _ (by rfl) (by with_reducible exact p_1) rfl ?_)
    | fail)
  refine (HD.out _ KK1).mono ?_
  rintro e wq2 ⟨gv, lo, cl, do', cd, rfl, hY, kq2⟩
  have KK2 := below_tr KK1 kq2
  have n_2 := CRow.keep n_1 kq2
  clear KK1 n_1
  go_wp2_with (first
    | ((with_reducible show wpList _ _ _ _ _ _); refine St.wpList_storeNew isGap rfl _ _ (by rfl) _ [.slice none 0 0, .slice none 0 0, .slice none 0 0] _ (by rfl) (by rfl) rfl rfl (by intro v hv; simp only [List.mem_cons, List.not_mem_nil, or_false] at hv; rcases hv with rfl | rfl | rfl <;> rfl) ?_; intro ws3 ns3 ks3; have KK3 := below_tr KK2 ks3; have n_3 := CRow.keep n_2 ks3; clear KK2 n_2)
    | fail)
  refine (num_nil _).mono ?_
  rintro e wq4 ⟨rfl, kq4⟩
  have KK4 := below_tr KK3 kq4
  have n_4 := CRow.keep n_3 kq4
  have y_4 := CRow.keep ns3 kq4
  clear KK3 n_3 ns3
  obtain ⟨sV, gL, sD⟩ := hY
  have kz := below_tr ks3 kq4
  have sV1 := sV.keep kz
  have gL1 := gL.keep kz
  have sD1 := sD.keep kz
  have nz := n_4
  have yz := y_4
  have Kz := KK4
  obtain ⟨gd, hgd⟩ : ∃ g, g = wq2.heap.size := ⟨_, rfl⟩
  rw [← hgd] at yz ⊢
  obtain ⟨wz, hwz⟩ : ∃ W, W = wq4 := ⟨_, rfl⟩
  rw [← hwz] at sV1 gL1 sD1 nz yz Kz ⊢
  obtain ⟨A, C, gl1, gl2⟩ := gL1
  obtain ⟨la, hla, hlc⟩ := gl1.get
  obtain rfl := hla (by omega)
  have ll1 := gl1.le
  have ll2 := gl1.cap
  obtain ⟨r0, hr0, hc0⟩ := (gl2 0 (by omega)).get
  obtain ⟨r1, hr1, hc1⟩ := (gl2 1 (by omega)).get
  have la0 := hlc 0 (by omega)
  have la1 := hlc 1 (by omega)
  have lz0 := (gl2 0 (by omega)).le
  have lz1 := (gl2 1 (by omega)).le
  have lc0 := (gl2 0 (by omega)).cap
  have lc1 := (gl2 1 (by omega)).cap
  rw [hr0 (by omega), Ud.addr0] at la0
  rw [hr1 (by omega)] at la1
  have e00 := hc0 0 (by omega)
  have e10 := hc1 0 (by omega)
  have e11 := hc1 1 (by omega)
  rw [Ud.addr0] at e00 e10
  obtain ⟨c0', hc0'⟩ : ∃ q, q = C 0 := ⟨_, rfl⟩
  obtain ⟨c1', hc1'⟩ : ∃ q, q = C 1 := ⟨_, rfl⟩
  rw [← hc0'] at la0 lz0 lc0
  rw [← hc1'] at la1 lz1 lc1
  obtain ⟨l00, hl00⟩ : ∃ q, q = L 0 0 := ⟨_, rfl⟩
  obtain ⟨l10, hl10⟩ : ∃ q, q = L 1 0 := ⟨_, rfl⟩
  obtain ⟨l11, hl11⟩ : ∃ q, q = L 1 1 := ⟨_, rfl⟩
  rw [← hl00] at e00 H4
  rw [← hl10] at e10 H4
  rw [← hl11] at e11 H4
  have y0 : wz.cell? ⟨gd, 0, none⟩ = some (.slice (some ⟨gv, 0, none⟩) 2 2) := CRow.cell yz (k := 0) rfl rfl
  have y1 : wz.cell? ⟨gd, 1, none⟩ = some (.slice (some la) 2 cl) := CRow.cell yz (k := 1) rfl rfl
  have y2 : wz.cell? ⟨gd, 2, none⟩ = some (.slice do' 2 cd) := CRow.cell yz (k := 2) rfl rfl
  have al2 := fun U => all2 gn U
  have ah36 := fun U => head36 gn U
  have ah6 := fun U => head6 gn U
  have HS : Hid (∀ U, Below wz.heap.size wz U → (U.cell? ⟨gn, 2, none⟩ = some (.int .i64 2) ∧ U.cell? ⟨gd, 0, none⟩ = some (.slice (some ⟨gv, 0, none⟩) 2 2) ∧ U.cell? ⟨gd, 1, none⟩ = some (.slice (some la) 2 cl) ∧ U.cell? ⟨gd, 2, none⟩ = some (.slice do' 2 cd) ∧ U.cell? la = some (.slice (some r0) 2 c0') ∧ U.cell? (la.add 1) = some (.slice (some r1) 2 c1') ∧ U.cell? r0 = some (.int .i64 l00) ∧ U.cell? r1 = some (.int .i64 l10) ∧ U.cell? (r1.add 1) = some (.int .i64 l11))) := fun U k => ⟨keep_cell k (GRow.n nz), keep_cell k y0, keep_cell k y1, keep_cell k y2, keep_cell k la0, keep_cell k la1, keep_cell k e00, keep_cell k e10, keep_cell k e11⟩
  have HNZ := Ud.hide nz
  have HSV := Ud.hide sV1
  have HSD := Ud.hide sD1
  have rf := GRow.rf nz
  clear hgd hwz hla hlc hr0 hr1 hc0 hc1 hc0' hc1' hl00 hl10 hl11 gl1 gl2 la0 la1 e00 e10 e11 y0 y1 y2 sV gL sD kz
  go_upto_region 10 with fail
  refine Ru.wp_region_U [] (fun w' => w'.cell? ⟨gn, 2, none⟩ = some (.int .i64 2) ∧ w'.cell? ⟨gd, 0, none⟩ = some (.slice (some ⟨gv, 0, none⟩) 2 2) ∧ w'.cell? ⟨gd, 1, none⟩ = some (.slice (some la) 2 cl) ∧ w'.cell? ⟨gd, 2, none⟩ = some (.slice do' 2 cd) ∧ w'.cell? la = some (.slice (some r0) 2 c0') ∧ w'.cell? (la.add 1) = some (.slice (some r1) 2 c1') ∧ w'.cell? r0 = some (.int .i64 l00) ∧ w'.cell? r1 = some (.int .i64 l10) ∧ w'.cell? (r1.add 1) = some (.int .i64 l11)) (by kernel_rfl) (HS.out _ (Vc.below_drew' _)) (fun hHeld => ?_)
  refine Ru.wpAnyU_take (i := 0) (v := .pointer (some ⟨gn, 0, none⟩)) rfl (by kernel_rfl) (by kernel_rfl) (by kernel_rfl) (by kernel_rfl) (by kernel_rfl) (by kernel_rfl) (fun _ _ _ h => h) (Or.inl ⟨by kernel_rfl, fun w hS => by obtain ⟨sc0, sc1, sc2, sc3, sc4, sc5, sc6, sc7, sc8⟩ := hS; go_simp⟩) hHeld ?_
  simp only [Act.put, List.getElem_toArray, List.getElem_cons_zero, List.getElem_cons_succ, List.setIfInBounds_toArray, List.set_cons_zero, List.set_cons_succ]
  refine Ru.wpAnyU_take (i := 1) (v := .slice (some ⟨gn, 0, none⟩) 2 2) rfl (by kernel_rfl) (by kernel_rfl) (by kernel_rfl) (by kernel_rfl) (by kernel_rfl) (by kernel_rfl) (fun _ _ _ h => h) (Or.inl ⟨by kernel_rfl, fun w hS => by obtain ⟨sc0, sc1, sc2, sc3, sc4, sc5, sc6, sc7, sc8⟩ := hS; go_simp⟩) hHeld ?_
  simp only [Act.put, List.getElem_toArray, List.getElem_cons_zero, List.getElem_cons_succ, List.setIfInBounds_toArray, List.set_cons_zero, List.set_cons_succ]
  refine Ru.wpAnyU_take (i := 2) (v := .pointer (some ⟨gd, 0, none⟩)) rfl (by kernel_rfl) (by kernel_rfl) (by kernel_rfl) (by kernel_rfl) (by kernel_rfl) (by kernel_rfl) (fun _ _ _ h => h) (Or.inl ⟨by kernel_rfl, fun w hS => by obtain ⟨sc0, sc1, sc2, sc3, sc4, sc5, sc6, sc7, sc8⟩ := hS; go_simp⟩) hHeld ?_
  simp only [Act.put, List.getElem_toArray, List.getElem_cons_zero, List.getElem_cons_succ, List.setIfInBounds_toArray, List.set_cons_zero, List.set_cons_succ]
  refine Ru.wpAnyU_take (i := 3) (v := .slice (some ⟨gv, 0, none⟩) 2 2) rfl (by kernel_rfl) (by kernel_rfl) (by kernel_rfl) (by kernel_rfl) (by kernel_rfl) (by kernel_rfl) (fun _ _ _ h => h) (Or.inl ⟨by kernel_rfl, fun w hS => by obtain ⟨sc0, sc1, sc2, sc3, sc4, sc5, sc6, sc7, sc8⟩ := hS; go_simp⟩) hHeld ?_
  simp only [Act.put, List.getElem_toArray, List.getElem_cons_zero, List.getElem_cons_succ, List.setIfInBounds_toArray, List.set_cons_zero, List.set_cons_succ]
  refine Ru.wpAnyU_ready (rs := [4]) (by kernel_rfl) (by simp) ?_
  refine Ru.AllReadyU.cons rfl (by kernel_rfl) (fun K hK => ?_) Ru.AllReadyU.nil
  go_simp
  refine (nums_yes _ _ 2 _ _ V _ (GRow.sl (CRow.keep HNZ.out (Vc.below_drew' wz))) (HSV.out.keep (Vc.below_drew' wz))).mono ?_
  rintro e u_1 ⟨rfl, k_1⟩
  have D_1 := below_tr (Vc.below_drew' wz) k_1
  go_wp2_with fail
  refine hK.out _ _ (HS.out _ D_1) (fun hHeld => ?_)
  clear hK K
  try simp only [Act.put, List.getElem_toArray, List.getElem_cons_zero, List.getElem_cons_succ, List.setIfInBounds_toArray, List.set_cons_zero, List.set_cons_succ]
  refine Ru.wpAnyU_take (i := 5) (v := .bool false) rfl (by kernel_rfl) (by kernel_rfl) (by kernel_rfl) (by kernel_rfl) (by kernel_rfl) (by kernel_rfl) (fun _ _ _ h => h) (Or.inl ⟨by kernel_rfl, fun w hS => by obtain ⟨sc0, sc1, sc2, sc3, sc4, sc5, sc6, sc7, sc8⟩ := hS; go_simp⟩) hHeld ?_
  simp only [Act.put, List.getElem_toArray, List.getElem_cons_zero, List.getElem_cons_succ, List.setIfInBounds_toArray, List.set_cons_zero, List.set_cons_succ]
  refine Ru.wpAnyU_take (i := 6) (v := .bool false) rfl (by kernel_rfl) (by kernel_rfl) (by kernel_rfl) (by kernel_rfl) (by kernel_rfl) (by kernel_rfl) (fun _ _ _ h => h) (Or.inl ⟨by kernel_rfl, fun w hS => by obtain ⟨sc0, sc1, sc2, sc3, sc4, sc5, sc6, sc7, sc8⟩ := hS; go_simp⟩) hHeld ?_
  simp only [Act.put, List.getElem_toArray, List.getElem_cons_zero, List.getElem_cons_succ, List.setIfInBounds_toArray, List.set_cons_zero, List.set_cons_succ]
  refine Ru.wpAnyU_take (i := 7) (v := .pointer (some ⟨gn, 2, none⟩)) rfl (by kernel_rfl) (by kernel_rfl) (by kernel_rfl) (by kernel_rfl) (by kernel_rfl) (by kernel_rfl) (fun _ _ _ h => h) (Or.inl ⟨by kernel_rfl, fun w hS => by obtain ⟨sc0, sc1, sc2, sc3, sc4, sc5, sc6, sc7, sc8⟩ := hS; go_simp⟩) hHeld ?_
  simp only [Act.put, List.getElem_toArray, List.getElem_cons_zero, List.getElem_cons_succ, List.setIfInBounds_toArray, List.set_cons_zero, List.set_cons_succ]
  refine Ru.wpAnyU_take (i := 8) (v := .pointer (some ⟨gn, 2, none⟩)) rfl (by kernel_rfl) (by kernel_rfl) (by kernel_rfl) (by kernel_rfl) (by kernel_rfl) (by kernel_rfl) (fun _ _ _ h => h) (Or.inl ⟨by kernel_rfl, fun w hS => by obtain ⟨sc0, sc1, sc2, sc3, sc4, sc5, sc6, sc7, sc8⟩ := hS; go_simp⟩) hHeld ?_
  simp only [Act.put, List.getElem_toArray, List.getElem_cons_zero, List.getElem_cons_succ, List.setIfInBounds_toArray, List.set_cons_zero, List.set_cons_succ]
  refine Ru.wpAnyU_take (i := 9) (v := .int .i64 2) rfl (by kernel_rfl) (by kernel_rfl) (by kernel_rfl) (by kernel_rfl) (by kernel_rfl) (by kernel_rfl) (fun _ _ _ h => h) (Or.inl ⟨by kernel_rfl, fun w hS => by obtain ⟨sc0, sc1, sc2, sc3, sc4, sc5, sc6, sc7, sc8⟩ := hS; go_simp⟩) hHeld ?_
  simp only [Act.put, List.getElem_toArray, List.getElem_cons_zero, List.getElem_cons_succ, List.setIfInBounds_toArray, List.set_cons_zero, List.set_cons_succ]
  refine Ru.wpAnyU_take (i := 10) (v := .bool false) rfl (by kernel_rfl) (by kernel_rfl) (by kernel_rfl) (by kernel_rfl) (by kernel_rfl) (by kernel_rfl) (fun _ _ _ h => h) (Or.inl ⟨by kernel_rfl, fun w hS => by obtain ⟨sc0, sc1, sc2, sc3, sc4, sc5, sc6, sc7, sc8⟩ := hS; go_simp⟩) hHeld ?_
  simp only [Act.put, List.getElem_toArray, List.getElem_cons_zero, List.getElem_cons_succ, List.setIfInBounds_toArray, List.set_cons_zero, List.set_cons_succ]
  refine Ru.wpAnyU_take (i := 11) (v := .bool false) rfl (by kernel_rfl) (by kernel_rfl) (by kernel_rfl) (by kernel_rfl) (by kernel_rfl) (by kernel_rfl) (fun _ _ _ h => h) (Or.inl ⟨by kernel_rfl, fun w hS => by obtain ⟨sc0, sc1, sc2, sc3, sc4, sc5, sc6, sc7, sc8⟩ := hS; go_simp⟩) hHeld ?_
  simp only [Act.put, List.getElem_toArray, List.getElem_cons_zero, List.getElem_cons_succ, List.setIfInBounds_toArray, List.set_cons_zero, List.set_cons_succ]
  refine Ru.wpAnyU_take (i := 12) (v := .bool false) rfl (by kernel_rfl) (by kernel_rfl) (by kernel_rfl) (by kernel_rfl) (by kernel_rfl) (by kernel_rfl) (fun _ _ _ h => h) (Or.inl ⟨by kernel_rfl, fun w hS => by obtain ⟨sc0, sc1, sc2, sc3, sc4, sc5, sc6, sc7, sc8⟩ := hS; go_simp⟩) hHeld ?_
  simp only [Act.put, List.getElem_toArray, List.getElem_cons_zero, List.getElem_cons_succ, List.setIfInBounds_toArray, List.set_cons_zero, List.set_cons_succ]
  refine Ru.wpAnyU_take (i := 13) (v := .pointer (some ⟨gn, 2, none⟩)) rfl (by kernel_rfl) (by kernel_rfl) (by kernel_rfl) (by kernel_rfl) (by kernel_rfl) (by kernel_rfl) (fun _ _ _ h => h) (Or.inl ⟨by kernel_rfl, fun w hS => by obtain ⟨sc0, sc1, sc2, sc3, sc4, sc5, sc6, sc7, sc8⟩ := hS; go_simp⟩) hHeld ?_
  simp only [Act.put, List.getElem_toArray, List.getElem_cons_zero, List.getElem_cons_succ, List.setIfInBounds_toArray, List.set_cons_zero, List.set_cons_succ]
  refine Ru.wpAnyU_take (i := 14) (v := .pointer (some ⟨gn, 39, none⟩)) rfl (by kernel_rfl) (by kernel_rfl) (by kernel_rfl) (by kernel_rfl) (by kernel_rfl) (by kernel_rfl) (fun _ _ _ h => h) (Or.inl ⟨by kernel_rfl, fun w hS => by obtain ⟨sc0, sc1, sc2, sc3, sc4, sc5, sc6, sc7, sc8⟩ := hS; go_simp⟩) hHeld ?_
  simp only [Act.put, List.getElem_toArray, List.getElem_cons_zero, List.getElem_cons_succ, List.setIfInBounds_toArray, List.set_cons_zero, List.set_cons_succ]
  refine Ru.wpAnyU_take (i := 15) (v := .slice (some ⟨gn, 39, none⟩) 2 6) rfl (by kernel_rfl) (by kernel_rfl) (by kernel_rfl) (by kernel_rfl) (by kernel_rfl) (by kernel_rfl) (fun _ _ _ h => h) (Or.inl ⟨by kernel_rfl, fun w hS => by obtain ⟨sc0, sc1, sc2, sc3, sc4, sc5, sc6, sc7, sc8⟩ := hS; go_simp⟩) hHeld ?_
  simp only [Act.put, List.getElem_toArray, List.getElem_cons_zero, List.getElem_cons_succ, List.setIfInBounds_toArray, List.set_cons_zero, List.set_cons_succ]
  refine Ru.wpAnyU_take (i := 16) (v := .pointer (some ⟨gd, 1, none⟩)) rfl (by kernel_rfl) (by kernel_rfl) (by kernel_rfl) (by kernel_rfl) (by kernel_rfl) (by kernel_rfl) (fun _ _ _ h => h) (Or.inl ⟨by kernel_rfl, fun w hS => by obtain ⟨sc0, sc1, sc2, sc3, sc4, sc5, sc6, sc7, sc8⟩ := hS; go_simp⟩) hHeld ?_
  simp only [Act.put, List.getElem_toArray, List.getElem_cons_zero, List.getElem_cons_succ, List.setIfInBounds_toArray, List.set_cons_zero, List.set_cons_succ]
  refine Ru.wpAnyU_take (i := 17) (v := .pointer (some ⟨gd, 2, none⟩)) rfl (by kernel_rfl) (by kernel_rfl) (by kernel_rfl) (by kernel_rfl) (by kernel_rfl) (by kernel_rfl) (fun _ _ _ h => h) (Or.inl ⟨by kernel_rfl, fun w hS => by obtain ⟨sc0, sc1, sc2, sc3, sc4, sc5, sc6, sc7, sc8⟩ := hS; go_simp⟩) hHeld ?_
  simp only [Act.put, List.getElem_toArray, List.getElem_cons_zero, List.getElem_cons_succ, List.setIfInBounds_toArray, List.set_cons_zero, List.set_cons_succ]
  refine Ru.wpAnyU_take (i := 18) (v := .slice do' 2 cd) rfl (by kernel_rfl) (by kernel_rfl) (by kernel_rfl) (by kernel_rfl) (by kernel_rfl) (by kernel_rfl) (fun _ _ _ h => h) (Or.inl ⟨by kernel_rfl, fun w hS => by obtain ⟨sc0, sc1, sc2, sc3, sc4, sc5, sc6, sc7, sc8⟩ := hS; go_simp⟩) hHeld ?_
  simp only [Act.put, List.getElem_toArray, List.getElem_cons_zero, List.getElem_cons_succ, List.setIfInBounds_toArray, List.set_cons_zero, List.set_cons_succ]
  refine Ru.wpAnyU_ready (rs := [19]) (by kernel_rfl) (by simp) ?_
  refine Ru.AllReadyU.cons rfl (by kernel_rfl) (fun K hK => ?_) Ru.AllReadyU.nil
  go_simp
  refine (nums_yes _ _ 2 _ _ d _ (GRow.d (CRow.keep HNZ.out D_1)) (HSD.out.keep D_1)).mono ?_
  rintro e u_2 ⟨rfl, k_2⟩
  have D_2 := below_tr D_1 k_2
  go_wp2_with fail
  refine hK.out _ _ (HS.out _ D_2) (fun hHeld => ?_)
  clear hK K
  try simp only [Act.put, List.getElem_toArray, List.getElem_cons_zero, List.getElem_cons_succ, List.setIfInBounds_toArray, List.set_cons_zero, List.set_cons_succ]
  refine Ru.wpAnyU_take (i := 20) (v := .bool false) rfl (by kernel_rfl) (by kernel_rfl) (by kernel_rfl) (by kernel_rfl) (by kernel_rfl) (by kernel_rfl) (fun _ _ _ h => h) (Or.inl ⟨by kernel_rfl, fun w hS => by obtain ⟨sc0, sc1, sc2, sc3, sc4, sc5, sc6, sc7, sc8⟩ := hS; go_simp⟩) hHeld ?_
  simp only [Act.put, List.getElem_toArray, List.getElem_cons_zero, List.getElem_cons_succ, List.setIfInBounds_toArray, List.set_cons_zero, List.set_cons_succ]
  refine Ru.wpAnyU_take (i := 21) (v := .bool false) rfl (by kernel_rfl) (by kernel_rfl) (by kernel_rfl) (by kernel_rfl) (by kernel_rfl) (by kernel_rfl) (fun _ _ _ h => h) (Or.inl ⟨by kernel_rfl, fun w hS => by obtain ⟨sc0, sc1, sc2, sc3, sc4, sc5, sc6, sc7, sc8⟩ := hS; go_simp⟩) hHeld ?_
  simp only [Act.put, List.getElem_toArray, List.getElem_cons_zero, List.getElem_cons_succ, List.setIfInBounds_toArray, List.set_cons_zero, List.set_cons_succ]
  refine Ru.wpAnyU_take (i := 22) (v := .bool false) rfl (by kernel_rfl) (by kernel_rfl) (by kernel_rfl) (by kernel_rfl) (by kernel_rfl) (by kernel_rfl) (fun _ _ _ h => h) (Or.inl ⟨by kernel_rfl, fun w hS => by obtain ⟨sc0, sc1, sc2, sc3, sc4, sc5, sc6, sc7, sc8⟩ := hS; go_simp⟩) hHeld ?_
  simp only [Act.put, List.getElem_toArray, List.getElem_cons_zero, List.getElem_cons_succ, List.setIfInBounds_toArray, List.set_cons_zero, List.set_cons_succ]
  refine Ru.wpAnyU_take (i := 23) (v := .pointer (some ⟨gn, 2, none⟩)) rfl (by kernel_rfl) (by kernel_rfl) (by kernel_rfl) (by kernel_rfl) (by kernel_rfl) (by kernel_rfl) (fun _ _ _ h => h) (Or.inl ⟨by kernel_rfl, fun w hS => by obtain ⟨sc0, sc1, sc2, sc3, sc4, sc5, sc6, sc7, sc8⟩ := hS; go_simp⟩) hHeld ?_
  simp only [Act.put, List.getElem_toArray, List.getElem_cons_zero, List.getElem_cons_succ, List.setIfInBounds_toArray, List.set_cons_zero, List.set_cons_succ]
  refine Ru.wpAnyU_take (i := 24) (v := .pointer (some ⟨gn, 3, none⟩)) rfl (by kernel_rfl) (by kernel_rfl) (by kernel_rfl) (by kernel_rfl) (by kernel_rfl) (by kernel_rfl) (fun _ _ _ h => h) (Or.inl ⟨by kernel_rfl, fun w hS => by obtain ⟨sc0, sc1, sc2, sc3, sc4, sc5, sc6, sc7, sc8⟩ := hS; go_simp⟩) hHeld ?_
  simp only [Act.put, List.getElem_toArray, List.getElem_cons_zero, List.getElem_cons_succ, List.setIfInBounds_toArray, List.set_cons_zero, List.set_cons_succ]
  refine Ru.wpAnyU_take (i := 25) (v := .slice (some ⟨gn, 3, none⟩) 4 36) rfl (by kernel_rfl) (by kernel_rfl) (by kernel_rfl) (by kernel_rfl) (by kernel_rfl) (by kernel_rfl) (fun _ _ _ h => h) (Or.inl ⟨by kernel_rfl, fun w hS => by obtain ⟨sc0, sc1, sc2, sc3, sc4, sc5, sc6, sc7, sc8⟩ := hS; go_simp⟩) hHeld ?_
  simp only [Act.put, List.getElem_toArray, List.getElem_cons_zero, List.getElem_cons_succ, List.setIfInBounds_toArray, List.set_cons_zero, List.set_cons_succ]
  refine Ru.wpAnyU_take (i := 26) (v := .pointer (some ⟨gd, 1, none⟩)) rfl (by kernel_rfl) (by kernel_rfl) (by kernel_rfl) (by kernel_rfl) (by kernel_rfl) (by kernel_rfl) (fun _ _ _ h => h) (Or.inl ⟨by kernel_rfl, fun w hS => by obtain ⟨sc0, sc1, sc2, sc3, sc4, sc5, sc6, sc7, sc8⟩ := hS; go_simp⟩) hHeld ?_
  simp only [Act.put, List.getElem_toArray, List.getElem_cons_zero, List.getElem_cons_succ, List.setIfInBounds_toArray, List.set_cons_zero, List.set_cons_succ]
  refine Ru.wpAnyU_take (i := 27) (v := .pointer (some ⟨gd, 1, none⟩)) rfl (by kernel_rfl) (by kernel_rfl) (by kernel_rfl) (by kernel_rfl) (by kernel_rfl) (by kernel_rfl) (fun _ _ _ h => h) (Or.inl ⟨by kernel_rfl, fun w hS => by obtain ⟨sc0, sc1, sc2, sc3, sc4, sc5, sc6, sc7, sc8⟩ := hS; go_simp⟩) hHeld ?_
  simp only [Act.put, List.getElem_toArray, List.getElem_cons_zero, List.getElem_cons_succ, List.setIfInBounds_toArray, List.set_cons_zero, List.set_cons_succ]
  refine Ru.wpAnyU_take (i := 28) (v := .slice (some la) 2 cl) rfl (by kernel_rfl) (by kernel_rfl) (by kernel_rfl) (by kernel_rfl) (by kernel_rfl) (by kernel_rfl) (fun _ _ _ h => h) (Or.inl ⟨by kernel_rfl, fun w hS => by obtain ⟨sc0, sc1, sc2, sc3, sc4, sc5, sc6, sc7, sc8⟩ := hS; go_simp⟩) hHeld ?_
  simp only [Act.put, List.getElem_toArray, List.getElem_cons_zero, List.getElem_cons_succ, List.setIfInBounds_toArray, List.set_cons_zero, List.set_cons_succ]
  refine Ru.wpAnyU_take (i := 29) (v := .pointer (some la)) rfl (by kernel_rfl) (by kernel_rfl) (by kernel_rfl) (by kernel_rfl) (by kernel_rfl) (by kernel_rfl) (fun _ _ _ h => h) (Or.inl ⟨by kernel_rfl, fun w hS => by obtain ⟨sc0, sc1, sc2, sc3, sc4, sc5, sc6, sc7, sc8⟩ := hS; go_simp⟩) hHeld ?_
  simp only [Act.put, List.getElem_toArray, List.getElem_cons_zero, List.getElem_cons_succ, List.setIfInBounds_toArray, List.set_cons_zero, List.set_cons_succ]
  refine Ru.wpAnyU_take (i := 30) (v := .slice (some r0) 2 c0') rfl (by kernel_rfl) (by kernel_rfl) (by kernel_rfl) (by kernel_rfl) (by kernel_rfl) (by kernel_rfl) (fun _ _ _ h => h) (Ud.yieldsL (by kernel_rfl) _ (by rfl) la _ (by rfl) (fun w h => h.2.2.2.2.1)) hHeld ?_
  simp only [Act.put, List.getElem_toArray, List.getElem_cons_zero, List.getElem_cons_succ, List.setIfInBounds_toArray, List.set_cons_zero, List.set_cons_succ]
  refine Ru.wpAnyU_take (i := 31) (v := .pointer (some r0)) rfl (by kernel_rfl) (by kernel_rfl) (by kernel_rfl) (by kernel_rfl) (by kernel_rfl) (by kernel_rfl) (fun _ _ _ h => h) (Or.inl ⟨by kernel_rfl, fun w hS => by obtain ⟨sc0, sc1, sc2, sc3, sc4, sc5, sc6, sc7, sc8⟩ := hS; go_simp⟩) hHeld ?_
  simp only [Act.put, List.getElem_toArray, List.getElem_cons_zero, List.getElem_cons_succ, List.setIfInBounds_toArray, List.set_cons_zero, List.set_cons_succ]
  refine Ru.wpAnyU_take (i := 32) (v := .int .i64 l00) rfl (by kernel_rfl) (by kernel_rfl) (by kernel_rfl) (by kernel_rfl) (by kernel_rfl) (by kernel_rfl) (fun _ _ _ h => h) (Ud.yieldsI (by kernel_rfl) _ (by rfl) r0 _ (by rfl) (fun w h => h.2.2.2.2.2.2.1)) hHeld ?_
  simp only [Act.put, List.getElem_toArray, List.getElem_cons_zero, List.getElem_cons_succ, List.setIfInBounds_toArray, List.set_cons_zero, List.set_cons_succ]
  refine Ru.wpAnyU_take (i := 33) (v := .pointer (some ⟨gd, 1, none⟩)) rfl (by kernel_rfl) (by kernel_rfl) (by kernel_rfl) (by kernel_rfl) (by kernel_rfl) (by kernel_rfl) (fun _ _ _ h => h) (Or.inl ⟨by kernel_rfl, fun w hS => by obtain ⟨sc0, sc1, sc2, sc3, sc4, sc5, sc6, sc7, sc8⟩ := hS; go_simp⟩) hHeld ?_
  simp only [Act.put, List.getElem_toArray, List.getElem_cons_zero, List.getElem_cons_succ, List.setIfInBounds_toArray, List.set_cons_zero, List.set_cons_succ]
  refine Ru.wpAnyU_take (i := 34) (v := .pointer (some ⟨gd, 1, none⟩)) rfl (by kernel_rfl) (by kernel_rfl) (by kernel_rfl) (by kernel_rfl) (by kernel_rfl) (by kernel_rfl) (fun _ _ _ h => h) (Or.inl ⟨by kernel_rfl, fun w hS => by obtain ⟨sc0, sc1, sc2, sc3, sc4, sc5, sc6, sc7, sc8⟩ := hS; go_simp⟩) hHeld ?_
  simp only [Act.put, List.getElem_toArray, List.getElem_cons_zero, List.getElem_cons_succ, List.setIfInBounds_toArray, List.set_cons_zero, List.set_cons_succ]
  refine Ru.wpAnyU_take (i := 35) (v := .slice (some la) 2 cl) rfl (by kernel_rfl) (by kernel_rfl) (by kernel_rfl) (by kernel_rfl) (by kernel_rfl) (by kernel_rfl) (fun _ _ _ h => h) (Or.inl ⟨by kernel_rfl, fun w hS => by obtain ⟨sc0, sc1, sc2, sc3, sc4, sc5, sc6, sc7, sc8⟩ := hS; go_simp⟩) hHeld ?_
  simp only [Act.put, List.getElem_toArray, List.getElem_cons_zero, List.getElem_cons_succ, List.setIfInBounds_toArray, List.set_cons_zero, List.set_cons_succ]
  refine Ru.wpAnyU_take (i := 36) (v := .pointer (some (la.add 1))) rfl (by kernel_rfl) (by kernel_rfl) (by kernel_rfl) (by kernel_rfl) (by kernel_rfl) (by kernel_rfl) (fun _ _ _ h => h) (Or.inl ⟨by kernel_rfl, fun w hS => by obtain ⟨sc0, sc1, sc2, sc3, sc4, sc5, sc6, sc7, sc8⟩ := hS; go_simp⟩) hHeld ?_
  simp only [Act.put, List.getElem_toArray, List.getElem_cons_zero, List.getElem_cons_succ, List.setIfInBounds_toArray, List.set_cons_zero, List.set_cons_succ]
  refine Ru.wpAnyU_take (i := 37) (v := .slice (some r1) 2 c1') rfl (by kernel_rfl) (by kernel_rfl) (by kernel_rfl) (by kernel_rfl) (by kernel_rfl) (by kernel_rfl) (fun _ _ _ h => h) (Ud.yieldsL (by kernel_rfl) _ (by rfl) (la.add 1) _ (by rfl) (fun w h => h.2.2.2.2.2.1)) hHeld ?_
  simp only [Act.put, List.getElem_toArray, List.getElem_cons_zero, List.getElem_cons_succ, List.setIfInBounds_toArray, List.set_cons_zero, List.set_cons_succ]
  refine Ru.wpAnyU_take (i := 38) (v := .pointer (some r1)) rfl (by kernel_rfl) (by kernel_rfl) (by kernel_rfl) (by kernel_rfl) (by kernel_rfl) (by kernel_rfl) (fun _ _ _ h => h) (Or.inl ⟨by kernel_rfl, fun w hS => by obtain ⟨sc0, sc1, sc2, sc3, sc4, sc5, sc6, sc7, sc8⟩ := hS; go_simp⟩) hHeld ?_
  simp only [Act.put, List.getElem_toArray, List.getElem_cons_zero, List.getElem_cons_succ, List.setIfInBounds_toArray, List.set_cons_zero, List.set_cons_succ]
  refine Ru.wpAnyU_take (i := 39) (v := .int .i64 l10) rfl (by kernel_rfl) (by kernel_rfl) (by kernel_rfl) (by kernel_rfl) (by kernel_rfl) (by kernel_rfl) (fun _ _ _ h => h) (Ud.yieldsI (by kernel_rfl) _ (by rfl) r1 _ (by rfl) (fun w h => h.2.2.2.2.2.2.2.1)) hHeld ?_
  simp only [Act.put, List.getElem_toArray, List.getElem_cons_zero, List.getElem_cons_succ, List.setIfInBounds_toArray, List.set_cons_zero, List.set_cons_succ]
  refine Ru.wpAnyU_take (i := 40) (v := .pointer (some ⟨gd, 1, none⟩)) rfl (by kernel_rfl) (by kernel_rfl) (by kernel_rfl) (by kernel_rfl) (by kernel_rfl) (by kernel_rfl) (fun _ _ _ h => h) (Or.inl ⟨by kernel_rfl, fun w hS => by obtain ⟨sc0, sc1, sc2, sc3, sc4, sc5, sc6, sc7, sc8⟩ := hS; go_simp⟩) hHeld ?_
  simp only [Act.put, List.getElem_toArray, List.getElem_cons_zero, List.getElem_cons_succ, List.setIfInBounds_toArray, List.set_cons_zero, List.set_cons_succ]
  refine Ru.wpAnyU_take (i := 41) (v := .pointer (some ⟨gd, 1, none⟩)) rfl (by kernel_rfl) (by kernel_rfl) (by kernel_rfl) (by kernel_rfl) (by kernel_rfl) (by kernel_rfl) (fun _ _ _ h => h) (Or.inl ⟨by kernel_rfl, fun w hS => by obtain ⟨sc0, sc1, sc2, sc3, sc4, sc5, sc6, sc7, sc8⟩ := hS; go_simp⟩) hHeld ?_
  simp only [Act.put, List.getElem_toArray, List.getElem_cons_zero, List.getElem_cons_succ, List.setIfInBounds_toArray, List.set_cons_zero, List.set_cons_succ]
  refine Ru.wpAnyU_take (i := 42) (v := .slice (some la) 2 cl) rfl (by kernel_rfl) (by kernel_rfl) (by kernel_rfl) (by kernel_rfl) (by kernel_rfl) (by kernel_rfl) (fun _ _ _ h => h) (Or.inl ⟨by kernel_rfl, fun w hS => by obtain ⟨sc0, sc1, sc2, sc3, sc4, sc5, sc6, sc7, sc8⟩ := hS; go_simp⟩) hHeld ?_
  simp only [Act.put, List.getElem_toArray, List.getElem_cons_zero, List.getElem_cons_succ, List.setIfInBounds_toArray, List.set_cons_zero, List.set_cons_succ]
  refine Ru.wpAnyU_take (i := 43) (v := .pointer (some (la.add 1))) rfl (by kernel_rfl) (by kernel_rfl) (by kernel_rfl) (by kernel_rfl) (by kernel_rfl) (by kernel_rfl) (fun _ _ _ h => h) (Or.inl ⟨by kernel_rfl, fun w hS => by obtain ⟨sc0, sc1, sc2, sc3, sc4, sc5, sc6, sc7, sc8⟩ := hS; go_simp⟩) hHeld ?_
  simp only [Act.put, List.getElem_toArray, List.getElem_cons_zero, List.getElem_cons_succ, List.setIfInBounds_toArray, List.set_cons_zero, List.set_cons_succ]
  refine Ru.wpAnyU_take (i := 44) (v := .slice (some r1) 2 c1') rfl (by kernel_rfl) (by kernel_rfl) (by kernel_rfl) (by kernel_rfl) (by kernel_rfl) (by kernel_rfl) (fun _ _ _ h => h) (Ud.yieldsL (by kernel_rfl) _ (by rfl) (la.add 1) _ (by rfl) (fun w h => h.2.2.2.2.2.1)) hHeld ?_
  simp only [Act.put, List.getElem_toArray, List.getElem_cons_zero, List.getElem_cons_succ, List.setIfInBounds_toArray, List.set_cons_zero, List.set_cons_succ]
  refine Ru.wpAnyU_take (i := 45) (v := .pointer (some (r1.add 1))) rfl (by kernel_rfl) (by kernel_rfl) (by kernel_rfl) (by kernel_rfl) (by kernel_rfl) (by kernel_rfl) (fun _ _ _ h => h) (Or.inl ⟨by kernel_rfl, fun w hS => by obtain ⟨sc0, sc1, sc2, sc3, sc4, sc5, sc6, sc7, sc8⟩ := hS; go_simp⟩) hHeld ?_
  simp only [Act.put, List.getElem_toArray, List.getElem_cons_zero, List.getElem_cons_succ, List.setIfInBounds_toArray, List.set_cons_zero, List.set_cons_succ]
  refine Ru.wpAnyU_take (i := 46) (v := .int .i64 l11) rfl (by kernel_rfl) (by kernel_rfl) (by kernel_rfl) (by kernel_rfl) (by kernel_rfl) (by kernel_rfl) (fun _ _ _ h => h) (Ud.yieldsI (by kernel_rfl) _ (by rfl) (r1.add 1) _ (by rfl) (fun w h => h.2.2.2.2.2.2.2.2)) hHeld ?_
  simp only [Act.put, List.getElem_toArray, List.getElem_cons_zero, List.getElem_cons_succ, List.setIfInBounds_toArray, List.set_cons_zero, List.set_cons_succ]
  refine Ru.wpAnyU_ready (rs := [47]) (by kernel_rfl) (by simp) ?_
  refine Ru.AllReadyU.cons rfl (by kernel_rfl) (fun K hK => ?_) Ru.AllReadyU.nil
  go_simp
  have x3 : CRow (u_2.alloc (.cells #[.int .i64 l00, .int .i64 0, .int .i64 l10, .int .i64 l11] 2)) u_2.heap.size 2 (vals 4 (four l00 0 l10 l11)) := crow_new u_2 2 (vals 4 (four l00 0 l10 l11))
  have D_3 := below_tr D_2 (below_al (Below.refl _ u_2) (.cells #[.int .i64 l00, .int .i64 0, .int .i64 l10, .int .i64 l11] 2))
  refine hK.out _ _ (HS.out _ D_3) (fun hHeld => ?_)
  clear hK K
  try simp only [Act.put, List.getElem_toArray, List.getElem_cons_zero, List.getElem_cons_succ, List.setIfInBounds_toArray, List.set_cons_zero, List.set_cons_succ]
  refine Ru.wpAnyU_ready (rs := [48]) (by kernel_rfl) (by simp) ?_
  refine Ru.AllReadyU.cons rfl (by kernel_rfl) (fun K hK => ?_) Ru.AllReadyU.nil
  go_simp
  refine (nums_yes _ _ 4 _ _ zL _ (GRow.z (CRow.keep HNZ.out D_3)) ((Ud.crow_sl x3 (by omega)).congr (fun k hk => H4.out k hk))).mono ?_
  rintro e u_4 ⟨rfl, k_4⟩
  have D_4 := below_tr D_3 k_4
  go_wp2_with fail
  refine hK.out _ _ (HS.out _ D_4) (fun hHeld => ?_)
  clear hK K
  try simp only [Act.put, List.getElem_toArray, List.getElem_cons_zero, List.getElem_cons_succ, List.setIfInBounds_toArray, List.set_cons_zero, List.set_cons_succ]
  refine Ru.wpAnyU_take (i := 49) (v := .bool false) rfl (by kernel_rfl) (by kernel_rfl) (by kernel_rfl) (by kernel_rfl) (by kernel_rfl) (by kernel_rfl) (fun _ _ _ h => h) (Or.inl ⟨by kernel_rfl, fun w hS => by obtain ⟨sc0, sc1, sc2, sc3, sc4, sc5, sc6, sc7, sc8⟩ := hS; go_simp⟩) hHeld ?_
  simp only [Act.put, List.getElem_toArray, List.getElem_cons_zero, List.getElem_cons_succ, List.setIfInBounds_toArray, List.set_cons_zero, List.set_cons_succ]
  refine Ru.wpAnyU_take (i := 50) (v := .bool false) rfl (by kernel_rfl) (by kernel_rfl) (by kernel_rfl) (by kernel_rfl) (by kernel_rfl) (by kernel_rfl) (fun _ _ _ h => h) (Or.inl ⟨by kernel_rfl, fun w hS => by obtain ⟨sc0, sc1, sc2, sc3, sc4, sc5, sc6, sc7, sc8⟩ := hS; go_simp⟩) hHeld ?_
  simp only [Act.put, List.getElem_toArray, List.getElem_cons_zero, List.getElem_cons_succ, List.setIfInBounds_toArray, List.set_cons_zero, List.set_cons_succ]
  refine Ru.wpAnyU_done (by kernel_rfl) ?_
  have y4 : u_4.cell? ⟨gd, 0, none⟩ = some (.slice (some ⟨gv, 0, none⟩) 2 2) := (HS.out _ D_4).2.1
  have n4 := CRow.keep HNZ.out D_4
  have rf4 := GRow.rf n4
  have sV4 := HSV.out.keep D_4
  have K4 := below_tr Kz D_4
  clear HS HNZ HSV HSD rf D_1 D_2 D_3 D_4 k_1 k_2 k_4 x3 H4 Kz
  go_wp2_with (first
    | ((with_reducible show wpList _ _ _ _ _ _); refine St.wpList_part isF (by rfl) _ (by rfl) _ _ _ (by rfl) (by with_reducible exact rf4) (fvals_len _ _ _) ?_)
    | fail)
  refine (HF2.out _ _ sV4).mono ?_
  rintro e w5 ⟨rfl, k5⟩
  have K5 := below_tr K4 k5
  go_wp2_with fail
  refine (usure_any _).mono ?_
  rintro e w6 ⟨rfl, k6⟩
  go_wp2
  go_ret
  exact ⟨rfl, below_tr K5 k6⟩

set_option maxRecDepth 20000 in
set_option maxHeartbeats 2000000 in
theorem uo_short (xo po : Option Addr) (m xc n pc : Nat) (x y a b c : Int) (w : World) (h : m ≠ 6) (hm : m ≤ 9223372036854775807) :
    Calls Tryz.prog 3 #[.agg #[.slice xo m xc, .slice po n pc], .agg (pv x y a b c).toArray] w fun e w' => e = .returned (.bool true) ∧ Below w.heap.size w w' := by
  have K0 := below_al (below_al (Below.refl _ w) (.cells [.slice xo m xc, .slice po n pc].toArray 25)) (.cells (pv x y a b c).toArray 27)
  have e1 : ((m : Int) == 6) = false := beq_eq_false_iff_ne.2 (by omega)
  have e2 : ((m : Int) != 6) = true := by rw [bne, e1]; rfl
  clear h
  go_enter Tryz.func3, Tryz.ntmps3
  go_wp2_with fail
  refine (usure_any _).mono ?_
  rintro e w1 ⟨rfl, k1⟩
  go_wp2
  go_ret
  exact ⟨rfl, below_tr K0 k1⟩

/-- Given what Of answers, the law's walk. -/
theorem uof_walk (hA : ∀ (X : Nat → Int) (P : Nat → Nat → Int) (x y a b c : Int), MayV X P → MayN x y a b c → B64 X → B2 P → (∀ i, i < 2 → fine (oM P a b c) i) → OfYes X P x y a b c) : FUpdateOf.Walk := by
  intro c0 x y a b c w hL wx wy wa wb wc hE
  obtain ⟨xo, m, xc, X, po, n, pc, A, K, C, Z, rfl, sX, bX, sP, qP⟩ := state_lies hL
  by_cases h6 : m = 6
  · subst h6
    rcases six_cases sP qP with ⟨F, rfl, gP, bP⟩ | ⟨r, c', z, hbad, hmat, hsix⟩
    · have hG := fun W (b : Below w.heap.size w W) => pgive_any xo po xc 6 pc X 6 6 (mz 6 6 F) W (sX.keep b) (fun V k => matOf_six gP V (below_tr b k))
      by_cases hm : MayV X F
      · have hC := fun W => pcheck_six X F true W ⟨fun _ => hm, fun _ => rfl⟩
        have hM := fun W (b : Below w.heap.size w W) => rmay12_grid true xo po xc pc X F W (sX.keep b) (gP.keep b) ⟨fun _ => hm, fun _ => rfl⟩
        by_cases hp : MayN x y a b c
        · by_cases hf : ∀ i, i < 2 → fine (oM F a b c) i
          · refine uo_good xo po xc 6 pc X 6 6 (mz 6 6 F) x y a b c (v2 (ox X x) (oy X y)) (fL F a b c) (fD F a b c) (og X F x y a b c) w hE hG (fun W => hA X F x y a b c hm hp bX bP hf W) (fun W b' => ?_) (may_gap hf) (st_up (oM F a b c) (n := 2) (i := 0) (j := 1) (by omega) (by omega)) (v_b X x y) (fL_b F a b c)
            refine (dof13_any xo po xc pc X F x y a b c W (sX.keep b') (gP.keep b') hm hp).mono ?_
            rintro e w' ⟨hc, k⟩
            rcases hc with ⟨hn, _⟩ | ⟨_, gv, lo, cl, do', cd, rfl, s1, s2, s3⟩
            · exact absurd hf hn
            · exact ⟨gv, lo, cl, do', cd, rfl, ⟨s1, s2, s3⟩, k⟩
          · refine uo_bad xo po xc 6 pc X 6 6 (mz 6 6 F) x y a b c 8 w hE hG (fun V => uof_none X F x y a b c V hm hp bX bP hf) (fun V b' => ?_)
            refine (dof13_any xo po xc pc X F x y a b c V (sX.keep b') (gP.keep b') hm hp).mono ?_
            rintro e w' ⟨hc, k⟩
            rcases hc with ⟨_, rfl⟩ | ⟨hy, _⟩
            · exact ⟨rfl, k⟩
            · exact absurd hy hf
        · exact uo_bad xo po xc 6 pc X 6 6 (mz 6 6 F) x y a b c 1 w hE hG (fun V => uof_place X 6 6 (mz 6 6 F) x y a b c V hC hp) (fun V b' => dof13_place xo po 6 xc pc x y a b c V (fun U ku => hM U (below_tr b' ku)) hp)
      · have hC := fun W => pcheck_six X F false W ⟨fun q => (by cases q), fun q => absurd q hm⟩
        have hM := fun W (b : Below w.heap.size w W) => rmay12_grid false xo po xc pc X F W (sX.keep b) (gP.keep b) ⟨fun q => (by cases q), fun q => absurd q hm⟩
        exact uo_bad xo po xc 6 pc X 6 6 (mz 6 6 F) x y a b c 1 w hE hG (fun V => uof_chk X 6 6 (mz 6 6 F) x y a b c V hC) (fun V b' => dof13_state xo po 6 xc pc x y a b c V (fun U ku => hM U (below_tr b' ku)))
    · have hC := fun W => pcheck_no X r c' z W hbad
      exact uo_bad xo po xc n pc X r c' z x y a b c 1 w hE (fun W b => pgive_any xo po xc n pc X r c' z W (sX.keep b) (fun V k => hmat V (below_tr b k))) (fun V => uof_chk X r c' z x y a b c V hC) (fun V b' => dof13_state xo po n xc pc x y a b c V (fun U ku => rmay12_not xo po n xc pc U (fun T kt => hsix T (below_tr (below_tr b' ku) kt))))
  · exact uo_short xo po m xc n pc x y a b c w h6 (by have := sX.le; have := sX.cap; omega)
end Go.Proofs.YtlomfjacgomhdaaGreatDoor
