/-
  How things move (model): rows as a matrix, Step and Noise.
-/
import Derived.Test.YtnjiilknnlcblaaGreatDoorMoE
import Derived.Test.YtnjiilknnlcblaaGreatDoorM19
import Derived.Test.YtnjiilknnlcblaaGreatDoorRegM
import Derived.RegionTactic
import Derived.ChangeAlike
import Derived.BigRegion
set_option linter.unusedSimpArgs false
set_option linter.unusedVariables false
namespace Go.Proofs.YtnjiilknnlcblaaGreatDoor
open Go.RowKit Vc St Qn Dt Tg Ld Mt Mo
attribute [local go_sem ↓] Go.wp_at_zero Go.wp_at_succ

set_option maxRecDepth 10000 in
set_option maxHeartbeats 2000000 in
theorem matrix_any (g : Nat) (lo : Option Addr) (cm : Nat) (F : Nat → Nat → Int) (w : World) (h : Sure w g) (hG : Grid w lo 6 cm 6 F) :
    Calls Tryz.prog 19 #[.pointer (some ⟨g, 0, none⟩), .slice lo 6 cm] w fun e w' => e = .returned (.tuple #[.agg (mvals 6 6 (mz 6 6 F)).toArray, .bool false, .nilIface]) ∧ Below w.heap.size w w' := by
  have r0 := mrow_new w 0 0 (fun _ => 0)
  have B0 := below_al (Below.refl _ w) (.cells (mvals 0 0 (fun _ => 0)).toArray 26)
  obtain ⟨W, hW⟩ : ∃ W, W = w.alloc (.cells (mvals 0 0 (fun _ => 0)).toArray 26) := ⟨_, rfl⟩
  rw [← hW] at r0 B0
  have HW := hide hW
  obtain ⟨A, C, a1, a2⟩ := hG.keep B0
  have HO := hide (mof_any 6 6 lo cm A C F W (by omega) (by omega) (by omega) (by omega) a1 a2)
  obtain ⟨z, hz⟩ : ∃ z, z = mz 6 6 F := ⟨_, rfl⟩
  rw [← hz] at HO ⊢
  have g0 := h.keep B0
  clear hW hz a1 a2 hG
  go_enter Tryz.func19, Tryz.ntmps19
  go_wp2_with fail
  rw [zeroM, ← HW.out]
  refine HO.out.mono ?_
  rintro e w1 ⟨rfl, k1⟩
  have r1 := r0.keep k1
  have g1 := g0.keep k1
  have B1 := below_tr B0 k1
  have hl := r1.lt
  clear HO HW r0 g0 B0 k1
  go_wp2_with (first
    | (rw [zeroM]; refine Mt.wpList_storeNew rfl _ _ (by rfl) _ _ _ _ (by rfl) (by rfl) ?_; intro w2 n2 k2; have r2 := r1.keep k2; have g2 := g1.keep k2; have B2 := below_tr B1 k2; clear r1 g1 B1))
  have cg : w2.cell? ⟨g, 0, none⟩ = some (.bool false) := CRow.cell g2 (k := 0) rfl rfl
  have hne : w1.heap.size ≠ w.heap.size := by omega
  have hng : g ≠ w.heap.size := by have := CRow.lt h; omega
  refine Ru.wp_region_U [7] (fun w' => MRow w' w1.heap.size 6 6 z ∧ w'.cell? ⟨g, 0, none⟩ = some (.bool false)) (by kernel_rfl) ⟨n2.drew, cg⟩ (fun hHeld => ?_)
  refine Ru.wpAnyU_take (i := 0) (v := .agg (mvals 6 6 z).toArray) rfl (by kernel_rfl) (by kernel_rfl) (by kernel_rfl) (by kernel_rfl) (by kernel_rfl) (by kernel_rfl) (fun _ _ _ h => h) (Ru.yieldsM (by rfl) _ (by rfl) w1.heap.size 6 6 z (by rfl) (fun w h => h.1)) hHeld ?_
  simp only [Act.put, List.getElem_toArray, List.getElem_cons_zero, List.getElem_cons_succ, List.setIfInBounds_toArray, List.set_cons_zero, List.set_cons_succ]
  refine Ru.wpAnyU_take (i := 1) (v := .pointer (some ⟨g, 0, none⟩)) rfl (by kernel_rfl) (by kernel_rfl) (by kernel_rfl) (by kernel_rfl) (by kernel_rfl) (by kernel_rfl) (fun _ _ _ h => h) (Or.inl ⟨by rfl, fun w hS => by obtain ⟨sc0, sc1⟩ := hS; go_simp⟩) hHeld ?_
  simp only [Act.put, List.getElem_toArray, List.getElem_cons_zero, List.getElem_cons_succ, List.setIfInBounds_toArray, List.set_cons_zero, List.set_cons_succ]
  refine Ru.wpAnyU_take (i := 2) (v := .pointer (some ⟨g, 0, none⟩)) rfl (by kernel_rfl) (by kernel_rfl) (by kernel_rfl) (by kernel_rfl) (by kernel_rfl) (by kernel_rfl) (fun _ _ _ h => h) (Or.inl ⟨by rfl, fun w hS => by obtain ⟨sc0, sc1⟩ := hS; go_simp⟩) hHeld ?_
  simp only [Act.put, List.getElem_toArray, List.getElem_cons_zero, List.getElem_cons_succ, List.setIfInBounds_toArray, List.set_cons_zero, List.set_cons_succ]
  refine Ru.wpAnyU_take (i := 3) (v := .pointer (some ⟨g, 0, none⟩)) rfl (by kernel_rfl) (by kernel_rfl) (by kernel_rfl) (by kernel_rfl) (by kernel_rfl) (by kernel_rfl) (fun _ _ _ h => h) (Or.inl ⟨by rfl, fun w hS => by obtain ⟨sc0, sc1⟩ := hS; go_simp⟩) hHeld ?_
  simp only [Act.put, List.getElem_toArray, List.getElem_cons_zero, List.getElem_cons_succ, List.setIfInBounds_toArray, List.set_cons_zero, List.set_cons_succ]
  refine Ru.wpAnyU_take (i := 4) (v := .bool false) rfl (by kernel_rfl) (by kernel_rfl) (by kernel_rfl) (by kernel_rfl) (by kernel_rfl) (by kernel_rfl) (fun _ _ _ h => h) (Or.inl ⟨by rfl, fun w hS => by obtain ⟨sc0, sc1⟩ := hS; go_simp⟩) hHeld ?_
  simp only [Act.put, List.getElem_toArray, List.getElem_cons_zero, List.getElem_cons_succ, List.setIfInBounds_toArray, List.set_cons_zero, List.set_cons_succ]
  refine Ru.wpAnyU_ready (rs := [5]) (by kernel_rfl) (by simp) ?_
  refine Ru.AllReadyU.cons rfl (by kernel_rfl) (fun K hK => ?_) Ru.AllReadyU.nil
  refine Ru.stepM (by rfl) _ _ (by rfl) w.heap.size _ _ 6 6 _ z (by rfl) (by rfl) r2.drew ?_
  have n3 : MRow (w2.drew.setRow w.heap.size (mvals 6 6 z).toArray) w1.heap.size 6 6 z := n2.drew.rowOther hne _
  have r3 : MRow (w2.drew.setRow w.heap.size (mvals 6 6 z).toArray) w.heap.size 6 6 z := r2.drew.row _ _ _
  have g3 : CRow (w2.drew.setRow w.heap.size (mvals 6 6 z).toArray) g 48 [.bool false] := (CRow.drew g2).rowOther hng _
  have B3 := Mt.below_row (Below.drew B2) (Nat.le_refl _) (mvals 6 6 z).toArray
  have c3 : (w2.drew.setRow w.heap.size (mvals 6 6 z).toArray).cell? ⟨g, 0, none⟩ = some (.bool false) := CRow.cell g3 (k := 0) rfl rfl
  refine hK.out _ _ ⟨n3, c3⟩ (fun hHeld => ?_)
  clear hK K
  try simp only [Act.put, List.getElem_toArray, List.getElem_cons_zero, List.getElem_cons_succ, List.setIfInBounds_toArray, List.set_cons_zero, List.set_cons_succ]
  refine Ru.wpAnyU_take (i := 6) (v := .bool false) rfl (by kernel_rfl) (by kernel_rfl) (by kernel_rfl) (by kernel_rfl) (by kernel_rfl) (by kernel_rfl) (fun _ _ _ h => h) (Or.inl ⟨by rfl, fun w hS => by obtain ⟨sc0, sc1⟩ := hS; go_simp⟩) hHeld ?_
  simp only [Act.put, List.getElem_toArray, List.getElem_cons_zero, List.getElem_cons_succ, List.setIfInBounds_toArray, List.set_cons_zero, List.set_cons_succ]
  refine Ru.wpAnyU_ready (rs := [7]) (by kernel_rfl) (by simp) ?_
  refine Ru.AllReadyU.cons2 rfl (by kernel_rfl) (fun K hK => ?_) Ru.AllReadyU.nil
  go_simp
  refine hK.out _ _ ?_
  clear hK K
  try simp only [Act.put, List.getElem_toArray, List.getElem_cons_zero, List.getElem_cons_succ, List.setIfInBounds_toArray, List.set_cons_zero, List.set_cons_succ]
  refine wpAny_done (by kernel_rfl) ?_ _
  go_wp2
  exact bodyPost_ret (results_M3 Tryz.results19 _ _ w.heap.size _ _ _ rfl r3) rfl ⟨rfl, B3⟩

namespace Mo
/-- What a time makes of a state. -/
def stepF (K R d : Int) : Nat → Nat → Int := if K = 2 then arcF (-(sV R d)) (cV R d) (pV R d) (-(qV R d)) else if K = 3 then arcF (sV R d) (cV R d) (pV R d) (qV R d) else tw (stF K d)
theorem bl_st1 (d : Int) : (bl (stF 1 d)).toArray = #[.int .i64 1048576, .int .i64 d, .int .i64 (hf d), .int .i64 0, .int .i64 1048576, .int .i64 d, .int .i64 0, .int .i64 0, .int .i64 1048576] := by
  simp [bl, vals, List.range, List.range.loop, stF]
theorem bl_st0 (d : Int) : (bl (stF 0 d)).toArray = #[.int .i64 1048576, .int .i64 d, .int .i64 0, .int .i64 0, .int .i64 1048576, .int .i64 0, .int .i64 0, .int .i64 0, .int .i64 0] := by
  simp [bl, vals, List.range, List.range.loop, stF]
end Mo

set_option maxRecDepth 10000 in
set_option maxHeartbeats 2000000 in
theorem mstep_any (g : Nat) (K R d N : Int) (w : World) (hT : AngTab w) (h : Sure w g) (hm : MayM K R N) (ht : MayT d) :
    Calls Tryz.prog 20 #[.agg #[.int .i64 K, .int .i64 R, .int .i64 N], .int .i64 d, .pointer (some ⟨g, 0, none⟩)] w fun e w' => ∃ lo cm, e = .returned (.slice lo 6 cm) ∧ Grid w' lo 6 cm 6 (stepF K R d) ∧ Below w.heap.size w w' := by
  have m0 := crow_new w 31 [.int .i64 K, .int .i64 R, .int .i64 N]
  have B0 := below_al (Below.refl _ w) (.cells [.int .i64 K, .int .i64 R, .int .i64 N].toArray 31)
  have g0 := h.keep B0
  have T0 := hT.below B0
  obtain ⟨hn, ⟨hK, hR⟩ | ⟨hK, hR⟩⟩ := hm
  · clear hR
    rcases hK with rfl | rfl
    · have HT := hide (fun W => twice_any (stF 0 d) W)
      rw [bl_st0] at HT
      have e : Hid (stepF 0 R d = tw (stF 0 d)) := rfl
      rw [e.out]
      clear e
      generalize tw (stF 0 d) = F at *
      go_enter Tryz.func20, Tryz.ntmps20
      go_wp2_with fail
      refine (HT.out _).mono ?_
      rintro e w1 ⟨lo, cm, rfl, hG, k1⟩
      go_wp2
      go_ret
      exact ⟨lo, cm, rfl, hG, below_tr B0 k1⟩
    · have HT := hide (fun W => twice_any (stF 1 d) W)
      rw [bl_st1] at HT
      have e : Hid (stepF 1 R d = tw (stF 1 d)) := rfl
      rw [e.out]
      clear e
      have HH := hide (half_no g d _ g0 ht)
      generalize tw (stF 1 d) = F at *
      go_enter Tryz.func20, Tryz.ntmps20
      go_wp2_with fail
      refine HH.out.mono ?_
      rintro e w1 ⟨rfl, k1⟩
      go_wp2_with fail
      refine (HT.out _).mono ?_
      rintro e w2 ⟨lo, cm, rfl, hG, k2⟩
      go_wp2
      go_ret
      exact ⟨lo, cm, rfl, hG, below_tr (below_tr B0 k1) k2⟩
  · have sb := (sV_in R d).2.2
    have qb := (qV_in (d := d) hR).2
    have HA := hide (arc_any g R d _ T0 g0 hR ht)
    have HR := hide (fun W => arows_any (sV R d) (cV R d) (pV R d) (qV R d) W (by omega) (by omega) (by omega) (by omega))
    have HM := hide (fun W => mirror_any (sV R d) (cV R d) (pV R d) (qV R d) W (by omega) (by omega) (by omega) (by omega))
    have HL := hide (fun W => arows_any (-(sV R d)) (cV R d) (pV R d) (-(qV R d)) W (by omega) (by omega) (by omega) (by omega))
    have c1 : (w.alloc (.cells #[.int .i64 K, .int .i64 R, .int .i64 N] 31)).cell? ⟨w.heap.size, 1, none⟩ = some (.int .i64 R) := CRow.cell m0 (k := 1) rfl rfl
    clear sb qb
    rcases hK with rfl | rfl
    · have e : Hid (stepF 2 R d = arcF (-(sV R d)) (cV R d) (pV R d) (-(qV R d))) := rfl
      rw [e.out]
      clear e
      generalize arcF (-(sV R d)) (cV R d) (pV R d) (-(qV R d)) = F at *
      generalize (arcL (-(sV R d)) (cV R d) (pV R d) (-(qV R d))).toArray = U at *
      generalize (arcL (sV R d) (cV R d) (pV R d) (qV R d)).toArray = V at *
      go_enter Tryz.func20, Tryz.ntmps20
      go_wp2_with fail
      refine HA.out.mono ?_
      rintro e w1 ⟨rfl, k1⟩
      go_wp2_with fail
      refine (HM.out _).mono ?_
      rintro e w2 ⟨rfl, k2⟩
      go_wp2_with fail
      refine (HL.out _).mono ?_
      rintro e w3 ⟨lo, cm, rfl, hG, k3⟩
      go_wp2
      go_ret
      exact ⟨lo, cm, rfl, hG, below_tr (below_tr (below_tr B0 k1) k2) k3⟩
    · have e : Hid (stepF 3 R d = arcF (sV R d) (cV R d) (pV R d) (qV R d)) := rfl
      rw [e.out]
      clear e
      generalize arcF (sV R d) (cV R d) (pV R d) (qV R d) = F at *
      generalize (arcL (sV R d) (cV R d) (pV R d) (qV R d)).toArray = V at *
      go_enter Tryz.func20, Tryz.ntmps20
      go_wp2_with fail
      refine HA.out.mono ?_
      rintro e w1 ⟨rfl, k1⟩
      go_wp2_with fail
      refine (HR.out _).mono ?_
      rintro e w2 ⟨lo, cm, rfl, hG, k2⟩
      go_wp2
      go_ret
      exact ⟨lo, cm, rfl, hG, below_tr (below_tr B0 k1) k2⟩
end Go.Proofs.YtnjiilknnlcblaaGreatDoor

/-
  How things move (model): Step and Noise.
-/
set_option linter.unusedSimpArgs false
set_option linter.unusedVariables false
namespace Go.Proofs.YtnjiilknnlcblaaGreatDoor
open Go.RowKit Vc St Qn Dt Tg Ld Mt Mo
attribute [local go_sem ↓] Go.wp_at_zero Go.wp_at_succ

set_option maxRecDepth 10000 in
set_option maxHeartbeats 2000000 in
theorem model_step_no (K R N d : Int) (w : World) (h : ¬ MayM K R N ∨ ¬ MayT d) :
    Calls Tryz.prog 4 #[.agg #[.int .i64 K, .int .i64 R, .int .i64 N], .int .i64 d] w fun e w' => e = .returned (.tuple #[.agg (mvals 0 0 (fun _ => 0)).toArray, .bool false, .iface 46 (.int .i64 1)]) ∧ Below w.heap.size w w' := by
  have m0 := (crow_new w 31 [.int .i64 K, .int .i64 R, .int .i64 N]).alloc (.cells (mvals 0 0 (fun _ => 0)).toArray 26)
  have r0 := mrow_new1 w (.cells [.int .i64 K, .int .i64 R, .int .i64 N].toArray 31) 0 0 (fun _ => 0)
  have B0 : Below w.heap.size w ((w.alloc (.cells [.int .i64 K, .int .i64 R, .int .i64 N].toArray 31)).alloc (.cells (mvals 0 0 (fun _ => 0)).toArray 26)) := below_al (below_al (Below.refl _ _) _) _
  obtain ⟨W, hW⟩ : ∃ W, W = (w.alloc (.cells [.int .i64 K, .int .i64 R, .int .i64 N].toArray 31)).alloc (.cells (mvals 0 0 (fun _ => 0)).toArray 26) := ⟨_, rfl⟩
  rw [← hW] at m0 r0 B0
  have HW := hide hW
  clear hW
  by_cases hM : MayM K R N
  · have hT : ¬ MayT d := by rcases h with h | h; (exact absurd hM h); exact h
    clear h
    go_enter Tryz.func4, Tryz.ntmps4
    go_wp2_with (first
      | (rw [zeroM]; erw [← HW.out]; refine St.wpList_load isMd (by rfl) _ (by rfl) _ _ (by rfl) (by with_reducible exact m0) rfl ?_))
    refine (mcheck_yes K R N W hM).mono ?_
    rintro e w1 ⟨rfl, k1⟩
    have r1 := r0.keep k1
    have B1 := below_tr B0 k1
    go_wp2_with fail
    refine (time_no d _ hT).mono ?_
    rintro e w2 ⟨rfl, k2⟩
    have r2 := r1.keep k2
    have B2 := below_tr B1 k2
    go_wp2_with (first
      | (refine wpList_build0 rfl (by rfl) ?_)
      | (refine wpList_storeM rfl _ _ (by rfl) _ _ _ _ _ _ _ (by rfl) (by rfl) (by with_reducible exact r2) ?_))
    exact bodyPost_ret (results_M3 Tryz.results4 _ _ (w.heap.size + 1) _ _ _ rfl (r2.row _ _ _)) rfl ⟨rfl, Mt.below_row B2 (by omega) _⟩
  · clear h
    go_enter Tryz.func4, Tryz.ntmps4
    go_wp2_with (first
      | (rw [zeroM]; erw [← HW.out]; refine St.wpList_load isMd (by rfl) _ (by rfl) _ _ (by rfl) (by with_reducible exact m0) rfl ?_))
    refine (mcheck_no K R N W hM).mono ?_
    rintro e w1 ⟨rfl, k1⟩
    have r2 := r0.keep k1
    have B2 := below_tr B0 k1
    go_wp2_with (first
      | (refine wpList_build0 rfl (by rfl) ?_)
      | (refine wpList_storeM rfl _ _ (by rfl) _ _ _ _ _ _ _ (by rfl) (by rfl) (by with_reducible exact r2) ?_))
    exact bodyPost_ret (results_M3 Tryz.results4 _ _ (w.heap.size + 1) _ _ _ rfl (r2.row _ _ _)) rfl ⟨rfl, Mt.below_row B2 (by omega) _⟩

set_option maxRecDepth 10000 in
set_option maxHeartbeats 2000000 in
theorem model_step_yes (K R N d : Int) (w : World) (hA : AngTab w) (hM : MayM K R N) (hT : MayT d) :
    Calls Tryz.prog 4 #[.agg #[.int .i64 K, .int .i64 R, .int .i64 N], .int .i64 d] w fun e w' => e = .returned (.tuple #[.agg (mvals 6 6 (mz 6 6 (stepF K R d))).toArray, .bool false, .nilIface]) ∧ Below w.heap.size w w' := by
  have m0 := (crow_new w 31 [.int .i64 K, .int .i64 R, .int .i64 N]).alloc (.cells (mvals 0 0 (fun _ => 0)).toArray 26)
  have r0 := mrow_new1 w (.cells [.int .i64 K, .int .i64 R, .int .i64 N].toArray 31) 0 0 (fun _ => 0)
  have B0 : Below w.heap.size w ((w.alloc (.cells [.int .i64 K, .int .i64 R, .int .i64 N].toArray 31)).alloc (.cells (mvals 0 0 (fun _ => 0)).toArray 26)) := below_al (below_al (Below.refl _ _) _) _
  obtain ⟨W, hW⟩ : ∃ W, W = (w.alloc (.cells [.int .i64 K, .int .i64 R, .int .i64 N].toArray 31)).alloc (.cells (mvals 0 0 (fun _ => 0)).toArray 26) := ⟨_, rfl⟩
  rw [← hW] at m0 r0 B0
  have HW := hide hW
  clear hW
  go_enter Tryz.func4, Tryz.ntmps4
  go_wp2_with (first
    | (rw [zeroM]; erw [← HW.out]; refine St.wpList_load isMd (by rfl) _ (by rfl) _ _ (by rfl) (by with_reducible exact m0) rfl ?_))
  refine (mcheck_yes K R N W hM).mono ?_
  rintro e w1 ⟨rfl, k1⟩
  have m1 := CRow.keep m0 k1
  have r1 := r0.keep k1
  have B1 := below_tr B0 k1
  go_wp2_with fail
  refine (time_yes d _ hT).mono ?_
  rintro e w2 ⟨rfl, k2⟩
  have m2 := CRow.keep m1 k2
  have r2 := r1.keep k2
  have B2 := below_tr B1 k2
  have s3 : Sure _ w2.heap.size := crow_new w2 48 [.bool false]
  have K3 := below_al (Below.refl _ w2) (.cells [.bool false].toArray 48)
  have m3 := CRow.keep m2 K3
  have r3 := r2.keep K3
  have B3 := below_tr B2 K3
  obtain ⟨W3, hW3⟩ : ∃ W, W = w2.alloc (.cells [.bool false].toArray 48) := ⟨_, rfl⟩
  rw [← hW3] at s3 K3 m3 r3 B3
  have HW3 := hide hW3
  clear hW3 m0 r0 B0 m1 r1 B1 m2 r2 B2 k1 k2 K3
  go_wp2_with (first
    | (erw [← HW3.out]; refine St.wpList_load isMd (by rfl) _ (by rfl) _ _ (by rfl) (by with_reducible exact m3) rfl ?_))
  refine (mstep_any w2.heap.size K R d N W3 (hA.below B3) s3 hM hT).mono ?_
  rintro e w4 ⟨lo, cm, rfl, hG, k4⟩
  have s4 := s3.keep k4
  have r4 := r3.keep k4
  have B4 := below_tr B3 k4
  go_wp2_with fail
  refine (matrix_any w2.heap.size lo cm _ _ s4 hG).mono ?_
  rintro e w5 ⟨rfl, k5⟩
  have r5 := r4.keep k5
  have B5 := below_tr B4 k5
  go_wp2_with (first
    | (refine wpList_storeM rfl _ _ (by rfl) _ _ _ _ _ _ _ (by rfl) (by rfl) (by with_reducible exact r5) ?_))
  exact bodyPost_ret (results_M3 Tryz.results4 _ _ (w.heap.size + 1) _ _ _ rfl (r5.row _ _ _)) rfl ⟨rfl, Mt.below_row B5 (by omega) _⟩

set_option maxRecDepth 10000 in
set_option maxHeartbeats 2000000 in
theorem model_noise_no (K R N d : Int) (w : World) (h : ¬ MayM K R N ∨ ¬ MayT d) :
    Calls Tryz.prog 6 #[.agg #[.int .i64 K, .int .i64 R, .int .i64 N], .int .i64 d] w fun e w' => e = .returned (.tuple #[.agg (mvals 0 0 (fun _ => 0)).toArray, .bool false, .iface 46 (.int .i64 1)]) ∧ Below w.heap.size w w' := by
  have m0 := (crow_new w 31 [.int .i64 K, .int .i64 R, .int .i64 N]).alloc (.cells (mvals 0 0 (fun _ => 0)).toArray 26)
  have r0 := mrow_new1 w (.cells [.int .i64 K, .int .i64 R, .int .i64 N].toArray 31) 0 0 (fun _ => 0)
  have B0 : Below w.heap.size w ((w.alloc (.cells [.int .i64 K, .int .i64 R, .int .i64 N].toArray 31)).alloc (.cells (mvals 0 0 (fun _ => 0)).toArray 26)) := below_al (below_al (Below.refl _ _) _) _
  obtain ⟨W, hW⟩ : ∃ W, W = (w.alloc (.cells [.int .i64 K, .int .i64 R, .int .i64 N].toArray 31)).alloc (.cells (mvals 0 0 (fun _ => 0)).toArray 26) := ⟨_, rfl⟩
  rw [← hW] at m0 r0 B0
  have HW := hide hW
  clear hW
  by_cases hM : MayM K R N
  · have hT : ¬ MayT d := by rcases h with h | h; (exact absurd hM h); exact h
    clear h
    go_enter Tryz.func6, Tryz.ntmps6
    go_wp2_with (first
      | (rw [zeroM]; erw [← HW.out]; refine St.wpList_load isMd (by rfl) _ (by rfl) _ _ (by rfl) (by with_reducible exact m0) rfl ?_))
    refine (mcheck_yes K R N W hM).mono ?_
    rintro e w1 ⟨rfl, k1⟩
    have r1 := r0.keep k1
    have B1 := below_tr B0 k1
    go_wp2_with fail
    refine (time_no d _ hT).mono ?_
    rintro e w2 ⟨rfl, k2⟩
    have r2 := r1.keep k2
    have B2 := below_tr B1 k2
    go_wp2_with (first
      | (refine wpList_build0 rfl (by rfl) ?_)
      | (refine wpList_storeM rfl _ _ (by rfl) _ _ _ _ _ _ _ (by rfl) (by rfl) (by with_reducible exact r2) ?_))
    exact bodyPost_ret (results_M3 Tryz.results6 _ _ (w.heap.size + 1) _ _ _ rfl (r2.row _ _ _)) rfl ⟨rfl, Mt.below_row B2 (by omega) _⟩
  · clear h
    go_enter Tryz.func6, Tryz.ntmps6
    go_wp2_with (first
      | (rw [zeroM]; erw [← HW.out]; refine St.wpList_load isMd (by rfl) _ (by rfl) _ _ (by rfl) (by with_reducible exact m0) rfl ?_))
    refine (mcheck_no K R N W hM).mono ?_
    rintro e w1 ⟨rfl, k1⟩
    have r2 := r0.keep k1
    have B2 := below_tr B0 k1
    go_wp2_with (first
      | (refine wpList_build0 rfl (by rfl) ?_)
      | (refine wpList_storeM rfl _ _ (by rfl) _ _ _ _ _ _ _ (by rfl) (by rfl) (by with_reducible exact r2) ?_))
    exact bodyPost_ret (results_M3 Tryz.results6 _ _ (w.heap.size + 1) _ _ _ rfl (r2.row _ _ _)) rfl ⟨rfl, Mt.below_row B2 (by omega) _⟩

set_option maxRecDepth 10000 in
set_option maxHeartbeats 2000000 in
theorem model_noise_yes (K R N d : Int) (w : World) (hM : MayM K R N) (hT : MayT d) :
    Calls Tryz.prog 6 #[.agg #[.int .i64 K, .int .i64 R, .int .i64 N], .int .i64 d] w fun e w' => e = .returned (.tuple #[.agg (mvals 6 6 (mz 6 6 (tw (nz K d N)))).toArray, .bool false, .nilIface]) ∧ Below w.heap.size w w' := by
  have m0 := (crow_new w 31 [.int .i64 K, .int .i64 R, .int .i64 N]).alloc (.cells (mvals 0 0 (fun _ => 0)).toArray 26)
  have r0 := mrow_new1 w (.cells [.int .i64 K, .int .i64 R, .int .i64 N].toArray 31) 0 0 (fun _ => 0)
  have B0 : Below w.heap.size w ((w.alloc (.cells [.int .i64 K, .int .i64 R, .int .i64 N].toArray 31)).alloc (.cells (mvals 0 0 (fun _ => 0)).toArray 26)) := below_al (below_al (Below.refl _ _) _) _
  obtain ⟨W, hW⟩ : ∃ W, W = (w.alloc (.cells [.int .i64 K, .int .i64 R, .int .i64 N].toArray 31)).alloc (.cells (mvals 0 0 (fun _ => 0)).toArray 26) := ⟨_, rfl⟩
  rw [← hW] at m0 r0 B0
  have HW := hide hW
  clear hW
  go_enter Tryz.func6, Tryz.ntmps6
  go_wp2_with (first
    | (rw [zeroM]; erw [← HW.out]; refine St.wpList_load isMd (by rfl) _ (by rfl) _ _ (by rfl) (by with_reducible exact m0) rfl ?_))
  refine (mcheck_yes K R N W hM).mono ?_
  rintro e w1 ⟨rfl, k1⟩
  have m1 := CRow.keep m0 k1
  have r1 := r0.keep k1
  have B1 := below_tr B0 k1
  go_wp2_with fail
  refine (time_yes d _ hT).mono ?_
  rintro e w2 ⟨rfl, k2⟩
  have m2 := CRow.keep m1 k2
  have r2 := r1.keep k2
  have B2 := below_tr B1 k2
  have s3 : Sure _ w2.heap.size := crow_new w2 48 [.bool false]
  have K3 := below_al (Below.refl _ w2) (.cells [.bool false].toArray 48)
  have m3 := CRow.keep m2 K3
  have r3 := r2.keep K3
  have B3 := below_tr B2 K3
  obtain ⟨W3, hW3⟩ : ∃ W, W = w2.alloc (.cells [.bool false].toArray 48) := ⟨_, rfl⟩
  rw [← hW3] at s3 K3 m3 r3 B3
  have HW3 := hide hW3
  clear hW3 m0 r0 B0 m1 r1 B1 m2 r2 B2 k1 k2 K3
  go_wp2_with (first
    | (erw [← HW3.out]; refine St.wpList_load isMd (by rfl) _ (by rfl) _ _ (by rfl) (by with_reducible exact m3) rfl ?_))
  refine (mnoise_any w2.heap.size K R d N W3 s3 hT hM.1).mono ?_
  rintro e w4 ⟨rfl, k4⟩
  have s4 := s3.keep k4
  have r4 := r3.keep k4
  have B4 := below_tr B3 k4
  go_wp2_with fail
  refine (twice_any (nz K d N) _).mono ?_
  rintro e w4' ⟨lo, cm, rfl, hG, k4'⟩
  have s4' := s4.keep k4'
  have r4' := r4.keep k4'
  have B4' := below_tr B4 k4'
  go_wp2_with fail
  refine (matrix_any w2.heap.size lo cm _ _ s4' hG).mono ?_
  rintro e w5 ⟨rfl, k5⟩
  have r5 := r4'.keep k5
  have B5 := below_tr B4' k5
  go_wp2_with (first
    | (refine wpList_storeM rfl _ _ (by rfl) _ _ _ _ _ _ _ (by rfl) (by rfl) (by with_reducible exact r5) ?_))
  exact bodyPost_ret (results_M3 Tryz.results6 _ _ (w.heap.size + 1) _ _ _ rfl (r5.row _ _ _)) rfl ⟨rfl, Mt.below_row B5 (by omega) _⟩
end Go.Proofs.YtnjiilknnlcblaaGreatDoor

/-
  What must come whatever the input is (sure of the laws of layer 11), and a model as the program's.
-/
set_option linter.unusedSimpArgs false
set_option linter.unusedVariables false
namespace Go.Proofs.YtnjiilknnlcblaaGreatDoor
open Go.RowKit Vc St Qn Dt Tg Ld Mt Mo
attribute [local go_sem ↓] Go.wp_at_zero Go.wp_at_succ

namespace Mo
theorem isRm : Is 23 3 := ⟨by kernel_rfl, ⟨_, Tryz.underlying23, rfl⟩⟩
theorem sv1 : mz 6 6 (stepF 0 0 1048576) 0 = 1048576 := by decide +kernel
theorem sv2 : mz 6 6 (stepF 0 0 1048576) 1 = 1048576 := by decide +kernel
theorem sv3 : mz 6 6 (stepF 0 0 1048576) 2 = 0 := by decide +kernel
theorem sv4 : mz 6 6 (stepF 0 0 1048576) 7 = 1048576 := by decide +kernel
theorem sv5 : mz 6 6 (tw (nz 1 2097152 1048576)) 0 = 4194320 := by decide +kernel
theorem sv6 : mz 6 6 (tw (nz 1 2097152 1048576)) 14 = 1048592 := by decide +kernel
end Mo

set_option maxRecDepth 10000 in
set_option maxHeartbeats 400000 in
theorem give_any (K R N : Int) (w : World) :
    Calls Tryz.prog 5 #[.agg #[.int .i64 K, .int .i64 R, .int .i64 N]] w fun e w' => e = .returned (.agg #[.int .i64 K, .int .i64 R, .int .i64 N]) ∧ Below w.heap.size w w' := by
  have r1 := crow_new1 w (.cells #[.int .i64 K, .int .i64 R, .int .i64 N] 23) 31 [.int .i64 K, .int .i64 R, .int .i64 N]
  go_enter Tryz.func5, Tryz.ntmps5
  go_wp2
  exact bodyPost_ret (v := .agg #[.int .i64 K, .int .i64 R, .int .i64 N]) (results_1 isMd Tryz.results5 _ _ (w.heap.size + 1) [.int .i64 K, .int .i64 R, .int .i64 N] rfl r1 rfl) rfl ⟨rfl, below_al (below_al (Below.refl _ _) _) _⟩

set_option maxRecDepth 20000 in
set_option maxHeartbeats 2000000 in
theorem mosure_any (w : World) (hA : AngTab w) :
    Calls Tryz.prog 13 #[] w fun e w' => e = .returned (.bool true) ∧ Below w.heap.size w w' := by
  have hM0 : MayM 0 0 1048576 := ⟨⟨by omega, by omega⟩, .inl ⟨.inl rfl, rfl⟩⟩
  have hM1 : MayM 1 0 1048576 := ⟨⟨by omega, by omega⟩, .inl ⟨.inr rfl, rfl⟩⟩
  have HS := hide (fun W (h : AngTab W) => model_step_yes 0 0 1048576 1048576 W h hM0 ⟨by omega, by omega⟩)
  have HN := hide (fun W => model_noise_yes 1 0 1048576 2097152 W hM1 ⟨by omega, by omega⟩)
  have HC := hide (fun W => name_any 2 W)
  have e : nm 2 = .string { data := #[108, 101, 102, 116] } := rfl
  rw [e] at HC
  obtain ⟨x, hx⟩ : ∃ x, x = mz 6 6 (stepF 0 0 1048576) := ⟨_, rfl⟩
  obtain ⟨y, hy⟩ : ∃ x, x = mz 6 6 (tw (nz 1 2097152 1048576)) := ⟨_, rfl⟩
  have s1 := sv1
  have s2 := sv2
  have s3 := sv3
  have s4 := sv4
  have s5 := sv5
  have s6 := sv6
  rw [← hx] at HS s1 s2 s3 s4
  rw [← hy] at HN s5 s6
  clear hx hy hM0 hM1 e
  go_enter Tryz.func13, Tryz.ntmps13
  go_wp2_with fail
  refine (HS.out _ hA).mono ?_
  rintro e w1 ⟨rfl, k1⟩
  go_wp2_with (first
    | (rw [zeroM]; refine Mt.wpList_storeNew rfl _ _ (by rfl) _ _ _ _ (by rfl) (by rfl) ?_; intro w2 n2 k2; have B2 := below_tr k1 k2))
  refine (HN.out _).mono ?_
  rintro e w3 ⟨rfl, k3⟩
  have n3 := n2.keep k3
  have B3 := below_tr B2 k3
  clear n2 k3 B2
  go_wp2_with (first
    | (rw [zeroM]; refine Mt.wpList_storeNew rfl _ _ (by rfl) _ _ _ _ (by rfl) (by rfl) ?_; intro w4 n4 k4
       have B4 := below_tr B3 k4
       have n3' := n3.keep k4
       have c0 : w4.cell? ⟨w1.heap.size, 2, none⟩ = some (.int .i64 1048576) := by have e := n3'.cell (k := 0) (by omega) rfl; rw [s1] at e; exact e
       have c1 : w4.cell? ⟨w1.heap.size, 3, none⟩ = some (.int .i64 1048576) := by have e := n3'.cell (k := 1) (by omega) rfl; rw [s2] at e; exact e
       have c2 : w4.cell? ⟨w1.heap.size, 4, none⟩ = some (.int .i64 0) := by have e := n3'.cell (k := 2) (by omega) rfl; rw [s3] at e; exact e
       have c7 : w4.cell? ⟨w1.heap.size, 9, none⟩ = some (.int .i64 1048576) := by have e := n3'.cell (k := 7) (by omega) rfl; rw [s4] at e; exact e
       have d0 : w4.cell? ⟨w3.heap.size, 2, none⟩ = some (.int .i64 4194320) := by have e := n4.cell (k := 0) (by omega) rfl; rw [s5] at e; exact e
       have d1 : w4.cell? ⟨w3.heap.size, 16, none⟩ = some (.int .i64 1048592) := by have e := n4.cell (k := 14) (by omega) rfl; rw [s6] at e; exact e
       clear n3 n3' n4 k4 B3))
  refine (HC.out _).mono ?_
  rintro e w5 ⟨rfl, k5⟩
  go_wp2
  go_ret
  exact ⟨rfl, below_tr B4 k5⟩
end Go.Proofs.YtnjiilknnlcblaaGreatDoor
