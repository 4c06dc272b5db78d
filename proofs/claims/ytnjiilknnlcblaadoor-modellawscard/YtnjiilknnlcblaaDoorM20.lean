/-
  How things move (model): rows as a matrix, Step and Noise.
-/
import Derived.Test.YtnjiilknnlcblaaDoorMoE
import Derived.Test.YtnjiilknnlcblaaDoorM16
import Derived.Test.YtnjiilknnlcblaaDoorRegM
import Derived.RegionTactic
import Derived.ChangeAlike
import Derived.BigRegion
import Derived.Test.YtnjiilknnlcblaaDoorM13
set_option linter.unusedSimpArgs false
set_option linter.unusedVariables false
namespace Go.Proofs.YtnjiilknnlcblaaDoor
open Go.RowKit Vc St Qn Dt Tg Ld Mt Mo
attribute [local go_sem ↓] Go.wp_at_zero Go.wp_at_succ

set_option maxRecDepth 10000 in
set_option maxHeartbeats 2000000 in
theorem matrix_any (g : Nat) (lo : Option Addr) (cm : Nat) (F : Nat → Nat → Int) (w : World) (h : Sure w g) (hG : Grid w lo 6 cm 6 F) :
    Calls Tryd.prog 15 #[.pointer (some ⟨g, 0, none⟩), .slice lo 6 cm] w fun e w' => e = .returned (.tuple #[.agg (mvals 6 6 (mz 6 6 F)).toArray, .bool false, .nilIface]) ∧ Below w.heap.size w w' := by
  have r0 := mrow_new w 0 0 (fun _ => 0)
  have B0 := below_al (Below.refl _ w) (.cells (mvals 0 0 (fun _ => 0)).toArray 26)
  obtain ⟨W, hW⟩ : ∃ W, W = w.alloc (.cells (mvals 0 0 (fun _ => 0)).toArray 26) := ⟨_, rfl⟩
  rw [← hW] at r0 B0
  have HW := hide hW
  obtain ⟨A, C, a1, a2⟩ := hG.keep B0
  have HO := hide (mof_any 6 6 lo cm A C F W (by omega) (by omega) (by omega) (by omega) a1 a2)
  obtain ⟨z, hz⟩ : ∃ z, z = mz 6 6 F := ⟨_, rfl⟩
  rw [← hz] at HO ⊢
  have g0 := h.keep B0
  clear hW hz a1 a2 hG
  go_enter Tryd.func15, Tryd.ntmps15
  go_wp2_with fail
  rw [zeroM, ← HW.out]
  refine HO.out.mono ?_
  rintro e w1 ⟨rfl, k1⟩
  have r1 := r0.keep k1
  have g1 := g0.keep k1
  have B1 := below_tr B0 k1
  have hl := r1.lt
  clear HO HW r0 g0 B0 k1
  go_wp2_with (first
    | (rw [zeroM]; refine Mt.wpList_storeNew rfl _ _ (by rfl) _ _ _ _ (by rfl) (by rfl) ?_; intro w2 n2 k2; have r2 := r1.keep k2; have g2 := g1.keep k2; have B2 := below_tr B1 k2; clear r1 g1 B1))
  have cg : w2.cell? ⟨g, 0, none⟩ = some (.bool false) := CRow.cell g2 (k := 0) rfl rfl
  have hne : w1.heap.size ≠ w.heap.size := by omega
  have hng : g ≠ w.heap.size := by have := CRow.lt h; omega
  refine Ru.wp_region_U [7] (fun w' => MRow w' w1.heap.size 6 6 z ∧ w'.cell? ⟨g, 0, none⟩ = some (.bool false)) (by kernel_rfl) ⟨n2.drew, cg⟩ (fun hHeld => ?_)
  refine Ru.wpAnyU_take (i := 0) (v := .agg (mvals 6 6 z).toArray) rfl (by kernel_rfl) (by kernel_rfl) (by kernel_rfl) (by kernel_rfl) (by kernel_rfl) (by kernel_rfl) (fun _ _ _ h => h) (Ru.yieldsM (by rfl) _ (by rfl) w1.heap.size 6 6 z (by rfl) (fun w h => h.1)) hHeld ?_
  simp only [Act.put, List.getElem_toArray, List.getElem_cons_zero, List.getElem_cons_succ, List.setIfInBounds_toArray, List.set_cons_zero, List.set_cons_succ]
  refine Ru.wpAnyU_take (i := 1) (v := .pointer (some ⟨g, 0, none⟩)) rfl (by kernel_rfl) (by kernel_rfl) (by kernel_rfl) (by kernel_rfl) (by kernel_rfl) (by kernel_rfl) (fun _ _ _ h => h) (Or.inl ⟨by rfl, fun w hS => by obtain ⟨sc0, sc1⟩ := hS; go_simp⟩) hHeld ?_
  simp only [Act.put, List.getElem_toArray, List.getElem_cons_zero, List.getElem_cons_succ, List.setIfInBounds_toArray, List.set_cons_zero, List.set_cons_succ]
  refine Ru.wpAnyU_take (i := 2) (v := .pointer (some ⟨g, 0, none⟩)) rfl (by kernel_rfl) (by kernel_rfl) (by kernel_rfl) (by kernel_rfl) (by kernel_rfl) (by kernel_rfl) (fun _ _ _ h => h) (Or.inl ⟨by rfl, fun w hS => by obtain ⟨sc0, sc1⟩ := hS; go_simp⟩) hHeld ?_
  simp only [Act.put, List.getElem_toArray, List.getElem_cons_zero, List.getElem_cons_succ, List.setIfInBounds_toArray, List.set_cons_zero, List.set_cons_succ]
  refine Ru.wpAnyU_take (i := 3) (v := .pointer (some ⟨g, 0, none⟩)) rfl (by kernel_rfl) (by kernel_rfl) (by kernel_rfl) (by kernel_rfl) (by kernel_rfl) (by kernel_rfl) (fun _ _ _ h => h) (Or.inl ⟨by rfl, fun w hS => by obtain ⟨sc0, sc1⟩ := hS; go_simp⟩) hHeld ?_
  simp only [Act.put, List.getElem_toArray, List.getElem_cons_zero, List.getElem_cons_succ, List.setIfInBounds_toArray, List.set_cons_zero, List.set_cons_succ]
  refine Ru.wpAnyU_take (i := 4) (v := .bool false) rfl (by kernel_rfl) (by kernel_rfl) (by kernel_rfl) (by kernel_rfl) (by kernel_rfl) (by kernel_rfl) (fun _ _ _ h => h) (Or.inl ⟨by rfl, fun w hS => by obtain ⟨sc0, sc1⟩ := hS; go_simp⟩) hHeld ?_
  simp only [Act.put, List.getElem_toArray, List.getElem_cons_zero, List.getElem_cons_succ, List.setIfInBounds_toArray, List.set_cons_zero, List.set_cons_succ]
  refine Ru.wpAnyU_ready (rs := [5]) (by kernel_rfl) (by simp) ?_
  refine Ru.AllReadyU.cons rfl (by kernel_rfl) (fun K hK => ?_) Ru.AllReadyU.nil
  refine Ru.stepM (by rfl) _ _ (by rfl) w.heap.size _ _ 6 6 _ z (by rfl) (by rfl) r2.drew ?_
  have n3 : MRow (w2.drew.setRow w.heap.size (mvals 6 6 z).toArray) w1.heap.size 6 6 z := n2.drew.rowOther hne _
  have r3 : MRow (w2.drew.setRow w.heap.size (mvals 6 6 z).toArray) w.heap.size 6 6 z := r2.drew.row _ _ _
  have g3 : CRow (w2.drew.setRow w.heap.size (mvals 6 6 z).toArray) g 47 [.bool false] := (CRow.drew g2).rowOther hng _
  have B3 := Mt.below_row (Below.drew B2) (Nat.le_refl _) (mvals 6 6 z).toArray
  have c3 : (w2.drew.setRow w.heap.size (mvals 6 6 z).toArray).cell? ⟨g, 0, none⟩ = some (.bool false) := CRow.cell g3 (k := 0) rfl rfl
  refine hK.out _ _ ⟨n3, c3⟩ (fun hHeld => ?_)
  clear hK K
  try simp only [Act.put, List.getElem_toArray, List.getElem_cons_zero, List.getElem_cons_succ, List.setIfInBounds_toArray, List.set_cons_zero, List.set_cons_succ]
  refine Ru.wpAnyU_take (i := 6) (v := .bool false) rfl (by kernel_rfl) (by kernel_rfl) (by kernel_rfl) (by kernel_rfl) (by kernel_rfl) (by kernel_rfl) (fun _ _ _ h => h) (Or.inl ⟨by rfl, fun w hS => by obtain ⟨sc0, sc1⟩ := hS; go_simp⟩) hHeld ?_
  simp only [Act.put, List.getElem_toArray, List.getElem_cons_zero, List.getElem_cons_succ, List.setIfInBounds_toArray, List.set_cons_zero, List.set_cons_succ]
  refine Ru.wpAnyU_ready (rs := [7]) (by kernel_rfl) (by simp) ?_
  refine Ru.AllReadyU.cons2 rfl (by kernel_rfl) (fun K hK => ?_) Ru.AllReadyU.nil
  go_simp
  refine hK.out _ _ ?_
  clear hK K
  try simp only [Act.put, List.getElem_toArray, List.getElem_cons_zero, List.getElem_cons_succ, List.setIfInBounds_toArray, List.set_cons_zero, List.set_cons_succ]
  refine wpAny_done (by kernel_rfl) ?_ _
  go_wp2
  exact bodyPost_ret (results_M3 Tryd.results15 _ _ w.heap.size _ _ _ rfl r3) rfl ⟨rfl, B3⟩

namespace Mo
/-- What a time makes of a state. -/
def stepF (K R d : Int) : Nat → Nat → Int := if K = 2 then arcF (-(sV R d)) (cV R d) (pV R d) (-(qV R d)) else if K = 3 then arcF (sV R d) (cV R d) (pV R d) (qV R d) else tw (stF K d)
theorem bl_st1 (d : Int) : (bl (stF 1 d)).toArray = #[.int .i64 1048576, .int .i64 d, .int .i64 (hf d), .int .i64 0, .int .i64 1048576, .int .i64 d, .int .i64 0, .int .i64 0, .int .i64 1048576] := by
  simp [bl, vals, List.range, List.range.loop, stF]
theorem bl_st0 (d : Int) : (bl (stF 0 d)).toArray = #[.int .i64 1048576, .int .i64 d, .int .i64 0, .int .i64 0, .int .i64 1048576, .int .i64 0, .int .i64 0, .int .i64 0, .int .i64 0] := by
  simp [bl, vals, List.range, List.range.loop, stF]
end Mo

set_option maxRecDepth 10000 in
set_option maxHeartbeats 2000000 in
theorem mstep_any (g : Nat) (K R d N : Int) (w : World) (hT : AngTab w) (h : Sure w g) (hm : MayM K R N) (ht : MayT d) :
    Calls Tryd.prog 24 #[.agg #[.int .i64 K, .int .i64 R, .int .i64 N], .int .i64 d, .pointer (some ⟨g, 0, none⟩)] w fun e w' => ∃ lo cm, e = .returned (.slice lo 6 cm) ∧ Grid w' lo 6 cm 6 (stepF K R d) ∧ Below w.heap.size w w' := by
  have m0 := crow_new w 31 [.int .i64 K, .int .i64 R, .int .i64 N]
  have B0 := below_al (Below.refl _ w) (.cells [.int .i64 K, .int .i64 R, .int .i64 N].toArray 31)
  have g0 := h.keep B0
  have T0 := hT.below B0
  obtain ⟨hn, ⟨hK, hR⟩ | ⟨hK, hR⟩⟩ := hm
  · clear hR
    rcases hK with rfl | rfl
    · have HT := hide (fun W => twice_any (stF 0 d) W)
      rw [bl_st0] at HT
      have e : Hid (stepF 0 R d = tw (stF 0 d)) := rfl
      rw [e.out]
      clear e
      generalize tw (stF 0 d) = F at *
      go_enter Tryd.func24, Tryd.ntmps24
      go_wp2_with fail
      refine (HT.out _).mono ?_
      rintro e w1 ⟨lo, cm, rfl, hG, k1⟩
      go_wp2
      go_ret
      exact ⟨lo, cm, rfl, hG, below_tr B0 k1⟩
    · have HT := hide (fun W => twice_any (stF 1 d) W)
      rw [bl_st1] at HT
      have e : Hid (stepF 1 R d = tw (stF 1 d)) := rfl
      rw [e.out]
      clear e
      have HH := hide (half_no g d _ g0 ht)
      generalize tw (stF 1 d) = F at *
      go_enter Tryd.func24, Tryd.ntmps24
      go_wp2_with fail
      refine HH.out.mono ?_
      rintro e w1 ⟨rfl, k1⟩
      go_wp2_with fail
      refine (HT.out _).mono ?_
      rintro e w2 ⟨lo, cm, rfl, hG, k2⟩
      go_wp2
      go_ret
      exact ⟨lo, cm, rfl, hG, below_tr (below_tr B0 k1) k2⟩
  · have sb := (sV_in R d).2.2
    have qb := (qV_in (d := d) hR).2
    have HA := hide (arc_any g R d _ T0 g0 hR ht)
    have HR := hide (fun W => arows_any (sV R d) (cV R d) (pV R d) (qV R d) W (by omega) (by omega) (by omega) (by omega))
    have HM := hide (fun W => mirror_any (sV R d) (cV R d) (pV R d) (qV R d) W (by omega) (by omega) (by omega) (by omega))
    have HL := hide (fun W => arows_any (-(sV R d)) (cV R d) (pV R d) (-(qV R d)) W (by omega) (by omega) (by omega) (by omega))
    have c1 : (w.alloc (.cells #[.int .i64 K, .int .i64 R, .int .i64 N] 31)).cell? ⟨w.heap.size, 1, none⟩ = some (.int .i64 R) := CRow.cell m0 (k := 1) rfl rfl
    clear sb qb
    rcases hK with rfl | rfl
    · have e : Hid (stepF 2 R d = arcF (-(sV R d)) (cV R d) (pV R d) (-(qV R d))) := rfl
      rw [e.out]
      clear e
      generalize arcF (-(sV R d)) (cV R d) (pV R d) (-(qV R d)) = F at *
      generalize (arcL (-(sV R d)) (cV R d) (pV R d) (-(qV R d))).toArray = U at *
      generalize (arcL (sV R d) (cV R d) (pV R d) (qV R d)).toArray = V at *
      go_enter Tryd.func24, Tryd.ntmps24
      go_wp2_with fail
      refine HA.out.mono ?_
      rintro e w1 ⟨rfl, k1⟩
      go_wp2_with fail
      refine (HM.out _).mono ?_
      rintro e w2 ⟨rfl, k2⟩
      go_wp2_with fail
      refine (HL.out _).mono ?_
      rintro e w3 ⟨lo, cm, rfl, hG, k3⟩
      go_wp2
      go_ret
      exact ⟨lo, cm, rfl, hG, below_tr (below_tr (below_tr B0 k1) k2) k3⟩
    · have e : Hid (stepF 3 R d = arcF (sV R d) (cV R d) (pV R d) (qV R d)) := rfl
      rw [e.out]
      clear e
      generalize arcF (sV R d) (cV R d) (pV R d) (qV R d) = F at *
      generalize (arcL (sV R d) (cV R d) (pV R d) (qV R d)).toArray = V at *
      go_enter Tryd.func24, Tryd.ntmps24
      go_wp2_with fail
      refine HA.out.mono ?_
      rintro e w1 ⟨rfl, k1⟩
      go_wp2_with fail
      refine (HR.out _).mono ?_
      rintro e w2 ⟨lo, cm, rfl, hG, k2⟩
      go_wp2
      go_ret
      exact ⟨lo, cm, rfl, hG, below_tr (below_tr B0 k1) k2⟩
end Go.Proofs.YtnjiilknnlcblaaDoor

/-
  How things move (model): Step and Noise.
-/
set_option linter.unusedSimpArgs false
set_option linter.unusedVariables false
namespace Go.Proofs.YtnjiilknnlcblaaDoor
open Go.RowKit Vc St Qn Dt Tg Ld Mt Mo
attribute [local go_sem ↓] Go.wp_at_zero Go.wp_at_succ

set_option maxRecDepth 10000 in
set_option maxHeartbeats 2000000 in
theorem model_step_no (K R N d : Int) (w : World) (h : ¬ MayM K R N ∨ ¬ MayT d) :
    Calls Tryd.prog 9 #[.agg #[.int .i64 K, .int .i64 R, .int .i64 N], .int .i64 d] w fun e w' => e = .returned (.tuple #[.agg (mvals 0 0 (fun _ => 0)).toArray, .bool false, .iface 45 (.int .i64 1)]) ∧ Below w.heap.size w w' := by
  have m0 := (crow_new w 31 [.int .i64 K, .int .i64 R, .int .i64 N]).alloc (.cells (mvals 0 0 (fun _ => 0)).toArray 26)
  have r0 := mrow_new1 w (.cells [.int .i64 K, .int .i64 R, .int .i64 N].toArray 31) 0 0 (fun _ => 0)
  have B0 : Below w.heap.size w ((w.alloc (.cells [.int .i64 K, .int .i64 R, .int .i64 N].toArray 31)).alloc (.cells (mvals 0 0 (fun _ => 0)).toArray 26)) := below_al (below_al (Below.refl _ _) _) _
  obtain ⟨W, hW⟩ : ∃ W, W = (w.alloc (.cells [.int .i64 K, .int .i64 R, .int .i64 N].toArray 31)).alloc (.cells (mvals 0 0 (fun _ => 0)).toArray 26) := ⟨_, rfl⟩
  rw [← hW] at m0 r0 B0
  have HW := hide hW
  clear hW
  by_cases hM : MayM K R N
  · have hT : ¬ MayT d := by rcases h with h | h; (exact absurd hM h); exact h
    clear h
    go_enter Tryd.func9, Tryd.ntmps9
    go_wp2_with (first
      | (rw [zeroM]; erw [← HW.out]; refine St.wpList_load isMd (by rfl) _ (by rfl) _ _ (by rfl) (by with_reducible exact m0) rfl ?_))
    refine (mcheck_yes K R N W hM).mono ?_
    rintro e w1 ⟨rfl, k1⟩
    have r1 := r0.keep k1
    have B1 := below_tr B0 k1
    go_wp2_with fail
    refine (time_no d _ hT).mono ?_
    rintro e w2 ⟨rfl, k2⟩
    have r2 := r1.keep k2
    have B2 := below_tr B1 k2
    go_wp2_with (first
      | (refine wpList_build0 rfl (by rfl) ?_)
      | (refine wpList_storeM rfl _ _ (by rfl) _ _ _ _ _ _ _ (by rfl) (by rfl) (by with_reducible exact r2) ?_))
    exact bodyPost_ret (results_M3 Tryd.results9 _ _ (w.heap.size + 1) _ _ _ rfl (r2.row _ _ _)) rfl ⟨rfl, Mt.below_row B2 (by omega) _⟩
  · clear h
    go_enter Tryd.func9, Tryd.ntmps9
    go_wp2_with (first
      | (rw [zeroM]; erw [← HW.out]; refine St.wpList_load isMd (by rfl) _ (by rfl) _ _ (by rfl) (by with_reducible exact m0) rfl ?_))
    refine (mcheck_no K R N W hM).mono ?_
    rintro e w1 ⟨rfl, k1⟩
    have r2 := r0.keep k1
    have B2 := below_tr B0 k1
    go_wp2_with (first
      | (refine wpList_build0 rfl (by rfl) ?_)
      | (refine wpList_storeM rfl _ _ (by rfl) _ _ _ _ _ _ _ (by rfl) (by rfl) (by with_reducible exact r2) ?_))
    exact bodyPost_ret (results_M3 Tryd.results9 _ _ (w.heap.size + 1) _ _ _ rfl (r2.row _ _ _)) rfl ⟨rfl, Mt.below_row B2 (by omega) _⟩

set_option maxRecDepth 10000 in
set_option maxHeartbeats 2000000 in
theorem model_step_yes (K R N d : Int) (w : World) (hA : AngTab w) (hM : MayM K R N) (hT : MayT d) :
    Calls Tryd.prog 9 #[.agg #[.int .i64 K, .int .i64 R, .int .i64 N], .int .i64 d] w fun e w' => e = .returned (.tuple #[.agg (mvals 6 6 (mz 6 6 (stepF K R d))).toArray, .bool false, .nilIface]) ∧ Below w.heap.size w w' := by
  have m0 := (crow_new w 31 [.int .i64 K, .int .i64 R, .int .i64 N]).alloc (.cells (mvals 0 0 (fun _ => 0)).toArray 26)
  have r0 := mrow_new1 w (.cells [.int .i64 K, .int .i64 R, .int .i64 N].toArray 31) 0 0 (fun _ => 0)
  have B0 : Below w.heap.size w ((w.alloc (.cells [.int .i64 K, .int .i64 R, .int .i64 N].toArray 31)).alloc (.cells (mvals 0 0 (fun _ => 0)).toArray 26)) := below_al (below_al (Below.refl _ _) _) _
  obtain ⟨W, hW⟩ : ∃ W, W = (w.alloc (.cells [.int .i64 K, .int .i64 R, .int .i64 N].toArray 31)).alloc (.cells (mvals 0 0 (fun _ => 0)).toArray 26) := ⟨_, rfl⟩
  rw [← hW] at m0 r0 B0
  have HW := hide hW
  clear hW
  go_enter Tryd.func9, Tryd.ntmps9
  go_wp2_with (first
    | (rw [zeroM]; erw [← HW.out]; refine St.wpList_load isMd (by rfl) _ (by rfl) _ _ (by rfl) (by with_reducible exact m0) rfl ?_))
  refine (mcheck_yes K R N W hM).mono ?_
  rintro e w1 ⟨rfl, k1⟩
  have m1 := CRow.keep m0 k1
  have r1 := r0.keep k1
  have B1 := below_tr B0 k1
  go_wp2_with fail
  refine (time_yes d _ hT).mono ?_
  rintro e w2 ⟨rfl, k2⟩
  have m2 := CRow.keep m1 k2
  have r2 := r1.keep k2
  have B2 := below_tr B1 k2
  have s3 : Sure _ w2.heap.size := crow_new w2 47 [.bool false]
  have K3 := below_al (Below.refl _ w2) (.cells [.bool false].toArray 47)
  have m3 := CRow.keep m2 K3
  have r3 := r2.keep K3
  have B3 := below_tr B2 K3
  obtain ⟨W3, hW3⟩ : ∃ W, W = w2.alloc (.cells [.bool false].toArray 47) := ⟨_, rfl⟩
  rw [← hW3] at s3 K3 m3 r3 B3
  have HW3 := hide hW3
  clear hW3 m0 r0 B0 m1 r1 B1 m2 r2 B2 k1 k2 K3
  go_wp2_with (first
    | (erw [← HW3.out]; refine St.wpList_load isMd (by rfl) _ (by rfl) _ _ (by rfl) (by with_reducible exact m3) rfl ?_))
  refine (mstep_any w2.heap.size K R d N W3 (hA.below B3) s3 hM hT).mono ?_
  rintro e w4 ⟨lo, cm, rfl, hG, k4⟩
  have s4 := s3.keep k4
  have r4 := r3.keep k4
  have B4 := below_tr B3 k4
  go_wp2_with fail
  refine (matrix_any w2.heap.size lo cm _ _ s4 hG).mono ?_
  rintro e w5 ⟨rfl, k5⟩
  have r5 := r4.keep k5
  have B5 := below_tr B4 k5
  go_wp2_with (first
    | (refine wpList_storeM rfl _ _ (by rfl) _ _ _ _ _ _ _ (by rfl) (by rfl) (by with_reducible exact r5) ?_))
  exact bodyPost_ret (results_M3 Tryd.results9 _ _ (w.heap.size + 1) _ _ _ rfl (r5.row _ _ _)) rfl ⟨rfl, Mt.below_row B5 (by omega) _⟩

set_option maxRecDepth 10000 in
set_option maxHeartbeats 2000000 in
theorem model_noise_no (K R N d : Int) (w : World) (h : ¬ MayM K R N ∨ ¬ MayT d) :
    Calls Tryd.prog 4 #[.agg #[.int .i64 K, .int .i64 R, .int .i64 N], .int .i64 d] w fun e w' => e = .returned (.tuple #[.agg (mvals 0 0 (fun _ => 0)).toArray, .bool false, .iface 45 (.int .i64 1)]) ∧ Below w.heap.size w w' := by
  have m0 := (crow_new w 31 [.int .i64 K, .int .i64 R, .int .i64 N]).alloc (.cells (mvals 0 0 (fun _ => 0)).toArray 26)
  have r0 := mrow_new1 w (.cells [.int .i64 K, .int .i64 R, .int .i64 N].toArray 31) 0 0 (fun _ => 0)
  have B0 : Below w.heap.size w ((w.alloc (.cells [.int .i64 K, .int .i64 R, .int .i64 N].toArray 31)).alloc (.cells (mvals 0 0 (fun _ => 0)).toArray 26)) := below_al (below_al (Below.refl _ _) _) _
  obtain ⟨W, hW⟩ : ∃ W, W = (w.alloc (.cells [.int .i64 K, .int .i64 R, .int .i64 N].toArray 31)).alloc (.cells (mvals 0 0 (fun _ => 0)).toArray 26) := ⟨_, rfl⟩
  rw [← hW] at m0 r0 B0
  have HW := hide hW
  clear hW
  by_cases hM : MayM K R N
  · have hT : ¬ MayT d := by rcases h with h | h; (exact absurd hM h); exact h
    clear h
    go_enter Tryd.func4, Tryd.ntmps4
    go_wp2_with (first
      | (rw [zeroM]; erw [← HW.out]; refine St.wpList_load isMd (by rfl) _ (by rfl) _ _ (by rfl) (by with_reducible exact m0) rfl ?_))
    refine (mcheck_yes K R N W hM).mono ?_
    rintro e w1 ⟨rfl, k1⟩
    have r1 := r0.keep k1
    have B1 := below_tr B0 k1
    go_wp2_with fail
    refine (time_no d _ hT).mono ?_
    rintro e w2 ⟨rfl, k2⟩
    have r2 := r1.keep k2
    have B2 := below_tr B1 k2
    go_wp2_with (first
      | (refine wpList_build0 rfl (by rfl) ?_)
      | (refine wpList_storeM rfl _ _ (by rfl) _ _ _ _ _ _ _ (by rfl) (by rfl) (by with_reducible exact r2) ?_))
    exact bodyPost_ret (results_M3 Tryd.results4 _ _ (w.heap.size + 1) _ _ _ rfl (r2.row _ _ _)) rfl ⟨rfl, Mt.below_row B2 (by omega) _⟩
  · clear h
    go_enter Tryd.func4, Tryd.ntmps4
    go_wp2_with (first
      | (rw [zeroM]; erw [← HW.out]; refine St.wpList_load isMd (by rfl) _ (by rfl) _ _ (by rfl) (by with_reducible exact m0) rfl ?_))
    refine (mcheck_no K R N W hM).mono ?_
    rintro e w1 ⟨rfl, k1⟩
    have r2 := r0.keep k1
    have B2 := below_tr B0 k1
    go_wp2_with (first
      | (refine wpList_build0 rfl (by rfl) ?_)
      | (refine wpList_storeM rfl _ _ (by rfl) _ _ _ _ _ _ _ (by rfl) (by rfl) (by with_reducible exact r2) ?_))
    exact bodyPost_ret (results_M3 Tryd.results4 _ _ (w.heap.size + 1) _ _ _ rfl (r2.row _ _ _)) rfl ⟨rfl, Mt.below_row B2 (by omega) _⟩

set_option maxRecDepth 10000 in
set_option maxHeartbeats 2000000 in
theorem model_noise_yes (K R N d : Int) (w : World) (hM : MayM K R N) (hT : MayT d) :
    Calls Tryd.prog 4 #[.agg #[.int .i64 K, .int .i64 R, .int .i64 N], .int .i64 d] w fun e w' => e = .returned (.tuple #[.agg (mvals 6 6 (mz 6 6 (tw (nz K d N)))).toArray, .bool false, .nilIface]) ∧ Below w.heap.size w w' := by
  have m0 := (crow_new w 31 [.int .i64 K, .int .i64 R, .int .i64 N]).alloc (.cells (mvals 0 0 (fun _ => 0)).toArray 26)
  have r0 := mrow_new1 w (.cells [.int .i64 K, .int .i64 R, .int .i64 N].toArray 31) 0 0 (fun _ => 0)
  have B0 : Below w.heap.size w ((w.alloc (.cells [.int .i64 K, .int .i64 R, .int .i64 N].toArray 31)).alloc (.cells (mvals 0 0 (fun _ => 0)).toArray 26)) := below_al (below_al (Below.refl _ _) _) _
  obtain ⟨W, hW⟩ : ∃ W, W = (w.alloc (.cells [.int .i64 K, .int .i64 R, .int .i64 N].toArray 31)).alloc (.cells (mvals 0 0 (fun _ => 0)).toArray 26) := ⟨_, rfl⟩
  rw [← hW] at m0 r0 B0
  have HW := hide hW
  clear hW
  go_enter Tryd.func4, Tryd.ntmps4
  go_wp2_with (first
    | (rw [zeroM]; erw [← HW.out]; refine St.wpList_load isMd (by rfl) _ (by rfl) _ _ (by rfl) (by with_reducible exact m0) rfl ?_))
  refine (mcheck_yes K R N W hM).mono ?_
  rintro e w1 ⟨rfl, k1⟩
  have m1 := CRow.keep m0 k1
  have r1 := r0.keep k1
  have B1 := below_tr B0 k1
  go_wp2_with fail
  refine (time_yes d _ hT).mono ?_
  rintro e w2 ⟨rfl, k2⟩
  have m2 := CRow.keep m1 k2
  have r2 := r1.keep k2
  have B2 := below_tr B1 k2
  have s3 : Sure _ w2.heap.size := crow_new w2 47 [.bool false]
  have K3 := below_al (Below.refl _ w2) (.cells [.bool false].toArray 47)
  have m3 := CRow.keep m2 K3
  have r3 := r2.keep K3
  have B3 := below_tr B2 K3
  obtain ⟨W3, hW3⟩ : ∃ W, W = w2.alloc (.cells [.bool false].toArray 47) := ⟨_, rfl⟩
  rw [← hW3] at s3 K3 m3 r3 B3
  have HW3 := hide hW3
  clear hW3 m0 r0 B0 m1 r1 B1 m2 r2 B2 k1 k2 K3
  go_wp2_with (first
    | (erw [← HW3.out]; refine St.wpList_load isMd (by rfl) _ (by rfl) _ _ (by rfl) (by with_reducible exact m3) rfl ?_))
  refine (mnoise_any w2.heap.size K R d N W3 s3 hT hM.1).mono ?_
  rintro e w4 ⟨rfl, k4⟩
  have s4 := s3.keep k4
  have r4 := r3.keep k4
  have B4 := below_tr B3 k4
  go_wp2_with fail
  refine (twice_any (nz K d N) _).mono ?_
  rintro e w4' ⟨lo, cm, rfl, hG, k4'⟩
  have s4' := s4.keep k4'
  have r4' := r4.keep k4'
  have B4' := below_tr B4 k4'
  go_wp2_with fail
  refine (matrix_any w2.heap.size lo cm _ _ s4' hG).mono ?_
  rintro e w5 ⟨rfl, k5⟩
  have r5 := r4'.keep k5
  have B5 := below_tr B4' k5
  go_wp2_with (first
    | (refine wpList_storeM rfl _ _ (by rfl) _ _ _ _ _ _ _ (by rfl) (by rfl) (by with_reducible exact r5) ?_))
  exact bodyPost_ret (results_M3 Tryd.results4 _ _ (w.heap.size + 1) _ _ _ rfl (r5.row _ _ _)) rfl ⟨rfl, Mt.below_row B5 (by omega) _⟩
end Go.Proofs.YtnjiilknnlcblaaDoor

/-
  What must come whatever the input is (sure of the laws of layer 11), and a model as the program's.
-/
set_option linter.unusedSimpArgs false
set_option linter.unusedVariables false
namespace Go.Proofs.YtnjiilknnlcblaaDoor
open Go.RowKit Vc St Qn Dt Tg Ld Mt Mo
attribute [local go_sem ↓] Go.wp_at_zero Go.wp_at_succ

namespace Mo
theorem isRm : Is 23 3 := ⟨by kernel_rfl, ⟨_, Tryd.underlying23, rfl⟩⟩
theorem sv1 : mz 6 6 (stepF 0 0 1048576) 0 = 1048576 := by decide +kernel
theorem sv2 : mz 6 6 (stepF 0 0 1048576) 1 = 1048576 := by decide +kernel
theorem sv3 : mz 6 6 (stepF 0 0 1048576) 2 = 0 := by decide +kernel
theorem sv4 : mz 6 6 (stepF 0 0 1048576) 7 = 1048576 := by decide +kernel
theorem sv5 : mz 6 6 (tw (nz 1 2097152 1048576)) 0 = 4194320 := by decide +kernel
theorem sv6 : mz 6 6 (tw (nz 1 2097152 1048576)) 14 = 1048592 := by decide +kernel
end Mo

set_option maxRecDepth 10000 in
set_option maxHeartbeats 400000 in
theorem give_any (K R N : Int) (w : World) :
    Calls Tryd.prog 5 #[.agg #[.int .i64 K, .int .i64 R, .int .i64 N]] w fun e w' => e = .returned (.agg #[.int .i64 K, .int .i64 R, .int .i64 N]) ∧ Below w.heap.size w w' := by
  have r1 := crow_new1 w (.cells #[.int .i64 K, .int .i64 R, .int .i64 N] 23) 31 [.int .i64 K, .int .i64 R, .int .i64 N]
  go_enter Tryd.func5, Tryd.ntmps5
  go_wp2
  exact bodyPost_ret (v := .agg #[.int .i64 K, .int .i64 R, .int .i64 N]) (results_1 isMd Tryd.results5 _ _ (w.heap.size + 1) [.int .i64 K, .int .i64 R, .int .i64 N] rfl r1 rfl) rfl ⟨rfl, below_al (below_al (Below.refl _ _) _) _⟩

set_option maxRecDepth 20000 in
set_option maxHeartbeats 2000000 in
theorem mosure_any (w : World) (hA : AngTab w) :
    Calls Tryd.prog 7 #[] w fun e w' => e = .returned (.bool true) ∧ Below w.heap.size w w' := by
  have hM0 : MayM 0 0 1048576 := ⟨⟨by omega, by omega⟩, .inl ⟨.inl rfl, rfl⟩⟩
  have hM1 : MayM 1 0 1048576 := ⟨⟨by omega, by omega⟩, .inl ⟨.inr rfl, rfl⟩⟩
  have HS := hide (fun W (h : AngTab W) => model_step_yes 0 0 1048576 1048576 W h hM0 ⟨by omega, by omega⟩)
  have HN := hide (fun W => model_noise_yes 1 0 1048576 2097152 W hM1 ⟨by omega, by omega⟩)
  have HC := hide (fun W => name_any 2 W)
  have e : nm 2 = .string { data := #[108, 101, 102, 116] } := rfl
  rw [e] at HC
  obtain ⟨x, hx⟩ : ∃ x, x = mz 6 6 (stepF 0 0 1048576) := ⟨_, rfl⟩
  obtain ⟨y, hy⟩ : ∃ x, x = mz 6 6 (tw (nz 1 2097152 1048576)) := ⟨_, rfl⟩
  have s1 := sv1
  have s2 := sv2
  have s3 := sv3
  have s4 := sv4
  have s5 := sv5
  have s6 := sv6
  rw [← hx] at HS s1 s2 s3 s4
  rw [← hy] at HN s5 s6
  clear hx hy hM0 hM1 e
  go_enter Tryd.func7, Tryd.ntmps7
  go_wp2_with fail
  refine (HS.out _ hA).mono ?_
  rintro e w1 ⟨rfl, k1⟩
  go_wp2_with (first
    | (rw [zeroM]; refine Mt.wpList_storeNew rfl _ _ (by rfl) _ _ _ _ (by rfl) (by rfl) ?_; intro w2 n2 k2; have B2 := below_tr k1 k2))
  refine (HN.out _).mono ?_
  rintro e w3 ⟨rfl, k3⟩
  have n3 := n2.keep k3
  have B3 := below_tr B2 k3
  clear n2 k3 B2
  go_wp2_with (first
    | (rw [zeroM]; refine Mt.wpList_storeNew rfl _ _ (by rfl) _ _ _ _ (by rfl) (by rfl) ?_; intro w4 n4 k4
       have B4 := below_tr B3 k4
       have n3' := n3.keep k4
       have c0 : w4.cell? ⟨w1.heap.size, 2, none⟩ = some (.int .i64 1048576) := by have e := n3'.cell (k := 0) (by omega) rfl; rw [s1] at e; exact e
       have c1 : w4.cell? ⟨w1.heap.size, 3, none⟩ = some (.int .i64 1048576) := by have e := n3'.cell (k := 1) (by omega) rfl; rw [s2] at e; exact e
       have c2 : w4.cell? ⟨w1.heap.size, 4, none⟩ = some (.int .i64 0) := by have e := n3'.cell (k := 2) (by omega) rfl; rw [s3] at e; exact e
       have c7 : w4.cell? ⟨w1.heap.size, 9, none⟩ = some (.int .i64 1048576) := by have e := n3'.cell (k := 7) (by omega) rfl; rw [s4] at e; exact e
       have d0 : w4.cell? ⟨w3.heap.size, 2, none⟩ = some (.int .i64 4194320) := by have e := n4.cell (k := 0) (by omega) rfl; rw [s5] at e; exact e
       have d1 : w4.cell? ⟨w3.heap.size, 16, none⟩ = some (.int .i64 1048592) := by have e := n4.cell (k := 14) (by omega) rfl; rw [s6] at e; exact e
       clear n3 n3' n4 k4 B3))
  refine (HC.out _).mono ?_
  rintro e w5 ⟨rfl, k5⟩
  go_wp2
  go_ret
  exact ⟨rfl, below_tr B4 k5⟩
end Go.Proofs.YtnjiilknnlcblaaDoor

/-
  How things move: a noise is even and rises with the time; a place alone stays; a turn to the left undoes one to the right. Plain mathematics.
-/
set_option linter.unusedSimpArgs false
set_option linter.unusedVariables false
namespace Go.Proofs.YtnjiilknnlcblaaDoor
namespace Mo
open Qn Tg Po Vc Mt Dt

theorem tw_bd {b : Nat → Nat → Int} (h : ∀ i j, -9000000000000000000 ≤ b i j ∧ b i j ≤ 9000000000000000000) : B2 (tw b) := by
  intro i j
  have := h (i % 3) (j % 3)
  unfold tw
  split <;> omega
theorem nz_b2 (K : Int) {d N : Int} (h : MayT d) (n : MayN N) : B2 (tw (nz K d N)) := tw_bd fun i j => by have := nz_in K h n i j; omega
theorem stF_bd (K : Int) {d : Int} (h : MayT d) (i j : Nat) : -9000000000000000000 ≤ stF K d i j ∧ stF K d i j ≤ 9000000000000000000 := by
  have h2 := (hf_in h).2.2
  obtain ⟨h0, h1⟩ := h
  unfold stF
  split <;> (try split) <;> omega
theorem row6_bd {a b c d e f : Int} (ha : -9000000000000000000 ≤ a ∧ a ≤ 9000000000000000000) (hb : -9000000000000000000 ≤ b ∧ b ≤ 9000000000000000000) (hc : -9000000000000000000 ≤ c ∧ c ≤ 9000000000000000000) (hd : -9000000000000000000 ≤ d ∧ d ≤ 9000000000000000000) (he : -9000000000000000000 ≤ e ∧ e ≤ 9000000000000000000) (hf : -9000000000000000000 ≤ f ∧ f ≤ 9000000000000000000) : B64 (row6 a b c d e f) := by
  intro k
  unfold row6
  split <;> omega
theorem arcF_b2 {s c p q : Int} (hs : -9000000000 ≤ s ∧ s ≤ 9000000000) (hc : -9000000000 ≤ c ∧ c ≤ 9000000000) (hp : -9000000000 ≤ p ∧ p ≤ 9000000000) (hq : -9000000000 ≤ q ∧ q ≤ 9000000000) : B2 (arcF s c p q) := by
  intro i
  unfold arcF
  split <;> (apply row6_bd <;> omega)
theorem arc_b2 {R d : Int} (hR : MayR R) : B2 (arcF (sV R d) (cV R d) (pV R d) (qV R d)) ∧ B2 (arcF (-(sV R d)) (cV R d) (pV R d) (-(qV R d))) := by
  have h1 := (sV_in R d).2.2
  have h2 := (cV_in R d).2.2
  have h3 := (pV_in (d := d) hR).2
  have h4 := (qV_in (d := d) hR).2
  exact ⟨arcF_b2 (by omega) (by omega) (by omega) (by omega), arcF_b2 (by omega) (by omega) (by omega) (by omega)⟩
theorem step_b2 {K R N d : Int} (hM : MayM K R N) (hT : MayT d) : B2 (stepF K R d) := by
  obtain ⟨_, ⟨hK, hR⟩ | ⟨hK, hR⟩⟩ := hM
  · rcases hK with rfl | rfl
    · exact tw_bd (stF_bd 0 hT)
    · exact tw_bd (stF_bd 1 hT)
  · rcases hK with rfl | rfl
    · exact (arc_b2 hR).2
    · exact (arc_b2 hR).1

/-- A place of which nothing moves. -/
def plc : Nat → Int := row6 5242880 0 0 (-7340032) 0 0
theorem plc_bd : B64 plc := row6_bd (by omega) (by omega) (by omega) (by omega) (by omega) (by omega)
theorem dk_plc (f : Nat → Int) : dk f plc 6 = f 0 * 5242880 + f 3 * (-7340032) := by
  show ((((((0 + f 0 * 5242880) + f 1 * 0) + f 2 * 0) + f 3 * (-7340032)) + f 4 * 0) + f 5 * 0) = _
  omega
/-- The first and the fourth number of each row. -/
theorem step_col {K R N d : Int} (hM : MayM K R N) : ∀ i, i < 6 → stepF K R d i 0 = (if i = 0 then 1048576 else 0) ∧ stepF K R d i 3 = (if i = 3 then 1048576 else 0) := by
  have key : ∀ s c p q : Int, ∀ i, i < 6 → arcF s c p q i 0 = (if i = 0 then 1048576 else 0) ∧ arcF s c p q i 3 = (if i = 3 then 1048576 else 0) := fun s c p q i hi => by
    rcases i with _ | _ | _ | _ | _ | _ | i
    · exact ⟨rfl, rfl⟩
    · exact ⟨rfl, rfl⟩
    · exact ⟨rfl, rfl⟩
    · exact ⟨rfl, rfl⟩
    · exact ⟨rfl, rfl⟩
    · exact ⟨rfl, rfl⟩
    · omega
  have key2 : ∀ K : Int, ∀ i, i < 6 → tw (stF K d) i 0 = (if i = 0 then 1048576 else 0) ∧ tw (stF K d) i 3 = (if i = 3 then 1048576 else 0) := fun K i hi => by
    rcases i with _ | _ | _ | _ | _ | _ | i
    · exact ⟨rfl, rfl⟩
    · exact ⟨rfl, rfl⟩
    · exact ⟨rfl, rfl⟩
    · exact ⟨rfl, rfl⟩
    · exact ⟨rfl, rfl⟩
    · exact ⟨rfl, rfl⟩
    · omega
  obtain ⟨_, ⟨hK, hR⟩ | ⟨hK, hR⟩⟩ := hM
  · rcases hK with rfl | rfl
    · exact key2 0
    · exact key2 1
  · rcases hK with rfl | rfl
    · exact key _ _ _ _
    · exact key _ _ _ _
theorem app_plc {K R N d : Int} (hM : MayM K R N) : ∀ i, i < 6 → clamp (appR (stepF K R d) plc 6 i) = plc i := by
  intro i hi
  have h := step_col (d := d) hM i hi
  unfold appR
  rw [dk_plc, h.1, h.2]
  rcases i with _ | _ | _ | _ | _ | _ | i
  · show clamp (rne (1048576 * 5242880 + 0 * (-7340032)) (2 ^ 20)) = 5242880; decide +kernel
  · show clamp (rne (0 * 5242880 + 0 * (-7340032)) (2 ^ 20)) = 0; decide +kernel
  · show clamp (rne (0 * 5242880 + 0 * (-7340032)) (2 ^ 20)) = 0; decide +kernel
  · show clamp (rne (0 * 5242880 + 1048576 * (-7340032)) (2 ^ 20)) = -7340032; decide +kernel
  · show clamp (rne (0 * 5242880 + 0 * (-7340032)) (2 ^ 20)) = 0; decide +kernel
  · show clamp (rne (0 * 5242880 + 0 * (-7340032)) (2 ^ 20)) = 0; decide +kernel
  · omega
/-- The same turned. -/
theorem tw_comm {b : Nat → Nat → Int} (h : ∀ i j, b i j = b j i) (i j : Nat) : tw b i j = tw b j i := by
  unfold tw
  by_cases e : i / 3 = j / 3
  · rw [if_pos e, if_pos e.symm, h]
  · rw [if_neg e, if_neg (fun q => e q.symm)]
theorem nz_turn (K d N : Int) : (fun i j => tw (nz K d N) j i) = tw (nz K d N) := by
  funext i j
  exact tw_comm (nz_comm K d N) j i
/-- What is on the diagonal. -/
theorem dia (F : Nat → Nat → Int) {i : Nat} (hi : i < 6) : mz 6 6 F (7 * i) = F i i := by
  have e : 7 * i = i * 6 + i := by omega
  rw [e]
  exact mz_at hi hi
theorem nz_dia (K : Int) {d e N : Int} (h : MayT d) (k : MayT e) (n : MayN N) (hde : d ≤ e) (i : Nat) : tw (nz K d N) i i ≤ tw (nz K e N) i i ∧ 16 ≤ tw (nz K d N) i i := by
  have h1 := ng_up K h k n hde (i % 3) (i % 3)
  have h2 := (ng_in K h n (i % 3) (i % 3)).2.2
  unfold tw nz
  rw [if_pos rfl, if_pos rfl, if_pos rfl]
  omega
/-- A turn to the left, then one to the right, in the velocity. -/
theorem undo (R d : Int) {r c : Nat} (hr : r < 2) (hc : c < 2) :
    mulR (stepF 2 R d) (stepF 3 R d) 6 (1 + 3 * r) (1 + 3 * c) = rne (if r = c then sV R d * sV R d + cV R d * cV R d else 0) (2 ^ 20) := by
  have e2 : stepF 2 R d = arcF (-(sV R d)) (cV R d) (pV R d) (-(qV R d)) := rfl
  have e3 : stepF 3 R d = arcF (sV R d) (cV R d) (pV R d) (qV R d) := rfl
  unfold mulR
  rw [e2, e3]
  generalize sV R d = s
  generalize cV R d = a
  generalize pV R d = p
  generalize qV R d = q
  congr 1
  rcases r with _ | _ | r
  · rcases c with _ | _ | c
    · show ((((((0 + 0 * p) + a * a) + 0 * 0) + 0 * (- q)) + (-s) * (-s)) + 0 * 0) = s * s + a * a
      grind
    · show ((((((0 + 0 * q) + a * s) + 0 * 0) + 0 * p) + (-s) * a) + 0 * 0) = 0
      grind
    · omega
  · rcases c with _ | _ | c
    · show ((((((0 + 0 * p) + (- -s) * a) + 0 * 0) + 0 * (- q)) + a * (-s)) + 0 * 0) = 0
      grind
    · show ((((((0 + 0 * q) + (- -s) * s) + 0 * 0) + 0 * p) + a * a) + 0 * 0) = s * s + a * a
      grind
    · omega
  · omega
theorem undo_near (R d : Int) {r c : Nat} (hr : r < 2) (hc : c < 2) : ∃ z, clamp (mulR (stepF 2 R d) (stepF 3 R d) 6 (1 + 3 * r) (1 + 3 * c)) = z ∧ -16 ≤ z - (if r = c then 1048576 else 0) ∧ z - (if r = c then 1048576 else 0) ≤ 16 := by
  refine ⟨_, rfl, ?_⟩
  rw [undo R d hr hc]
  by_cases e : r = c
  · rw [if_pos e, if_pos e]
    have h := one_near R d
    have hn := rne_near (sV R d * sV R d + cV R d * cV R d) (d := 2 ^ 20) (by decide)
    rw [pw] at hn ⊢
    generalize sV R d * sV R d + cV R d * cV R d = n at *
    generalize rne n 1048576 = r' at *
    rw [clampId (by omega) (by omega)]
    omega
  · rw [if_neg e, if_neg e]
    have : clamp (rne 0 (2 ^ 20)) = 0 := by decide +kernel
    rw [this]
    omega
/-- Where they stand. -/
theorem vel_at (F : Nat → Nat → Int) {r c : Nat} (hr : r < 2) (hc : c < 2) : mz 6 6 F (18 * r + 3 * c + 7) = F (1 + 3 * r) (1 + 3 * c) := by
  have e : 18 * r + 3 * c + 7 = (1 + 3 * r) * 6 + (1 + 3 * c) := by omega
  rw [e]
  exact mz_at (by omega) (by omega)
end Mo
end Go.Proofs.YtnjiilknnlcblaaDoor
