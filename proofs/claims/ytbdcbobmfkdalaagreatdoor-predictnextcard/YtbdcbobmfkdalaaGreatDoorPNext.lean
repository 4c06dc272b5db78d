/-
  What is proved: whatever state, step and noise it is given, the law PredictNext of layer 12 returns true, ends without a panic, and leaves what was there as it was; its condition: the variable errors.errorType holds what it is laid with.
-/
import Derived.Test.YtbdcbobmfkdalaaGreatDoorM20
import Derived.Test.YtbdcbobmfkdalaaGreatDoorPdL
import Derived.Test.YtbdcbobmfkdalaaGreatDoorM17
import Derived.Test.YtbdcbobmfkdalaaGreatDoorMtY
import Derived.Test.YtbdcbobmfkdalaaGreatDoorLieS
import Derived.Test.YtbdcbobmfkdalaaGreatDoorRegM
import Derived.Test.YtbdcbobmfkdalaaGreatDoorErrA
import Derived.Test.YtbdcbobmfkdalaaGreatDoorM16
import Derived.Test.YtbdcbobmfkdalaaGreatDoorFPredictNext
import Derived.Deep.DeepCutAuto
import Derived.Deep.CutRange
set_option linter.unusedSimpArgs false
set_option linter.unusedVariables false
namespace Go.Proofs.YtbdcbobmfkdalaaGreatDoor
open Go.RowKit Vc St Mt Cm Ld Pd Pr Qn Dt
attribute [local go_sem ↓] Go.wp_at_zero Go.wp_at_succ

theorem isrows12 {w : World} {a : Option Addr} {len cap : Nat} {A : Nat → Option Addr} {L C : Nat → Nat} {Z : Nat → List Int} (h : FPredictNext.IsRows .i64 w a len cap A L C Z) :
    Sls w a len cap A L C ∧ ∀ r, r < len → Sl w (A r) (L r) (C r) (fun k => (Z r).getD k 0) ∧ B64 (fun k => (Z r).getD k 0) := by
  rcases h with ⟨rfl, rfl, rfl⟩ | ⟨x, rfl, h1, h2, h3⟩
  · exact ⟨⟨Nat.le_refl _, by omega, fun j hj => by omega⟩, fun r hr => by omega⟩
  · refine ⟨⟨h1, h2, fun j hj => ⟨x, rfl, (h3 j (by omega)).1⟩⟩, fun r hr => ?_⟩
    obtain ⟨r1, r2, r3, r4, r5, r6, r7⟩ := h3 r (by omega)
    refine ⟨⟨r2, r3, fun k hk => ?_⟩, getD_b r5⟩
    cases e : A r with
    | none => have := r6 e; omega
    | some y => exact ⟨y, rfl, r7 y e k (by omega)⟩
set_option maxRecDepth 20000 in
set_option maxHeartbeats 8000000 in
theorem pn_bad (xo po a1 a2 : Option Addr) (xc n pc l1 c1p l2 c2p : Nat) (X : Nat → Int) (r c : Int) (z : Nat → Int) (r1 c1 : Int) (z1 : Nat → Int) (r2 c2 : Int) (z2 : Nat → Int) (w : World) (hE : ErrTab w)
    (hG : ∀ W, Below w.heap.size w W → Calls Tryz.prog 5 #[.agg #[.slice xo 6 xc, .slice po n pc]] W fun e w' => e = .returned (.agg (svals X r c z).toArray) ∧ Below W.heap.size W w')
    (h1 : ∀ W, Below w.heap.size w W → Calls Tryz.prog 8 #[.slice a1 l1 c1p] W fun e w' => e = .returned (.agg (mvals r1 c1 z1).toArray) ∧ Below W.heap.size W w')
    (h2 : ∀ W, Below w.heap.size w W → Calls Tryz.prog 8 #[.slice a2 l2 c2p] W fun e w' => e = .returned (.agg (mvals r2 c2 z2).toArray) ∧ Below W.heap.size W w')
    (hC : ∀ W, Calls Tryz.prog 6 #[.agg (svals X r c z).toArray] W fun e w' => e = .returned (.iface 54 (.int .i64 1)) ∧ Below W.heap.size W w')
    (hN : ∀ W, Calls Tryz.prog 7 #[.agg (svals X r c z).toArray, .agg (mvals r1 c1 z1).toArray, .agg (mvals r2 c2 z2).toArray] W fun e w' => e = .returned (.tuple #[.agg (svals (fun _ => 0) 0 0 (fun _ => 0)).toArray, .bool false, .iface 54 (.int .i64 1)]) ∧ Below W.heap.size W w')
    (hM : ∀ W, Below w.heap.size w W → Calls Tryz.prog 9 #[.agg #[.slice xo 6 xc, .slice po n pc]] W fun e w' => e = .returned (.bool false) ∧ Below W.heap.size W w')
    : Calls Tryz.prog 3 #[.agg #[.slice xo 6 xc, .slice po n pc], .slice a1 l1 c1p, .slice a2 l2 c2p] w fun e w' => e = .returned (.bool true) ∧ Below w.heap.size w w' := by
  have HE := hide hE
  have HG := hide hG
  have H1 := hide h1
  have H2 := hide h2
  have HC := hide hC
  have HN := hide hN
  have HM := hide hM
  have HQ := hide (fun W => psame_any X r c z X r c z W)
  rw [eqS_same] at HQ
  have m0 := crow_new w 25 [.slice xo 6 xc, .slice po n pc]
  have KK0 := below_al (Below.refl _ w) (.cells [.slice xo 6 xc, .slice po n pc].toArray 25)
  clear hE hG h1 h2 hC hN hM
  go_enter Tryz.func3, Tryz.ntmps3
  go_wp2_with (first
    | ((with_reducible show wpList _ _ _ _ _ _); refine St.wpList_load isRs (by rfl) _ (by rfl) _ _ (by rfl) (by with_reducible exact m0) rfl ?_)
    | fail)
  refine (HG.out _ KK0).mono ?_
  rintro e wq1 ⟨rfl, kq1⟩
  have KK1 := below_tr KK0 kq1
  have m_1 := CRow.keep m0 kq1
  clear KK0 m0
  go_wp2_with (first
    | ((with_reducible show wpList _ _ _ _ _ _); rw [zeroS]; refine St.wpList_storeNew isS rfl _ _ (by rfl) _ _ _ (by rfl) (by rfl) (svals_len _ _ _ _) (svals_len _ _ _ _) (one_svals _ _ _ _) ?_; intro ws2 ns2 ks2; have KK2 := below_tr KK1 ks2; have m_2 := CRow.keep m_1 ks2; clear KK1 m_1)
    | ((with_reducible show wpList _ _ _ _ _ _); refine St.wpList_load isS (by rfl) _ (by rfl) _ _ (by rfl) (by with_reducible exact ns2) (svals_len _ _ _ _) ?_)
    | fail)
  refine (HC.out _).mono ?_
  rintro e wq3 ⟨rfl, kq3⟩
  have KK3 := below_tr KK2 kq3
  have m_3 := CRow.keep m_2 kq3
  have x_3 := CRow.keep ns2 kq3
  clear KK2 m_2 ns2
  go_upto_region 5 with fail
  go_cut [9, 10, 11] (fun p o f wx => ∃ g : Nat, p = .pointer (some ⟨g, 0, none⟩) ∧ o = .bool false ∧ f = .iface 54 (.int .i64 1) ∧ CRow wx g 32 (svals (fun _ => 0) 0 0 (fun _ => 0)) ∧ Below wq3.heap.size wq3 wx)
  case first =>
    have hS : ∀ W, Below wq3.heap.size wq3 W → SRow W wq1.heap.size X r c z := fun W q => CRow.keep x_3 q
    have KQ := hide KK3
    have lx := CRow.lt x_3
    clear x_3 m_3 KK3
    refine Ru.wp_region_U [] (fun w' => SRow w' wq1.heap.size X r c z) (by kernel_rfl) (hS _ (Vc.below_drew' _)) (fun hHeld => ?_)
    refine Ru.wpAnyU_take (i := 0) (v := .agg (svals X r c z).toArray) rfl (by kernel_rfl) (by kernel_rfl) (by kernel_rfl) (by kernel_rfl) (by kernel_rfl) (by kernel_rfl) (fun _ _ _ h => h) (Ru.yieldsC isS (by kernel_rfl) _ (by rfl) wq1.heap.size _ (by rfl) (fun w h => h) (svals_len _ _ _ _)) hHeld ?_
    simp only [Act.put, List.getElem_toArray, List.getElem_cons_zero, List.getElem_cons_succ, List.setIfInBounds_toArray, List.set_cons_zero, List.set_cons_succ]
    refine Ru.wpAnyU_take (i := 1) (v := .slice a1 l1 c1p) rfl (by kernel_rfl) (by kernel_rfl) (by kernel_rfl) (by kernel_rfl) (by kernel_rfl) (by kernel_rfl) (fun _ _ _ h => h) (Or.inl ⟨by kernel_rfl, fun w hS => by have sc0 := hS; go_simp⟩) hHeld ?_
    simp only [Act.put, List.getElem_toArray, List.getElem_cons_zero, List.getElem_cons_succ, List.setIfInBounds_toArray, List.set_cons_zero, List.set_cons_succ]
    refine Ru.wpAnyU_take (i := 3) (v := .slice a2 l2 c2p) rfl (by kernel_rfl) (by kernel_rfl) (by kernel_rfl) (by kernel_rfl) (by kernel_rfl) (by kernel_rfl) (fun _ _ _ h => h) (Or.inl ⟨by kernel_rfl, fun w hS => by have sc0 := hS; go_simp⟩) hHeld ?_
    simp only [Act.put, List.getElem_toArray, List.getElem_cons_zero, List.getElem_cons_succ, List.setIfInBounds_toArray, List.set_cons_zero, List.set_cons_succ]
    refine Ru.wpAnyU_ready (rs := [2, 10]) (by kernel_rfl) (by simp) ?_
    refine Ru.AllReadyU.cons rfl (by kernel_rfl) (fun K hK => ?_) ?_
    · go_simp
      refine (H1.out _ (below_tr KQ.out (Vc.below_drew' wq3))).mono ?_
      rintro e v_1 ⟨rfl, k_1⟩
      have D_1 := below_tr (Vc.below_drew' wq3) k_1
      go_wp2_with fail
      refine hK.out _ _ (hS _ D_1) (fun hHeld => ?_)
      clear hK K
      try simp only [Act.put, List.getElem_toArray, List.getElem_cons_zero, List.getElem_cons_succ, List.setIfInBounds_toArray, List.set_cons_zero, List.set_cons_succ]
      refine Ru.wpAnyU_ready (rs := [4, 10]) (by kernel_rfl) (by simp) ?_
      refine Ru.AllReadyU.cons rfl (by kernel_rfl) (fun K hK => ?_) ?_
      · go_simp
        refine (H2.out _ (below_tr KQ.out D_1)).mono ?_
        rintro e v_2 ⟨rfl, k_2⟩
        have D_2 := below_tr D_1 k_2
        go_wp2_with fail
        refine hK.out _ _ (hS _ D_2) (fun hHeld => ?_)
        clear hK K
        try simp only [Act.put, List.getElem_toArray, List.getElem_cons_zero, List.getElem_cons_succ, List.setIfInBounds_toArray, List.set_cons_zero, List.set_cons_succ]
        refine Ru.wpAnyU_ready (rs := [5, 10]) (by kernel_rfl) (by simp) ?_
        refine Ru.AllReadyU.cons rfl (by kernel_rfl) (fun K hK => ?_) ?_
        · go_simp
          refine (HN.out _).mono ?_
          rintro e v_3 ⟨rfl, k_3⟩
          have D_3 := below_tr D_2 k_3
          go_wp2_with fail
          refine hK.out _ _ (hS _ D_3) (fun hHeld => ?_)
          clear hK K
          try simp only [Act.put, List.getElem_toArray, List.getElem_cons_zero, List.getElem_cons_succ, List.setIfInBounds_toArray, List.set_cons_zero, List.set_cons_succ]
          refine Ru.wpAnyU_take (i := 6) (v := .tuple #[.agg (svals (fun _ => 0) 0 0 (fun _ => 0)).toArray, .bool false, .iface 54 (.int .i64 1)]) rfl (by kernel_rfl) (by kernel_rfl) (by kernel_rfl) (by kernel_rfl) (by kernel_rfl) (by kernel_rfl) (fun _ _ _ h => h) (Or.inl ⟨by kernel_rfl, fun w hS => by have sc0 := hS; go_simp⟩) hHeld ?_
          simp only [Act.put, List.getElem_toArray, List.getElem_cons_zero, List.getElem_cons_succ, List.setIfInBounds_toArray, List.set_cons_zero, List.set_cons_succ]
          refine Ru.wpAnyU_take (i := 7) (v := .agg (svals (fun _ => 0) 0 0 (fun _ => 0)).toArray) rfl (by kernel_rfl) (by kernel_rfl) (by kernel_rfl) (by kernel_rfl) (by kernel_rfl) (by kernel_rfl) (fun _ _ _ h => h) (Or.inl ⟨by kernel_rfl, fun w hS => by have sc0 := hS; go_simp⟩) hHeld ?_
          simp only [Act.put, List.getElem_toArray, List.getElem_cons_zero, List.getElem_cons_succ, List.setIfInBounds_toArray, List.set_cons_zero, List.set_cons_succ]
          refine Ru.wpAnyU_take (i := 8) (v := .bool false) rfl (by kernel_rfl) (by kernel_rfl) (by kernel_rfl) (by kernel_rfl) (by kernel_rfl) (by kernel_rfl) (fun _ _ _ h => h) (Or.inl ⟨by kernel_rfl, fun w hS => by have sc0 := hS; go_simp⟩) hHeld ?_
          simp only [Act.put, List.getElem_toArray, List.getElem_cons_zero, List.getElem_cons_succ, List.setIfInBounds_toArray, List.set_cons_zero, List.set_cons_succ]
          refine Ru.wpAnyU_take (i := 9) (v := .iface 54 (.int .i64 1)) rfl (by kernel_rfl) (by kernel_rfl) (by kernel_rfl) (by kernel_rfl) (by kernel_rfl) (by kernel_rfl) (fun _ _ _ h => h) (Or.inl ⟨by kernel_rfl, fun w hS => by have sc0 := hS; go_simp⟩) hHeld ?_
          simp only [Act.put, List.getElem_toArray, List.getElem_cons_zero, List.getElem_cons_succ, List.setIfInBounds_toArray, List.set_cons_zero, List.set_cons_succ]
          refine Ru.wpAnyU_ready (rs := [10]) (by kernel_rfl) (by simp) ?_
          refine Ru.AllReadyU.cons rfl (by kernel_rfl) (fun K hK => ?_) Ru.AllReadyU.nil
          go_simp
          try rw [zeroS]
          have n_4 : CRow (v_3.alloc (.cells (svals (fun _ => 0) 0 0 (fun _ => 0)).toArray 32)) v_3.heap.size 32 (svals (fun _ => 0) 0 0 (fun _ => 0)) := crow_new v_3 32 (svals (fun _ => 0) 0 0 (fun _ => 0))
          have a_4 := below_al (Below.refl _ v_3) (.cells (svals (fun _ => 0) 0 0 (fun _ => 0)).toArray 32)
          have g_4 := D_3.size
          have D_4 := below_tr D_3 a_4
          refine hK.out _ _ (hS _ D_4) (fun hHeld => ?_)
          clear hK K
          try simp only [Act.put, List.getElem_toArray, List.getElem_cons_zero, List.getElem_cons_succ, List.setIfInBounds_toArray, List.set_cons_zero, List.set_cons_succ]
          refine Ru.wpAnyU_ready (rs := [11]) (by kernel_rfl) (by simp) ?_
          refine Ru.AllReadyU.cons rfl (by kernel_rfl) (fun K hK => ?_) Ru.AllReadyU.nil
          refine Ru.stepC isS (by kernel_rfl) _ _ (by rfl) (v_3.heap.size) _ (svals (fun _ => 0) 0 0 (fun _ => 0)) (by rfl) (by rfl) n_4 (svals_len _ _ _ _) (svals_len _ _ _ _) (one_svals _ _ _ _) ?_
          have nE := CRow.row n_4 (svals (fun _ => 0) 0 0 (fun _ => 0))
          have xE := CRow.rowOther (hS _ D_4) (g := v_3.heap.size) (by omega) (svals (fun _ => 0) 0 0 (fun _ => 0)).toArray
          have bE := St.below_row D_4 (g := v_3.heap.size) (by omega) (svals (fun _ => 0) 0 0 (fun _ => 0)).toArray
          refine hK.out _ _ xE (fun hHeld => ?_)
          clear hK K
          try simp only [Act.put, List.getElem_toArray, List.getElem_cons_zero, List.getElem_cons_succ, List.setIfInBounds_toArray, List.set_cons_zero, List.set_cons_succ]
          refine Ru.wpAnyU_take (i := 12) (v := .bool false) rfl (by kernel_rfl) (by kernel_rfl) (by kernel_rfl) (by kernel_rfl) (by kernel_rfl) (by kernel_rfl) (fun _ _ _ h => h) (Or.inl ⟨by kernel_rfl, fun w hS => by have sc0 := hS; go_simp⟩) hHeld ?_
          simp only [Act.put, List.getElem_toArray, List.getElem_cons_zero, List.getElem_cons_succ, List.setIfInBounds_toArray, List.set_cons_zero, List.set_cons_succ]
          refine Ru.wpAnyU_take (i := 13) (v := .iface 54 (.int .i64 1)) rfl (by kernel_rfl) (by kernel_rfl) (by kernel_rfl) (by kernel_rfl) (by kernel_rfl) (by kernel_rfl) (fun _ _ _ h => h) (Or.inl ⟨by kernel_rfl, fun w hS => by have sc0 := hS; go_simp⟩) hHeld ?_
          simp only [Act.put, List.getElem_toArray, List.getElem_cons_zero, List.getElem_cons_succ, List.setIfInBounds_toArray, List.set_cons_zero, List.set_cons_succ]
          refine Ru.wpAnyU_done (by kernel_rfl) ?_
          go_wp2_with fail
          go_meet
          exact ⟨_, rfl, rfl, rfl, nE, bE⟩
        refine Ru.AllReadyU.cons rfl (by kernel_rfl) (fun K hK => ?_) Ru.AllReadyU.nil
        go_simp
        try rw [zeroS]
        have n_5 : CRow (v_2.alloc (.cells (svals (fun _ => 0) 0 0 (fun _ => 0)).toArray 32)) v_2.heap.size 32 (svals (fun _ => 0) 0 0 (fun _ => 0)) := crow_new v_2 32 (svals (fun _ => 0) 0 0 (fun _ => 0))
        have a_5 := below_al (Below.refl _ v_2) (.cells (svals (fun _ => 0) 0 0 (fun _ => 0)).toArray 32)
        have g_5 := D_2.size
        have D_5 := below_tr D_2 a_5
        refine hK.out _ _ (hS _ D_5) (fun hHeld => ?_)
        clear hK K
        try simp only [Act.put, List.getElem_toArray, List.getElem_cons_zero, List.getElem_cons_succ, List.setIfInBounds_toArray, List.set_cons_zero, List.set_cons_succ]
        refine Ru.wpAnyU_ready (rs := [5]) (by kernel_rfl) (by simp) ?_
        refine Ru.AllReadyU.cons rfl (by kernel_rfl) (fun K hK => ?_) Ru.AllReadyU.nil
        go_simp
        refine (HN.out _).mono ?_
        rintro e v_6 ⟨rfl, k_6⟩
        have D_6 := below_tr D_5 k_6
        have n_6 := CRow.keep n_5 k_6
        go_wp2_with fail
        refine hK.out _ _ (hS _ D_6) (fun hHeld => ?_)
        clear hK K
        try simp only [Act.put, List.getElem_toArray, List.getElem_cons_zero, List.getElem_cons_succ, List.setIfInBounds_toArray, List.set_cons_zero, List.set_cons_succ]
        refine Ru.wpAnyU_take (i := 6) (v := .tuple #[.agg (svals (fun _ => 0) 0 0 (fun _ => 0)).toArray, .bool false, .iface 54 (.int .i64 1)]) rfl (by kernel_rfl) (by kernel_rfl) (by kernel_rfl) (by kernel_rfl) (by kernel_rfl) (by kernel_rfl) (fun _ _ _ h => h) (Or.inl ⟨by kernel_rfl, fun w hS => by have sc0 := hS; go_simp⟩) hHeld ?_
        simp only [Act.put, List.getElem_toArray, List.getElem_cons_zero, List.getElem_cons_succ, List.setIfInBounds_toArray, List.set_cons_zero, List.set_cons_succ]
        refine Ru.wpAnyU_take (i := 7) (v := .agg (svals (fun _ => 0) 0 0 (fun _ => 0)).toArray) rfl (by kernel_rfl) (by kernel_rfl) (by kernel_rfl) (by kernel_rfl) (by kernel_rfl) (by kernel_rfl) (fun _ _ _ h => h) (Or.inl ⟨by kernel_rfl, fun w hS => by have sc0 := hS; go_simp⟩) hHeld ?_
        simp only [Act.put, List.getElem_toArray, List.getElem_cons_zero, List.getElem_cons_succ, List.setIfInBounds_toArray, List.set_cons_zero, List.set_cons_succ]
        refine Ru.wpAnyU_take (i := 8) (v := .bool false) rfl (by kernel_rfl) (by kernel_rfl) (by kernel_rfl) (by kernel_rfl) (by kernel_rfl) (by kernel_rfl) (fun _ _ _ h => h) (Or.inl ⟨by kernel_rfl, fun w hS => by have sc0 := hS; go_simp⟩) hHeld ?_
        simp only [Act.put, List.getElem_toArray, List.getElem_cons_zero, List.getElem_cons_succ, List.setIfInBounds_toArray, List.set_cons_zero, List.set_cons_succ]
        refine Ru.wpAnyU_take (i := 9) (v := .iface 54 (.int .i64 1)) rfl (by kernel_rfl) (by kernel_rfl) (by kernel_rfl) (by kernel_rfl) (by kernel_rfl) (by kernel_rfl) (fun _ _ _ h => h) (Or.inl ⟨by kernel_rfl, fun w hS => by have sc0 := hS; go_simp⟩) hHeld ?_
        simp only [Act.put, List.getElem_toArray, List.getElem_cons_zero, List.getElem_cons_succ, List.setIfInBounds_toArray, List.set_cons_zero, List.set_cons_succ]
        refine Ru.wpAnyU_ready (rs := [11]) (by kernel_rfl) (by simp) ?_
        refine Ru.AllReadyU.cons rfl (by kernel_rfl) (fun K hK => ?_) Ru.AllReadyU.nil
        refine Ru.stepC isS (by kernel_rfl) _ _ (by rfl) (v_2.heap.size) _ (svals (fun _ => 0) 0 0 (fun _ => 0)) (by rfl) (by rfl) n_6 (svals_len _ _ _ _) (svals_len _ _ _ _) (one_svals _ _ _ _) ?_
        have nE := CRow.row n_6 (svals (fun _ => 0) 0 0 (fun _ => 0))
        have xE := CRow.rowOther (hS _ D_6) (g := v_2.heap.size) (by omega) (svals (fun _ => 0) 0 0 (fun _ => 0)).toArray
        have bE := St.below_row D_6 (g := v_2.heap.size) (by omega) (svals (fun _ => 0) 0 0 (fun _ => 0)).toArray
        refine hK.out _ _ xE (fun hHeld => ?_)
        clear hK K
        try simp only [Act.put, List.getElem_toArray, List.getElem_cons_zero, List.getElem_cons_succ, List.setIfInBounds_toArray, List.set_cons_zero, List.set_cons_succ]
        refine Ru.wpAnyU_take (i := 12) (v := .bool false) rfl (by kernel_rfl) (by kernel_rfl) (by kernel_rfl) (by kernel_rfl) (by kernel_rfl) (by kernel_rfl) (fun _ _ _ h => h) (Or.inl ⟨by kernel_rfl, fun w hS => by have sc0 := hS; go_simp⟩) hHeld ?_
        simp only [Act.put, List.getElem_toArray, List.getElem_cons_zero, List.getElem_cons_succ, List.setIfInBounds_toArray, List.set_cons_zero, List.set_cons_succ]
        refine Ru.wpAnyU_take (i := 13) (v := .iface 54 (.int .i64 1)) rfl (by kernel_rfl) (by kernel_rfl) (by kernel_rfl) (by kernel_rfl) (by kernel_rfl) (by kernel_rfl) (fun _ _ _ h => h) (Or.inl ⟨by kernel_rfl, fun w hS => by have sc0 := hS; go_simp⟩) hHeld ?_
        simp only [Act.put, List.getElem_toArray, List.getElem_cons_zero, List.getElem_cons_succ, List.setIfInBounds_toArray, List.set_cons_zero, List.set_cons_succ]
        refine Ru.wpAnyU_done (by kernel_rfl) ?_
        go_wp2_with fail
        go_meet
        exact ⟨_, rfl, rfl, rfl, nE, bE⟩
      refine Ru.AllReadyU.cons rfl (by kernel_rfl) (fun K hK => ?_) Ru.AllReadyU.nil
      go_simp
      try rw [zeroS]
      have n_7 : CRow (v_1.alloc (.cells (svals (fun _ => 0) 0 0 (fun _ => 0)).toArray 32)) v_1.heap.size 32 (svals (fun _ => 0) 0 0 (fun _ => 0)) := crow_new v_1 32 (svals (fun _ => 0) 0 0 (fun _ => 0))
      have a_7 := below_al (Below.refl _ v_1) (.cells (svals (fun _ => 0) 0 0 (fun _ => 0)).toArray 32)
      have g_7 := D_1.size
      have D_7 := below_tr D_1 a_7
      refine hK.out _ _ (hS _ D_7) (fun hHeld => ?_)
      clear hK K
      try simp only [Act.put, List.getElem_toArray, List.getElem_cons_zero, List.getElem_cons_succ, List.setIfInBounds_toArray, List.set_cons_zero, List.set_cons_succ]
      refine Ru.wpAnyU_ready (rs := [4]) (by kernel_rfl) (by simp) ?_
      refine Ru.AllReadyU.cons rfl (by kernel_rfl) (fun K hK => ?_) Ru.AllReadyU.nil
      go_simp
      refine (H2.out _ (below_tr KQ.out D_7)).mono ?_
      rintro e v_8 ⟨rfl, k_8⟩
      have D_8 := below_tr D_7 k_8
      have n_8 := CRow.keep n_7 k_8
      go_wp2_with fail
      refine hK.out _ _ (hS _ D_8) (fun hHeld => ?_)
      clear hK K
      try simp only [Act.put, List.getElem_toArray, List.getElem_cons_zero, List.getElem_cons_succ, List.setIfInBounds_toArray, List.set_cons_zero, List.set_cons_succ]
      refine Ru.wpAnyU_ready (rs := [5]) (by kernel_rfl) (by simp) ?_
      refine Ru.AllReadyU.cons rfl (by kernel_rfl) (fun K hK => ?_) Ru.AllReadyU.nil
      go_simp
      refine (HN.out _).mono ?_
      rintro e v_9 ⟨rfl, k_9⟩
      have D_9 := below_tr D_8 k_9
      have n_9 := CRow.keep n_8 k_9
      go_wp2_with fail
      refine hK.out _ _ (hS _ D_9) (fun hHeld => ?_)
      clear hK K
      try simp only [Act.put, List.getElem_toArray, List.getElem_cons_zero, List.getElem_cons_succ, List.setIfInBounds_toArray, List.set_cons_zero, List.set_cons_succ]
      refine Ru.wpAnyU_take (i := 6) (v := .tuple #[.agg (svals (fun _ => 0) 0 0 (fun _ => 0)).toArray, .bool false, .iface 54 (.int .i64 1)]) rfl (by kernel_rfl) (by kernel_rfl) (by kernel_rfl) (by kernel_rfl) (by kernel_rfl) (by kernel_rfl) (fun _ _ _ h => h) (Or.inl ⟨by kernel_rfl, fun w hS => by have sc0 := hS; go_simp⟩) hHeld ?_
      simp only [Act.put, List.getElem_toArray, List.getElem_cons_zero, List.getElem_cons_succ, List.setIfInBounds_toArray, List.set_cons_zero, List.set_cons_succ]
      refine Ru.wpAnyU_take (i := 7) (v := .agg (svals (fun _ => 0) 0 0 (fun _ => 0)).toArray) rfl (by kernel_rfl) (by kernel_rfl) (by kernel_rfl) (by kernel_rfl) (by kernel_rfl) (by kernel_rfl) (fun _ _ _ h => h) (Or.inl ⟨by kernel_rfl, fun w hS => by have sc0 := hS; go_simp⟩) hHeld ?_
      simp only [Act.put, List.getElem_toArray, List.getElem_cons_zero, List.getElem_cons_succ, List.setIfInBounds_toArray, List.set_cons_zero, List.set_cons_succ]
      refine Ru.wpAnyU_take (i := 8) (v := .bool false) rfl (by kernel_rfl) (by kernel_rfl) (by kernel_rfl) (by kernel_rfl) (by kernel_rfl) (by kernel_rfl) (fun _ _ _ h => h) (Or.inl ⟨by kernel_rfl, fun w hS => by have sc0 := hS; go_simp⟩) hHeld ?_
      simp only [Act.put, List.getElem_toArray, List.getElem_cons_zero, List.getElem_cons_succ, List.setIfInBounds_toArray, List.set_cons_zero, List.set_cons_succ]
      refine Ru.wpAnyU_take (i := 9) (v := .iface 54 (.int .i64 1)) rfl (by kernel_rfl) (by kernel_rfl) (by kernel_rfl) (by kernel_rfl) (by kernel_rfl) (by kernel_rfl) (fun _ _ _ h => h) (Or.inl ⟨by kernel_rfl, fun w hS => by have sc0 := hS; go_simp⟩) hHeld ?_
      simp only [Act.put, List.getElem_toArray, List.getElem_cons_zero, List.getElem_cons_succ, List.setIfInBounds_toArray, List.set_cons_zero, List.set_cons_succ]
      refine Ru.wpAnyU_ready (rs := [11]) (by kernel_rfl) (by simp) ?_
      refine Ru.AllReadyU.cons rfl (by kernel_rfl) (fun K hK => ?_) Ru.AllReadyU.nil
      refine Ru.stepC isS (by kernel_rfl) _ _ (by rfl) (v_1.heap.size) _ (svals (fun _ => 0) 0 0 (fun _ => 0)) (by rfl) (by rfl) n_9 (svals_len _ _ _ _) (svals_len _ _ _ _) (one_svals _ _ _ _) ?_
      have nE := CRow.row n_9 (svals (fun _ => 0) 0 0 (fun _ => 0))
      have xE := CRow.rowOther (hS _ D_9) (g := v_1.heap.size) (by omega) (svals (fun _ => 0) 0 0 (fun _ => 0)).toArray
      have bE := St.below_row D_9 (g := v_1.heap.size) (by omega) (svals (fun _ => 0) 0 0 (fun _ => 0)).toArray
      refine hK.out _ _ xE (fun hHeld => ?_)
      clear hK K
      try simp only [Act.put, List.getElem_toArray, List.getElem_cons_zero, List.getElem_cons_succ, List.setIfInBounds_toArray, List.set_cons_zero, List.set_cons_succ]
      refine Ru.wpAnyU_take (i := 12) (v := .bool false) rfl (by kernel_rfl) (by kernel_rfl) (by kernel_rfl) (by kernel_rfl) (by kernel_rfl) (by kernel_rfl) (fun _ _ _ h => h) (Or.inl ⟨by kernel_rfl, fun w hS => by have sc0 := hS; go_simp⟩) hHeld ?_
      simp only [Act.put, List.getElem_toArray, List.getElem_cons_zero, List.getElem_cons_succ, List.setIfInBounds_toArray, List.set_cons_zero, List.set_cons_succ]
      refine Ru.wpAnyU_take (i := 13) (v := .iface 54 (.int .i64 1)) rfl (by kernel_rfl) (by kernel_rfl) (by kernel_rfl) (by kernel_rfl) (by kernel_rfl) (by kernel_rfl) (fun _ _ _ h => h) (Or.inl ⟨by kernel_rfl, fun w hS => by have sc0 := hS; go_simp⟩) hHeld ?_
      simp only [Act.put, List.getElem_toArray, List.getElem_cons_zero, List.getElem_cons_succ, List.setIfInBounds_toArray, List.set_cons_zero, List.set_cons_succ]
      refine Ru.wpAnyU_done (by kernel_rfl) ?_
      go_wp2_with fail
      go_meet
      exact ⟨_, rfl, rfl, rfl, nE, bE⟩
    refine Ru.AllReadyU.cons rfl (by kernel_rfl) (fun K hK => ?_) Ru.AllReadyU.nil
    go_simp
    try rw [zeroS]
    have n_10 : CRow (wq3.drew.alloc (.cells (svals (fun _ => 0) 0 0 (fun _ => 0)).toArray 32)) wq3.heap.size 32 (svals (fun _ => 0) 0 0 (fun _ => 0)) := crow_new wq3.drew 32 (svals (fun _ => 0) 0 0 (fun _ => 0))
    have a_10 := below_al (Below.refl _ wq3.drew) (.cells (svals (fun _ => 0) 0 0 (fun _ => 0)).toArray 32)
    have g_10 := (Vc.below_drew' wq3).size
    have e_10 : wq3.drew.heap.size = wq3.heap.size := rfl
    have D_10 := below_tr (Vc.below_drew' wq3) a_10
    refine hK.out _ _ (hS _ D_10) (fun hHeld => ?_)
    clear hK K
    try simp only [Act.put, List.getElem_toArray, List.getElem_cons_zero, List.getElem_cons_succ, List.setIfInBounds_toArray, List.set_cons_zero, List.set_cons_succ]
    refine Ru.wpAnyU_ready (rs := [2]) (by kernel_rfl) (by simp) ?_
    refine Ru.AllReadyU.cons rfl (by kernel_rfl) (fun K hK => ?_) Ru.AllReadyU.nil
    go_simp
    refine (H1.out _ (below_tr KQ.out D_10)).mono ?_
    rintro e v_11 ⟨rfl, k_11⟩
    have D_11 := below_tr D_10 k_11
    have n_11 := CRow.keep n_10 k_11
    go_wp2_with fail
    refine hK.out _ _ (hS _ D_11) (fun hHeld => ?_)
    clear hK K
    try simp only [Act.put, List.getElem_toArray, List.getElem_cons_zero, List.getElem_cons_succ, List.setIfInBounds_toArray, List.set_cons_zero, List.set_cons_succ]
    refine Ru.wpAnyU_ready (rs := [4]) (by kernel_rfl) (by simp) ?_
    refine Ru.AllReadyU.cons rfl (by kernel_rfl) (fun K hK => ?_) Ru.AllReadyU.nil
    go_simp
    refine (H2.out _ (below_tr KQ.out D_11)).mono ?_
    rintro e v_12 ⟨rfl, k_12⟩
    have D_12 := below_tr D_11 k_12
    have n_12 := CRow.keep n_11 k_12
    go_wp2_with fail
    refine hK.out _ _ (hS _ D_12) (fun hHeld => ?_)
    clear hK K
    try simp only [Act.put, List.getElem_toArray, List.getElem_cons_zero, List.getElem_cons_succ, List.setIfInBounds_toArray, List.set_cons_zero, List.set_cons_succ]
    refine Ru.wpAnyU_ready (rs := [5]) (by kernel_rfl) (by simp) ?_
    refine Ru.AllReadyU.cons rfl (by kernel_rfl) (fun K hK => ?_) Ru.AllReadyU.nil
    go_simp
    refine (HN.out _).mono ?_
    rintro e v_13 ⟨rfl, k_13⟩
    have D_13 := below_tr D_12 k_13
    have n_13 := CRow.keep n_12 k_13
    go_wp2_with fail
    refine hK.out _ _ (hS _ D_13) (fun hHeld => ?_)
    clear hK K
    try simp only [Act.put, List.getElem_toArray, List.getElem_cons_zero, List.getElem_cons_succ, List.setIfInBounds_toArray, List.set_cons_zero, List.set_cons_succ]
    refine Ru.wpAnyU_take (i := 6) (v := .tuple #[.agg (svals (fun _ => 0) 0 0 (fun _ => 0)).toArray, .bool false, .iface 54 (.int .i64 1)]) rfl (by kernel_rfl) (by kernel_rfl) (by kernel_rfl) (by kernel_rfl) (by kernel_rfl) (by kernel_rfl) (fun _ _ _ h => h) (Or.inl ⟨by kernel_rfl, fun w hS => by have sc0 := hS; go_simp⟩) hHeld ?_
    simp only [Act.put, List.getElem_toArray, List.getElem_cons_zero, List.getElem_cons_succ, List.setIfInBounds_toArray, List.set_cons_zero, List.set_cons_succ]
    refine Ru.wpAnyU_take (i := 7) (v := .agg (svals (fun _ => 0) 0 0 (fun _ => 0)).toArray) rfl (by kernel_rfl) (by kernel_rfl) (by kernel_rfl) (by kernel_rfl) (by kernel_rfl) (by kernel_rfl) (fun _ _ _ h => h) (Or.inl ⟨by kernel_rfl, fun w hS => by have sc0 := hS; go_simp⟩) hHeld ?_
    simp only [Act.put, List.getElem_toArray, List.getElem_cons_zero, List.getElem_cons_succ, List.setIfInBounds_toArray, List.set_cons_zero, List.set_cons_succ]
    refine Ru.wpAnyU_take (i := 8) (v := .bool false) rfl (by kernel_rfl) (by kernel_rfl) (by kernel_rfl) (by kernel_rfl) (by kernel_rfl) (by kernel_rfl) (fun _ _ _ h => h) (Or.inl ⟨by kernel_rfl, fun w hS => by have sc0 := hS; go_simp⟩) hHeld ?_
    simp only [Act.put, List.getElem_toArray, List.getElem_cons_zero, List.getElem_cons_succ, List.setIfInBounds_toArray, List.set_cons_zero, List.set_cons_succ]
    refine Ru.wpAnyU_take (i := 9) (v := .iface 54 (.int .i64 1)) rfl (by kernel_rfl) (by kernel_rfl) (by kernel_rfl) (by kernel_rfl) (by kernel_rfl) (by kernel_rfl) (fun _ _ _ h => h) (Or.inl ⟨by kernel_rfl, fun w hS => by have sc0 := hS; go_simp⟩) hHeld ?_
    simp only [Act.put, List.getElem_toArray, List.getElem_cons_zero, List.getElem_cons_succ, List.setIfInBounds_toArray, List.set_cons_zero, List.set_cons_succ]
    refine Ru.wpAnyU_ready (rs := [11]) (by kernel_rfl) (by simp) ?_
    refine Ru.AllReadyU.cons rfl (by kernel_rfl) (fun K hK => ?_) Ru.AllReadyU.nil
    refine Ru.stepC isS (by kernel_rfl) _ _ (by rfl) (wq3.heap.size) _ (svals (fun _ => 0) 0 0 (fun _ => 0)) (by rfl) (by rfl) n_13 (svals_len _ _ _ _) (svals_len _ _ _ _) (one_svals _ _ _ _) ?_
    have nE := CRow.row n_13 (svals (fun _ => 0) 0 0 (fun _ => 0))
    have xE := CRow.rowOther (hS _ D_13) (g := wq3.heap.size) (by omega) (svals (fun _ => 0) 0 0 (fun _ => 0)).toArray
    have bE := St.below_row D_13 (g := wq3.heap.size) (by omega) (svals (fun _ => 0) 0 0 (fun _ => 0)).toArray
    refine hK.out _ _ xE (fun hHeld => ?_)
    clear hK K
    try simp only [Act.put, List.getElem_toArray, List.getElem_cons_zero, List.getElem_cons_succ, List.setIfInBounds_toArray, List.set_cons_zero, List.set_cons_succ]
    refine Ru.wpAnyU_take (i := 12) (v := .bool false) rfl (by kernel_rfl) (by kernel_rfl) (by kernel_rfl) (by kernel_rfl) (by kernel_rfl) (by kernel_rfl) (fun _ _ _ h => h) (Or.inl ⟨by kernel_rfl, fun w hS => by have sc0 := hS; go_simp⟩) hHeld ?_
    simp only [Act.put, List.getElem_toArray, List.getElem_cons_zero, List.getElem_cons_succ, List.setIfInBounds_toArray, List.set_cons_zero, List.set_cons_succ]
    refine Ru.wpAnyU_take (i := 13) (v := .iface 54 (.int .i64 1)) rfl (by kernel_rfl) (by kernel_rfl) (by kernel_rfl) (by kernel_rfl) (by kernel_rfl) (by kernel_rfl) (fun _ _ _ h => h) (Or.inl ⟨by kernel_rfl, fun w hS => by have sc0 := hS; go_simp⟩) hHeld ?_
    simp only [Act.put, List.getElem_toArray, List.getElem_cons_zero, List.getElem_cons_succ, List.setIfInBounds_toArray, List.set_cons_zero, List.set_cons_succ]
    refine Ru.wpAnyU_done (by kernel_rfl) ?_
    go_wp2_with fail
    go_meet
    exact ⟨_, rfl, rfl, rfl, nE, bE⟩
  rename World => wc
  obtain ⟨gn, rfl, rfl, rfl, nc, kc⟩ := hcut
  have KC := below_tr KK3 kc
  have xc_ := CRow.keep x_3 kc
  have mc := CRow.keep m_3 kc
  clear KK3 x_3 m_3 kc H1 H2 HN HG HC
  go_wp2_with (first
    | ((with_reducible show wpList _ _ _ _ _ _); refine St.wpList_load isRs (by rfl) _ (by rfl) _ _ (by rfl) (by with_reducible exact mc) rfl ?_)
    | fail)
  refine (HM.out _ KC).mono ?_
  rintro e wq4 ⟨rfl, kq4⟩
  have KK4 := below_tr KC kq4
  have m_4 := CRow.keep mc kq4
  have x_4 := CRow.keep xc_ kq4
  have n_4 := CRow.keep nc kq4
  clear KC mc xc_ nc
  go_wp2_with (first
    | fail)
  refine (num_err 1 _ (HE.out.below KK4)).mono ?_
  rintro e wq5 ⟨rfl, kq5⟩
  have KK5 := below_tr KK4 kq5
  have m_5 := CRow.keep m_4 kq5
  have x_5 := CRow.keep x_4 kq5
  have n_5 := CRow.keep n_4 kq5
  clear KK4 m_4 x_4 n_4
  go_wp2_with (first
    | ((with_reducible show wpList _ _ _ _ _ _); refine St.wpList_load isS (by rfl) _ (by rfl) _ _ (by rfl) (by with_reducible exact x_5) (svals_len _ _ _ _) ?_)
    | fail)
  refine (HQ.out _).mono ?_
  rintro e wq6 ⟨rfl, kq6⟩
  have KK6 := below_tr KK5 kq6
  have m_6 := CRow.keep m_5 kq6
  have n_6 := CRow.keep n_5 kq6
  clear KK5 m_5 n_5
  go_wp2_with (first
    | fail)
  refine (num_err 1 _ (HE.out.below KK6)).mono ?_
  rintro e wq7 ⟨rfl, kq7⟩
  have KK7 := below_tr KK6 kq7
  have n_7 := CRow.keep n_6 kq7
  clear KK6 n_6
  go_wp2_with (first
    | ((with_reducible show wpList _ _ _ _ _ _); refine St.wpList_load isS (by rfl) _ (by rfl) _ _ (by rfl) (by with_reducible exact n_7) (svals_len _ _ _ _) ?_)
    | ((with_reducible show wpList _ _ _ _ _ _); refine Pd.buildS0 (by with_reducible rfl) (by kernel_rfl) ?_)
    | ((with_reducible show wpList _ _ _ _ _ _); refine Pd.eqlS _ _ _ (by with_reducible rfl) _ _ _ _ _ _ _ _ true (by rfl) (by rfl) (eqS_same _ _ _ _) (by kernel_rfl) ?_)
    | fail)
  refine (psure_any _).mono ?_
  rintro e wq8 ⟨rfl, kq8⟩
  have KK8 := below_tr KK7 kq8
  clear KK7
  go_wp2
  go_ret
  exact ⟨rfl, KK8⟩

set_option maxRecDepth 20000 in
set_option maxHeartbeats 8000000 in
theorem pn_step (xo po a1 a2 : Option Addr) (xc n pc l1 c1p l2 c2p : Nat) (X : Nat → Int) (r c : Int) (z : Nat → Int) (r1 c1 : Int) (z1 : Nat → Int) (r2 c2 : Int) (z2 : Nat → Int) (w : World) (hE : ErrTab w)
    (hG : ∀ W, Below w.heap.size w W → Calls Tryz.prog 5 #[.agg #[.slice xo 6 xc, .slice po n pc]] W fun e w' => e = .returned (.agg (svals X r c z).toArray) ∧ Below W.heap.size W w')
    (h1 : ∀ W, Below w.heap.size w W → Calls Tryz.prog 8 #[.slice a1 l1 c1p] W fun e w' => e = .returned (.agg (mvals r1 c1 z1).toArray) ∧ Below W.heap.size W w')
    (h2 : ∀ W, Below w.heap.size w W → Calls Tryz.prog 8 #[.slice a2 l2 c2p] W fun e w' => e = .returned (.agg (mvals r2 c2 z2).toArray) ∧ Below W.heap.size W w')
    (hC : ∀ W, Calls Tryz.prog 6 #[.agg (svals X r c z).toArray] W fun e w' => e = .returned (.nilIface) ∧ Below W.heap.size W w')
    (hN : ∀ W, Calls Tryz.prog 7 #[.agg (svals X r c z).toArray, .agg (mvals r1 c1 z1).toArray, .agg (mvals r2 c2 z2).toArray] W fun e w' => e = .returned (.tuple #[.agg (svals (fun _ => 0) 0 0 (fun _ => 0)).toArray, .bool false, .iface 54 (.int .i64 1)]) ∧ Below W.heap.size W w')
    (hM : ∀ W, Below w.heap.size w W → Calls Tryz.prog 9 #[.agg #[.slice xo 6 xc, .slice po n pc]] W fun e w' => e = .returned (.bool true) ∧ Below W.heap.size W w')
    (h6 : ∀ W, Below w.heap.size w W → Calls Tryz.prog 12 #[.slice a1 l1 c1p] W fun e w' => e = .returned (.bool false) ∧ Below W.heap.size W w')
    : Calls Tryz.prog 3 #[.agg #[.slice xo 6 xc, .slice po n pc], .slice a1 l1 c1p, .slice a2 l2 c2p] w fun e w' => e = .returned (.bool true) ∧ Below w.heap.size w w' := by
  have HE := hide hE
  have HG := hide hG
  have H1 := hide h1
  have H2 := hide h2
  have HC := hide hC
  have HN := hide hN
  have HM := hide hM
  have H6 := hide h6
  have HQ := hide (fun W => psame_any X r c z X r c z W)
  rw [eqS_same] at HQ
  have m0 := crow_new w 25 [.slice xo 6 xc, .slice po n pc]
  have KK0 := below_al (Below.refl _ w) (.cells [.slice xo 6 xc, .slice po n pc].toArray 25)
  clear hE hG h1 h2 hC hN hM h6
  go_enter Tryz.func3, Tryz.ntmps3
  go_wp2_with (first
    | ((with_reducible show wpList _ _ _ _ _ _); refine St.wpList_load isRs (by rfl) _ (by rfl) _ _ (by rfl) (by with_reducible exact m0) rfl ?_)
    | fail)
  refine (HG.out _ KK0).mono ?_
  rintro e wq1 ⟨rfl, kq1⟩
  have KK1 := below_tr KK0 kq1
  have m_1 := CRow.keep m0 kq1
  clear KK0 m0
  go_wp2_with (first
    | ((with_reducible show wpList _ _ _ _ _ _); rw [zeroS]; refine St.wpList_storeNew isS rfl _ _ (by rfl) _ _ _ (by rfl) (by rfl) (svals_len _ _ _ _) (svals_len _ _ _ _) (one_svals _ _ _ _) ?_; intro ws2 ns2 ks2; have KK2 := below_tr KK1 ks2; have m_2 := CRow.keep m_1 ks2; clear KK1 m_1)
    | ((with_reducible show wpList _ _ _ _ _ _); refine St.wpList_load isS (by rfl) _ (by rfl) _ _ (by rfl) (by with_reducible exact ns2) (svals_len _ _ _ _) ?_)
    | fail)
  refine (HC.out _).mono ?_
  rintro e wq3 ⟨rfl, kq3⟩
  have KK3 := below_tr KK2 kq3
  have m_3 := CRow.keep m_2 kq3
  have x_3 := CRow.keep ns2 kq3
  clear KK2 m_2 ns2
  go_upto_region 5 with fail
  go_cut [9, 10, 11] (fun p o f wx => ∃ g : Nat, p = .pointer (some ⟨g, 0, none⟩) ∧ o = .bool false ∧ f = .iface 54 (.int .i64 1) ∧ CRow wx g 32 (svals (fun _ => 0) 0 0 (fun _ => 0)) ∧ Below wq3.heap.size wq3 wx)
  case first =>
    have hS : ∀ W, Below wq3.heap.size wq3 W → SRow W wq1.heap.size X r c z := fun W q => CRow.keep x_3 q
    have KQ := hide KK3
    have lx := CRow.lt x_3
    clear x_3 m_3 KK3
    refine Ru.wp_region_U [] (fun w' => SRow w' wq1.heap.size X r c z) (by kernel_rfl) (hS _ (Vc.below_drew' _)) (fun hHeld => ?_)
    refine Ru.wpAnyU_take (i := 0) (v := .agg (svals X r c z).toArray) rfl (by kernel_rfl) (by kernel_rfl) (by kernel_rfl) (by kernel_rfl) (by kernel_rfl) (by kernel_rfl) (fun _ _ _ h => h) (Ru.yieldsC isS (by kernel_rfl) _ (by rfl) wq1.heap.size _ (by rfl) (fun w h => h) (svals_len _ _ _ _)) hHeld ?_
    simp only [Act.put, List.getElem_toArray, List.getElem_cons_zero, List.getElem_cons_succ, List.setIfInBounds_toArray, List.set_cons_zero, List.set_cons_succ]
    refine Ru.wpAnyU_take (i := 1) (v := .slice a1 l1 c1p) rfl (by kernel_rfl) (by kernel_rfl) (by kernel_rfl) (by kernel_rfl) (by kernel_rfl) (by kernel_rfl) (fun _ _ _ h => h) (Or.inl ⟨by kernel_rfl, fun w hS => by have sc0 := hS; go_simp⟩) hHeld ?_
    simp only [Act.put, List.getElem_toArray, List.getElem_cons_zero, List.getElem_cons_succ, List.setIfInBounds_toArray, List.set_cons_zero, List.set_cons_succ]
    refine Ru.wpAnyU_take (i := 3) (v := .slice a2 l2 c2p) rfl (by kernel_rfl) (by kernel_rfl) (by kernel_rfl) (by kernel_rfl) (by kernel_rfl) (by kernel_rfl) (fun _ _ _ h => h) (Or.inl ⟨by kernel_rfl, fun w hS => by have sc0 := hS; go_simp⟩) hHeld ?_
    simp only [Act.put, List.getElem_toArray, List.getElem_cons_zero, List.getElem_cons_succ, List.setIfInBounds_toArray, List.set_cons_zero, List.set_cons_succ]
    refine Ru.wpAnyU_ready (rs := [2, 10]) (by kernel_rfl) (by simp) ?_
    refine Ru.AllReadyU.cons rfl (by kernel_rfl) (fun K hK => ?_) ?_
    · go_simp
      refine (H1.out _ (below_tr KQ.out (Vc.below_drew' wq3))).mono ?_
      rintro e v_1 ⟨rfl, k_1⟩
      have D_1 := below_tr (Vc.below_drew' wq3) k_1
      go_wp2_with fail
      refine hK.out _ _ (hS _ D_1) (fun hHeld => ?_)
      clear hK K
      try simp only [Act.put, List.getElem_toArray, List.getElem_cons_zero, List.getElem_cons_succ, List.setIfInBounds_toArray, List.set_cons_zero, List.set_cons_succ]
      refine Ru.wpAnyU_ready (rs := [4, 10]) (by kernel_rfl) (by simp) ?_
      refine Ru.AllReadyU.cons rfl (by kernel_rfl) (fun K hK => ?_) ?_
      · go_simp
        refine (H2.out _ (below_tr KQ.out D_1)).mono ?_
        rintro e v_2 ⟨rfl, k_2⟩
        have D_2 := below_tr D_1 k_2
        go_wp2_with fail
        refine hK.out _ _ (hS _ D_2) (fun hHeld => ?_)
        clear hK K
        try simp only [Act.put, List.getElem_toArray, List.getElem_cons_zero, List.getElem_cons_succ, List.setIfInBounds_toArray, List.set_cons_zero, List.set_cons_succ]
        refine Ru.wpAnyU_ready (rs := [5, 10]) (by kernel_rfl) (by simp) ?_
        refine Ru.AllReadyU.cons rfl (by kernel_rfl) (fun K hK => ?_) ?_
        · go_simp
          refine (HN.out _).mono ?_
          rintro e v_3 ⟨rfl, k_3⟩
          have D_3 := below_tr D_2 k_3
          go_wp2_with fail
          refine hK.out _ _ (hS _ D_3) (fun hHeld => ?_)
          clear hK K
          try simp only [Act.put, List.getElem_toArray, List.getElem_cons_zero, List.getElem_cons_succ, List.setIfInBounds_toArray, List.set_cons_zero, List.set_cons_succ]
          refine Ru.wpAnyU_take (i := 6) (v := .tuple #[.agg (svals (fun _ => 0) 0 0 (fun _ => 0)).toArray, .bool false, .iface 54 (.int .i64 1)]) rfl (by kernel_rfl) (by kernel_rfl) (by kernel_rfl) (by kernel_rfl) (by kernel_rfl) (by kernel_rfl) (fun _ _ _ h => h) (Or.inl ⟨by kernel_rfl, fun w hS => by have sc0 := hS; go_simp⟩) hHeld ?_
          simp only [Act.put, List.getElem_toArray, List.getElem_cons_zero, List.getElem_cons_succ, List.setIfInBounds_toArray, List.set_cons_zero, List.set_cons_succ]
          refine Ru.wpAnyU_take (i := 7) (v := .agg (svals (fun _ => 0) 0 0 (fun _ => 0)).toArray) rfl (by kernel_rfl) (by kernel_rfl) (by kernel_rfl) (by kernel_rfl) (by kernel_rfl) (by kernel_rfl) (fun _ _ _ h => h) (Or.inl ⟨by kernel_rfl, fun w hS => by have sc0 := hS; go_simp⟩) hHeld ?_
          simp only [Act.put, List.getElem_toArray, List.getElem_cons_zero, List.getElem_cons_succ, List.setIfInBounds_toArray, List.set_cons_zero, List.set_cons_succ]
          refine Ru.wpAnyU_take (i := 8) (v := .bool false) rfl (by kernel_rfl) (by kernel_rfl) (by kernel_rfl) (by kernel_rfl) (by kernel_rfl) (by kernel_rfl) (fun _ _ _ h => h) (Or.inl ⟨by kernel_rfl, fun w hS => by have sc0 := hS; go_simp⟩) hHeld ?_
          simp only [Act.put, List.getElem_toArray, List.getElem_cons_zero, List.getElem_cons_succ, List.setIfInBounds_toArray, List.set_cons_zero, List.set_cons_succ]
          refine Ru.wpAnyU_take (i := 9) (v := .iface 54 (.int .i64 1)) rfl (by kernel_rfl) (by kernel_rfl) (by kernel_rfl) (by kernel_rfl) (by kernel_rfl) (by kernel_rfl) (fun _ _ _ h => h) (Or.inl ⟨by kernel_rfl, fun w hS => by have sc0 := hS; go_simp⟩) hHeld ?_
          simp only [Act.put, List.getElem_toArray, List.getElem_cons_zero, List.getElem_cons_succ, List.setIfInBounds_toArray, List.set_cons_zero, List.set_cons_succ]
          refine Ru.wpAnyU_ready (rs := [10]) (by kernel_rfl) (by simp) ?_
          refine Ru.AllReadyU.cons rfl (by kernel_rfl) (fun K hK => ?_) Ru.AllReadyU.nil
          go_simp
          try rw [zeroS]
          have n_4 : CRow (v_3.alloc (.cells (svals (fun _ => 0) 0 0 (fun _ => 0)).toArray 32)) v_3.heap.size 32 (svals (fun _ => 0) 0 0 (fun _ => 0)) := crow_new v_3 32 (svals (fun _ => 0) 0 0 (fun _ => 0))
          have a_4 := below_al (Below.refl _ v_3) (.cells (svals (fun _ => 0) 0 0 (fun _ => 0)).toArray 32)
          have g_4 := D_3.size
          have D_4 := below_tr D_3 a_4
          refine hK.out _ _ (hS _ D_4) (fun hHeld => ?_)
          clear hK K
          try simp only [Act.put, List.getElem_toArray, List.getElem_cons_zero, List.getElem_cons_succ, List.setIfInBounds_toArray, List.set_cons_zero, List.set_cons_succ]
          refine Ru.wpAnyU_ready (rs := [11]) (by kernel_rfl) (by simp) ?_
          refine Ru.AllReadyU.cons rfl (by kernel_rfl) (fun K hK => ?_) Ru.AllReadyU.nil
          refine Ru.stepC isS (by kernel_rfl) _ _ (by rfl) (v_3.heap.size) _ (svals (fun _ => 0) 0 0 (fun _ => 0)) (by rfl) (by rfl) n_4 (svals_len _ _ _ _) (svals_len _ _ _ _) (one_svals _ _ _ _) ?_
          have nE := CRow.row n_4 (svals (fun _ => 0) 0 0 (fun _ => 0))
          have xE := CRow.rowOther (hS _ D_4) (g := v_3.heap.size) (by omega) (svals (fun _ => 0) 0 0 (fun _ => 0)).toArray
          have bE := St.below_row D_4 (g := v_3.heap.size) (by omega) (svals (fun _ => 0) 0 0 (fun _ => 0)).toArray
          refine hK.out _ _ xE (fun hHeld => ?_)
          clear hK K
          try simp only [Act.put, List.getElem_toArray, List.getElem_cons_zero, List.getElem_cons_succ, List.setIfInBounds_toArray, List.set_cons_zero, List.set_cons_succ]
          refine Ru.wpAnyU_take (i := 12) (v := .bool false) rfl (by kernel_rfl) (by kernel_rfl) (by kernel_rfl) (by kernel_rfl) (by kernel_rfl) (by kernel_rfl) (fun _ _ _ h => h) (Or.inl ⟨by kernel_rfl, fun w hS => by have sc0 := hS; go_simp⟩) hHeld ?_
          simp only [Act.put, List.getElem_toArray, List.getElem_cons_zero, List.getElem_cons_succ, List.setIfInBounds_toArray, List.set_cons_zero, List.set_cons_succ]
          refine Ru.wpAnyU_take (i := 13) (v := .iface 54 (.int .i64 1)) rfl (by kernel_rfl) (by kernel_rfl) (by kernel_rfl) (by kernel_rfl) (by kernel_rfl) (by kernel_rfl) (fun _ _ _ h => h) (Or.inl ⟨by kernel_rfl, fun w hS => by have sc0 := hS; go_simp⟩) hHeld ?_
          simp only [Act.put, List.getElem_toArray, List.getElem_cons_zero, List.getElem_cons_succ, List.setIfInBounds_toArray, List.set_cons_zero, List.set_cons_succ]
          refine Ru.wpAnyU_done (by kernel_rfl) ?_
          go_wp2_with fail
          go_meet
          exact ⟨_, rfl, rfl, rfl, nE, bE⟩
        refine Ru.AllReadyU.cons rfl (by kernel_rfl) (fun K hK => ?_) Ru.AllReadyU.nil
        go_simp
        try rw [zeroS]
        have n_5 : CRow (v_2.alloc (.cells (svals (fun _ => 0) 0 0 (fun _ => 0)).toArray 32)) v_2.heap.size 32 (svals (fun _ => 0) 0 0 (fun _ => 0)) := crow_new v_2 32 (svals (fun _ => 0) 0 0 (fun _ => 0))
        have a_5 := below_al (Below.refl _ v_2) (.cells (svals (fun _ => 0) 0 0 (fun _ => 0)).toArray 32)
        have g_5 := D_2.size
        have D_5 := below_tr D_2 a_5
        refine hK.out _ _ (hS _ D_5) (fun hHeld => ?_)
        clear hK K
        try simp only [Act.put, List.getElem_toArray, List.getElem_cons_zero, List.getElem_cons_succ, List.setIfInBounds_toArray, List.set_cons_zero, List.set_cons_succ]
        refine Ru.wpAnyU_ready (rs := [5]) (by kernel_rfl) (by simp) ?_
        refine Ru.AllReadyU.cons rfl (by kernel_rfl) (fun K hK => ?_) Ru.AllReadyU.nil
        go_simp
        refine (HN.out _).mono ?_
        rintro e v_6 ⟨rfl, k_6⟩
        have D_6 := below_tr D_5 k_6
        have n_6 := CRow.keep n_5 k_6
        go_wp2_with fail
        refine hK.out _ _ (hS _ D_6) (fun hHeld => ?_)
        clear hK K
        try simp only [Act.put, List.getElem_toArray, List.getElem_cons_zero, List.getElem_cons_succ, List.setIfInBounds_toArray, List.set_cons_zero, List.set_cons_succ]
        refine Ru.wpAnyU_take (i := 6) (v := .tuple #[.agg (svals (fun _ => 0) 0 0 (fun _ => 0)).toArray, .bool false, .iface 54 (.int .i64 1)]) rfl (by kernel_rfl) (by kernel_rfl) (by kernel_rfl) (by kernel_rfl) (by kernel_rfl) (by kernel_rfl) (fun _ _ _ h => h) (Or.inl ⟨by kernel_rfl, fun w hS => by have sc0 := hS; go_simp⟩) hHeld ?_
        simp only [Act.put, List.getElem_toArray, List.getElem_cons_zero, List.getElem_cons_succ, List.setIfInBounds_toArray, List.set_cons_zero, List.set_cons_succ]
        refine Ru.wpAnyU_take (i := 7) (v := .agg (svals (fun _ => 0) 0 0 (fun _ => 0)).toArray) rfl (by kernel_rfl) (by kernel_rfl) (by kernel_rfl) (by kernel_rfl) (by kernel_rfl) (by kernel_rfl) (fun _ _ _ h => h) (Or.inl ⟨by kernel_rfl, fun w hS => by have sc0 := hS; go_simp⟩) hHeld ?_
        simp only [Act.put, List.getElem_toArray, List.getElem_cons_zero, List.getElem_cons_succ, List.setIfInBounds_toArray, List.set_cons_zero, List.set_cons_succ]
        refine Ru.wpAnyU_take (i := 8) (v := .bool false) rfl (by kernel_rfl) (by kernel_rfl) (by kernel_rfl) (by kernel_rfl) (by kernel_rfl) (by kernel_rfl) (fun _ _ _ h => h) (Or.inl ⟨by kernel_rfl, fun w hS => by have sc0 := hS; go_simp⟩) hHeld ?_
        simp only [Act.put, List.getElem_toArray, List.getElem_cons_zero, List.getElem_cons_succ, List.setIfInBounds_toArray, List.set_cons_zero, List.set_cons_succ]
        refine Ru.wpAnyU_take (i := 9) (v := .iface 54 (.int .i64 1)) rfl (by kernel_rfl) (by kernel_rfl) (by kernel_rfl) (by kernel_rfl) (by kernel_rfl) (by kernel_rfl) (fun _ _ _ h => h) (Or.inl ⟨by kernel_rfl, fun w hS => by have sc0 := hS; go_simp⟩) hHeld ?_
        simp only [Act.put, List.getElem_toArray, List.getElem_cons_zero, List.getElem_cons_succ, List.setIfInBounds_toArray, List.set_cons_zero, List.set_cons_succ]
        refine Ru.wpAnyU_ready (rs := [11]) (by kernel_rfl) (by simp) ?_
        refine Ru.AllReadyU.cons rfl (by kernel_rfl) (fun K hK => ?_) Ru.AllReadyU.nil
        refine Ru.stepC isS (by kernel_rfl) _ _ (by rfl) (v_2.heap.size) _ (svals (fun _ => 0) 0 0 (fun _ => 0)) (by rfl) (by rfl) n_6 (svals_len _ _ _ _) (svals_len _ _ _ _) (one_svals _ _ _ _) ?_
        have nE := CRow.row n_6 (svals (fun _ => 0) 0 0 (fun _ => 0))
        have xE := CRow.rowOther (hS _ D_6) (g := v_2.heap.size) (by omega) (svals (fun _ => 0) 0 0 (fun _ => 0)).toArray
        have bE := St.below_row D_6 (g := v_2.heap.size) (by omega) (svals (fun _ => 0) 0 0 (fun _ => 0)).toArray
        refine hK.out _ _ xE (fun hHeld => ?_)
        clear hK K
        try simp only [Act.put, List.getElem_toArray, List.getElem_cons_zero, List.getElem_cons_succ, List.setIfInBounds_toArray, List.set_cons_zero, List.set_cons_succ]
        refine Ru.wpAnyU_take (i := 12) (v := .bool false) rfl (by kernel_rfl) (by kernel_rfl) (by kernel_rfl) (by kernel_rfl) (by kernel_rfl) (by kernel_rfl) (fun _ _ _ h => h) (Or.inl ⟨by kernel_rfl, fun w hS => by have sc0 := hS; go_simp⟩) hHeld ?_
        simp only [Act.put, List.getElem_toArray, List.getElem_cons_zero, List.getElem_cons_succ, List.setIfInBounds_toArray, List.set_cons_zero, List.set_cons_succ]
        refine Ru.wpAnyU_take (i := 13) (v := .iface 54 (.int .i64 1)) rfl (by kernel_rfl) (by kernel_rfl) (by kernel_rfl) (by kernel_rfl) (by kernel_rfl) (by kernel_rfl) (fun _ _ _ h => h) (Or.inl ⟨by kernel_rfl, fun w hS => by have sc0 := hS; go_simp⟩) hHeld ?_
        simp only [Act.put, List.getElem_toArray, List.getElem_cons_zero, List.getElem_cons_succ, List.setIfInBounds_toArray, List.set_cons_zero, List.set_cons_succ]
        refine Ru.wpAnyU_done (by kernel_rfl) ?_
        go_wp2_with fail
        go_meet
        exact ⟨_, rfl, rfl, rfl, nE, bE⟩
      refine Ru.AllReadyU.cons rfl (by kernel_rfl) (fun K hK => ?_) Ru.AllReadyU.nil
      go_simp
      try rw [zeroS]
      have n_7 : CRow (v_1.alloc (.cells (svals (fun _ => 0) 0 0 (fun _ => 0)).toArray 32)) v_1.heap.size 32 (svals (fun _ => 0) 0 0 (fun _ => 0)) := crow_new v_1 32 (svals (fun _ => 0) 0 0 (fun _ => 0))
      have a_7 := below_al (Below.refl _ v_1) (.cells (svals (fun _ => 0) 0 0 (fun _ => 0)).toArray 32)
      have g_7 := D_1.size
      have D_7 := below_tr D_1 a_7
      refine hK.out _ _ (hS _ D_7) (fun hHeld => ?_)
      clear hK K
      try simp only [Act.put, List.getElem_toArray, List.getElem_cons_zero, List.getElem_cons_succ, List.setIfInBounds_toArray, List.set_cons_zero, List.set_cons_succ]
      refine Ru.wpAnyU_ready (rs := [4]) (by kernel_rfl) (by simp) ?_
      refine Ru.AllReadyU.cons rfl (by kernel_rfl) (fun K hK => ?_) Ru.AllReadyU.nil
      go_simp
      refine (H2.out _ (below_tr KQ.out D_7)).mono ?_
      rintro e v_8 ⟨rfl, k_8⟩
      have D_8 := below_tr D_7 k_8
      have n_8 := CRow.keep n_7 k_8
      go_wp2_with fail
      refine hK.out _ _ (hS _ D_8) (fun hHeld => ?_)
      clear hK K
      try simp only [Act.put, List.getElem_toArray, List.getElem_cons_zero, List.getElem_cons_succ, List.setIfInBounds_toArray, List.set_cons_zero, List.set_cons_succ]
      refine Ru.wpAnyU_ready (rs := [5]) (by kernel_rfl) (by simp) ?_
      refine Ru.AllReadyU.cons rfl (by kernel_rfl) (fun K hK => ?_) Ru.AllReadyU.nil
      go_simp
      refine (HN.out _).mono ?_
      rintro e v_9 ⟨rfl, k_9⟩
      have D_9 := below_tr D_8 k_9
      have n_9 := CRow.keep n_8 k_9
      go_wp2_with fail
      refine hK.out _ _ (hS _ D_9) (fun hHeld => ?_)
      clear hK K
      try simp only [Act.put, List.getElem_toArray, List.getElem_cons_zero, List.getElem_cons_succ, List.setIfInBounds_toArray, List.set_cons_zero, List.set_cons_succ]
      refine Ru.wpAnyU_take (i := 6) (v := .tuple #[.agg (svals (fun _ => 0) 0 0 (fun _ => 0)).toArray, .bool false, .iface 54 (.int .i64 1)]) rfl (by kernel_rfl) (by kernel_rfl) (by kernel_rfl) (by kernel_rfl) (by kernel_rfl) (by kernel_rfl) (fun _ _ _ h => h) (Or.inl ⟨by kernel_rfl, fun w hS => by have sc0 := hS; go_simp⟩) hHeld ?_
      simp only [Act.put, List.getElem_toArray, List.getElem_cons_zero, List.getElem_cons_succ, List.setIfInBounds_toArray, List.set_cons_zero, List.set_cons_succ]
      refine Ru.wpAnyU_take (i := 7) (v := .agg (svals (fun _ => 0) 0 0 (fun _ => 0)).toArray) rfl (by kernel_rfl) (by kernel_rfl) (by kernel_rfl) (by kernel_rfl) (by kernel_rfl) (by kernel_rfl) (fun _ _ _ h => h) (Or.inl ⟨by kernel_rfl, fun w hS => by have sc0 := hS; go_simp⟩) hHeld ?_
      simp only [Act.put, List.getElem_toArray, List.getElem_cons_zero, List.getElem_cons_succ, List.setIfInBounds_toArray, List.set_cons_zero, List.set_cons_succ]
      refine Ru.wpAnyU_take (i := 8) (v := .bool false) rfl (by kernel_rfl) (by kernel_rfl) (by kernel_rfl) (by kernel_rfl) (by kernel_rfl) (by kernel_rfl) (fun _ _ _ h => h) (Or.inl ⟨by kernel_rfl, fun w hS => by have sc0 := hS; go_simp⟩) hHeld ?_
      simp only [Act.put, List.getElem_toArray, List.getElem_cons_zero, List.getElem_cons_succ, List.setIfInBounds_toArray, List.set_cons_zero, List.set_cons_succ]
      refine Ru.wpAnyU_take (i := 9) (v := .iface 54 (.int .i64 1)) rfl (by kernel_rfl) (by kernel_rfl) (by kernel_rfl) (by kernel_rfl) (by kernel_rfl) (by kernel_rfl) (fun _ _ _ h => h) (Or.inl ⟨by kernel_rfl, fun w hS => by have sc0 := hS; go_simp⟩) hHeld ?_
      simp only [Act.put, List.getElem_toArray, List.getElem_cons_zero, List.getElem_cons_succ, List.setIfInBounds_toArray, List.set_cons_zero, List.set_cons_succ]
      refine Ru.wpAnyU_ready (rs := [11]) (by kernel_rfl) (by simp) ?_
      refine Ru.AllReadyU.cons rfl (by kernel_rfl) (fun K hK => ?_) Ru.AllReadyU.nil
      refine Ru.stepC isS (by kernel_rfl) _ _ (by rfl) (v_1.heap.size) _ (svals (fun _ => 0) 0 0 (fun _ => 0)) (by rfl) (by rfl) n_9 (svals_len _ _ _ _) (svals_len _ _ _ _) (one_svals _ _ _ _) ?_
      have nE := CRow.row n_9 (svals (fun _ => 0) 0 0 (fun _ => 0))
      have xE := CRow.rowOther (hS _ D_9) (g := v_1.heap.size) (by omega) (svals (fun _ => 0) 0 0 (fun _ => 0)).toArray
      have bE := St.below_row D_9 (g := v_1.heap.size) (by omega) (svals (fun _ => 0) 0 0 (fun _ => 0)).toArray
      refine hK.out _ _ xE (fun hHeld => ?_)
      clear hK K
      try simp only [Act.put, List.getElem_toArray, List.getElem_cons_zero, List.getElem_cons_succ, List.setIfInBounds_toArray, List.set_cons_zero, List.set_cons_succ]
      refine Ru.wpAnyU_take (i := 12) (v := .bool false) rfl (by kernel_rfl) (by kernel_rfl) (by kernel_rfl) (by kernel_rfl) (by kernel_rfl) (by kernel_rfl) (fun _ _ _ h => h) (Or.inl ⟨by kernel_rfl, fun w hS => by have sc0 := hS; go_simp⟩) hHeld ?_
      simp only [Act.put, List.getElem_toArray, List.getElem_cons_zero, List.getElem_cons_succ, List.setIfInBounds_toArray, List.set_cons_zero, List.set_cons_succ]
      refine Ru.wpAnyU_take (i := 13) (v := .iface 54 (.int .i64 1)) rfl (by kernel_rfl) (by kernel_rfl) (by kernel_rfl) (by kernel_rfl) (by kernel_rfl) (by kernel_rfl) (fun _ _ _ h => h) (Or.inl ⟨by kernel_rfl, fun w hS => by have sc0 := hS; go_simp⟩) hHeld ?_
      simp only [Act.put, List.getElem_toArray, List.getElem_cons_zero, List.getElem_cons_succ, List.setIfInBounds_toArray, List.set_cons_zero, List.set_cons_succ]
      refine Ru.wpAnyU_done (by kernel_rfl) ?_
      go_wp2_with fail
      go_meet
      exact ⟨_, rfl, rfl, rfl, nE, bE⟩
    refine Ru.AllReadyU.cons rfl (by kernel_rfl) (fun K hK => ?_) Ru.AllReadyU.nil
    go_simp
    try rw [zeroS]
    have n_10 : CRow (wq3.drew.alloc (.cells (svals (fun _ => 0) 0 0 (fun _ => 0)).toArray 32)) wq3.heap.size 32 (svals (fun _ => 0) 0 0 (fun _ => 0)) := crow_new wq3.drew 32 (svals (fun _ => 0) 0 0 (fun _ => 0))
    have a_10 := below_al (Below.refl _ wq3.drew) (.cells (svals (fun _ => 0) 0 0 (fun _ => 0)).toArray 32)
    have g_10 := (Vc.below_drew' wq3).size
    have e_10 : wq3.drew.heap.size = wq3.heap.size := rfl
    have D_10 := below_tr (Vc.below_drew' wq3) a_10
    refine hK.out _ _ (hS _ D_10) (fun hHeld => ?_)
    clear hK K
    try simp only [Act.put, List.getElem_toArray, List.getElem_cons_zero, List.getElem_cons_succ, List.setIfInBounds_toArray, List.set_cons_zero, List.set_cons_succ]
    refine Ru.wpAnyU_ready (rs := [2]) (by kernel_rfl) (by simp) ?_
    refine Ru.AllReadyU.cons rfl (by kernel_rfl) (fun K hK => ?_) Ru.AllReadyU.nil
    go_simp
    refine (H1.out _ (below_tr KQ.out D_10)).mono ?_
    rintro e v_11 ⟨rfl, k_11⟩
    have D_11 := below_tr D_10 k_11
    have n_11 := CRow.keep n_10 k_11
    go_wp2_with fail
    refine hK.out _ _ (hS _ D_11) (fun hHeld => ?_)
    clear hK K
    try simp only [Act.put, List.getElem_toArray, List.getElem_cons_zero, List.getElem_cons_succ, List.setIfInBounds_toArray, List.set_cons_zero, List.set_cons_succ]
    refine Ru.wpAnyU_ready (rs := [4]) (by kernel_rfl) (by simp) ?_
    refine Ru.AllReadyU.cons rfl (by kernel_rfl) (fun K hK => ?_) Ru.AllReadyU.nil
    go_simp
    refine (H2.out _ (below_tr KQ.out D_11)).mono ?_
    rintro e v_12 ⟨rfl, k_12⟩
    have D_12 := below_tr D_11 k_12
    have n_12 := CRow.keep n_11 k_12
    go_wp2_with fail
    refine hK.out _ _ (hS _ D_12) (fun hHeld => ?_)
    clear hK K
    try simp only [Act.put, List.getElem_toArray, List.getElem_cons_zero, List.getElem_cons_succ, List.setIfInBounds_toArray, List.set_cons_zero, List.set_cons_succ]
    refine Ru.wpAnyU_ready (rs := [5]) (by kernel_rfl) (by simp) ?_
    refine Ru.AllReadyU.cons rfl (by kernel_rfl) (fun K hK => ?_) Ru.AllReadyU.nil
    go_simp
    refine (HN.out _).mono ?_
    rintro e v_13 ⟨rfl, k_13⟩
    have D_13 := below_tr D_12 k_13
    have n_13 := CRow.keep n_12 k_13
    go_wp2_with fail
    refine hK.out _ _ (hS _ D_13) (fun hHeld => ?_)
    clear hK K
    try simp only [Act.put, List.getElem_toArray, List.getElem_cons_zero, List.getElem_cons_succ, List.setIfInBounds_toArray, List.set_cons_zero, List.set_cons_succ]
    refine Ru.wpAnyU_take (i := 6) (v := .tuple #[.agg (svals (fun _ => 0) 0 0 (fun _ => 0)).toArray, .bool false, .iface 54 (.int .i64 1)]) rfl (by kernel_rfl) (by kernel_rfl) (by kernel_rfl) (by kernel_rfl) (by kernel_rfl) (by kernel_rfl) (fun _ _ _ h => h) (Or.inl ⟨by kernel_rfl, fun w hS => by have sc0 := hS; go_simp⟩) hHeld ?_
    simp only [Act.put, List.getElem_toArray, List.getElem_cons_zero, List.getElem_cons_succ, List.setIfInBounds_toArray, List.set_cons_zero, List.set_cons_succ]
    refine Ru.wpAnyU_take (i := 7) (v := .agg (svals (fun _ => 0) 0 0 (fun _ => 0)).toArray) rfl (by kernel_rfl) (by kernel_rfl) (by kernel_rfl) (by kernel_rfl) (by kernel_rfl) (by kernel_rfl) (fun _ _ _ h => h) (Or.inl ⟨by kernel_rfl, fun w hS => by have sc0 := hS; go_simp⟩) hHeld ?_
    simp only [Act.put, List.getElem_toArray, List.getElem_cons_zero, List.getElem_cons_succ, List.setIfInBounds_toArray, List.set_cons_zero, List.set_cons_succ]
    refine Ru.wpAnyU_take (i := 8) (v := .bool false) rfl (by kernel_rfl) (by kernel_rfl) (by kernel_rfl) (by kernel_rfl) (by kernel_rfl) (by kernel_rfl) (fun _ _ _ h => h) (Or.inl ⟨by kernel_rfl, fun w hS => by have sc0 := hS; go_simp⟩) hHeld ?_
    simp only [Act.put, List.getElem_toArray, List.getElem_cons_zero, List.getElem_cons_succ, List.setIfInBounds_toArray, List.set_cons_zero, List.set_cons_succ]
    refine Ru.wpAnyU_take (i := 9) (v := .iface 54 (.int .i64 1)) rfl (by kernel_rfl) (by kernel_rfl) (by kernel_rfl) (by kernel_rfl) (by kernel_rfl) (by kernel_rfl) (fun _ _ _ h => h) (Or.inl ⟨by kernel_rfl, fun w hS => by have sc0 := hS; go_simp⟩) hHeld ?_
    simp only [Act.put, List.getElem_toArray, List.getElem_cons_zero, List.getElem_cons_succ, List.setIfInBounds_toArray, List.set_cons_zero, List.set_cons_succ]
    refine Ru.wpAnyU_ready (rs := [11]) (by kernel_rfl) (by simp) ?_
    refine Ru.AllReadyU.cons rfl (by kernel_rfl) (fun K hK => ?_) Ru.AllReadyU.nil
    refine Ru.stepC isS (by kernel_rfl) _ _ (by rfl) (wq3.heap.size) _ (svals (fun _ => 0) 0 0 (fun _ => 0)) (by rfl) (by rfl) n_13 (svals_len _ _ _ _) (svals_len _ _ _ _) (one_svals _ _ _ _) ?_
    have nE := CRow.row n_13 (svals (fun _ => 0) 0 0 (fun _ => 0))
    have xE := CRow.rowOther (hS _ D_13) (g := wq3.heap.size) (by omega) (svals (fun _ => 0) 0 0 (fun _ => 0)).toArray
    have bE := St.below_row D_13 (g := wq3.heap.size) (by omega) (svals (fun _ => 0) 0 0 (fun _ => 0)).toArray
    refine hK.out _ _ xE (fun hHeld => ?_)
    clear hK K
    try simp only [Act.put, List.getElem_toArray, List.getElem_cons_zero, List.getElem_cons_succ, List.setIfInBounds_toArray, List.set_cons_zero, List.set_cons_succ]
    refine Ru.wpAnyU_take (i := 12) (v := .bool false) rfl (by kernel_rfl) (by kernel_rfl) (by kernel_rfl) (by kernel_rfl) (by kernel_rfl) (by kernel_rfl) (fun _ _ _ h => h) (Or.inl ⟨by kernel_rfl, fun w hS => by have sc0 := hS; go_simp⟩) hHeld ?_
    simp only [Act.put, List.getElem_toArray, List.getElem_cons_zero, List.getElem_cons_succ, List.setIfInBounds_toArray, List.set_cons_zero, List.set_cons_succ]
    refine Ru.wpAnyU_take (i := 13) (v := .iface 54 (.int .i64 1)) rfl (by kernel_rfl) (by kernel_rfl) (by kernel_rfl) (by kernel_rfl) (by kernel_rfl) (by kernel_rfl) (fun _ _ _ h => h) (Or.inl ⟨by kernel_rfl, fun w hS => by have sc0 := hS; go_simp⟩) hHeld ?_
    simp only [Act.put, List.getElem_toArray, List.getElem_cons_zero, List.getElem_cons_succ, List.setIfInBounds_toArray, List.set_cons_zero, List.set_cons_succ]
    refine Ru.wpAnyU_done (by kernel_rfl) ?_
    go_wp2_with fail
    go_meet
    exact ⟨_, rfl, rfl, rfl, nE, bE⟩
  rename World => wc
  obtain ⟨gn, rfl, rfl, rfl, nc, kc⟩ := hcut
  have KC := below_tr KK3 kc
  have xc_ := CRow.keep x_3 kc
  have mc := CRow.keep m_3 kc
  clear KK3 x_3 m_3 kc H1 H2 HN HG HC
  go_wp2_with (first
    | ((with_reducible show wpList _ _ _ _ _ _); refine St.wpList_load isRs (by rfl) _ (by rfl) _ _ (by rfl) (by with_reducible exact mc) rfl ?_)
    | fail)
  refine (HM.out _ KC).mono ?_
  rintro e wq4 ⟨rfl, kq4⟩
  have KK4 := below_tr KC kq4
  have m_4 := CRow.keep mc kq4
  have x_4 := CRow.keep xc_ kq4
  have n_4 := CRow.keep nc kq4
  clear KC mc xc_ nc
  go_wp2_with (first
    | ((with_reducible show wpList _ _ _ _ _ _); refine St.wpList_load isS (by rfl) _ (by rfl) _ _ (by rfl) (by with_reducible exact x_4) (svals_len _ _ _ _) ?_)
    | fail)
  refine (HQ.out _).mono ?_
  rintro e wq5 ⟨rfl, kq5⟩
  have KK5 := below_tr KK4 kq5
  have m_5 := CRow.keep m_4 kq5
  have n_5 := CRow.keep n_4 kq5
  clear KK4 m_4 n_4
  go_wp2_with (first
    | fail)
  refine (H6.out _ KK5).mono ?_
  rintro e wq6 ⟨rfl, kq6⟩
  have KK6 := below_tr KK5 kq6
  have m_6 := CRow.keep m_5 kq6
  have n_6 := CRow.keep n_5 kq6
  clear KK5 m_5 n_5
  go_wp2_with (first
    | fail)
  refine (num_err 1 _ (HE.out.below KK6)).mono ?_
  rintro e wq7 ⟨rfl, kq7⟩
  have KK7 := below_tr KK6 kq7
  have n_7 := CRow.keep n_6 kq7
  clear KK6 n_6
  go_wp2_with (first
    | ((with_reducible show wpList _ _ _ _ _ _); refine St.wpList_load isS (by rfl) _ (by rfl) _ _ (by rfl) (by with_reducible exact n_7) (svals_len _ _ _ _) ?_)
    | ((with_reducible show wpList _ _ _ _ _ _); refine Pd.buildS0 (by with_reducible rfl) (by kernel_rfl) ?_)
    | ((with_reducible show wpList _ _ _ _ _ _); refine Pd.eqlS _ _ _ (by with_reducible rfl) _ _ _ _ _ _ _ _ true (by rfl) (by rfl) (eqS_same _ _ _ _) (by kernel_rfl) ?_)
    | fail)
  refine (psure_any _).mono ?_
  rintro e wq8 ⟨rfl, kq8⟩
  have KK8 := below_tr KK7 kq8
  clear KK7
  go_wp2
  go_ret
  exact ⟨rfl, KK8⟩

set_option maxRecDepth 20000 in
set_option maxHeartbeats 8000000 in
theorem pn_noise (xo po a1 a2 : Option Addr) (xc n pc l1 c1p l2 c2p : Nat) (X : Nat → Int) (r c : Int) (z : Nat → Int) (r1 c1 : Int) (z1 : Nat → Int) (r2 c2 : Int) (z2 : Nat → Int) (w : World) (hE : ErrTab w)
    (hG : ∀ W, Below w.heap.size w W → Calls Tryz.prog 5 #[.agg #[.slice xo 6 xc, .slice po n pc]] W fun e w' => e = .returned (.agg (svals X r c z).toArray) ∧ Below W.heap.size W w')
    (h1 : ∀ W, Below w.heap.size w W → Calls Tryz.prog 8 #[.slice a1 l1 c1p] W fun e w' => e = .returned (.agg (mvals r1 c1 z1).toArray) ∧ Below W.heap.size W w')
    (h2 : ∀ W, Below w.heap.size w W → Calls Tryz.prog 8 #[.slice a2 l2 c2p] W fun e w' => e = .returned (.agg (mvals r2 c2 z2).toArray) ∧ Below W.heap.size W w')
    (hC : ∀ W, Calls Tryz.prog 6 #[.agg (svals X r c z).toArray] W fun e w' => e = .returned (.nilIface) ∧ Below W.heap.size W w')
    (hN : ∀ W, Calls Tryz.prog 7 #[.agg (svals X r c z).toArray, .agg (mvals r1 c1 z1).toArray, .agg (mvals r2 c2 z2).toArray] W fun e w' => e = .returned (.tuple #[.agg (svals (fun _ => 0) 0 0 (fun _ => 0)).toArray, .bool false, .iface 54 (.int .i64 1)]) ∧ Below W.heap.size W w')
    (hM : ∀ W, Below w.heap.size w W → Calls Tryz.prog 9 #[.agg #[.slice xo 6 xc, .slice po n pc]] W fun e w' => e = .returned (.bool true) ∧ Below W.heap.size W w')
    (h6 : ∀ W, Below w.heap.size w W → Calls Tryz.prog 12 #[.slice a1 l1 c1p] W fun e w' => e = .returned (.bool true) ∧ Below W.heap.size W w')
    (h7 : ∀ W, Below w.heap.size w W → Calls Tryz.prog 12 #[.slice a2 l2 c2p] W fun e w' => e = .returned (.bool false) ∧ Below W.heap.size W w')
    : Calls Tryz.prog 3 #[.agg #[.slice xo 6 xc, .slice po n pc], .slice a1 l1 c1p, .slice a2 l2 c2p] w fun e w' => e = .returned (.bool true) ∧ Below w.heap.size w w' := by
  have HE := hide hE
  have HG := hide hG
  have H1 := hide h1
  have H2 := hide h2
  have HC := hide hC
  have HN := hide hN
  have HM := hide hM
  have H6 := hide h6
  have H7 := hide h7
  have HQ := hide (fun W => psame_any X r c z X r c z W)
  rw [eqS_same] at HQ
  have m0 := crow_new w 25 [.slice xo 6 xc, .slice po n pc]
  have KK0 := below_al (Below.refl _ w) (.cells [.slice xo 6 xc, .slice po n pc].toArray 25)
  clear hE hG h1 h2 hC hN hM h6 h7
  go_enter Tryz.func3, Tryz.ntmps3
  go_wp2_with (first
    | ((with_reducible show wpList _ _ _ _ _ _); refine St.wpList_load isRs (by rfl) _ (by rfl) _ _ (by rfl) (by with_reducible exact m0) rfl ?_)
    | fail)
  refine (HG.out _ KK0).mono ?_
  rintro e wq1 ⟨rfl, kq1⟩
  have KK1 := below_tr KK0 kq1
  have m_1 := CRow.keep m0 kq1
  clear KK0 m0
  go_wp2_with (first
    | ((with_reducible show wpList _ _ _ _ _ _); rw [zeroS]; refine St.wpList_storeNew isS rfl _ _ (by rfl) _ _ _ (by rfl) (by rfl) (svals_len _ _ _ _) (svals_len _ _ _ _) (one_svals _ _ _ _) ?_; intro ws2 ns2 ks2; have KK2 := below_tr KK1 ks2; have m_2 := CRow.keep m_1 ks2; clear KK1 m_1)
    | ((with_reducible show wpList _ _ _ _ _ _); refine St.wpList_load isS (by rfl) _ (by rfl) _ _ (by rfl) (by with_reducible exact ns2) (svals_len _ _ _ _) ?_)
    | fail)
  refine (HC.out _).mono ?_
  rintro e wq3 ⟨rfl, kq3⟩
  have KK3 := below_tr KK2 kq3
  have m_3 := CRow.keep m_2 kq3
  have x_3 := CRow.keep ns2 kq3
  clear KK2 m_2 ns2
  go_upto_region 5 with fail
  go_cut [9, 10, 11] (fun p o f wx => ∃ g : Nat, p = .pointer (some ⟨g, 0, none⟩) ∧ o = .bool false ∧ f = .iface 54 (.int .i64 1) ∧ CRow wx g 32 (svals (fun _ => 0) 0 0 (fun _ => 0)) ∧ Below wq3.heap.size wq3 wx)
  case first =>
    have hS : ∀ W, Below wq3.heap.size wq3 W → SRow W wq1.heap.size X r c z := fun W q => CRow.keep x_3 q
    have KQ := hide KK3
    have lx := CRow.lt x_3
    clear x_3 m_3 KK3
    refine Ru.wp_region_U [] (fun w' => SRow w' wq1.heap.size X r c z) (by kernel_rfl) (hS _ (Vc.below_drew' _)) (fun hHeld => ?_)
    refine Ru.wpAnyU_take (i := 0) (v := .agg (svals X r c z).toArray) rfl (by kernel_rfl) (by kernel_rfl) (by kernel_rfl) (by kernel_rfl) (by kernel_rfl) (by kernel_rfl) (fun _ _ _ h => h) (Ru.yieldsC isS (by kernel_rfl) _ (by rfl) wq1.heap.size _ (by rfl) (fun w h => h) (svals_len _ _ _ _)) hHeld ?_
    simp only [Act.put, List.getElem_toArray, List.getElem_cons_zero, List.getElem_cons_succ, List.setIfInBounds_toArray, List.set_cons_zero, List.set_cons_succ]
    refine Ru.wpAnyU_take (i := 1) (v := .slice a1 l1 c1p) rfl (by kernel_rfl) (by kernel_rfl) (by kernel_rfl) (by kernel_rfl) (by kernel_rfl) (by kernel_rfl) (fun _ _ _ h => h) (Or.inl ⟨by kernel_rfl, fun w hS => by have sc0 := hS; go_simp⟩) hHeld ?_
    simp only [Act.put, List.getElem_toArray, List.getElem_cons_zero, List.getElem_cons_succ, List.setIfInBounds_toArray, List.set_cons_zero, List.set_cons_succ]
    refine Ru.wpAnyU_take (i := 3) (v := .slice a2 l2 c2p) rfl (by kernel_rfl) (by kernel_rfl) (by kernel_rfl) (by kernel_rfl) (by kernel_rfl) (by kernel_rfl) (fun _ _ _ h => h) (Or.inl ⟨by kernel_rfl, fun w hS => by have sc0 := hS; go_simp⟩) hHeld ?_
    simp only [Act.put, List.getElem_toArray, List.getElem_cons_zero, List.getElem_cons_succ, List.setIfInBounds_toArray, List.set_cons_zero, List.set_cons_succ]
    refine Ru.wpAnyU_ready (rs := [2, 10]) (by kernel_rfl) (by simp) ?_
    refine Ru.AllReadyU.cons rfl (by kernel_rfl) (fun K hK => ?_) ?_
    · go_simp
      refine (H1.out _ (below_tr KQ.out (Vc.below_drew' wq3))).mono ?_
      rintro e v_1 ⟨rfl, k_1⟩
      have D_1 := below_tr (Vc.below_drew' wq3) k_1
      go_wp2_with fail
      refine hK.out _ _ (hS _ D_1) (fun hHeld => ?_)
      clear hK K
      try simp only [Act.put, List.getElem_toArray, List.getElem_cons_zero, List.getElem_cons_succ, List.setIfInBounds_toArray, List.set_cons_zero, List.set_cons_succ]
      refine Ru.wpAnyU_ready (rs := [4, 10]) (by kernel_rfl) (by simp) ?_
      refine Ru.AllReadyU.cons rfl (by kernel_rfl) (fun K hK => ?_) ?_
      · go_simp
        refine (H2.out _ (below_tr KQ.out D_1)).mono ?_
        rintro e v_2 ⟨rfl, k_2⟩
        have D_2 := below_tr D_1 k_2
        go_wp2_with fail
        refine hK.out _ _ (hS _ D_2) (fun hHeld => ?_)
        clear hK K
        try simp only [Act.put, List.getElem_toArray, List.getElem_cons_zero, List.getElem_cons_succ, List.setIfInBounds_toArray, List.set_cons_zero, List.set_cons_succ]
        refine Ru.wpAnyU_ready (rs := [5, 10]) (by kernel_rfl) (by simp) ?_
        refine Ru.AllReadyU.cons rfl (by kernel_rfl) (fun K hK => ?_) ?_
        · go_simp
          refine (HN.out _).mono ?_
          rintro e v_3 ⟨rfl, k_3⟩
          have D_3 := below_tr D_2 k_3
          go_wp2_with fail
          refine hK.out _ _ (hS _ D_3) (fun hHeld => ?_)
          clear hK K
          try simp only [Act.put, List.getElem_toArray, List.getElem_cons_zero, List.getElem_cons_succ, List.setIfInBounds_toArray, List.set_cons_zero, List.set_cons_succ]
          refine Ru.wpAnyU_take (i := 6) (v := .tuple #[.agg (svals (fun _ => 0) 0 0 (fun _ => 0)).toArray, .bool false, .iface 54 (.int .i64 1)]) rfl (by kernel_rfl) (by kernel_rfl) (by kernel_rfl) (by kernel_rfl) (by kernel_rfl) (by kernel_rfl) (fun _ _ _ h => h) (Or.inl ⟨by kernel_rfl, fun w hS => by have sc0 := hS; go_simp⟩) hHeld ?_
          simp only [Act.put, List.getElem_toArray, List.getElem_cons_zero, List.getElem_cons_succ, List.setIfInBounds_toArray, List.set_cons_zero, List.set_cons_succ]
          refine Ru.wpAnyU_take (i := 7) (v := .agg (svals (fun _ => 0) 0 0 (fun _ => 0)).toArray) rfl (by kernel_rfl) (by kernel_rfl) (by kernel_rfl) (by kernel_rfl) (by kernel_rfl) (by kernel_rfl) (fun _ _ _ h => h) (Or.inl ⟨by kernel_rfl, fun w hS => by have sc0 := hS; go_simp⟩) hHeld ?_
          simp only [Act.put, List.getElem_toArray, List.getElem_cons_zero, List.getElem_cons_succ, List.setIfInBounds_toArray, List.set_cons_zero, List.set_cons_succ]
          refine Ru.wpAnyU_take (i := 8) (v := .bool false) rfl (by kernel_rfl) (by kernel_rfl) (by kernel_rfl) (by kernel_rfl) (by kernel_rfl) (by kernel_rfl) (fun _ _ _ h => h) (Or.inl ⟨by kernel_rfl, fun w hS => by have sc0 := hS; go_simp⟩) hHeld ?_
          simp only [Act.put, List.getElem_toArray, List.getElem_cons_zero, List.getElem_cons_succ, List.setIfInBounds_toArray, List.set_cons_zero, List.set_cons_succ]
          refine Ru.wpAnyU_take (i := 9) (v := .iface 54 (.int .i64 1)) rfl (by kernel_rfl) (by kernel_rfl) (by kernel_rfl) (by kernel_rfl) (by kernel_rfl) (by kernel_rfl) (fun _ _ _ h => h) (Or.inl ⟨by kernel_rfl, fun w hS => by have sc0 := hS; go_simp⟩) hHeld ?_
          simp only [Act.put, List.getElem_toArray, List.getElem_cons_zero, List.getElem_cons_succ, List.setIfInBounds_toArray, List.set_cons_zero, List.set_cons_succ]
          refine Ru.wpAnyU_ready (rs := [10]) (by kernel_rfl) (by simp) ?_
          refine Ru.AllReadyU.cons rfl (by kernel_rfl) (fun K hK => ?_) Ru.AllReadyU.nil
          go_simp
          try rw [zeroS]
          have n_4 : CRow (v_3.alloc (.cells (svals (fun _ => 0) 0 0 (fun _ => 0)).toArray 32)) v_3.heap.size 32 (svals (fun _ => 0) 0 0 (fun _ => 0)) := crow_new v_3 32 (svals (fun _ => 0) 0 0 (fun _ => 0))
          have a_4 := below_al (Below.refl _ v_3) (.cells (svals (fun _ => 0) 0 0 (fun _ => 0)).toArray 32)
          have g_4 := D_3.size
          have D_4 := below_tr D_3 a_4
          refine hK.out _ _ (hS _ D_4) (fun hHeld => ?_)
          clear hK K
          try simp only [Act.put, List.getElem_toArray, List.getElem_cons_zero, List.getElem_cons_succ, List.setIfInBounds_toArray, List.set_cons_zero, List.set_cons_succ]
          refine Ru.wpAnyU_ready (rs := [11]) (by kernel_rfl) (by simp) ?_
          refine Ru.AllReadyU.cons rfl (by kernel_rfl) (fun K hK => ?_) Ru.AllReadyU.nil
          refine Ru.stepC isS (by kernel_rfl) _ _ (by rfl) (v_3.heap.size) _ (svals (fun _ => 0) 0 0 (fun _ => 0)) (by rfl) (by rfl) n_4 (svals_len _ _ _ _) (svals_len _ _ _ _) (one_svals _ _ _ _) ?_
          have nE := CRow.row n_4 (svals (fun _ => 0) 0 0 (fun _ => 0))
          have xE := CRow.rowOther (hS _ D_4) (g := v_3.heap.size) (by omega) (svals (fun _ => 0) 0 0 (fun _ => 0)).toArray
          have bE := St.below_row D_4 (g := v_3.heap.size) (by omega) (svals (fun _ => 0) 0 0 (fun _ => 0)).toArray
          refine hK.out _ _ xE (fun hHeld => ?_)
          clear hK K
          try simp only [Act.put, List.getElem_toArray, List.getElem_cons_zero, List.getElem_cons_succ, List.setIfInBounds_toArray, List.set_cons_zero, List.set_cons_succ]
          refine Ru.wpAnyU_take (i := 12) (v := .bool false) rfl (by kernel_rfl) (by kernel_rfl) (by kernel_rfl) (by kernel_rfl) (by kernel_rfl) (by kernel_rfl) (fun _ _ _ h => h) (Or.inl ⟨by kernel_rfl, fun w hS => by have sc0 := hS; go_simp⟩) hHeld ?_
          simp only [Act.put, List.getElem_toArray, List.getElem_cons_zero, List.getElem_cons_succ, List.setIfInBounds_toArray, List.set_cons_zero, List.set_cons_succ]
          refine Ru.wpAnyU_take (i := 13) (v := .iface 54 (.int .i64 1)) rfl (by kernel_rfl) (by kernel_rfl) (by kernel_rfl) (by kernel_rfl) (by kernel_rfl) (by kernel_rfl) (fun _ _ _ h => h) (Or.inl ⟨by kernel_rfl, fun w hS => by have sc0 := hS; go_simp⟩) hHeld ?_
          simp only [Act.put, List.getElem_toArray, List.getElem_cons_zero, List.getElem_cons_succ, List.setIfInBounds_toArray, List.set_cons_zero, List.set_cons_succ]
          refine Ru.wpAnyU_done (by kernel_rfl) ?_
          go_wp2_with fail
          go_meet
          exact ⟨_, rfl, rfl, rfl, nE, bE⟩
        refine Ru.AllReadyU.cons rfl (by kernel_rfl) (fun K hK => ?_) Ru.AllReadyU.nil
        go_simp
        try rw [zeroS]
        have n_5 : CRow (v_2.alloc (.cells (svals (fun _ => 0) 0 0 (fun _ => 0)).toArray 32)) v_2.heap.size 32 (svals (fun _ => 0) 0 0 (fun _ => 0)) := crow_new v_2 32 (svals (fun _ => 0) 0 0 (fun _ => 0))
        have a_5 := below_al (Below.refl _ v_2) (.cells (svals (fun _ => 0) 0 0 (fun _ => 0)).toArray 32)
        have g_5 := D_2.size
        have D_5 := below_tr D_2 a_5
        refine hK.out _ _ (hS _ D_5) (fun hHeld => ?_)
        clear hK K
        try simp only [Act.put, List.getElem_toArray, List.getElem_cons_zero, List.getElem_cons_succ, List.setIfInBounds_toArray, List.set_cons_zero, List.set_cons_succ]
        refine Ru.wpAnyU_ready (rs := [5]) (by kernel_rfl) (by simp) ?_
        refine Ru.AllReadyU.cons rfl (by kernel_rfl) (fun K hK => ?_) Ru.AllReadyU.nil
        go_simp
        refine (HN.out _).mono ?_
        rintro e v_6 ⟨rfl, k_6⟩
        have D_6 := below_tr D_5 k_6
        have n_6 := CRow.keep n_5 k_6
        go_wp2_with fail
        refine hK.out _ _ (hS _ D_6) (fun hHeld => ?_)
        clear hK K
        try simp only [Act.put, List.getElem_toArray, List.getElem_cons_zero, List.getElem_cons_succ, List.setIfInBounds_toArray, List.set_cons_zero, List.set_cons_succ]
        refine Ru.wpAnyU_take (i := 6) (v := .tuple #[.agg (svals (fun _ => 0) 0 0 (fun _ => 0)).toArray, .bool false, .iface 54 (.int .i64 1)]) rfl (by kernel_rfl) (by kernel_rfl) (by kernel_rfl) (by kernel_rfl) (by kernel_rfl) (by kernel_rfl) (fun _ _ _ h => h) (Or.inl ⟨by kernel_rfl, fun w hS => by have sc0 := hS; go_simp⟩) hHeld ?_
        simp only [Act.put, List.getElem_toArray, List.getElem_cons_zero, List.getElem_cons_succ, List.setIfInBounds_toArray, List.set_cons_zero, List.set_cons_succ]
        refine Ru.wpAnyU_take (i := 7) (v := .agg (svals (fun _ => 0) 0 0 (fun _ => 0)).toArray) rfl (by kernel_rfl) (by kernel_rfl) (by kernel_rfl) (by kernel_rfl) (by kernel_rfl) (by kernel_rfl) (fun _ _ _ h => h) (Or.inl ⟨by kernel_rfl, fun w hS => by have sc0 := hS; go_simp⟩) hHeld ?_
        simp only [Act.put, List.getElem_toArray, List.getElem_cons_zero, List.getElem_cons_succ, List.setIfInBounds_toArray, List.set_cons_zero, List.set_cons_succ]
        refine Ru.wpAnyU_take (i := 8) (v := .bool false) rfl (by kernel_rfl) (by kernel_rfl) (by kernel_rfl) (by kernel_rfl) (by kernel_rfl) (by kernel_rfl) (fun _ _ _ h => h) (Or.inl ⟨by kernel_rfl, fun w hS => by have sc0 := hS; go_simp⟩) hHeld ?_
        simp only [Act.put, List.getElem_toArray, List.getElem_cons_zero, List.getElem_cons_succ, List.setIfInBounds_toArray, List.set_cons_zero, List.set_cons_succ]
        refine Ru.wpAnyU_take (i := 9) (v := .iface 54 (.int .i64 1)) rfl (by kernel_rfl) (by kernel_rfl) (by kernel_rfl) (by kernel_rfl) (by kernel_rfl) (by kernel_rfl) (fun _ _ _ h => h) (Or.inl ⟨by kernel_rfl, fun w hS => by have sc0 := hS; go_simp⟩) hHeld ?_
        simp only [Act.put, List.getElem_toArray, List.getElem_cons_zero, List.getElem_cons_succ, List.setIfInBounds_toArray, List.set_cons_zero, List.set_cons_succ]
        refine Ru.wpAnyU_ready (rs := [11]) (by kernel_rfl) (by simp) ?_
        refine Ru.AllReadyU.cons rfl (by kernel_rfl) (fun K hK => ?_) Ru.AllReadyU.nil
        refine Ru.stepC isS (by kernel_rfl) _ _ (by rfl) (v_2.heap.size) _ (svals (fun _ => 0) 0 0 (fun _ => 0)) (by rfl) (by rfl) n_6 (svals_len _ _ _ _) (svals_len _ _ _ _) (one_svals _ _ _ _) ?_
        have nE := CRow.row n_6 (svals (fun _ => 0) 0 0 (fun _ => 0))
        have xE := CRow.rowOther (hS _ D_6) (g := v_2.heap.size) (by omega) (svals (fun _ => 0) 0 0 (fun _ => 0)).toArray
        have bE := St.below_row D_6 (g := v_2.heap.size) (by omega) (svals (fun _ => 0) 0 0 (fun _ => 0)).toArray
        refine hK.out _ _ xE (fun hHeld => ?_)
        clear hK K
        try simp only [Act.put, List.getElem_toArray, List.getElem_cons_zero, List.getElem_cons_succ, List.setIfInBounds_toArray, List.set_cons_zero, List.set_cons_succ]
        refine Ru.wpAnyU_take (i := 12) (v := .bool false) rfl (by kernel_rfl) (by kernel_rfl) (by kernel_rfl) (by kernel_rfl) (by kernel_rfl) (by kernel_rfl) (fun _ _ _ h => h) (Or.inl ⟨by kernel_rfl, fun w hS => by have sc0 := hS; go_simp⟩) hHeld ?_
        simp only [Act.put, List.getElem_toArray, List.getElem_cons_zero, List.getElem_cons_succ, List.setIfInBounds_toArray, List.set_cons_zero, List.set_cons_succ]
        refine Ru.wpAnyU_take (i := 13) (v := .iface 54 (.int .i64 1)) rfl (by kernel_rfl) (by kernel_rfl) (by kernel_rfl) (by kernel_rfl) (by kernel_rfl) (by kernel_rfl) (fun _ _ _ h => h) (Or.inl ⟨by kernel_rfl, fun w hS => by have sc0 := hS; go_simp⟩) hHeld ?_
        simp only [Act.put, List.getElem_toArray, List.getElem_cons_zero, List.getElem_cons_succ, List.setIfInBounds_toArray, List.set_cons_zero, List.set_cons_succ]
        refine Ru.wpAnyU_done (by kernel_rfl) ?_
        go_wp2_with fail
        go_meet
        exact ⟨_, rfl, rfl, rfl, nE, bE⟩
      refine Ru.AllReadyU.cons rfl (by kernel_rfl) (fun K hK => ?_) Ru.AllReadyU.nil
      go_simp
      try rw [zeroS]
      have n_7 : CRow (v_1.alloc (.cells (svals (fun _ => 0) 0 0 (fun _ => 0)).toArray 32)) v_1.heap.size 32 (svals (fun _ => 0) 0 0 (fun _ => 0)) := crow_new v_1 32 (svals (fun _ => 0) 0 0 (fun _ => 0))
      have a_7 := below_al (Below.refl _ v_1) (.cells (svals (fun _ => 0) 0 0 (fun _ => 0)).toArray 32)
      have g_7 := D_1.size
      have D_7 := below_tr D_1 a_7
      refine hK.out _ _ (hS _ D_7) (fun hHeld => ?_)
      clear hK K
      try simp only [Act.put, List.getElem_toArray, List.getElem_cons_zero, List.getElem_cons_succ, List.setIfInBounds_toArray, List.set_cons_zero, List.set_cons_succ]
      refine Ru.wpAnyU_ready (rs := [4]) (by kernel_rfl) (by simp) ?_
      refine Ru.AllReadyU.cons rfl (by kernel_rfl) (fun K hK => ?_) Ru.AllReadyU.nil
      go_simp
      refine (H2.out _ (below_tr KQ.out D_7)).mono ?_
      rintro e v_8 ⟨rfl, k_8⟩
      have D_8 := below_tr D_7 k_8
      have n_8 := CRow.keep n_7 k_8
      go_wp2_with fail
      refine hK.out _ _ (hS _ D_8) (fun hHeld => ?_)
      clear hK K
      try simp only [Act.put, List.getElem_toArray, List.getElem_cons_zero, List.getElem_cons_succ, List.setIfInBounds_toArray, List.set_cons_zero, List.set_cons_succ]
      refine Ru.wpAnyU_ready (rs := [5]) (by kernel_rfl) (by simp) ?_
      refine Ru.AllReadyU.cons rfl (by kernel_rfl) (fun K hK => ?_) Ru.AllReadyU.nil
      go_simp
      refine (HN.out _).mono ?_
      rintro e v_9 ⟨rfl, k_9⟩
      have D_9 := below_tr D_8 k_9
      have n_9 := CRow.keep n_8 k_9
      go_wp2_with fail
      refine hK.out _ _ (hS _ D_9) (fun hHeld => ?_)
      clear hK K
      try simp only [Act.put, List.getElem_toArray, List.getElem_cons_zero, List.getElem_cons_succ, List.setIfInBounds_toArray, List.set_cons_zero, List.set_cons_succ]
      refine Ru.wpAnyU_take (i := 6) (v := .tuple #[.agg (svals (fun _ => 0) 0 0 (fun _ => 0)).toArray, .bool false, .iface 54 (.int .i64 1)]) rfl (by kernel_rfl) (by kernel_rfl) (by kernel_rfl) (by kernel_rfl) (by kernel_rfl) (by kernel_rfl) (fun _ _ _ h => h) (Or.inl ⟨by kernel_rfl, fun w hS => by have sc0 := hS; go_simp⟩) hHeld ?_
      simp only [Act.put, List.getElem_toArray, List.getElem_cons_zero, List.getElem_cons_succ, List.setIfInBounds_toArray, List.set_cons_zero, List.set_cons_succ]
      refine Ru.wpAnyU_take (i := 7) (v := .agg (svals (fun _ => 0) 0 0 (fun _ => 0)).toArray) rfl (by kernel_rfl) (by kernel_rfl) (by kernel_rfl) (by kernel_rfl) (by kernel_rfl) (by kernel_rfl) (fun _ _ _ h => h) (Or.inl ⟨by kernel_rfl, fun w hS => by have sc0 := hS; go_simp⟩) hHeld ?_
      simp only [Act.put, List.getElem_toArray, List.getElem_cons_zero, List.getElem_cons_succ, List.setIfInBounds_toArray, List.set_cons_zero, List.set_cons_succ]
      refine Ru.wpAnyU_take (i := 8) (v := .bool false) rfl (by kernel_rfl) (by kernel_rfl) (by kernel_rfl) (by kernel_rfl) (by kernel_rfl) (by kernel_rfl) (fun _ _ _ h => h) (Or.inl ⟨by kernel_rfl, fun w hS => by have sc0 := hS; go_simp⟩) hHeld ?_
      simp only [Act.put, List.getElem_toArray, List.getElem_cons_zero, List.getElem_cons_succ, List.setIfInBounds_toArray, List.set_cons_zero, List.set_cons_succ]
      refine Ru.wpAnyU_take (i := 9) (v := .iface 54 (.int .i64 1)) rfl (by kernel_rfl) (by kernel_rfl) (by kernel_rfl) (by kernel_rfl) (by kernel_rfl) (by kernel_rfl) (fun _ _ _ h => h) (Or.inl ⟨by kernel_rfl, fun w hS => by have sc0 := hS; go_simp⟩) hHeld ?_
      simp only [Act.put, List.getElem_toArray, List.getElem_cons_zero, List.getElem_cons_succ, List.setIfInBounds_toArray, List.set_cons_zero, List.set_cons_succ]
      refine Ru.wpAnyU_ready (rs := [11]) (by kernel_rfl) (by simp) ?_
      refine Ru.AllReadyU.cons rfl (by kernel_rfl) (fun K hK => ?_) Ru.AllReadyU.nil
      refine Ru.stepC isS (by kernel_rfl) _ _ (by rfl) (v_1.heap.size) _ (svals (fun _ => 0) 0 0 (fun _ => 0)) (by rfl) (by rfl) n_9 (svals_len _ _ _ _) (svals_len _ _ _ _) (one_svals _ _ _ _) ?_
      have nE := CRow.row n_9 (svals (fun _ => 0) 0 0 (fun _ => 0))
      have xE := CRow.rowOther (hS _ D_9) (g := v_1.heap.size) (by omega) (svals (fun _ => 0) 0 0 (fun _ => 0)).toArray
      have bE := St.below_row D_9 (g := v_1.heap.size) (by omega) (svals (fun _ => 0) 0 0 (fun _ => 0)).toArray
      refine hK.out _ _ xE (fun hHeld => ?_)
      clear hK K
      try simp only [Act.put, List.getElem_toArray, List.getElem_cons_zero, List.getElem_cons_succ, List.setIfInBounds_toArray, List.set_cons_zero, List.set_cons_succ]
      refine Ru.wpAnyU_take (i := 12) (v := .bool false) rfl (by kernel_rfl) (by kernel_rfl) (by kernel_rfl) (by kernel_rfl) (by kernel_rfl) (by kernel_rfl) (fun _ _ _ h => h) (Or.inl ⟨by kernel_rfl, fun w hS => by have sc0 := hS; go_simp⟩) hHeld ?_
      simp only [Act.put, List.getElem_toArray, List.getElem_cons_zero, List.getElem_cons_succ, List.setIfInBounds_toArray, List.set_cons_zero, List.set_cons_succ]
      refine Ru.wpAnyU_take (i := 13) (v := .iface 54 (.int .i64 1)) rfl (by kernel_rfl) (by kernel_rfl) (by kernel_rfl) (by kernel_rfl) (by kernel_rfl) (by kernel_rfl) (fun _ _ _ h => h) (Or.inl ⟨by kernel_rfl, fun w hS => by have sc0 := hS; go_simp⟩) hHeld ?_
      simp only [Act.put, List.getElem_toArray, List.getElem_cons_zero, List.getElem_cons_succ, List.setIfInBounds_toArray, List.set_cons_zero, List.set_cons_succ]
      refine Ru.wpAnyU_done (by kernel_rfl) ?_
      go_wp2_with fail
      go_meet
      exact ⟨_, rfl, rfl, rfl, nE, bE⟩
    refine Ru.AllReadyU.cons rfl (by kernel_rfl) (fun K hK => ?_) Ru.AllReadyU.nil
    go_simp
    try rw [zeroS]
    have n_10 : CRow (wq3.drew.alloc (.cells (svals (fun _ => 0) 0 0 (fun _ => 0)).toArray 32)) wq3.heap.size 32 (svals (fun _ => 0) 0 0 (fun _ => 0)) := crow_new wq3.drew 32 (svals (fun _ => 0) 0 0 (fun _ => 0))
    have a_10 := below_al (Below.refl _ wq3.drew) (.cells (svals (fun _ => 0) 0 0 (fun _ => 0)).toArray 32)
    have g_10 := (Vc.below_drew' wq3).size
    have e_10 : wq3.drew.heap.size = wq3.heap.size := rfl
    have D_10 := below_tr (Vc.below_drew' wq3) a_10
    refine hK.out _ _ (hS _ D_10) (fun hHeld => ?_)
    clear hK K
    try simp only [Act.put, List.getElem_toArray, List.getElem_cons_zero, List.getElem_cons_succ, List.setIfInBounds_toArray, List.set_cons_zero, List.set_cons_succ]
    refine Ru.wpAnyU_ready (rs := [2]) (by kernel_rfl) (by simp) ?_
    refine Ru.AllReadyU.cons rfl (by kernel_rfl) (fun K hK => ?_) Ru.AllReadyU.nil
    go_simp
    refine (H1.out _ (below_tr KQ.out D_10)).mono ?_
    rintro e v_11 ⟨rfl, k_11⟩
    have D_11 := below_tr D_10 k_11
    have n_11 := CRow.keep n_10 k_11
    go_wp2_with fail
    refine hK.out _ _ (hS _ D_11) (fun hHeld => ?_)
    clear hK K
    try simp only [Act.put, List.getElem_toArray, List.getElem_cons_zero, List.getElem_cons_succ, List.setIfInBounds_toArray, List.set_cons_zero, List.set_cons_succ]
    refine Ru.wpAnyU_ready (rs := [4]) (by kernel_rfl) (by simp) ?_
    refine Ru.AllReadyU.cons rfl (by kernel_rfl) (fun K hK => ?_) Ru.AllReadyU.nil
    go_simp
    refine (H2.out _ (below_tr KQ.out D_11)).mono ?_
    rintro e v_12 ⟨rfl, k_12⟩
    have D_12 := below_tr D_11 k_12
    have n_12 := CRow.keep n_11 k_12
    go_wp2_with fail
    refine hK.out _ _ (hS _ D_12) (fun hHeld => ?_)
    clear hK K
    try simp only [Act.put, List.getElem_toArray, List.getElem_cons_zero, List.getElem_cons_succ, List.setIfInBounds_toArray, List.set_cons_zero, List.set_cons_succ]
    refine Ru.wpAnyU_ready (rs := [5]) (by kernel_rfl) (by simp) ?_
    refine Ru.AllReadyU.cons rfl (by kernel_rfl) (fun K hK => ?_) Ru.AllReadyU.nil
    go_simp
    refine (HN.out _).mono ?_
    rintro e v_13 ⟨rfl, k_13⟩
    have D_13 := below_tr D_12 k_13
    have n_13 := CRow.keep n_12 k_13
    go_wp2_with fail
    refine hK.out _ _ (hS _ D_13) (fun hHeld => ?_)
    clear hK K
    try simp only [Act.put, List.getElem_toArray, List.getElem_cons_zero, List.getElem_cons_succ, List.setIfInBounds_toArray, List.set_cons_zero, List.set_cons_succ]
    refine Ru.wpAnyU_take (i := 6) (v := .tuple #[.agg (svals (fun _ => 0) 0 0 (fun _ => 0)).toArray, .bool false, .iface 54 (.int .i64 1)]) rfl (by kernel_rfl) (by kernel_rfl) (by kernel_rfl) (by kernel_rfl) (by kernel_rfl) (by kernel_rfl) (fun _ _ _ h => h) (Or.inl ⟨by kernel_rfl, fun w hS => by have sc0 := hS; go_simp⟩) hHeld ?_
    simp only [Act.put, List.getElem_toArray, List.getElem_cons_zero, List.getElem_cons_succ, List.setIfInBounds_toArray, List.set_cons_zero, List.set_cons_succ]
    refine Ru.wpAnyU_take (i := 7) (v := .agg (svals (fun _ => 0) 0 0 (fun _ => 0)).toArray) rfl (by kernel_rfl) (by kernel_rfl) (by kernel_rfl) (by kernel_rfl) (by kernel_rfl) (by kernel_rfl) (fun _ _ _ h => h) (Or.inl ⟨by kernel_rfl, fun w hS => by have sc0 := hS; go_simp⟩) hHeld ?_
    simp only [Act.put, List.getElem_toArray, List.getElem_cons_zero, List.getElem_cons_succ, List.setIfInBounds_toArray, List.set_cons_zero, List.set_cons_succ]
    refine Ru.wpAnyU_take (i := 8) (v := .bool false) rfl (by kernel_rfl) (by kernel_rfl) (by kernel_rfl) (by kernel_rfl) (by kernel_rfl) (by kernel_rfl) (fun _ _ _ h => h) (Or.inl ⟨by kernel_rfl, fun w hS => by have sc0 := hS; go_simp⟩) hHeld ?_
    simp only [Act.put, List.getElem_toArray, List.getElem_cons_zero, List.getElem_cons_succ, List.setIfInBounds_toArray, List.set_cons_zero, List.set_cons_succ]
    refine Ru.wpAnyU_take (i := 9) (v := .iface 54 (.int .i64 1)) rfl (by kernel_rfl) (by kernel_rfl) (by kernel_rfl) (by kernel_rfl) (by kernel_rfl) (by kernel_rfl) (fun _ _ _ h => h) (Or.inl ⟨by kernel_rfl, fun w hS => by have sc0 := hS; go_simp⟩) hHeld ?_
    simp only [Act.put, List.getElem_toArray, List.getElem_cons_zero, List.getElem_cons_succ, List.setIfInBounds_toArray, List.set_cons_zero, List.set_cons_succ]
    refine Ru.wpAnyU_ready (rs := [11]) (by kernel_rfl) (by simp) ?_
    refine Ru.AllReadyU.cons rfl (by kernel_rfl) (fun K hK => ?_) Ru.AllReadyU.nil
    refine Ru.stepC isS (by kernel_rfl) _ _ (by rfl) (wq3.heap.size) _ (svals (fun _ => 0) 0 0 (fun _ => 0)) (by rfl) (by rfl) n_13 (svals_len _ _ _ _) (svals_len _ _ _ _) (one_svals _ _ _ _) ?_
    have nE := CRow.row n_13 (svals (fun _ => 0) 0 0 (fun _ => 0))
    have xE := CRow.rowOther (hS _ D_13) (g := wq3.heap.size) (by omega) (svals (fun _ => 0) 0 0 (fun _ => 0)).toArray
    have bE := St.below_row D_13 (g := wq3.heap.size) (by omega) (svals (fun _ => 0) 0 0 (fun _ => 0)).toArray
    refine hK.out _ _ xE (fun hHeld => ?_)
    clear hK K
    try simp only [Act.put, List.getElem_toArray, List.getElem_cons_zero, List.getElem_cons_succ, List.setIfInBounds_toArray, List.set_cons_zero, List.set_cons_succ]
    refine Ru.wpAnyU_take (i := 12) (v := .bool false) rfl (by kernel_rfl) (by kernel_rfl) (by kernel_rfl) (by kernel_rfl) (by kernel_rfl) (by kernel_rfl) (fun _ _ _ h => h) (Or.inl ⟨by kernel_rfl, fun w hS => by have sc0 := hS; go_simp⟩) hHeld ?_
    simp only [Act.put, List.getElem_toArray, List.getElem_cons_zero, List.getElem_cons_succ, List.setIfInBounds_toArray, List.set_cons_zero, List.set_cons_succ]
    refine Ru.wpAnyU_take (i := 13) (v := .iface 54 (.int .i64 1)) rfl (by kernel_rfl) (by kernel_rfl) (by kernel_rfl) (by kernel_rfl) (by kernel_rfl) (by kernel_rfl) (fun _ _ _ h => h) (Or.inl ⟨by kernel_rfl, fun w hS => by have sc0 := hS; go_simp⟩) hHeld ?_
    simp only [Act.put, List.getElem_toArray, List.getElem_cons_zero, List.getElem_cons_succ, List.setIfInBounds_toArray, List.set_cons_zero, List.set_cons_succ]
    refine Ru.wpAnyU_done (by kernel_rfl) ?_
    go_wp2_with fail
    go_meet
    exact ⟨_, rfl, rfl, rfl, nE, bE⟩
  rename World => wc
  obtain ⟨gn, rfl, rfl, rfl, nc, kc⟩ := hcut
  have KC := below_tr KK3 kc
  have xc_ := CRow.keep x_3 kc
  have mc := CRow.keep m_3 kc
  clear KK3 x_3 m_3 kc H1 H2 HN HG HC
  go_wp2_with (first
    | ((with_reducible show wpList _ _ _ _ _ _); refine St.wpList_load isRs (by rfl) _ (by rfl) _ _ (by rfl) (by with_reducible exact mc) rfl ?_)
    | fail)
  refine (HM.out _ KC).mono ?_
  rintro e wq4 ⟨rfl, kq4⟩
  have KK4 := below_tr KC kq4
  have m_4 := CRow.keep mc kq4
  have x_4 := CRow.keep xc_ kq4
  have n_4 := CRow.keep nc kq4
  clear KC mc xc_ nc
  go_wp2_with (first
    | ((with_reducible show wpList _ _ _ _ _ _); refine St.wpList_load isS (by rfl) _ (by rfl) _ _ (by rfl) (by with_reducible exact x_4) (svals_len _ _ _ _) ?_)
    | fail)
  refine (HQ.out _).mono ?_
  rintro e wq5 ⟨rfl, kq5⟩
  have KK5 := below_tr KK4 kq5
  have m_5 := CRow.keep m_4 kq5
  have n_5 := CRow.keep n_4 kq5
  clear KK4 m_4 n_4
  go_wp2_with (first
    | fail)
  refine (H6.out _ KK5).mono ?_
  rintro e wq6 ⟨rfl, kq6⟩
  have KK6 := below_tr KK5 kq6
  have m_6 := CRow.keep m_5 kq6
  have n_6 := CRow.keep n_5 kq6
  clear KK5 m_5 n_5
  go_wp2_with (first
    | fail)
  refine (H7.out _ KK6).mono ?_
  rintro e wq7 ⟨rfl, kq7⟩
  have KK7 := below_tr KK6 kq7
  have m_7 := CRow.keep m_6 kq7
  have n_7 := CRow.keep n_6 kq7
  clear KK6 m_6 n_6
  go_wp2_with (first
    | fail)
  refine (num_err 1 _ (HE.out.below KK7)).mono ?_
  rintro e wq8 ⟨rfl, kq8⟩
  have KK8 := below_tr KK7 kq8
  have n_8 := CRow.keep n_7 kq8
  clear KK7 n_7
  go_wp2_with (first
    | ((with_reducible show wpList _ _ _ _ _ _); refine St.wpList_load isS (by rfl) _ (by rfl) _ _ (by rfl) (by with_reducible exact n_8) (svals_len _ _ _ _) ?_)
    | ((with_reducible show wpList _ _ _ _ _ _); refine Pd.buildS0 (by with_reducible rfl) (by kernel_rfl) ?_)
    | ((with_reducible show wpList _ _ _ _ _ _); refine Pd.eqlS _ _ _ (by with_reducible rfl) _ _ _ _ _ _ _ _ true (by rfl) (by rfl) (eqS_same _ _ _ _) (by kernel_rfl) ?_)
    | fail)
  refine (psure_any _).mono ?_
  rintro e wq9 ⟨rfl, kq9⟩
  have KK9 := below_tr KK8 kq9
  clear KK8
  go_wp2
  go_ret
  exact ⟨rfl, KK9⟩

set_option maxRecDepth 20000 in
set_option maxHeartbeats 8000000 in
theorem pn_good (xo po a1 a2 : Option Addr) (xc n pc l1 c1p l2 c2p : Nat) (X : Nat → Int) (r c : Int) (z : Nat → Int) (r1 c1 : Int) (z1 : Nat → Int) (r2 c2 : Int) (z2 : Nat → Int) (Y : Nat → Int) (zN : Nat → Int) (ob : Bool) (w : World) (hE : ErrTab w)
    (hG : ∀ W, Below w.heap.size w W → Calls Tryz.prog 5 #[.agg #[.slice xo 6 xc, .slice po n pc]] W fun e w' => e = .returned (.agg (svals X r c z).toArray) ∧ Below W.heap.size W w')
    (h1 : ∀ W, Below w.heap.size w W → Calls Tryz.prog 8 #[.slice a1 l1 c1p] W fun e w' => e = .returned (.agg (mvals r1 c1 z1).toArray) ∧ Below W.heap.size W w')
    (h2 : ∀ W, Below w.heap.size w W → Calls Tryz.prog 8 #[.slice a2 l2 c2p] W fun e w' => e = .returned (.agg (mvals r2 c2 z2).toArray) ∧ Below W.heap.size W w')
    (hC : ∀ W, Calls Tryz.prog 6 #[.agg (svals X r c z).toArray] W fun e w' => e = .returned (.nilIface) ∧ Below W.heap.size W w')
    (hN : ∀ W, Calls Tryz.prog 7 #[.agg (svals X r c z).toArray, .agg (mvals r1 c1 z1).toArray, .agg (mvals r2 c2 z2).toArray] W fun e w' => e = .returned (.tuple #[.agg (svals Y 6 6 zN).toArray, .bool ob, .nilIface]) ∧ Below W.heap.size W w')
    (hM : ∀ W, Below w.heap.size w W → Calls Tryz.prog 9 #[.agg #[.slice xo 6 xc, .slice po n pc]] W fun e w' => e = .returned (.bool true) ∧ Below W.heap.size W w')
    (h6 : ∀ W, Below w.heap.size w W → Calls Tryz.prog 12 #[.slice a1 l1 c1p] W fun e w' => e = .returned (.bool true) ∧ Below W.heap.size W w')
    (h7 : ∀ W, Below w.heap.size w W → Calls Tryz.prog 12 #[.slice a2 l2 c2p] W fun e w' => e = .returned (.bool true) ∧ Below W.heap.size W w')
    (hD : ∀ W, Below w.heap.size w W → Calls Tryz.prog 13 #[.agg #[.slice xo 6 xc, .slice po n pc], .slice a1 l1 c1p, .slice a2 l2 c2p] W fun e w' => ∃ yo yc ro rc, e = .returned (.tuple #[.agg #[.slice yo 6 yc, .slice ro 6 rc], .bool ob]) ∧ Hid (∀ V, Below w'.heap.size w' V → Calls Tryz.prog 14 #[.agg (svals Y 6 6 zN).toArray, .agg #[.slice yo 6 yc, .slice ro 6 rc]] V fun e w2 => e = .returned (.bool true) ∧ Below V.heap.size V w2) ∧ Below W.heap.size W w')
    : Calls Tryz.prog 3 #[.agg #[.slice xo 6 xc, .slice po n pc], .slice a1 l1 c1p, .slice a2 l2 c2p] w fun e w' => e = .returned (.bool true) ∧ Below w.heap.size w w' := by
  have HE := hide hE
  have HG := hide hG
  have H1 := hide h1
  have H2 := hide h2
  have HC := hide hC
  have HN := hide hN
  have HM := hide hM
  have H6 := hide h6
  have H7 := hide h7
  have HD := hide hD
  have HQ := hide (fun W => psame_any X r c z X r c z W)
  rw [eqS_same] at HQ
  have m0 := crow_new w 25 [.slice xo 6 xc, .slice po n pc]
  have KK0 := below_al (Below.refl _ w) (.cells [.slice xo 6 xc, .slice po n pc].toArray 25)
  clear hE hG h1 h2 hC hN hM h6 h7 hD
  go_enter Tryz.func3, Tryz.ntmps3
  go_wp2_with (first
    | ((with_reducible show wpList _ _ _ _ _ _); refine St.wpList_load isRs (by rfl) _ (by rfl) _ _ (by rfl) (by with_reducible exact m0) rfl ?_)
    | fail)
  refine (HG.out _ KK0).mono ?_
  rintro e wq1 ⟨rfl, kq1⟩
  have KK1 := below_tr KK0 kq1
  have m_1 := CRow.keep m0 kq1
  clear KK0 m0
  go_wp2_with (first
    | ((with_reducible show wpList _ _ _ _ _ _); rw [zeroS]; refine St.wpList_storeNew isS rfl _ _ (by rfl) _ _ _ (by rfl) (by rfl) (svals_len _ _ _ _) (svals_len _ _ _ _) (one_svals _ _ _ _) ?_; intro ws2 ns2 ks2; have KK2 := below_tr KK1 ks2; have m_2 := CRow.keep m_1 ks2; clear KK1 m_1)
    | ((with_reducible show wpList _ _ _ _ _ _); refine St.wpList_load isS (by rfl) _ (by rfl) _ _ (by rfl) (by with_reducible exact ns2) (svals_len _ _ _ _) ?_)
    | fail)
  refine (HC.out _).mono ?_
  rintro e wq3 ⟨rfl, kq3⟩
  have KK3 := below_tr KK2 kq3
  have m_3 := CRow.keep m_2 kq3
  have x_3 := CRow.keep ns2 kq3
  clear KK2 m_2 ns2
  go_upto_region 5 with fail
  go_cut [9, 10, 11] (fun p o f wx => ∃ g : Nat, p = .pointer (some ⟨g, 0, none⟩) ∧ o = .bool ob ∧ f = .nilIface ∧ CRow wx g 32 (svals Y 6 6 zN) ∧ Below wq3.heap.size wq3 wx)
  case first =>
    have hS : ∀ W, Below wq3.heap.size wq3 W → SRow W wq1.heap.size X r c z := fun W q => CRow.keep x_3 q
    have KQ := hide KK3
    have lx := CRow.lt x_3
    clear x_3 m_3 KK3
    refine Ru.wp_region_U [] (fun w' => SRow w' wq1.heap.size X r c z) (by kernel_rfl) (hS _ (Vc.below_drew' _)) (fun hHeld => ?_)
    refine Ru.wpAnyU_take (i := 0) (v := .agg (svals X r c z).toArray) rfl (by kernel_rfl) (by kernel_rfl) (by kernel_rfl) (by kernel_rfl) (by kernel_rfl) (by kernel_rfl) (fun _ _ _ h => h) (Ru.yieldsC isS (by kernel_rfl) _ (by rfl) wq1.heap.size _ (by rfl) (fun w h => h) (svals_len _ _ _ _)) hHeld ?_
    simp only [Act.put, List.getElem_toArray, List.getElem_cons_zero, List.getElem_cons_succ, List.setIfInBounds_toArray, List.set_cons_zero, List.set_cons_succ]
    refine Ru.wpAnyU_take (i := 1) (v := .slice a1 l1 c1p) rfl (by kernel_rfl) (by kernel_rfl) (by kernel_rfl) (by kernel_rfl) (by kernel_rfl) (by kernel_rfl) (fun _ _ _ h => h) (Or.inl ⟨by kernel_rfl, fun w hS => by have sc0 := hS; go_simp⟩) hHeld ?_
    simp only [Act.put, List.getElem_toArray, List.getElem_cons_zero, List.getElem_cons_succ, List.setIfInBounds_toArray, List.set_cons_zero, List.set_cons_succ]
    refine Ru.wpAnyU_take (i := 3) (v := .slice a2 l2 c2p) rfl (by kernel_rfl) (by kernel_rfl) (by kernel_rfl) (by kernel_rfl) (by kernel_rfl) (by kernel_rfl) (fun _ _ _ h => h) (Or.inl ⟨by kernel_rfl, fun w hS => by have sc0 := hS; go_simp⟩) hHeld ?_
    simp only [Act.put, List.getElem_toArray, List.getElem_cons_zero, List.getElem_cons_succ, List.setIfInBounds_toArray, List.set_cons_zero, List.set_cons_succ]
    refine Ru.wpAnyU_ready (rs := [2, 10]) (by kernel_rfl) (by simp) ?_
    refine Ru.AllReadyU.cons rfl (by kernel_rfl) (fun K hK => ?_) ?_
    · go_simp
      refine (H1.out _ (below_tr KQ.out (Vc.below_drew' wq3))).mono ?_
      rintro e v_1 ⟨rfl, k_1⟩
      have D_1 := below_tr (Vc.below_drew' wq3) k_1
      go_wp2_with fail
      refine hK.out _ _ (hS _ D_1) (fun hHeld => ?_)
      clear hK K
      try simp only [Act.put, List.getElem_toArray, List.getElem_cons_zero, List.getElem_cons_succ, List.setIfInBounds_toArray, List.set_cons_zero, List.set_cons_succ]
      refine Ru.wpAnyU_ready (rs := [4, 10]) (by kernel_rfl) (by simp) ?_
      refine Ru.AllReadyU.cons rfl (by kernel_rfl) (fun K hK => ?_) ?_
      · go_simp
        refine (H2.out _ (below_tr KQ.out D_1)).mono ?_
        rintro e v_2 ⟨rfl, k_2⟩
        have D_2 := below_tr D_1 k_2
        go_wp2_with fail
        refine hK.out _ _ (hS _ D_2) (fun hHeld => ?_)
        clear hK K
        try simp only [Act.put, List.getElem_toArray, List.getElem_cons_zero, List.getElem_cons_succ, List.setIfInBounds_toArray, List.set_cons_zero, List.set_cons_succ]
        refine Ru.wpAnyU_ready (rs := [5, 10]) (by kernel_rfl) (by simp) ?_
        refine Ru.AllReadyU.cons rfl (by kernel_rfl) (fun K hK => ?_) ?_
        · go_simp
          refine (HN.out _).mono ?_
          rintro e v_3 ⟨rfl, k_3⟩
          have D_3 := below_tr D_2 k_3
          go_wp2_with fail
          refine hK.out _ _ (hS _ D_3) (fun hHeld => ?_)
          clear hK K
          try simp only [Act.put, List.getElem_toArray, List.getElem_cons_zero, List.getElem_cons_succ, List.setIfInBounds_toArray, List.set_cons_zero, List.set_cons_succ]
          refine Ru.wpAnyU_take (i := 6) (v := .tuple #[.agg (svals Y 6 6 zN).toArray, .bool ob, .nilIface]) rfl (by kernel_rfl) (by kernel_rfl) (by kernel_rfl) (by kernel_rfl) (by kernel_rfl) (by kernel_rfl) (fun _ _ _ h => h) (Or.inl ⟨by kernel_rfl, fun w hS => by have sc0 := hS; go_simp⟩) hHeld ?_
          simp only [Act.put, List.getElem_toArray, List.getElem_cons_zero, List.getElem_cons_succ, List.setIfInBounds_toArray, List.set_cons_zero, List.set_cons_succ]
          refine Ru.wpAnyU_take (i := 7) (v := .agg (svals Y 6 6 zN).toArray) rfl (by kernel_rfl) (by kernel_rfl) (by kernel_rfl) (by kernel_rfl) (by kernel_rfl) (by kernel_rfl) (fun _ _ _ h => h) (Or.inl ⟨by kernel_rfl, fun w hS => by have sc0 := hS; go_simp⟩) hHeld ?_
          simp only [Act.put, List.getElem_toArray, List.getElem_cons_zero, List.getElem_cons_succ, List.setIfInBounds_toArray, List.set_cons_zero, List.set_cons_succ]
          refine Ru.wpAnyU_take (i := 8) (v := .bool ob) rfl (by kernel_rfl) (by kernel_rfl) (by kernel_rfl) (by kernel_rfl) (by kernel_rfl) (by kernel_rfl) (fun _ _ _ h => h) (Or.inl ⟨by kernel_rfl, fun w hS => by have sc0 := hS; go_simp⟩) hHeld ?_
          simp only [Act.put, List.getElem_toArray, List.getElem_cons_zero, List.getElem_cons_succ, List.setIfInBounds_toArray, List.set_cons_zero, List.set_cons_succ]
          refine Ru.wpAnyU_take (i := 9) (v := .nilIface) rfl (by kernel_rfl) (by kernel_rfl) (by kernel_rfl) (by kernel_rfl) (by kernel_rfl) (by kernel_rfl) (fun _ _ _ h => h) (Or.inl ⟨by kernel_rfl, fun w hS => by have sc0 := hS; go_simp⟩) hHeld ?_
          simp only [Act.put, List.getElem_toArray, List.getElem_cons_zero, List.getElem_cons_succ, List.setIfInBounds_toArray, List.set_cons_zero, List.set_cons_succ]
          refine Ru.wpAnyU_ready (rs := [10]) (by kernel_rfl) (by simp) ?_
          refine Ru.AllReadyU.cons rfl (by kernel_rfl) (fun K hK => ?_) Ru.AllReadyU.nil
          go_simp
          try rw [zeroS]
          have n_4 : CRow (v_3.alloc (.cells (svals (fun _ => 0) 0 0 (fun _ => 0)).toArray 32)) v_3.heap.size 32 (svals (fun _ => 0) 0 0 (fun _ => 0)) := crow_new v_3 32 (svals (fun _ => 0) 0 0 (fun _ => 0))
          have a_4 := below_al (Below.refl _ v_3) (.cells (svals (fun _ => 0) 0 0 (fun _ => 0)).toArray 32)
          have g_4 := D_3.size
          have D_4 := below_tr D_3 a_4
          refine hK.out _ _ (hS _ D_4) (fun hHeld => ?_)
          clear hK K
          try simp only [Act.put, List.getElem_toArray, List.getElem_cons_zero, List.getElem_cons_succ, List.setIfInBounds_toArray, List.set_cons_zero, List.set_cons_succ]
          refine Ru.wpAnyU_ready (rs := [11]) (by kernel_rfl) (by simp) ?_
          refine Ru.AllReadyU.cons rfl (by kernel_rfl) (fun K hK => ?_) Ru.AllReadyU.nil
          refine Ru.stepC isS (by kernel_rfl) _ _ (by rfl) (v_3.heap.size) _ (svals Y 6 6 zN) (by rfl) (by rfl) n_4 (svals_len _ _ _ _) (svals_len _ _ _ _) (one_svals _ _ _ _) ?_
          have nE := CRow.row n_4 (svals Y 6 6 zN)
          have xE := CRow.rowOther (hS _ D_4) (g := v_3.heap.size) (by omega) (svals Y 6 6 zN).toArray
          have bE := St.below_row D_4 (g := v_3.heap.size) (by omega) (svals Y 6 6 zN).toArray
          refine hK.out _ _ xE (fun hHeld => ?_)
          clear hK K
          try simp only [Act.put, List.getElem_toArray, List.getElem_cons_zero, List.getElem_cons_succ, List.setIfInBounds_toArray, List.set_cons_zero, List.set_cons_succ]
          refine Ru.wpAnyU_take (i := 12) (v := .bool ob) rfl (by kernel_rfl) (by kernel_rfl) (by kernel_rfl) (by kernel_rfl) (by kernel_rfl) (by kernel_rfl) (fun _ _ _ h => h) (Or.inl ⟨by kernel_rfl, fun w hS => by have sc0 := hS; go_simp⟩) hHeld ?_
          simp only [Act.put, List.getElem_toArray, List.getElem_cons_zero, List.getElem_cons_succ, List.setIfInBounds_toArray, List.set_cons_zero, List.set_cons_succ]
          refine Ru.wpAnyU_take (i := 13) (v := .nilIface) rfl (by kernel_rfl) (by kernel_rfl) (by kernel_rfl) (by kernel_rfl) (by kernel_rfl) (by kernel_rfl) (fun _ _ _ h => h) (Or.inl ⟨by kernel_rfl, fun w hS => by have sc0 := hS; go_simp⟩) hHeld ?_
          simp only [Act.put, List.getElem_toArray, List.getElem_cons_zero, List.getElem_cons_succ, List.setIfInBounds_toArray, List.set_cons_zero, List.set_cons_succ]
          refine Ru.wpAnyU_done (by kernel_rfl) ?_
          go_wp2_with fail
          go_meet
          exact ⟨_, rfl, rfl, rfl, nE, bE⟩
        refine Ru.AllReadyU.cons rfl (by kernel_rfl) (fun K hK => ?_) Ru.AllReadyU.nil
        go_simp
        try rw [zeroS]
        have n_5 : CRow (v_2.alloc (.cells (svals (fun _ => 0) 0 0 (fun _ => 0)).toArray 32)) v_2.heap.size 32 (svals (fun _ => 0) 0 0 (fun _ => 0)) := crow_new v_2 32 (svals (fun _ => 0) 0 0 (fun _ => 0))
        have a_5 := below_al (Below.refl _ v_2) (.cells (svals (fun _ => 0) 0 0 (fun _ => 0)).toArray 32)
        have g_5 := D_2.size
        have D_5 := below_tr D_2 a_5
        refine hK.out _ _ (hS _ D_5) (fun hHeld => ?_)
        clear hK K
        try simp only [Act.put, List.getElem_toArray, List.getElem_cons_zero, List.getElem_cons_succ, List.setIfInBounds_toArray, List.set_cons_zero, List.set_cons_succ]
        refine Ru.wpAnyU_ready (rs := [5]) (by kernel_rfl) (by simp) ?_
        refine Ru.AllReadyU.cons rfl (by kernel_rfl) (fun K hK => ?_) Ru.AllReadyU.nil
        go_simp
        refine (HN.out _).mono ?_
        rintro e v_6 ⟨rfl, k_6⟩
        have D_6 := below_tr D_5 k_6
        have n_6 := CRow.keep n_5 k_6
        go_wp2_with fail
        refine hK.out _ _ (hS _ D_6) (fun hHeld => ?_)
        clear hK K
        try simp only [Act.put, List.getElem_toArray, List.getElem_cons_zero, List.getElem_cons_succ, List.setIfInBounds_toArray, List.set_cons_zero, List.set_cons_succ]
        refine Ru.wpAnyU_take (i := 6) (v := .tuple #[.agg (svals Y 6 6 zN).toArray, .bool ob, .nilIface]) rfl (by kernel_rfl) (by kernel_rfl) (by kernel_rfl) (by kernel_rfl) (by kernel_rfl) (by kernel_rfl) (fun _ _ _ h => h) (Or.inl ⟨by kernel_rfl, fun w hS => by have sc0 := hS; go_simp⟩) hHeld ?_
        simp only [Act.put, List.getElem_toArray, List.getElem_cons_zero, List.getElem_cons_succ, List.setIfInBounds_toArray, List.set_cons_zero, List.set_cons_succ]
        refine Ru.wpAnyU_take (i := 7) (v := .agg (svals Y 6 6 zN).toArray) rfl (by kernel_rfl) (by kernel_rfl) (by kernel_rfl) (by kernel_rfl) (by kernel_rfl) (by kernel_rfl) (fun _ _ _ h => h) (Or.inl ⟨by kernel_rfl, fun w hS => by have sc0 := hS; go_simp⟩) hHeld ?_
        simp only [Act.put, List.getElem_toArray, List.getElem_cons_zero, List.getElem_cons_succ, List.setIfInBounds_toArray, List.set_cons_zero, List.set_cons_succ]
        refine Ru.wpAnyU_take (i := 8) (v := .bool ob) rfl (by kernel_rfl) (by kernel_rfl) (by kernel_rfl) (by kernel_rfl) (by kernel_rfl) (by kernel_rfl) (fun _ _ _ h => h) (Or.inl ⟨by kernel_rfl, fun w hS => by have sc0 := hS; go_simp⟩) hHeld ?_
        simp only [Act.put, List.getElem_toArray, List.getElem_cons_zero, List.getElem_cons_succ, List.setIfInBounds_toArray, List.set_cons_zero, List.set_cons_succ]
        refine Ru.wpAnyU_take (i := 9) (v := .nilIface) rfl (by kernel_rfl) (by kernel_rfl) (by kernel_rfl) (by kernel_rfl) (by kernel_rfl) (by kernel_rfl) (fun _ _ _ h => h) (Or.inl ⟨by kernel_rfl, fun w hS => by have sc0 := hS; go_simp⟩) hHeld ?_
        simp only [Act.put, List.getElem_toArray, List.getElem_cons_zero, List.getElem_cons_succ, List.setIfInBounds_toArray, List.set_cons_zero, List.set_cons_succ]
        refine Ru.wpAnyU_ready (rs := [11]) (by kernel_rfl) (by simp) ?_
        refine Ru.AllReadyU.cons rfl (by kernel_rfl) (fun K hK => ?_) Ru.AllReadyU.nil
        refine Ru.stepC isS (by kernel_rfl) _ _ (by rfl) (v_2.heap.size) _ (svals Y 6 6 zN) (by rfl) (by rfl) n_6 (svals_len _ _ _ _) (svals_len _ _ _ _) (one_svals _ _ _ _) ?_
        have nE := CRow.row n_6 (svals Y 6 6 zN)
        have xE := CRow.rowOther (hS _ D_6) (g := v_2.heap.size) (by omega) (svals Y 6 6 zN).toArray
        have bE := St.below_row D_6 (g := v_2.heap.size) (by omega) (svals Y 6 6 zN).toArray
        refine hK.out _ _ xE (fun hHeld => ?_)
        clear hK K
        try simp only [Act.put, List.getElem_toArray, List.getElem_cons_zero, List.getElem_cons_succ, List.setIfInBounds_toArray, List.set_cons_zero, List.set_cons_succ]
        refine Ru.wpAnyU_take (i := 12) (v := .bool ob) rfl (by kernel_rfl) (by kernel_rfl) (by kernel_rfl) (by kernel_rfl) (by kernel_rfl) (by kernel_rfl) (fun _ _ _ h => h) (Or.inl ⟨by kernel_rfl, fun w hS => by have sc0 := hS; go_simp⟩) hHeld ?_
        simp only [Act.put, List.getElem_toArray, List.getElem_cons_zero, List.getElem_cons_succ, List.setIfInBounds_toArray, List.set_cons_zero, List.set_cons_succ]
        refine Ru.wpAnyU_take (i := 13) (v := .nilIface) rfl (by kernel_rfl) (by kernel_rfl) (by kernel_rfl) (by kernel_rfl) (by kernel_rfl) (by kernel_rfl) (fun _ _ _ h => h) (Or.inl ⟨by kernel_rfl, fun w hS => by have sc0 := hS; go_simp⟩) hHeld ?_
        simp only [Act.put, List.getElem_toArray, List.getElem_cons_zero, List.getElem_cons_succ, List.setIfInBounds_toArray, List.set_cons_zero, List.set_cons_succ]
        refine Ru.wpAnyU_done (by kernel_rfl) ?_
        go_wp2_with fail
        go_meet
        exact ⟨_, rfl, rfl, rfl, nE, bE⟩
      refine Ru.AllReadyU.cons rfl (by kernel_rfl) (fun K hK => ?_) Ru.AllReadyU.nil
      go_simp
      try rw [zeroS]
      have n_7 : CRow (v_1.alloc (.cells (svals (fun _ => 0) 0 0 (fun _ => 0)).toArray 32)) v_1.heap.size 32 (svals (fun _ => 0) 0 0 (fun _ => 0)) := crow_new v_1 32 (svals (fun _ => 0) 0 0 (fun _ => 0))
      have a_7 := below_al (Below.refl _ v_1) (.cells (svals (fun _ => 0) 0 0 (fun _ => 0)).toArray 32)
      have g_7 := D_1.size
      have D_7 := below_tr D_1 a_7
      refine hK.out _ _ (hS _ D_7) (fun hHeld => ?_)
      clear hK K
      try simp only [Act.put, List.getElem_toArray, List.getElem_cons_zero, List.getElem_cons_succ, List.setIfInBounds_toArray, List.set_cons_zero, List.set_cons_succ]
      refine Ru.wpAnyU_ready (rs := [4]) (by kernel_rfl) (by simp) ?_
      refine Ru.AllReadyU.cons rfl (by kernel_rfl) (fun K hK => ?_) Ru.AllReadyU.nil
      go_simp
      refine (H2.out _ (below_tr KQ.out D_7)).mono ?_
      rintro e v_8 ⟨rfl, k_8⟩
      have D_8 := below_tr D_7 k_8
      have n_8 := CRow.keep n_7 k_8
      go_wp2_with fail
      refine hK.out _ _ (hS _ D_8) (fun hHeld => ?_)
      clear hK K
      try simp only [Act.put, List.getElem_toArray, List.getElem_cons_zero, List.getElem_cons_succ, List.setIfInBounds_toArray, List.set_cons_zero, List.set_cons_succ]
      refine Ru.wpAnyU_ready (rs := [5]) (by kernel_rfl) (by simp) ?_
      refine Ru.AllReadyU.cons rfl (by kernel_rfl) (fun K hK => ?_) Ru.AllReadyU.nil
      go_simp
      refine (HN.out _).mono ?_
      rintro e v_9 ⟨rfl, k_9⟩
      have D_9 := below_tr D_8 k_9
      have n_9 := CRow.keep n_8 k_9
      go_wp2_with fail
      refine hK.out _ _ (hS _ D_9) (fun hHeld => ?_)
      clear hK K
      try simp only [Act.put, List.getElem_toArray, List.getElem_cons_zero, List.getElem_cons_succ, List.setIfInBounds_toArray, List.set_cons_zero, List.set_cons_succ]
      refine Ru.wpAnyU_take (i := 6) (v := .tuple #[.agg (svals Y 6 6 zN).toArray, .bool ob, .nilIface]) rfl (by kernel_rfl) (by kernel_rfl) (by kernel_rfl) (by kernel_rfl) (by kernel_rfl) (by kernel_rfl) (fun _ _ _ h => h) (Or.inl ⟨by kernel_rfl, fun w hS => by have sc0 := hS; go_simp⟩) hHeld ?_
      simp only [Act.put, List.getElem_toArray, List.getElem_cons_zero, List.getElem_cons_succ, List.setIfInBounds_toArray, List.set_cons_zero, List.set_cons_succ]
      refine Ru.wpAnyU_take (i := 7) (v := .agg (svals Y 6 6 zN).toArray) rfl (by kernel_rfl) (by kernel_rfl) (by kernel_rfl) (by kernel_rfl) (by kernel_rfl) (by kernel_rfl) (fun _ _ _ h => h) (Or.inl ⟨by kernel_rfl, fun w hS => by have sc0 := hS; go_simp⟩) hHeld ?_
      simp only [Act.put, List.getElem_toArray, List.getElem_cons_zero, List.getElem_cons_succ, List.setIfInBounds_toArray, List.set_cons_zero, List.set_cons_succ]
      refine Ru.wpAnyU_take (i := 8) (v := .bool ob) rfl (by kernel_rfl) (by kernel_rfl) (by kernel_rfl) (by kernel_rfl) (by kernel_rfl) (by kernel_rfl) (fun _ _ _ h => h) (Or.inl ⟨by kernel_rfl, fun w hS => by have sc0 := hS; go_simp⟩) hHeld ?_
      simp only [Act.put, List.getElem_toArray, List.getElem_cons_zero, List.getElem_cons_succ, List.setIfInBounds_toArray, List.set_cons_zero, List.set_cons_succ]
      refine Ru.wpAnyU_take (i := 9) (v := .nilIface) rfl (by kernel_rfl) (by kernel_rfl) (by kernel_rfl) (by kernel_rfl) (by kernel_rfl) (by kernel_rfl) (fun _ _ _ h => h) (Or.inl ⟨by kernel_rfl, fun w hS => by have sc0 := hS; go_simp⟩) hHeld ?_
      simp only [Act.put, List.getElem_toArray, List.getElem_cons_zero, List.getElem_cons_succ, List.setIfInBounds_toArray, List.set_cons_zero, List.set_cons_succ]
      refine Ru.wpAnyU_ready (rs := [11]) (by kernel_rfl) (by simp) ?_
      refine Ru.AllReadyU.cons rfl (by kernel_rfl) (fun K hK => ?_) Ru.AllReadyU.nil
      refine Ru.stepC isS (by kernel_rfl) _ _ (by rfl) (v_1.heap.size) _ (svals Y 6 6 zN) (by rfl) (by rfl) n_9 (svals_len _ _ _ _) (svals_len _ _ _ _) (one_svals _ _ _ _) ?_
      have nE := CRow.row n_9 (svals Y 6 6 zN)
      have xE := CRow.rowOther (hS _ D_9) (g := v_1.heap.size) (by omega) (svals Y 6 6 zN).toArray
      have bE := St.below_row D_9 (g := v_1.heap.size) (by omega) (svals Y 6 6 zN).toArray
      refine hK.out _ _ xE (fun hHeld => ?_)
      clear hK K
      try simp only [Act.put, List.getElem_toArray, List.getElem_cons_zero, List.getElem_cons_succ, List.setIfInBounds_toArray, List.set_cons_zero, List.set_cons_succ]
      refine Ru.wpAnyU_take (i := 12) (v := .bool ob) rfl (by kernel_rfl) (by kernel_rfl) (by kernel_rfl) (by kernel_rfl) (by kernel_rfl) (by kernel_rfl) (fun _ _ _ h => h) (Or.inl ⟨by kernel_rfl, fun w hS => by have sc0 := hS; go_simp⟩) hHeld ?_
      simp only [Act.put, List.getElem_toArray, List.getElem_cons_zero, List.getElem_cons_succ, List.setIfInBounds_toArray, List.set_cons_zero, List.set_cons_succ]
      refine Ru.wpAnyU_take (i := 13) (v := .nilIface) rfl (by kernel_rfl) (by kernel_rfl) (by kernel_rfl) (by kernel_rfl) (by kernel_rfl) (by kernel_rfl) (fun _ _ _ h => h) (Or.inl ⟨by kernel_rfl, fun w hS => by have sc0 := hS; go_simp⟩) hHeld ?_
      simp only [Act.put, List.getElem_toArray, List.getElem_cons_zero, List.getElem_cons_succ, List.setIfInBounds_toArray, List.set_cons_zero, List.set_cons_succ]
      refine Ru.wpAnyU_done (by kernel_rfl) ?_
      go_wp2_with fail
      go_meet
      exact ⟨_, rfl, rfl, rfl, nE, bE⟩
    refine Ru.AllReadyU.cons rfl (by kernel_rfl) (fun K hK => ?_) Ru.AllReadyU.nil
    go_simp
    try rw [zeroS]
    have n_10 : CRow (wq3.drew.alloc (.cells (svals (fun _ => 0) 0 0 (fun _ => 0)).toArray 32)) wq3.heap.size 32 (svals (fun _ => 0) 0 0 (fun _ => 0)) := crow_new wq3.drew 32 (svals (fun _ => 0) 0 0 (fun _ => 0))
    have a_10 := below_al (Below.refl _ wq3.drew) (.cells (svals (fun _ => 0) 0 0 (fun _ => 0)).toArray 32)
    have g_10 := (Vc.below_drew' wq3).size
    have e_10 : wq3.drew.heap.size = wq3.heap.size := rfl
    have D_10 := below_tr (Vc.below_drew' wq3) a_10
    refine hK.out _ _ (hS _ D_10) (fun hHeld => ?_)
    clear hK K
    try simp only [Act.put, List.getElem_toArray, List.getElem_cons_zero, List.getElem_cons_succ, List.setIfInBounds_toArray, List.set_cons_zero, List.set_cons_succ]
    refine Ru.wpAnyU_ready (rs := [2]) (by kernel_rfl) (by simp) ?_
    refine Ru.AllReadyU.cons rfl (by kernel_rfl) (fun K hK => ?_) Ru.AllReadyU.nil
    go_simp
    refine (H1.out _ (below_tr KQ.out D_10)).mono ?_
    rintro e v_11 ⟨rfl, k_11⟩
    have D_11 := below_tr D_10 k_11
    have n_11 := CRow.keep n_10 k_11
    go_wp2_with fail
    refine hK.out _ _ (hS _ D_11) (fun hHeld => ?_)
    clear hK K
    try simp only [Act.put, List.getElem_toArray, List.getElem_cons_zero, List.getElem_cons_succ, List.setIfInBounds_toArray, List.set_cons_zero, List.set_cons_succ]
    refine Ru.wpAnyU_ready (rs := [4]) (by kernel_rfl) (by simp) ?_
    refine Ru.AllReadyU.cons rfl (by kernel_rfl) (fun K hK => ?_) Ru.AllReadyU.nil
    go_simp
    refine (H2.out _ (below_tr KQ.out D_11)).mono ?_
    rintro e v_12 ⟨rfl, k_12⟩
    have D_12 := below_tr D_11 k_12
    have n_12 := CRow.keep n_11 k_12
    go_wp2_with fail
    refine hK.out _ _ (hS _ D_12) (fun hHeld => ?_)
    clear hK K
    try simp only [Act.put, List.getElem_toArray, List.getElem_cons_zero, List.getElem_cons_succ, List.setIfInBounds_toArray, List.set_cons_zero, List.set_cons_succ]
    refine Ru.wpAnyU_ready (rs := [5]) (by kernel_rfl) (by simp) ?_
    refine Ru.AllReadyU.cons rfl (by kernel_rfl) (fun K hK => ?_) Ru.AllReadyU.nil
    go_simp
    refine (HN.out _).mono ?_
    rintro e v_13 ⟨rfl, k_13⟩
    have D_13 := below_tr D_12 k_13
    have n_13 := CRow.keep n_12 k_13
    go_wp2_with fail
    refine hK.out _ _ (hS _ D_13) (fun hHeld => ?_)
    clear hK K
    try simp only [Act.put, List.getElem_toArray, List.getElem_cons_zero, List.getElem_cons_succ, List.setIfInBounds_toArray, List.set_cons_zero, List.set_cons_succ]
    refine Ru.wpAnyU_take (i := 6) (v := .tuple #[.agg (svals Y 6 6 zN).toArray, .bool ob, .nilIface]) rfl (by kernel_rfl) (by kernel_rfl) (by kernel_rfl) (by kernel_rfl) (by kernel_rfl) (by kernel_rfl) (fun _ _ _ h => h) (Or.inl ⟨by kernel_rfl, fun w hS => by have sc0 := hS; go_simp⟩) hHeld ?_
    simp only [Act.put, List.getElem_toArray, List.getElem_cons_zero, List.getElem_cons_succ, List.setIfInBounds_toArray, List.set_cons_zero, List.set_cons_succ]
    refine Ru.wpAnyU_take (i := 7) (v := .agg (svals Y 6 6 zN).toArray) rfl (by kernel_rfl) (by kernel_rfl) (by kernel_rfl) (by kernel_rfl) (by kernel_rfl) (by kernel_rfl) (fun _ _ _ h => h) (Or.inl ⟨by kernel_rfl, fun w hS => by have sc0 := hS; go_simp⟩) hHeld ?_
    simp only [Act.put, List.getElem_toArray, List.getElem_cons_zero, List.getElem_cons_succ, List.setIfInBounds_toArray, List.set_cons_zero, List.set_cons_succ]
    refine Ru.wpAnyU_take (i := 8) (v := .bool ob) rfl (by kernel_rfl) (by kernel_rfl) (by kernel_rfl) (by kernel_rfl) (by kernel_rfl) (by kernel_rfl) (fun _ _ _ h => h) (Or.inl ⟨by kernel_rfl, fun w hS => by have sc0 := hS; go_simp⟩) hHeld ?_
    simp only [Act.put, List.getElem_toArray, List.getElem_cons_zero, List.getElem_cons_succ, List.setIfInBounds_toArray, List.set_cons_zero, List.set_cons_succ]
    refine Ru.wpAnyU_take (i := 9) (v := .nilIface) rfl (by kernel_rfl) (by kernel_rfl) (by kernel_rfl) (by kernel_rfl) (by kernel_rfl) (by kernel_rfl) (fun _ _ _ h => h) (Or.inl ⟨by kernel_rfl, fun w hS => by have sc0 := hS; go_simp⟩) hHeld ?_
    simp only [Act.put, List.getElem_toArray, List.getElem_cons_zero, List.getElem_cons_succ, List.setIfInBounds_toArray, List.set_cons_zero, List.set_cons_succ]
    refine Ru.wpAnyU_ready (rs := [11]) (by kernel_rfl) (by simp) ?_
    refine Ru.AllReadyU.cons rfl (by kernel_rfl) (fun K hK => ?_) Ru.AllReadyU.nil
    refine Ru.stepC isS (by kernel_rfl) _ _ (by rfl) (wq3.heap.size) _ (svals Y 6 6 zN) (by rfl) (by rfl) n_13 (svals_len _ _ _ _) (svals_len _ _ _ _) (one_svals _ _ _ _) ?_
    have nE := CRow.row n_13 (svals Y 6 6 zN)
    have xE := CRow.rowOther (hS _ D_13) (g := wq3.heap.size) (by omega) (svals Y 6 6 zN).toArray
    have bE := St.below_row D_13 (g := wq3.heap.size) (by omega) (svals Y 6 6 zN).toArray
    refine hK.out _ _ xE (fun hHeld => ?_)
    clear hK K
    try simp only [Act.put, List.getElem_toArray, List.getElem_cons_zero, List.getElem_cons_succ, List.setIfInBounds_toArray, List.set_cons_zero, List.set_cons_succ]
    refine Ru.wpAnyU_take (i := 12) (v := .bool ob) rfl (by kernel_rfl) (by kernel_rfl) (by kernel_rfl) (by kernel_rfl) (by kernel_rfl) (by kernel_rfl) (fun _ _ _ h => h) (Or.inl ⟨by kernel_rfl, fun w hS => by have sc0 := hS; go_simp⟩) hHeld ?_
    simp only [Act.put, List.getElem_toArray, List.getElem_cons_zero, List.getElem_cons_succ, List.setIfInBounds_toArray, List.set_cons_zero, List.set_cons_succ]
    refine Ru.wpAnyU_take (i := 13) (v := .nilIface) rfl (by kernel_rfl) (by kernel_rfl) (by kernel_rfl) (by kernel_rfl) (by kernel_rfl) (by kernel_rfl) (fun _ _ _ h => h) (Or.inl ⟨by kernel_rfl, fun w hS => by have sc0 := hS; go_simp⟩) hHeld ?_
    simp only [Act.put, List.getElem_toArray, List.getElem_cons_zero, List.getElem_cons_succ, List.setIfInBounds_toArray, List.set_cons_zero, List.set_cons_succ]
    refine Ru.wpAnyU_done (by kernel_rfl) ?_
    go_wp2_with fail
    go_meet
    exact ⟨_, rfl, rfl, rfl, nE, bE⟩
  rename World => wc
  obtain ⟨gn, rfl, rfl, rfl, nc, kc⟩ := hcut
  have KC := below_tr KK3 kc
  have xc_ := CRow.keep x_3 kc
  have mc := CRow.keep m_3 kc
  clear KK3 x_3 m_3 kc H1 H2 HN HG HC
  go_wp2_with (first
    | ((with_reducible show wpList _ _ _ _ _ _); refine St.wpList_load isRs (by rfl) _ (by rfl) _ _ (by rfl) (by with_reducible exact mc) rfl ?_)
    | fail)
  refine (HM.out _ KC).mono ?_
  rintro e wq4 ⟨rfl, kq4⟩
  have KK4 := below_tr KC kq4
  have m_4 := CRow.keep mc kq4
  have x_4 := CRow.keep xc_ kq4
  have n_4 := CRow.keep nc kq4
  clear KC mc xc_ nc
  go_wp2_with (first
    | ((with_reducible show wpList _ _ _ _ _ _); refine St.wpList_load isS (by rfl) _ (by rfl) _ _ (by rfl) (by with_reducible exact x_4) (svals_len _ _ _ _) ?_)
    | fail)
  refine (HQ.out _).mono ?_
  rintro e wq5 ⟨rfl, kq5⟩
  have KK5 := below_tr KK4 kq5
  have m_5 := CRow.keep m_4 kq5
  have n_5 := CRow.keep n_4 kq5
  clear KK4 m_4 n_4
  go_wp2_with (first
    | fail)
  refine (H6.out _ KK5).mono ?_
  rintro e wq6 ⟨rfl, kq6⟩
  have KK6 := below_tr KK5 kq6
  have m_6 := CRow.keep m_5 kq6
  have n_6 := CRow.keep n_5 kq6
  clear KK5 m_5 n_5
  go_wp2_with (first
    | fail)
  refine (H7.out _ KK6).mono ?_
  rintro e wq7 ⟨rfl, kq7⟩
  have KK7 := below_tr KK6 kq7
  have m_7 := CRow.keep m_6 kq7
  have n_7 := CRow.keep n_6 kq7
  clear KK6 m_6 n_6
  go_wp2_with (first
    | ((with_reducible show wpList _ _ _ _ _ _); refine St.wpList_load isRs (by rfl) _ (by rfl) _ _ (by rfl) (by with_reducible exact m_7) rfl ?_)
    | fail)
  refine (HD.out _ KK7).mono ?_
  rintro e wq8 ⟨yo, yc, ro, rc, rfl, gI, kq8⟩
  have KK8 := below_tr KK7 kq8
  have n_8 := CRow.keep n_7 kq8
  clear KK7 n_7
  go_wp2_with (first
    | ((with_reducible show wpList _ _ _ _ _ _); refine St.wpList_storeNew isRs rfl _ _ (by rfl) _ [.slice none 0 0, .slice none 0 0] _ (by rfl) (by rfl) rfl rfl (by intro v hv; simp only [List.mem_cons, List.not_mem_nil, or_false] at hv; rcases hv with rfl | rfl <;> rfl) ?_; intro ws9 ns9 ks9; have KK9 := below_tr KK8 ks9; have n_9 := CRow.keep n_8 ks9; clear KK8 n_8)
    | ((with_reducible show wpList _ _ _ _ _ _); refine St.wpList_load isS (by rfl) _ (by rfl) _ _ (by rfl) (by with_reducible exact n_9) (svals_len _ _ _ _) ?_)
    | ((with_reducible show wpList _ _ _ _ _ _); refine St.wpList_load isRs (by rfl) _ (by rfl) _ _ (by rfl) (by with_reducible exact ns9) rfl ?_)
    | fail)
  refine (gI.out _ ks9).mono ?_
  rintro e wq10 ⟨rfl, kq10⟩
  have KK10 := below_tr KK9 kq10
  clear KK9
  go_wp2_with (first
    | fail)
  refine (psure_any _).mono ?_
  rintro e wq11 ⟨rfl, kq11⟩
  have KK11 := below_tr KK10 kq11
  clear KK10
  go_wp2
  go_ret
  exact ⟨rfl, KK11⟩

set_option maxRecDepth 20000 in
set_option maxHeartbeats 2000000 in
theorem pn_short (xo po a1 a2 : Option Addr) (m xc n pc l1 c1p l2 c2p : Nat) (w : World) (h : m ≠ 6) (hm : m ≤ 9223372036854775807) :
    Calls Tryz.prog 3 #[.agg #[.slice xo m xc, .slice po n pc], .slice a1 l1 c1p, .slice a2 l2 c2p] w fun e w' => e = .returned (.bool true) ∧ Below w.heap.size w w' := by
  have m0 := crow_new w 25 [.slice xo m xc, .slice po n pc]
  have K0 := below_al (Below.refl _ w) (.cells [.slice xo m xc, .slice po n pc].toArray 25)
  have e1 : ((m : Int) == 6) = false := beq_eq_false_iff_ne.2 (by omega)
  have e2 : ((m : Int) != 6) = true := by rw [bne, e1]; rfl
  clear h
  go_enter Tryz.func3, Tryz.ntmps3
  go_wp2_with fail
  refine (psure_any _).mono ?_
  rintro e w1 ⟨rfl, k1⟩
  go_wp2
  go_ret
  exact ⟨rfl, below_tr K0 k1⟩

theorem pnext_walk : FPredictNext.Walk := by
  intro c0 a1 l1 c1p A1 L1 C1 Z1 a2 l2 c2p A2 L2 C2 Z2 w hL hr1 hr2 hE
  obtain ⟨xo, m, xc, X, po, n, pc, A, K, C, Z, rfl, sX, bX, sP, qP⟩ := state_lies hL
  obtain ⟨s1, q1⟩ := isrows12 hr1
  obtain ⟨s2, q2⟩ := isrows12 hr2
  by_cases h6 : m = 6
  · subst h6
    rcases six_cases sP qP with ⟨F, rfl, gP, bP⟩ | ⟨r, c, z, hbad, hmat, hsix⟩
    · have hG := fun W (b : Below w.heap.size w W) => pgive_any xo po xc 6 pc X 6 6 (mz 6 6 F) W (sX.keep b) (fun V k => matOf_six gP V (below_tr b k))
      by_cases hm : MayV X F
      · have hC := fun W => pcheck_six X F true W ⟨fun _ => hm, fun _ => rfl⟩
        have hM := fun W (b : Below w.heap.size w W) => rmay12_grid true xo po xc pc X F W (sX.keep b) (gP.keep b) ⟨fun _ => hm, fun _ => rfl⟩
        rcases six_cases s1 q1 with ⟨F1, rfl, g1, b1⟩ | ⟨r1, c1, z1, hb1, hm1, hs1⟩
        · rcases six_cases s2 q2 with ⟨F2, rfl, g2, b2⟩ | ⟨r2, c2, z2, hb2, hm2, hs2⟩
          · refine pn_good xo po a1 a2 xc 6 pc 6 c1p 6 c2p X 6 6 (mz 6 6 F) 6 6 (mz 6 6 F1) 6 6 (mz 6 6 F2) (nX F1 X) (mz 6 6 (nP F1 F F2)) (oP F1 X F F2) w hE hG (matOf_six g1) (matOf_six g2) hC (fun W => pnext_yes X F F1 F2 W hm bX bP b1 b2) hM (six_yes g1) (six_yes g2) (fun W b => ?_)
            refine (dnext12_any xo po a1 a2 xc pc c1p c2p X F F1 F2 W (sX.keep b) (gP.keep b) (g1.keep b) (g2.keep b) bX bP b1 b2).mono ?_
            rintro e w' ⟨yo, yc, ro, rc, rfl, sY, gR, k⟩
            exact ⟨yo, yc, ro, rc, rfl, fun V kv => pisState_yes yo ro yc rc _ _ V (sY.keep kv) (gR.keep kv), k⟩
          · exact pn_noise xo po a1 a2 xc 6 pc 6 c1p l2 c2p X 6 6 (mz 6 6 F) 6 6 (mz 6 6 F1) r2 c2 z2 w hE hG (matOf_six g1) hm2 hC (fun W => pnext_noise X 6 6 (mz 6 6 F) 6 6 (mz 6 6 F1) r2 c2 z2 W hC ⟨rfl, rfl⟩ hb2) hM (six_yes g1) hs2
        · obtain ⟨r2, c2, z2, hm2⟩ := mat_some s2 q2
          exact pn_step xo po a1 a2 xc 6 pc l1 c1p l2 c2p X 6 6 (mz 6 6 F) r1 c1 z1 r2 c2 z2 w hE hG hm1 hm2 hC (fun W => pnext_step X 6 6 (mz 6 6 F) r1 c1 z1 r2 c2 z2 W hC hb1) hM hs1
      · have hC := fun W => pcheck_six X F false W ⟨fun q => (by cases q), fun q => absurd q hm⟩
        have hM := fun W (b : Below w.heap.size w W) => rmay12_grid false xo po xc pc X F W (sX.keep b) (gP.keep b) ⟨fun q => (by cases q), fun q => absurd q hm⟩
        obtain ⟨r1, c1, z1, hm1⟩ := mat_some s1 q1
        obtain ⟨r2, c2, z2, hm2⟩ := mat_some s2 q2
        exact pn_bad xo po a1 a2 xc 6 pc l1 c1p l2 c2p X 6 6 (mz 6 6 F) r1 c1 z1 r2 c2 z2 w hE hG hm1 hm2 hC (fun W => pnext_chk X 6 6 (mz 6 6 F) r1 c1 z1 r2 c2 z2 W hC) hM
    · obtain ⟨r1, c1, z1, hm1⟩ := mat_some s1 q1
      obtain ⟨r2, c2, z2, hm2⟩ := mat_some s2 q2
      have hC := fun W => pcheck_no X r c z W hbad
      exact pn_bad xo po a1 a2 xc n pc l1 c1p l2 c2p X r c z r1 c1 z1 r2 c2 z2 w hE (fun W b => pgive_any xo po xc n pc X r c z W (sX.keep b) (fun V k => hmat V (below_tr b k))) hm1 hm2 hC (fun W => pnext_chk X r c z r1 c1 z1 r2 c2 z2 W hC) (fun W b => rmay12_not xo po n xc pc W (fun V k => hsix V (below_tr b k)))
  · exact pn_short xo po a1 a2 m xc n pc l1 c1p l2 c2p w h6 (by have := sX.le; have := sX.cap; omega)

/-- The law PredictNext, of any input. -/
theorem predictnext_holds : Rows.PredictNextCardSaid := FPredictNext.card pnext_walk
end Go.Proofs.YtbdcbobmfkdalaaGreatDoor
