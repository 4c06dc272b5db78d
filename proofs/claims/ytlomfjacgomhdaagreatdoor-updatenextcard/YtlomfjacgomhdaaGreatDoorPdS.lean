/-
  Layer 12's laws: a state as the program's, part by part; what must come whatever the input is.
-/
import Derived.Test.YtlomfjacgomhdaaGreatDoorM22
import Derived.Test.YtlomfjacgomhdaaGreatDoorM16
import Derived.Test.YtlomfjacgomhdaaGreatDoorM2
import Derived.Test.YtlomfjacgomhdaaGreatDoorVcB
set_option linter.unusedSimpArgs false
set_option linter.unusedVariables false
namespace Go.Proofs.YtlomfjacgomhdaaGreatDoor
open Go.RowKit Vc St Mt Cm Ld Pd Pr Qn Dt
attribute [local go_sem ↓] Go.wp_at_zero Go.wp_at_succ
namespace Pd
theorem builtS1 (r c : Int) (z : Nat → Int) : Tryz.prog.built 43 [(1, .agg (mvals r c z).toArray)] = some (svals (fun _ => 0) r c z).toArray := by kernel_rfl
theorem buildS1 {ops : Array Oper} {rest : List Oper} {o : Oper} {a : Act} {w : World} {Q : Exit → Act → World → Prop} (y : Operand) (ho : o.op = .build 43 #[(1, y)]) (r c : Int) (z : Nat → Int) (hy : a.eval y = .agg (mvals r c z).toArray) (hw : Region.wanted o (yielded ops a.tmps) = true)
    (h : wpList Tryz.prog ops Q rest (a.put o.dst (.agg (svals (fun _ => 0) r c z).toArray)) w) : wpList Tryz.prog ops Q (o :: rest) a w :=
  wpList_want hw fun _ hK => by
    unfold Oper.wp execOp
    have em : ((#[(1, y)] : Array (Nat × Operand)).map fun (i, x) => (i, a.eval x)).toList = [(1, .agg (mvals r c z).toArray)] := by simp [hy]
    simp only [ho, Sem.run_bind, run_build w 43 _ _ (by rw [em]; exact builtS1 r c z), Result.andThen_ok]
    exact hK _ _ h
end Pd
set_option maxRecDepth 10000 in
set_option maxHeartbeats 1000000 in
theorem pgive_any (xo po : Option Addr) (xc n pc : Nat) (X : Nat → Int) (r c : Int) (z : Nat → Int) (w : World) (hX : Sl w xo 6 xc X)
  (hP : ∀ W, Below w.heap.size w W → Calls Tryz.prog 22 #[.slice po n pc] W fun e w' => e = .returned (.agg (mvals r c z).toArray) ∧ Below W.heap.size W w') :
  Calls Tryz.prog 7 #[.agg #[.slice xo 6 xc, .slice po n pc]] w fun e w' => e = .returned (.agg (svals X r c z).toArray) ∧ Below w.heap.size w w' := by
 have m0 := (crow_new w 25 [.slice xo 6 xc, .slice po n pc]).alloc (.cells (svals (fun _ => 0) 0 0 (fun _ => 0)).toArray 43)
 have r0 := crow_new1 w (.cells [.slice xo 6 xc, .slice po n pc].toArray 25) 43 (svals (fun _ => 0) 0 0 (fun _ => 0))
 have B0 : Below w.heap.size w ((w.alloc (.cells [.slice xo 6 xc, .slice po n pc].toArray 25)).alloc (.cells (svals (fun _ => 0) 0 0 (fun _ => 0)).toArray 43)) := below_al (below_al (Below.refl _ _) _) _
 obtain ⟨W, hW⟩ : ∃ W, W = (w.alloc (.cells [.slice xo 6 xc, .slice po n pc].toArray 25)).alloc (.cells (svals (fun _ => 0) 0 0 (fun _ => 0)).toArray 43) := ⟨_, rfl⟩
 rw [← hW] at m0 r0 B0
 have HW := hide hW
 have HP := hide (hP W B0)
 have c1 : W.cell? ⟨w.heap.size, 1, none⟩ = some (.slice po n pc) := CRow.cell m0 (k := 1) rfl rfl
 clear hW hP
 go_enter Tryz.func7, Tryz.ntmps7
 go_wp2_with (first | (rw [zeroS]; erw [← HW.out]) | fail)
 refine HP.out.mono ?_
 rintro e w1 ⟨rfl, k1⟩
 have m1 := CRow.keep m0 k1
 have r1 := CRow.keep r0 k1
 have B1 := below_tr B0 k1
 have l1 := CRow.lt r1
 clear HW HP m0 r0 B0 k1 c1
 go_wp2_with (first
  | (refine Pd.buildS1 _ (by with_reducible rfl) r c z (by rfl) (by kernel_rfl) ?_)
  | (rw [zeroS]; refine St.wpList_storeNew isS rfl _ _ (by rfl) _ _ _ (by rfl) (by rfl) (svals_len _ _ _ _) (svals_len _ _ _ _) (one_svals _ _ _ _) ?_; intro w2 n2 k2; have m2 := CRow.keep m1 k2; have r2 := CRow.keep r1 k2; have B2 := below_tr B1 k2; have c0 : w2.cell? ⟨w.heap.size, 0, none⟩ = some (.slice xo 6 xc) := CRow.cell m2 (k := 0) rfl rfl; clear m1 r1 B1 k2)
  | fail)
 obtain ⟨g, hg⟩ : ∃ g, g = w1.heap.size := ⟨_, rfl⟩
 rw [← hg] at n2 l1 ⊢
 have HX := hide hX
 clear hg c0 hX
 go_loopw [4] (fun i wr => ∃ k : Nat, k ≤ 6 ∧ i = .int .i64 (k : Int) ∧ CRow wr w.heap.size 25 [.slice xo 6 xc, .slice po n pc] ∧ SRow wr (w.heap.size + 1) (fun _ => 0) 0 0 (fun _ => 0) ∧ SRow wr g (pt X (fun _ => 0) k) r c z ∧ Below w.heap.size w wr) (fun i _ => 6 - (intOf i).toNat)
 case atStart => exact ⟨0, by omega, rfl, m2, r2, SRow.congr n2 (fun i _ => pt_zero X (fun _ => 0) i) (fun _ _ => rfl), B2⟩
 case round =>
  obtain ⟨k, hk, rfl, m3, r3, n3, B3⟩ := hrel
  have x3 := HX.out.keep B3
  obtain ⟨xa, hxa, hxc⟩ := x3.get
  obtain rfl := hxa (by omega)
  have l5 := x3.le
  have l6 := x3.cap
  by_cases h : k < 6
  ·have c0 : World.cell? _ ⟨w.heap.size, 0, none⟩ = some (.slice (some xa) 6 xc) := CRow.cell m3 (k := 0) rfl rfl
   have c2 := hxc k h
   have c3 := SRow.x n3 (k := k) h rfl
   have f3 := CRow.free n3 k
   obtain ⟨v, hv⟩ : ∃ v, v = X k := ⟨_, rfl⟩
   rw [← hv] at c2
   have HV := hide hv
   clear hv hxc hxa x3
   go_wp2
   go_roundw
   case rel => exact ⟨k + 1, by omega, by go_num, CRow.other m3 _ (by show w.heap.size ≠ g; omega), CRow.other r3 _ (by show w.heap.size + 1 ≠ g; omega), SRow.congr (SRow.setx n3 h rfl _) (fun i _ => by rw [HV.out]; exact pt_step X (fun _ => 0) k i) (fun _ _ => rfl), B3.trans (St.below_set B3.size (by show w.heap.size ≤ g; omega) _)⟩
   case measure => simp [intOf]; omega
  ·obtain rfl : k = 6 := by omega
   have n4 := SRow.congr n3 (fun i hi => pt_end X (fun _ => 0) hi) (fun _ _ => rfl)
   clear n3 hxc hxa x3 h
   go_wp2_with (first
    | (refine St.wpList_load isS (by rfl) _ (by rfl) _ _ (by rfl) (by with_reducible exact n4) (svals_len _ _ _ _) ?_)
    | (refine St.wpList_store isS rfl _ _ (by rfl) _ _ _ (by rfl) (by rfl) (by with_reducible exact r3) (svals_len _ _ _ _) (svals_len _ _ _ _) (one_svals _ _ _ _) ?_)
    | fail)
   exact bodyPost_ret (results_1 isS Tryz.results7 _ _ (w.heap.size + 1) _ rfl (CRow.row r3 _) (svals_len _ _ _ _)) rfl ⟨rfl, St.below_row B3 (by omega) _⟩
set_option maxRecDepth 10000 in
set_option maxHeartbeats 2000000 in
theorem pisState_yes (yo ro : Option Addr) (yc rc : Nat) (X : Nat → Int) (P : Nat → Nat → Int) (w : World) (hX : Sl w yo 6 yc X) (hP : Grid w ro 6 rc 6 P) :
  Calls Tryz.prog 15 #[.agg (svals X 6 6 (mz 6 6 P)).toArray, .agg #[.slice yo 6 yc, .slice ro 6 rc]] w fun e w' => e = .returned (.bool true) ∧ Below w.heap.size w w' := by
 have t0 := (crow_new w 43 (svals X 6 6 (mz 6 6 P))).alloc (.cells [.slice yo 6 yc, .slice ro 6 rc].toArray 25)
 have m0 := crow_new1 w (.cells (svals X 6 6 (mz 6 6 P)).toArray 43) 25 [.slice yo 6 yc, .slice ro 6 rc]
 have B0 : Below w.heap.size w ((w.alloc (.cells (svals X 6 6 (mz 6 6 P)).toArray 43)).alloc (.cells [.slice yo 6 yc, .slice ro 6 rc].toArray 25)) := below_al (below_al (Below.refl _ _) _) _
 obtain ⟨W, hW⟩ : ∃ W, W = (w.alloc (.cells (svals X 6 6 (mz 6 6 P)).toArray 43)).alloc (.cells [.slice yo 6 yc, .slice ro 6 rc].toArray 25) := ⟨_, rfl⟩
 rw [← hW] at t0 m0 B0
 have HR := hide (fun W => rowsOf_any 6 6 P W (by omega) (by omega) (by omega) (by omega))
 have HX := hide (hX.keep B0)
 have HP := hide (hP.keep B0)
 obtain ⟨z, hz⟩ : ∃ z, z = mz 6 6 P := ⟨_, rfl⟩
 rw [← hz] at t0 hW HR ⊢
 have HW := hide hW
 have hS : ∀ V, Below W.heap.size W V → (SRow V w.heap.size X 6 6 z ∧ V.cell? ⟨w.heap.size + 1, 0, none⟩ = some (.slice yo 6 yc) ∧ V.cell? ⟨w.heap.size + 1, 1, none⟩ = some (.slice ro 6 rc)) := fun V k => ⟨CRow.keep t0 k, CRow.cell (CRow.keep m0 k) (k := 0) rfl rfl, CRow.cell (CRow.keep m0 k) (k := 1) rfl rfl⟩
 have HS := hide hS
 have al := fun V => all6 w.heap.size V
 clear hS hW hz hX hP t0 m0
 go_enter Tryz.func15, Tryz.ntmps15
 go_upto_region 1 with (first | (rw [← HW.out]) | fail)
 try erw [← HW.out]
 refine Ru.wp_region_U [13] (fun w' => SRow w' w.heap.size X 6 6 z ∧ w'.cell? ⟨w.heap.size + 1, 0, none⟩ = some (.slice yo 6 yc) ∧ w'.cell? ⟨w.heap.size + 1, 1, none⟩ = some (.slice ro 6 rc)) (by kernel_rfl) (HS.out _ (Vc.below_drew' _)) (fun hHeld => ?_)
 refine Ru.wpAnyU_take (i := 0) (v := .pointer (some ⟨w.heap.size, 0, none⟩)) rfl (by kernel_rfl) (by kernel_rfl) (by kernel_rfl) (by kernel_rfl) (by kernel_rfl) (by kernel_rfl) (fun _ _ _ h => h) (Or.inl ⟨by kernel_rfl, fun w hS => by obtain ⟨sc0, sc1, sc2⟩ := hS; go_simp⟩) hHeld ?_
 simp only [Act.put, zq1, zq2, zq3, zq4, zq5, zq6]
 refine Ru.wpAnyU_take (i := 1) (v := .slice (some ⟨w.heap.size, 0, none⟩) 6 6) rfl (by kernel_rfl) (by kernel_rfl) (by kernel_rfl) (by kernel_rfl) (by kernel_rfl) (by kernel_rfl) (fun _ _ _ h => h) (Or.inl ⟨by kernel_rfl, fun w hS => by obtain ⟨sc0, sc1, sc2⟩ := hS; go_simp⟩) hHeld ?_
 simp only [Act.put, zq1, zq2, zq3, zq4, zq5, zq6]
 refine Ru.wpAnyU_take (i := 2) (v := .pointer (some ⟨w.heap.size + 1, 0, none⟩)) rfl (by kernel_rfl) (by kernel_rfl) (by kernel_rfl) (by kernel_rfl) (by kernel_rfl) (by kernel_rfl) (fun _ _ _ h => h) (Or.inl ⟨by kernel_rfl, fun w hS => by obtain ⟨sc0, sc1, sc2⟩ := hS; go_simp⟩) hHeld ?_
 simp only [Act.put, zq1, zq2, zq3, zq4, zq5, zq6]
 refine Ru.wpAnyU_take (i := 3) (v := .slice yo 6 yc) rfl (by kernel_rfl) (by kernel_rfl) (by kernel_rfl) (by kernel_rfl) (by kernel_rfl) (by kernel_rfl) (fun _ _ _ h => h) (Or.inl ⟨by kernel_rfl, fun w hS => by obtain ⟨sc0, sc1, sc2⟩ := hS; go_simp⟩) hHeld ?_
 simp only [Act.put, zq1, zq2, zq3, zq4, zq5, zq6]
 refine Ru.wpAnyU_ready (rs := [4]) (by kernel_rfl) (by simp) ?_
 refine Ru.AllReadyU.cons rfl (by kernel_rfl) (fun K hK => ?_) Ru.AllReadyU.nil
 go_simp
 refine (nums_yes _ _ 6 _ _ X _ (SRow.sl (HS.out _ (Vc.below_drew' _)).1) (HX.out.keep (Vc.below_drew' _))).mono ?_
 rintro _ v1 ⟨rfl, k1⟩
 have Kv1 := below_tr (Vc.below_drew' _) k1
 go_wp2_with fail
 refine hK.out _ _ (HS.out _ Kv1) (fun hHeld => ?_)
 clear hK K
 try simp only [Act.put, zq1, zq2, zq3, zq4, zq5, zq6]
 refine Ru.wpAnyU_take (i := 5) (v := .bool true) rfl (by kernel_rfl) (by kernel_rfl) (by kernel_rfl) (by kernel_rfl) (by kernel_rfl) (by kernel_rfl) (fun _ _ _ h => h) (Or.inl ⟨by kernel_rfl, fun w hS => by obtain ⟨sc0, sc1, sc2⟩ := hS; go_simp⟩) hHeld ?_
 simp only [Act.put, zq1, zq2, zq3, zq4, zq5, zq6]
 refine Ru.wpAnyU_take (i := 6) (v := .pointer (some ⟨w.heap.size, 6, none⟩)) rfl (by kernel_rfl) (by kernel_rfl) (by kernel_rfl) (by kernel_rfl) (by kernel_rfl) (by kernel_rfl) (fun _ _ _ h => h) (Or.inl ⟨by kernel_rfl, fun w hS => by obtain ⟨sc0, sc1, sc2⟩ := hS; go_simp⟩) hHeld ?_
 simp only [Act.put, zq1, zq2, zq3, zq4, zq5, zq6]
 refine Ru.wpAnyU_take (i := 7) (v := .agg (mvals 6 6 z).toArray) rfl (by kernel_rfl) (by kernel_rfl) (by kernel_rfl) (by kernel_rfl) (by kernel_rfl) (by kernel_rfl) (fun _ _ _ h => h) (Pd.yieldsP isMt (by kernel_rfl) _ (by rfl) w.heap.size 6 _ (by rfl) (fun w h => SRow.rm h.1) (mvals_len _ _ _)) hHeld ?_
 simp only [Act.put, zq1, zq2, zq3, zq4, zq5, zq6]
 refine Ru.wpAnyU_take (i := 9) (v := .pointer (some ⟨w.heap.size + 1, 1, none⟩)) rfl (by kernel_rfl) (by kernel_rfl) (by kernel_rfl) (by kernel_rfl) (by kernel_rfl) (by kernel_rfl) (fun _ _ _ h => h) (Or.inl ⟨by kernel_rfl, fun w hS => by obtain ⟨sc0, sc1, sc2⟩ := hS; go_simp⟩) hHeld ?_
 simp only [Act.put, zq1, zq2, zq3, zq4, zq5, zq6]
 refine Ru.wpAnyU_take (i := 10) (v := .slice ro 6 rc) rfl (by kernel_rfl) (by kernel_rfl) (by kernel_rfl) (by kernel_rfl) (by kernel_rfl) (by kernel_rfl) (fun _ _ _ h => h) (Or.inl ⟨by kernel_rfl, fun w hS => by obtain ⟨sc0, sc1, sc2⟩ := hS; go_simp⟩) hHeld ?_
 simp only [Act.put, zq1, zq2, zq3, zq4, zq5, zq6]
 refine Ru.wpAnyU_ready (rs := [8]) (by kernel_rfl) (by simp) ?_
 refine Ru.AllReadyU.cons rfl (by kernel_rfl) (fun K hK => ?_) Ru.AllReadyU.nil
 go_simp
 refine (HR.out _).mono ?_
 rintro _ v2 ⟨lo, cm, rfl, gA, k2⟩
 have Kv2 := below_tr Kv1 k2
 go_wp2_with fail
 refine hK.out _ _ (HS.out _ Kv2) (fun hHeld => ?_)
 clear hK K
 try simp only [Act.put, zq1, zq2, zq3, zq4, zq5, zq6]
 refine Ru.wpAnyU_ready (rs := [11]) (by kernel_rfl) (by simp) ?_
 refine Ru.AllReadyU.cons rfl (by kernel_rfl) (fun K hK => ?_) Ru.AllReadyU.nil
 go_simp
 refine (sameRows_yes 6 6 _ _ _ _ P _ (by omega) gA (HP.out.keep Kv2)).mono ?_
 rintro _ v3 ⟨rfl, k3⟩
 have Kv3 := below_tr Kv2 k3
 go_wp2_with fail
 refine hK.out _ _ (HS.out _ Kv3) (fun hHeld => ?_)
 clear hK K
 try simp only [Act.put, zq1, zq2, zq3, zq4, zq5, zq6]
 refine Ru.wpAnyU_take (i := 12) (v := .bool true) rfl (by kernel_rfl) (by kernel_rfl) (by kernel_rfl) (by kernel_rfl) (by kernel_rfl) (by kernel_rfl) (fun _ _ _ h => h) (Or.inl ⟨by kernel_rfl, fun w hS => by obtain ⟨sc0, sc1, sc2⟩ := hS; go_simp⟩) hHeld ?_
 simp only [Act.put, zq1, zq2, zq3, zq4, zq5, zq6]
 refine Ru.wpAnyU_ready (rs := [13]) (by kernel_rfl) (by simp) ?_
 refine Ru.AllReadyU.cons2 rfl (by kernel_rfl) (fun K hK => ?_) Ru.AllReadyU.nil
 go_simp
 refine hK.out _ _ ?_
 clear hK K
 try simp only [Act.put, zq1, zq2, zq3, zq4, zq5, zq6]
 refine wpAny_done (by kernel_rfl) ?_ _
 go_wp2
 go_ret
 exact ⟨rfl, below_tr B0 Kv3⟩
namespace Pd
end Pd
end Go.Proofs.YtlomfjacgomhdaaGreatDoor
