/-
  States of package predict: the steps: matrix, moved, spread.
-/
import Derived.Test.YtbdcbobmfkdalaaM17
import Derived.Test.YtbdcbobmfkdalaaM16
import Derived.Test.YtbdcbobmfkdalaaM9
import Derived.Test.YtbdcbobmfkdalaaRegM
import Derived.Test.YtbdcbobmfkdalaaM4
import Derived.Test.YtbdcbobmfkdalaaM2
import Derived.Test.YtbdcbobmfkdalaaVcB
set_option linter.unusedSimpArgs false
set_option linter.unusedVariables false
namespace Go.Proofs.Ytbdcbobmfkdalaa
open Go.RowKit Vc St Mt Cm Ld Pd Pr Qn Dt
attribute [local go_sem ↓] Go.wp_at_zero Go.wp_at_succ

namespace Pd
theorem mrowBut {P : Nat → Prop} {a b : World} {g : Nat} {r c : Int} {z : Nat → Int} (h : MRow a g r c z) (k : But P a b) (hx : ¬ P g) : MRow b g r c z := by
  unfold MRow; rw [k.block g h.lt hx]; exact h
theorem splice6 (X Y : Nat → Int) : splice (vals 6 X) 0 (vals 6 Y) = vals 6 Y := splice_all 6 X Y
end Pd

set_option maxRecDepth 10000 in
set_option maxHeartbeats 1000000 in
theorem pmatrix_any (s : Nat) (r c : Int) (z : Nat → Int) (a o : Bool) (v : Value) (w : World) (h : ORow w s a) :
    Calls Try.prog 29 #[.pointer (some ⟨s, 0, none⟩), .agg (mvals r c z).toArray, .bool o, v] w fun e w' => e = .returned (.agg (mvals r c z).toArray) ∧ ORow w' s (a || o) ∧ But (· = s) w w' := by
  have hs := CRow.lt h
  have r0 := (mrow_new w r c z).alloc (.cells (mvals 0 0 (fun _ => 0)).toArray 27)
  have o0 := mrow_new1 w (.cells (mvals r c z).toArray 27) 0 0 (fun _ => 0)
  have B0 : Below w.heap.size w ((w.alloc (.cells (mvals r c z).toArray 27)).alloc (.cells (mvals 0 0 (fun _ => 0)).toArray 27)) := below_al (below_al (Below.refl _ _) _) _
  obtain ⟨W, hW⟩ : ∃ W, W = (w.alloc (.cells (mvals r c z).toArray 27)).alloc (.cells (mvals 0 0 (fun _ => 0)).toArray 27) := ⟨_, rfl⟩
  rw [← hW] at r0 o0 B0
  have HW := hide hW
  have s0 := CRow.keep h B0
  have c0 := ORow.o s0
  have f0 := CRow.free s0 0
  have n1 : w.heap.size ≠ s := by omega
  have n2 : w.heap.size + 1 ≠ s := by omega
  have n3 : s ≠ w.heap.size + 1 := by omega
  clear hW h
  have Bb : But (· = s) w W := but_of B0
  cases a with
  | true =>
    go_enter Try.func29, Try.ntmps29
    go_wp2_with (first
      | (rw [zeroM, ← HW.out])
      | (refine Hk.loadM _ (by with_reducible rfl) _ _ _ _ (by rfl) (by with_reducible exact r0.other _ n1) (by kernel_rfl) ?_)
      | (refine wpList_storeM rfl _ _ (by rfl) _ _ _ _ _ _ _ (by rfl) (by rfl) (by with_reducible exact o0.other _ n2) ?_)
      | fail)
    exact bodyPost_ret (results_M1 Try.results29 _ _ (w.heap.size + 1) _ _ _ rfl ((o0.other _ n2).row _ _ _)) rfl ⟨rfl, (ORow.set s0 true).rowOther n3 _, (Bb.set (p := ⟨s, 0, none⟩) _ rfl).rowNew _ (by omega)⟩
  | false =>
    go_enter Try.func29, Try.ntmps29
    go_wp2_with (first
      | (rw [zeroM, ← HW.out])
      | (refine Hk.loadM _ (by with_reducible rfl) _ _ _ _ (by rfl) (by with_reducible exact r0.other _ n1) (by kernel_rfl) ?_)
      | (refine wpList_storeM rfl _ _ (by rfl) _ _ _ _ _ _ _ (by rfl) (by rfl) (by with_reducible exact o0.other _ n2) ?_)
      | fail)
    exact bodyPost_ret (results_M1 Try.results29 _ _ (w.heap.size + 1) _ _ _ rfl ((o0.other _ n2).row _ _ _)) rfl ⟨rfl, (ORow.set s0 o).rowOther n3 _, (Bb.set (p := ⟨s, 0, none⟩) _ rfl).rowNew _ (by omega)⟩

set_option maxRecDepth 10000 in
set_option maxHeartbeats 2000000 in
theorem pmoved_any (s : Nat) (X : Nat → Int) (F : Nat → Nat → Int) (a : Bool) (w : World) (h : ORow w s a) (bF : B2 F) (bX : B64 X) :
    Calls Try.prog 16 #[.pointer (some ⟨s, 0, none⟩), .agg (vals 6 X).toArray, .agg (mvals 6 6 (mz 6 6 F)).toArray] w fun e w' => e = .returned (.agg (vals 6 (nX F X)).toArray) ∧ ORow w' s (a || oX F X) ∧ But (· = s) w w' := by
  have hs := CRow.lt h
  have x0 := ((crow_new w 53 (vals 6 X)).alloc (.cells (mvals 6 6 (mz 6 6 F)).toArray 27)).alloc (.cells (vals 6 (fun _ => 0)).toArray 53)
  have m0 := (mrow_new1 w (.cells (vals 6 X).toArray 53) 6 6 (mz 6 6 F)).alloc (.cells (vals 6 (fun _ => 0)).toArray 53)
  have o0 := crow_new2 w (.cells (vals 6 X).toArray 53) (.cells (mvals 6 6 (mz 6 6 F)).toArray 27) 53 (vals 6 (fun _ => 0))
  have B0 : Below w.heap.size w (((w.alloc (.cells (vals 6 X).toArray 53)).alloc (.cells (mvals 6 6 (mz 6 6 F)).toArray 27)).alloc (.cells (vals 6 (fun _ => 0)).toArray 53)) := below_al (below_al (below_al (Below.refl _ _) _) _) _
  obtain ⟨W, hW⟩ : ∃ W, W = ((w.alloc (.cells (vals 6 X).toArray 53)).alloc (.cells (mvals 6 6 (mz 6 6 F)).toArray 27)).alloc (.cells (vals 6 (fun _ => 0)).toArray 53) := ⟨_, rfl⟩
  rw [← hW] at x0 m0 o0 B0
  have HA : Hid (∀ W, PRow W w.heap.size X → Calls Try.prog 27 #[.agg (mvals 6 6 (mz 6 6 F)).toArray, .slice (some ⟨w.heap.size, 0, none⟩) 6 6] W fun e w' => ∃ co cc, e = .returned (.tuple #[.slice co 6 cc, .bool (oX F X), .nilIface]) ∧ Sl w' co 6 cc (nX F X) ∧ Fresh W.heap.size co ∧ Below W.heap.size W w') := fun W hx => mapply_any 6 6 6 (some ⟨w.heap.size, 0, none⟩) F X W (by omega) (by omega) (by omega) (by omega) bF (PRow.sl hx) bX
  have s0 := CRow.keep h B0
  have Bb : But (· = s) w W := but_of B0
  have lW : w.heap.size + 1 + 1 < W.heap.size := CRow.lt o0
  have al := fun W => allPt w.heap.size W
  obtain ⟨z, hz⟩ : ∃ z, z = mz 6 6 F := ⟨_, rfl⟩
  obtain ⟨Y, hY⟩ : ∃ Y, Y = nX F X := ⟨_, rfl⟩
  obtain ⟨q, hq⟩ : ∃ q, q = oX F X := ⟨_, rfl⟩
  rw [← hz] at m0 hW HA ⊢
  rw [← hY, ← hq] at HA ⊢
  have HW := hide hW
  clear hW hz hY hq h bF bX B0
  go_enter Try.func16, Try.ntmps16
  go_upto_region 1 with (first | (rw [zero6, ← HW.out]) | fail)
  try rw [zero6, ← HW.out]
  refine Ru.wp_region_U [] (fun w' => MRow w' (w.heap.size + 1) 6 6 z ∧ PRow w' w.heap.size X) (by kernel_rfl) ⟨m0.drew, CRow.drew x0⟩ (fun hHeld => ?_)
  refine Ru.wpAnyU_take (i := 0) (v := .agg (mvals 6 6 z).toArray) rfl (by kernel_rfl) (by kernel_rfl) (by kernel_rfl) (by kernel_rfl) (by kernel_rfl) (by kernel_rfl) (fun _ _ _ h => h) (Ru.yieldsM (by kernel_rfl) _ (by rfl) (w.heap.size + 1) 6 6 z (by rfl) (fun w h => h.1)) hHeld ?_
  simp only [Act.put, List.getElem_toArray, List.getElem_cons_zero, List.getElem_cons_succ, List.setIfInBounds_toArray, List.set_cons_zero, List.set_cons_succ]
  refine Ru.wpAnyU_take (i := 1) (v := .slice (some ⟨w.heap.size, 0, none⟩) 6 6) rfl (by kernel_rfl) (by kernel_rfl) (by kernel_rfl) (by kernel_rfl) (by kernel_rfl) (by kernel_rfl) (fun _ _ _ h => h) (Or.inl ⟨by kernel_rfl, fun w hS => by obtain ⟨sc0, sc1⟩ := hS; go_simp⟩) hHeld ?_
  simp only [Act.put, List.getElem_toArray, List.getElem_cons_zero, List.getElem_cons_succ, List.setIfInBounds_toArray, List.set_cons_zero, List.set_cons_succ]
  refine Ru.wpAnyU_ready (rs := [2]) (by kernel_rfl) (by simp) ?_
  refine Ru.AllReadyU.cons rfl (by kernel_rfl) (fun K1 hK1 => ?_) Ru.AllReadyU.nil
  go_simp
  refine (HA.out _ (CRow.drew x0)).mono ?_
  rintro _ w1 ⟨co, cc, rfl, sY, fY, k1⟩
  have k1' := below_tr (Vc.below_drew' W) k1
  have x1 := CRow.keep x0 k1'
  have m1 := m0.keep k1'
  have o1 := CRow.keep o0 k1'
  have s1 := CRow.keep s0 k1'
  have b1 := Bb.then k1'
  go_wp2_with fail
  refine hK1.out _ _ ⟨m1, x1⟩ (fun hHeld => ?_)
  clear hK1 K1
  try simp only [Act.put, List.getElem_toArray, List.getElem_cons_zero, List.getElem_cons_succ, List.setIfInBounds_toArray, List.set_cons_zero, List.set_cons_succ]
  refine Ru.wpAnyU_take (i := 3) (v := .tuple #[.slice co 6 cc, .bool q, .nilIface]) rfl (by kernel_rfl) (by kernel_rfl) (by kernel_rfl) (by kernel_rfl) (by kernel_rfl) (by kernel_rfl) (fun _ _ _ h => h) (Or.inl ⟨by kernel_rfl, fun w hS => by obtain ⟨sc0, sc1⟩ := hS; go_simp⟩) hHeld ?_
  simp only [Act.put, List.getElem_toArray, List.getElem_cons_zero, List.getElem_cons_succ, List.setIfInBounds_toArray, List.set_cons_zero, List.set_cons_succ]
  refine Ru.wpAnyU_take (i := 4) (v := .slice co 6 cc) rfl (by kernel_rfl) (by kernel_rfl) (by kernel_rfl) (by kernel_rfl) (by kernel_rfl) (by kernel_rfl) (fun _ _ _ h => h) (Or.inl ⟨by kernel_rfl, fun w hS => by obtain ⟨sc0, sc1⟩ := hS; go_simp⟩) hHeld ?_
  simp only [Act.put, List.getElem_toArray, List.getElem_cons_zero, List.getElem_cons_succ, List.setIfInBounds_toArray, List.set_cons_zero, List.set_cons_succ]
  refine Ru.wpAnyU_take (i := 5) (v := .bool q) rfl (by kernel_rfl) (by kernel_rfl) (by kernel_rfl) (by kernel_rfl) (by kernel_rfl) (by kernel_rfl) (fun _ _ _ h => h) (Or.inl ⟨by kernel_rfl, fun w hS => by obtain ⟨sc0, sc1⟩ := hS; go_simp⟩) hHeld ?_
  simp only [Act.put, List.getElem_toArray, List.getElem_cons_zero, List.getElem_cons_succ, List.setIfInBounds_toArray, List.set_cons_zero, List.set_cons_succ]
  refine Ru.wpAnyU_take (i := 6) (v := .nilIface) rfl (by kernel_rfl) (by kernel_rfl) (by kernel_rfl) (by kernel_rfl) (by kernel_rfl) (by kernel_rfl) (fun _ _ _ h => h) (Or.inl ⟨by kernel_rfl, fun w hS => by obtain ⟨sc0, sc1⟩ := hS; go_simp⟩) hHeld ?_
  simp only [Act.put, List.getElem_toArray, List.getElem_cons_zero, List.getElem_cons_succ, List.setIfInBounds_toArray, List.set_cons_zero, List.set_cons_succ]
  refine Ru.wpAnyU_take (i := 7) (v := .slice co 6 cc) rfl (by kernel_rfl) (by kernel_rfl) (by kernel_rfl) (by kernel_rfl) (by kernel_rfl) (by kernel_rfl) (fun _ _ _ h => h) (Or.inl ⟨by kernel_rfl, fun w hS => by obtain ⟨sc0, sc1⟩ := hS; go_simp⟩) hHeld ?_
  simp only [Act.put, List.getElem_toArray, List.getElem_cons_zero, List.getElem_cons_succ, List.setIfInBounds_toArray, List.set_cons_zero, List.set_cons_succ]
  refine Ru.wpAnyU_take (i := 8) (v := .bool q) rfl (by kernel_rfl) (by kernel_rfl) (by kernel_rfl) (by kernel_rfl) (by kernel_rfl) (by kernel_rfl) (fun _ _ _ h => h) (Or.inl ⟨by kernel_rfl, fun w hS => by obtain ⟨sc0, sc1⟩ := hS; go_simp⟩) hHeld ?_
  simp only [Act.put, List.getElem_toArray, List.getElem_cons_zero, List.getElem_cons_succ, List.setIfInBounds_toArray, List.set_cons_zero, List.set_cons_succ]
  refine Ru.wpAnyU_take (i := 9) (v := .nilIface) rfl (by kernel_rfl) (by kernel_rfl) (by kernel_rfl) (by kernel_rfl) (by kernel_rfl) (by kernel_rfl) (fun _ _ _ h => h) (Or.inl ⟨by kernel_rfl, fun w hS => by obtain ⟨sc0, sc1⟩ := hS; go_simp⟩) hHeld ?_
  simp only [Act.put, List.getElem_toArray, List.getElem_cons_zero, List.getElem_cons_succ, List.setIfInBounds_toArray, List.set_cons_zero, List.set_cons_succ]
  refine Ru.wpAnyU_done (by kernel_rfl) ?_
  have c1 := ORow.o s1
  have f1 := CRow.free s1 0
  have lf : ∀ x, co = some x → ¬ x.block = s := fun x hx => by have := fY x hx; have e : W.drew.heap.size = W.heap.size := rfl; omega
  have l1 : w.heap.size + 1 + 1 < w1.heap.size := CRow.lt o1
  have ls1 : s < w1.heap.size := CRow.lt s1
  have hW1 := k1'.size
  clear x0 m0 o0 s0 Bb x1 m1 fY k1 k1' HA HW al
  cases a with
  | true =>
    have s2 : ORow (w1.setCell ⟨s, 0, none⟩ (.bool true)) s true := ORow.set s1 true
    have b2 : But (· = s) w (w1.setCell ⟨s, 0, none⟩ (.bool true)) := b1.set (p := ⟨s, 0, none⟩) _ rfl
    have o2 : PRow (w1.setCell ⟨s, 0, none⟩ (.bool true)) (w.heap.size + 1 + 1) (fun _ => 0) := CRow.other o1 _ (by show w.heap.size + 1 + 1 ≠ s; omega)
    have y2 : Sl (w1.setCell ⟨s, 0, none⟩ (.bool true)) co 6 cc Y := slBut sY ((But.refl (· = s) w1).set (p := ⟨s, 0, none⟩) (.bool true) rfl) lf
    have hz2 : (w1.setCell ⟨s, 0, none⟩ (.bool true)).heap.size = w1.heap.size := by simp
    obtain ⟨w2, hw2⟩ : ∃ w2, w2 = w1.setCell ⟨s, 0, none⟩ (.bool true) := ⟨_, rfl⟩
    rw [← hw2] at s2 b2 o2 y2 hz2
    have H2 := hide hw2
    have n3 := crow_new w2 53 (vals 6 (fun _ => 0))
    have B3 := below_al (Below.refl _ w2) (.cells (vals 6 (fun _ => 0)).toArray 53)
    have s3 := CRow.keep s2 B3
    have b3 := b2.then B3
    have o3 := CRow.keep o2 B3
    have y3 := y2.keep B3
    obtain ⟨w3, hw3⟩ : ∃ w3, w3 = w2.alloc (.cells (vals 6 (fun _ => 0)).toArray 53) := ⟨_, rfl⟩
    rw [← hw3] at n3 s3 b3 o3 y3
    have H3 := hide hw3
    obtain ⟨g, hg⟩ : ∃ g, g = w1.heap.size := ⟨_, rfl⟩
    rw [hz2, ← hg] at n3
    have HG := hide hg
    have ag := fun W => allPt g W
    have lg : w.heap.size + 1 + 1 < g := by omega
    have lg2 : s < g := by omega
    have hY6 := Sl.src y3 (by omega)
    obtain ⟨V, hV⟩ : ∃ V, V = vals 6 Y := ⟨_, rfl⟩
    obtain ⟨U, hU⟩ : ∃ U, U = vals 6 (fun _ => 0) := ⟨_, rfl⟩
    rw [← hV] at hY6
    have HV := hide hV
    have HU := hide hU
    have HY6 := hide hY6
    have hg3 : Hid (w3.heap[g]? = some (.cells U.toArray 53 (0, 0))) := by rw [hU]; exact n3
    clear hw2 hw3 hg hY6 hV hU s1 b1 o1 sY s2 b2 o2 y2 n3 B3 lf
    go_wp2_with (first
      | (rw [← H2.out])
      | (rw [zero6, ← H3.out, ← HG.out])
      | (refine wpList_copy_splice rfl _ _ 23 23 (by rfl) 2 Try.underlying23 sizeI64 _ _ _ _ _ _ (by rfl) (by rfl) g 0 U 53 hg3.out V (by rw [HV.out, vals_len]; rfl) (fun h0 => ⟨rfl, HY6.out⟩) (by rw [HV.out, HU.out, vals_len, vals_len]; omega) (by rw [HV.out]; exact one_vals 6 _) g w3 (Below.refl _ _) (Nat.le_refl _) ?_)
      | fail)
    intro w4 hw4 hB4
    have n4 : PRow w4 g Y := by
      have e := hw4.out
      rw [HV.out, HU.out, splice6] at e
      exact e
    have o4 : PRow w4 (w.heap.size + 1 + 1) (fun _ => 0) := by
      unfold PRow CRow
      rw [hB4.block _ lg]
      exact o3
    have s4 : ORow w4 s true := by
      unfold ORow CRow
      rw [hB4.block _ lg2]
      exact s3
    have b4 : But (· = s) w w4 := ⟨hB4.os.trans b3.os, hB4.tape.trans b3.tape, hB4.output.trans b3.output, Nat.le_trans b3.size hB4.size, fun i hi hp => by rw [hB4.block i (by omega)]; exact b3.block i hi hp⟩
    clear hw4 hB4 hg3 HY6 HV HU o3 s3 b3 y3 H2 H3 HG
    go_wp2_with (first
      | (refine St.wpList_load isPt (by rfl) _ (by rfl) _ _ (by rfl) (by with_reducible exact n4) (vals_len _ _) ?_)
      | (refine St.wpList_store isPt rfl _ _ (by rfl) _ _ _ (by rfl) (by rfl) (by with_reducible exact o4) (vals_len _ _) (vals_len _ _) (one_vals _ _) ?_)
      | fail)
    exact bodyPost_ret (results_1 isPt Try.results16 _ _ (w.heap.size + 1 + 1) _ rfl (o4.row _) (vals_len _ _)) rfl ⟨rfl, CRow.rowOther s4 (by omega) _, b4.rowNew _ (by omega)⟩
  | false =>
    have s2 : ORow (w1.setCell ⟨s, 0, none⟩ (.bool q)) s q := ORow.set s1 q
    have b2 : But (· = s) w (w1.setCell ⟨s, 0, none⟩ (.bool q)) := b1.set (p := ⟨s, 0, none⟩) _ rfl
    have o2 : PRow (w1.setCell ⟨s, 0, none⟩ (.bool q)) (w.heap.size + 1 + 1) (fun _ => 0) := CRow.other o1 _ (by show w.heap.size + 1 + 1 ≠ s; omega)
    have y2 : Sl (w1.setCell ⟨s, 0, none⟩ (.bool q)) co 6 cc Y := slBut sY ((But.refl (· = s) w1).set (p := ⟨s, 0, none⟩) (.bool q) rfl) lf
    have hz2 : (w1.setCell ⟨s, 0, none⟩ (.bool q)).heap.size = w1.heap.size := by simp
    obtain ⟨w2, hw2⟩ : ∃ w2, w2 = w1.setCell ⟨s, 0, none⟩ (.bool q) := ⟨_, rfl⟩
    rw [← hw2] at s2 b2 o2 y2 hz2
    have H2 := hide hw2
    have n3 := crow_new w2 53 (vals 6 (fun _ => 0))
    have B3 := below_al (Below.refl _ w2) (.cells (vals 6 (fun _ => 0)).toArray 53)
    have s3 := CRow.keep s2 B3
    have b3 := b2.then B3
    have o3 := CRow.keep o2 B3
    have y3 := y2.keep B3
    obtain ⟨w3, hw3⟩ : ∃ w3, w3 = w2.alloc (.cells (vals 6 (fun _ => 0)).toArray 53) := ⟨_, rfl⟩
    rw [← hw3] at n3 s3 b3 o3 y3
    have H3 := hide hw3
    obtain ⟨g, hg⟩ : ∃ g, g = w1.heap.size := ⟨_, rfl⟩
    rw [hz2, ← hg] at n3
    have HG := hide hg
    have ag := fun W => allPt g W
    have lg : w.heap.size + 1 + 1 < g := by omega
    have lg2 : s < g := by omega
    have hY6 := Sl.src y3 (by omega)
    obtain ⟨V, hV⟩ : ∃ V, V = vals 6 Y := ⟨_, rfl⟩
    obtain ⟨U, hU⟩ : ∃ U, U = vals 6 (fun _ => 0) := ⟨_, rfl⟩
    rw [← hV] at hY6
    have HV := hide hV
    have HU := hide hU
    have HY6 := hide hY6
    have hg3 : Hid (w3.heap[g]? = some (.cells U.toArray 53 (0, 0))) := by rw [hU]; exact n3
    clear hw2 hw3 hg hY6 hV hU s1 b1 o1 sY s2 b2 o2 y2 n3 B3 lf
    go_wp2_with (first
      | (rw [← H2.out])
      | (rw [zero6, ← H3.out, ← HG.out])
      | (refine wpList_copy_splice rfl _ _ 23 23 (by rfl) 2 Try.underlying23 sizeI64 _ _ _ _ _ _ (by rfl) (by rfl) g 0 U 53 hg3.out V (by rw [HV.out, vals_len]; rfl) (fun h0 => ⟨rfl, HY6.out⟩) (by rw [HV.out, HU.out, vals_len, vals_len]; omega) (by rw [HV.out]; exact one_vals 6 _) g w3 (Below.refl _ _) (Nat.le_refl _) ?_)
      | fail)
    intro w4 hw4 hB4
    have n4 : PRow w4 g Y := by
      have e := hw4.out
      rw [HV.out, HU.out, splice6] at e
      exact e
    have o4 : PRow w4 (w.heap.size + 1 + 1) (fun _ => 0) := by
      unfold PRow CRow
      rw [hB4.block _ lg]
      exact o3
    have s4 : ORow w4 s q := by
      unfold ORow CRow
      rw [hB4.block _ lg2]
      exact s3
    have b4 : But (· = s) w w4 := ⟨hB4.os.trans b3.os, hB4.tape.trans b3.tape, hB4.output.trans b3.output, Nat.le_trans b3.size hB4.size, fun i hi hp => by rw [hB4.block i (by omega)]; exact b3.block i hi hp⟩
    clear hw4 hB4 hg3 HY6 HV HU o3 s3 b3 y3 H2 H3 HG
    go_wp2_with (first
      | (refine St.wpList_load isPt (by rfl) _ (by rfl) _ _ (by rfl) (by with_reducible exact n4) (vals_len _ _) ?_)
      | (refine St.wpList_store isPt rfl _ _ (by rfl) _ _ _ (by rfl) (by rfl) (by with_reducible exact o4) (vals_len _ _) (vals_len _ _) (one_vals _ _) ?_)
      | fail)
    exact bodyPost_ret (results_1 isPt Try.results16 _ _ (w.heap.size + 1 + 1) _ rfl (o4.row _) (vals_len _ _)) rfl ⟨rfl, CRow.rowOther s4 (by omega) _, b4.rowNew _ (by omega)⟩
end Go.Proofs.Ytbdcbobmfkdalaa

/-
  States of package predict: spread, Next.
-/
set_option linter.unusedSimpArgs false
set_option linter.unusedVariables false
namespace Go.Proofs.Ytbdcbobmfkdalaa
open Go.RowKit Vc St Mt Cm Ld Pd Pr Qn Dt
attribute [local go_sem ↓] Go.wp_at_zero Go.wp_at_succ

namespace Pd
theorem mul_nY (F P : Nat → Nat → Int) : (fun i j => clamp (mulR F P 6 i j)) = nY F P := by
  funext i j; unfold mulR nY; rw [dk_comm]
theorem mul_oY (F P : Nat → Nat → Int) : any2 (fun i j => great (mulR F P 6 i j)) 6 6 = oY F P := by
  unfold oY; refine any2_congr fun i j _ _ => ?_
  unfold mulR; rw [dk_comm]
theorem mul_nZ (F P : Nat → Nat → Int) : (fun i j => clamp (mulR (nY F P) (fun i j => F j i) 6 i j)) = nZ F P := by
  funext i j; unfold mulR nZ; rw [dk_comm]
theorem mul_oZ (F P : Nat → Nat → Int) : any2 (fun i j => great (mulR (nY F P) (fun i j => F j i) 6 i j)) 6 6 = oZ F P := by
  unfold oZ; refine any2_congr fun i j _ _ => ?_
  unfold mulR; rw [dk_comm]
theorem nought_nP (F P Q : Nat → Nat → Int) : mvals 6 6 (wdk (mz 6 6 (nE F P Q)) (nn (dg (mz 6 6 (nE F P Q)))) 6) = mvals 6 6 (mz 6 6 (nP F P Q)) := by
  refine mvals_congr fun k hk => ?_
  rw [wdk_mz _ _ k hk]
  refine mz_congr (fun i j hi hj => ?_) k
  unfold wd nP nn
  by_cases e : i = j
  · subst e
    rw [if_pos rfl, dg_mz _ hi]
    by_cases h : nE F P Q i i < 0
    · rw [if_pos ⟨rfl, h⟩]; omega
    · rw [if_neg (fun q => h q.2)]; omega
  · rw [if_neg e, if_neg (fun q => e q.1)]
/-- Whether a step of the spread was too great. -/
def oS (F P Q : Nat → Nat → Int) : Bool := oY F P || oZ F P || oW F P Q || oE F P Q
theorem builtS (X : Nat → Int) (r c : Int) (z : Nat → Int) : Try.prog.built 29 [(0, .agg (vals 6 X).toArray), (1, .agg (mvals r c z).toArray)] = some (svals X r c z).toArray := by kernel_rfl
theorem builtS0 : Try.prog.built 29 [] = some (svals (fun _ => 0) 0 0 (fun _ => 0)).toArray := by kernel_rfl
theorem yieldsP {ops : Array Oper} {S : World → Prop} {o : Oper} {a : Act} {t : TypeId} {n : Nat} (I : Is t n) (hw : Region.wanted o (yielded ops a.tmps) = true) (x : Operand) (ho : o.op = .load t x)
    (b p : Nat) (cs : List Value) (hx : a.eval x = .pointer (some ⟨b, p, none⟩)) (hS : ∀ w, S w → w.rangeAt b p cs) (hl : cs.length = n) : YieldsIf Try.prog ops S o (.agg cs.toArray) a := by
  obtain ⟨d, hd, hr⟩ := I.row
  exact yieldsIf_load_mid hw _ x ho b p hx cs d hS hd hr (by rw [I.size, hl])
theorem yieldsB {ops : Array Oper} {S : World → Prop} {o : Oper} {a : Act} (hw : Region.wanted o (yielded ops a.tmps) = true) (x y : Operand) (ho : o.op = .build 29 #[(0, x), (1, y)])
    (X : Nat → Int) (r c : Int) (z : Nat → Int) (hx : a.eval x = .agg (vals 6 X).toArray) (hy : a.eval y = .agg (mvals r c z).toArray) : YieldsIf Try.prog ops S o (.agg (svals X r c z).toArray) a :=
  .inl ⟨hw, fun w _ => by
    unfold execOp
    have em : ((#[(0, x), (1, y)] : Array (Nat × Operand)).map fun (i, x) => (i, a.eval x)).toList = [(0, .agg (vals 6 X).toArray), (1, .agg (mvals r c z).toArray)] := by simp [hx, hy]
    simp only [ho, Sem.run_bind, run_build w 29 _ _ (by rw [em]; exact builtS X r c z), Result.andThen_ok, Sem.run_pure]⟩
/-- 'State{}'. -/
theorem buildS0 {ops : Array Oper} {rest : List Oper} {o : Oper} {a : Act} {w : World} {Q : Exit → Act → World → Prop} (ho : o.op = .build 29 #[]) (hw : Region.wanted o (yielded ops a.tmps) = true)
    (h : wpList Try.prog ops Q rest (a.put o.dst (.agg (svals (fun _ => 0) 0 0 (fun _ => 0)).toArray)) w) : wpList Try.prog ops Q (o :: rest) a w :=
  wpList_want hw fun _ hK => by
    unfold Oper.wp execOp
    have em : ((#[] : Array (Nat × Operand)).map fun (i, x) => (i, a.eval x)).toList = [] := by simp
    simp only [ho, Sem.run_bind, run_build w 29 _ _ (by rw [em]; exact builtS0), Result.andThen_ok]
    exact hK _ _ h
/-- 'State{X: .., P: ..}'. -/
theorem buildS2 {ops : Array Oper} {rest : List Oper} {o : Oper} {a : Act} {w : World} {Q : Exit → Act → World → Prop} (x y : Operand) (ho : o.op = .build 29 #[(0, x), (1, y)]) (X : Nat → Int) (r c : Int) (z : Nat → Int) (hx : a.eval x = .agg (vals 6 X).toArray) (hy : a.eval y = .agg (mvals r c z).toArray) (hw : Region.wanted o (yielded ops a.tmps) = true)
    (h : wpList Try.prog ops Q rest (a.put o.dst (.agg (svals X r c z).toArray)) w) : wpList Try.prog ops Q (o :: rest) a w :=
  wpList_want hw fun _ hK => by
    unfold Oper.wp execOp
    have em : ((#[(0, x), (1, y)] : Array (Nat × Operand)).map fun (i, x) => (i, a.eval x)).toList = [(0, .agg (vals 6 X).toArray), (1, .agg (mvals r c z).toArray)] := by simp [hx, hy]
    simp only [ho, Sem.run_bind, run_build w 29 _ _ (by rw [em]; exact builtS X r c z), Result.andThen_ok]
    exact hK _ _ h
end Pd

set_option maxRecDepth 10000 in
set_option maxHeartbeats 4000000 in
theorem pspread2_any (s : Nat) (P F Q : Nat → Nat → Int) (a : Bool) (w : World) (h : ORow w s a) (bP : B2 P) (bF : B2 F) (bQ : B2 Q) :
    Calls Try.prog 17 #[.pointer (some ⟨s, 0, none⟩), .agg (mvals 6 6 (mz 6 6 P)).toArray, .agg (mvals 6 6 (mz 6 6 F)).toArray, .agg (mvals 6 6 (mz 6 6 Q)).toArray] w fun e w' => e = .returned (.agg (mvals 6 6 (mz 6 6 (nP F P Q))).toArray) ∧ ORow w' s (a || oS F P Q) ∧ But (· = s) w w' := by
  have hs := CRow.lt h
  have HT := hide (fun W => mturn_any 6 6 F W (by omega) (by omega) (by omega) (by omega))
  have HY := hide (fun W => mmul_any 6 6 6 F P W (by omega) (by omega) (by omega) (by omega) (by omega) (by omega) bF bP)
  rw [mul_nY, mul_oY] at HY
  have HZ := hide (fun W => mmul_any 6 6 6 (nY F P) (fun i j => F j i) W (by omega) (by omega) (by omega) (by omega) (by omega) (by omega) (cl_b2 _) (fun i j => bF j i))
  rw [mul_nZ, mul_oZ] at HZ
  have HA : Hid (∀ W, Calls Try.prog 31 #[.agg (mvals 6 6 (mz 6 6 (nZ F P))).toArray, .agg (mvals 6 6 (mz 6 6 Q)).toArray] W fun e w' => e = .returned (.tuple #[.agg (mvals 6 6 (mz 6 6 (nW F P Q))).toArray, .bool (oW F P Q), .nilIface]) ∧ Below W.heap.size W w') := fun W => madd_any 6 6 (nZ F P) Q W (by omega) (by omega) (by omega) (by omega) (cl_b2 _) bQ
  have HE : Hid (∀ W, Calls Try.prog 33 #[.agg (mvals 6 6 (mz 6 6 (nW F P Q))).toArray] W fun e w' => e = .returned (.tuple #[.agg (mvals 6 6 (mz 6 6 (nE F P Q))).toArray, .bool (oE F P Q), .nilIface]) ∧ Below W.heap.size W w') := fun W => meven_any 6 (nW F P Q) W (by omega) (by omega) (cl_b2 _)
  have HN := hide (fun W => pnought_any (mz 6 6 (nE F P Q)) W)
  rw [nought_nP] at HN
  unfold oS
  obtain ⟨zP, hzP⟩ : ∃ z, z = mz 6 6 P := ⟨_, rfl⟩
  obtain ⟨zF, hzF⟩ : ∃ z, z = mz 6 6 F := ⟨_, rfl⟩
  obtain ⟨zQ, hzQ⟩ : ∃ z, z = mz 6 6 Q := ⟨_, rfl⟩
  obtain ⟨zT, hzT⟩ : ∃ z, z = mz 6 6 (fun i j => F j i) := ⟨_, rfl⟩
  obtain ⟨zY, hzY⟩ : ∃ z, z = mz 6 6 (nY F P) := ⟨_, rfl⟩
  obtain ⟨zZ, hzZ⟩ : ∃ z, z = mz 6 6 (nZ F P) := ⟨_, rfl⟩
  obtain ⟨zW, hzW⟩ : ∃ z, z = mz 6 6 (nW F P Q) := ⟨_, rfl⟩
  obtain ⟨zE, hzE⟩ : ∃ z, z = mz 6 6 (nE F P Q) := ⟨_, rfl⟩
  obtain ⟨zN, hzN⟩ : ∃ z, z = mz 6 6 (nP F P Q) := ⟨_, rfl⟩
  obtain ⟨y1, hy1⟩ : ∃ z, z = oY F P := ⟨_, rfl⟩
  obtain ⟨y2, hy2⟩ : ∃ z, z = oZ F P := ⟨_, rfl⟩
  obtain ⟨y3, hy3⟩ : ∃ z, z = oW F P Q := ⟨_, rfl⟩
  obtain ⟨y4, hy4⟩ : ∃ z, z = oE F P Q := ⟨_, rfl⟩
  rw [← hzF, ← hzT] at HT
  rw [← hzF, ← hzP, ← hzY, ← hy1] at HY
  rw [← hzY, ← hzT, ← hzZ, ← hy2] at HZ
  rw [← hzZ, ← hzQ, ← hzW, ← hy3] at HA
  rw [← hzW, ← hzE, ← hy4] at HE
  rw [← hzE, ← hzN] at HN
  rw [← hzP, ← hzF, ← hzQ, ← hzN, ← hy1, ← hy2, ← hy3, ← hy4]
  clear hzP hzF hzQ hzT hzY hzZ hzW hzE hzN hy1 hy2 hy3 hy4 bP bF bQ
  have p0 := (((mrow_new w 6 6 zP).alloc (.cells (mvals 6 6 zF).toArray 27)).alloc (.cells (mvals 6 6 zQ).toArray 27)).alloc (.cells (mvals 0 0 (fun _ => 0)).toArray 27)
  have f0 := ((mrow_new1 w (.cells (mvals 6 6 zP).toArray 27) 6 6 zF).alloc (.cells (mvals 6 6 zQ).toArray 27)).alloc (.cells (mvals 0 0 (fun _ => 0)).toArray 27)
  have q0 := (mrow_new2 w (.cells (mvals 6 6 zP).toArray 27) (.cells (mvals 6 6 zF).toArray 27) 6 6 zQ).alloc (.cells (mvals 0 0 (fun _ => 0)).toArray 27)
  have r0 := mrow_new3 w (.cells (mvals 6 6 zP).toArray 27) (.cells (mvals 6 6 zF).toArray 27) (.cells (mvals 6 6 zQ).toArray 27) 0 0 (fun _ => 0)
  have B0 : Below w.heap.size w ((((w.alloc (.cells (mvals 6 6 zP).toArray 27)).alloc (.cells (mvals 6 6 zF).toArray 27)).alloc (.cells (mvals 6 6 zQ).toArray 27)).alloc (.cells (mvals 0 0 (fun _ => 0)).toArray 27)) := below_al (below_al (below_al (below_al (Below.refl _ _) _) _) _) _
  obtain ⟨W, hW⟩ : ∃ W, W = (((w.alloc (.cells (mvals 6 6 zP).toArray 27)).alloc (.cells (mvals 6 6 zF).toArray 27)).alloc (.cells (mvals 6 6 zQ).toArray 27)).alloc (.cells (mvals 0 0 (fun _ => 0)).toArray 27) := ⟨_, rfl⟩
  rw [← hW] at p0 f0 q0 r0 B0
  have HW := hide hW
  have s0 := CRow.keep h B0
  have b0 : But (· = s) w W := but_of B0
  clear hW h
  go_enter Try.func17, Try.ntmps17
  go_wp2_with (first
    | (rw [zeroM, ← HW.out]; refine Hk.loadM _ (by with_reducible rfl) _ _ _ _ (by rfl) (by with_reducible exact f0) (by kernel_rfl) ?_)
    | (refine Hk.loadM _ (by with_reducible rfl) _ _ _ _ (by rfl) (by with_reducible exact f0) (by kernel_rfl) ?_)
    | fail)
  refine (HT.out _).mono ?_
  rintro e w_1 ⟨rfl, k_1⟩
  have p_1 := p0.keep k_1
  have f_1 := f0.keep k_1
  have q_1 := q0.keep k_1
  have r_1 := r0.keep k_1
  have s_1 := CRow.keep s0 k_1
  have b_1 := b0.then k_1
  clear p0 f0 q0 r0 s0 b0
  go_wp2_with (first
    | (rw [zeroM]; refine Mt.wpList_storeNew rfl _ _ (by rfl) _ _ _ _ (by rfl) (by rfl) ?_; intro ws2 ns2 ks2; have ls2 := b_1.size; have p_2 := p_1.keep ks2; have f_2 := f_1.keep ks2; have q_2 := q_1.keep ks2; have r_2 := r_1.keep ks2; have s_2 := CRow.keep s_1 ks2; have b_2 := b_1.then ks2; clear p_1 f_1 q_1 r_1 s_1 b_1)
    | (refine Hk.loadM _ (by with_reducible rfl) _ _ _ _ (by rfl) (by with_reducible exact f_2) (by kernel_rfl) ?_)
    | (refine Hk.loadM _ (by with_reducible rfl) _ _ _ _ (by rfl) (by with_reducible exact p_2) (by kernel_rfl) ?_)
    | fail)
  refine (HY.out _).mono ?_
  rintro e w_3 ⟨rfl, k_3⟩
  have f_3 := f_2.keep k_3
  have q_3 := q_2.keep k_3
  have r_3 := r_2.keep k_3
  have t_3 := ns2.keep k_3
  have s_3 := CRow.keep s_2 k_3
  have b_3 := b_2.then k_3
  clear f_2 q_2 r_2 ns2 s_2 b_2
  go_wp2_with fail
  refine (pmatrix_any s 6 6 zY a y1 _ _ s_3).mono ?_
  rintro e w_4 ⟨rfl, z_4, k_4⟩
  have f_4 := mrowBut f_3 k_4 (by omega)
  have q_4 := mrowBut q_3 k_4 (by omega)
  have r_4 := mrowBut r_3 k_4 (by omega)
  have t_4 := mrowBut t_3 k_4 (by omega)
  have b_4 := b_3.trans k_4
  clear f_3 q_3 r_3 t_3 s_3 b_3
  go_wp2_with (first
    | (rw [zeroM]; refine Mt.wpList_storeNew rfl _ _ (by rfl) _ _ _ _ (by rfl) (by rfl) ?_; intro ws5 ns5 ks5; have ls5 := b_4.size; have f_5 := f_4.keep ks5; have q_5 := q_4.keep ks5; have r_5 := r_4.keep ks5; have t_5 := t_4.keep ks5; have s_5 := CRow.keep z_4 ks5; have b_5 := b_4.then ks5; clear f_4 q_4 r_4 t_4 z_4 b_4)
    | (refine Hk.loadM _ (by with_reducible rfl) _ _ _ _ (by rfl) (by with_reducible exact ns5) (by kernel_rfl) ?_)
    | (refine Hk.loadM _ (by with_reducible rfl) _ _ _ _ (by rfl) (by with_reducible exact t_5) (by kernel_rfl) ?_)
    | fail)
  refine (HZ.out _).mono ?_
  rintro e w_6 ⟨rfl, k_6⟩
  have q_6 := q_5.keep k_6
  have r_6 := r_5.keep k_6
  have s_6 := CRow.keep s_5 k_6
  have b_6 := b_5.then k_6
  clear q_5 r_5 s_5 b_5
  go_wp2_with fail
  refine (pmatrix_any s 6 6 zZ _ y2 _ _ s_6).mono ?_
  rintro e w_7 ⟨rfl, z_7, k_7⟩
  have q_7 := mrowBut q_6 k_7 (by omega)
  have r_7 := mrowBut r_6 k_7 (by omega)
  have b_7 := b_6.trans k_7
  clear q_6 r_6 s_6 b_6
  go_wp2_with (first
    | (rw [zeroM]; refine Mt.wpList_storeNew rfl _ _ (by rfl) _ _ _ _ (by rfl) (by rfl) ?_; intro ws8 ns8 ks8; have ls8 := b_7.size; have q_8 := q_7.keep ks8; have r_8 := r_7.keep ks8; have s_8 := CRow.keep z_7 ks8; have b_8 := b_7.then ks8; clear q_7 r_7 z_7 b_7)
    | (refine Hk.loadM _ (by with_reducible rfl) _ _ _ _ (by rfl) (by with_reducible exact ns8) (by kernel_rfl) ?_)
    | (refine Hk.loadM _ (by with_reducible rfl) _ _ _ _ (by rfl) (by with_reducible exact q_8) (by kernel_rfl) ?_)
    | fail)
  refine (HA.out _).mono ?_
  rintro e w_9 ⟨rfl, k_9⟩
  have r_9 := r_8.keep k_9
  have s_9 := CRow.keep s_8 k_9
  have b_9 := b_8.then k_9
  clear r_8 s_8 b_8
  go_wp2_with fail
  refine (pmatrix_any s 6 6 zW _ y3 _ _ s_9).mono ?_
  rintro e w_10 ⟨rfl, z_10, k_10⟩
  have r_10 := mrowBut r_9 k_10 (by omega)
  have b_10 := b_9.trans k_10
  clear r_9 s_9 b_9
  go_wp2_with (first
    | (rw [zeroM]; refine Mt.wpList_storeNew rfl _ _ (by rfl) _ _ _ _ (by rfl) (by rfl) ?_; intro ws11 ns11 ks11; have ls11 := b_10.size; have r_11 := r_10.keep ks11; have s_11 := CRow.keep z_10 ks11; have b_11 := b_10.then ks11; clear r_10 z_10 b_10)
    | (refine Hk.loadM _ (by with_reducible rfl) _ _ _ _ (by rfl) (by with_reducible exact ns11) (by kernel_rfl) ?_)
    | fail)
  refine (HE.out _).mono ?_
  rintro e w_12 ⟨rfl, k_12⟩
  have r_12 := r_11.keep k_12
  have s_12 := CRow.keep s_11 k_12
  have b_12 := b_11.then k_12
  clear r_11 s_11 b_11
  go_wp2_with fail
  refine (pmatrix_any s 6 6 zE _ y4 _ _ s_12).mono ?_
  rintro e w_13 ⟨rfl, z_13, k_13⟩
  have r_13 := mrowBut r_12 k_13 (by omega)
  have b_13 := b_12.trans k_13
  clear r_12 s_12 b_12
  go_wp2_with (first
    | fail)
  refine (HN.out _).mono ?_
  rintro e w_14 ⟨rfl, k_14⟩
  have r_14 := r_13.keep k_14
  have s_14 := CRow.keep z_13 k_14
  have b_14 := b_13.then k_14
  clear r_13 z_13 b_13
  go_wp2_with (first
    | (refine wpList_storeM rfl _ _ (by rfl) _ _ _ _ _ _ _ (by rfl) (by rfl) (by with_reducible exact r_14) ?_)
    | fail)
  have eO : (a || (y1 || y2 || y3 || y4)) = ((((a || y1) || y2) || y3) || y4) := by cases a <;> cases y1 <;> cases y2 <;> cases y3 <;> rfl
  have s_e := CRow.rowOther s_14 (g := w.heap.size + 1 + 1 + 1) (by omega) (mvals 6 6 zN).toArray
  rw [← eO] at s_e
  exact bodyPost_ret (results_M1 Try.results17 _ _ (w.heap.size + 1 + 1 + 1) _ _ _ rfl (r_14.row _ _ _)) rfl ⟨rfl, s_e, b_14.rowNew _ (by omega)⟩
end Go.Proofs.Ytbdcbobmfkdalaa

/-
  States of package predict: Next.
-/
set_option linter.unusedSimpArgs false
set_option linter.unusedVariables false
namespace Go.Proofs.Ytbdcbobmfkdalaa
open Go.RowKit Vc St Mt Cm Ld Pd Pr Qn Dt
attribute [local go_sem ↓] Go.wp_at_zero Go.wp_at_succ

set_option maxRecDepth 10000 in
set_option maxHeartbeats 1000000 in
theorem pnext_chk (X : Nat → Int) (r c : Int) (z : Nat → Int) (r1 c1 : Int) (z1 : Nat → Int) (r2 c2 : Int) (z2 : Nat → Int) (w : World) (hC : ∀ W, Calls Try.prog 12 #[.agg (svals X r c z).toArray] W fun e w' => e = .returned (.iface 50 (.int .i64 1)) ∧ Below W.heap.size W w') :
    Calls Try.prog 7 #[.agg (svals X r c z).toArray, .agg (mvals r1 c1 z1).toArray, .agg (mvals r2 c2 z2).toArray] w fun e w' => e = .returned (.tuple #[.agg (svals (fun _ => 0) 0 0 (fun _ => 0)).toArray, .bool false, .iface 50 (.int .i64 1)]) ∧ Below w.heap.size w w' := by
  have HC := hide hC
  clear hC
  have t0 := (((crow_new w 29 (svals X r c z)).alloc (.cells (mvals r1 c1 z1).toArray 27)).alloc (.cells (mvals r2 c2 z2).toArray 27)).alloc (.cells (svals (fun _ => 0) 0 0 (fun _ => 0)).toArray 29)
  have m0 := ((mrow_new1 w (.cells (svals X r c z).toArray 29) r1 c1 z1).alloc (.cells (mvals r2 c2 z2).toArray 27)).alloc (.cells (svals (fun _ => 0) 0 0 (fun _ => 0)).toArray 29)
  have q0 := (mrow_new2 w (.cells (svals X r c z).toArray 29) (.cells (mvals r1 c1 z1).toArray 27) r2 c2 z2).alloc (.cells (svals (fun _ => 0) 0 0 (fun _ => 0)).toArray 29)
  have r0 := crow_new3 w (.cells (svals X r c z).toArray 29) (.cells (mvals r1 c1 z1).toArray 27) (.cells (mvals r2 c2 z2).toArray 27) 29 (svals (fun _ => 0) 0 0 (fun _ => 0))
  have B0 : Below w.heap.size w ((((w.alloc (.cells (svals X r c z).toArray 29)).alloc (.cells (mvals r1 c1 z1).toArray 27)).alloc (.cells (mvals r2 c2 z2).toArray 27)).alloc (.cells (svals (fun _ => 0) 0 0 (fun _ => 0)).toArray 29)) := below_al (below_al (below_al (below_al (Below.refl _ _) _) _) _) _
  obtain ⟨W, hW⟩ : ∃ W, W = (((w.alloc (.cells (svals X r c z).toArray 29)).alloc (.cells (mvals r1 c1 z1).toArray 27)).alloc (.cells (mvals r2 c2 z2).toArray 27)).alloc (.cells (svals (fun _ => 0) 0 0 (fun _ => 0)).toArray 29) := ⟨_, rfl⟩
  rw [← hW] at t0 m0 q0 r0 B0
  have HW := hide hW
  clear hW
  go_enter Try.func7, Try.ntmps7
  go_wp2_with (first
    | (rw [zeroS, ← HW.out]; refine St.wpList_load isS (by rfl) _ (by rfl) _ _ (by rfl) (by with_reducible exact t0) (svals_len _ _ _ _) ?_)
    | fail)
  refine (HC.out _).mono ?_
  rintro e w1 ⟨rfl, k1⟩
  have t1 := CRow.keep t0 k1
  have m1 := m0.keep k1
  have q1 := q0.keep k1
  have r1 := CRow.keep r0 k1
  have B1 := below_tr B0 k1
  clear t0 m0 q0 r0 B0
  go_wp2_with (first
    | (refine Pd.buildS0 (by with_reducible rfl) (by kernel_rfl) ?_)
    | (refine St.wpList_store isS rfl _ _ (by rfl) _ _ _ (by rfl) (by rfl) (by with_reducible exact r1) (svals_len _ _ _ _) (svals_len _ _ _ _) (one_svals _ _ _ _) ?_)
    | fail)
  exact bodyPost_ret (results_3 isS Try.results7 _ _ (w.heap.size + 1 + 1 + 1) _ rfl (CRow.row r1 _) (svals_len _ _ _ _)) rfl ⟨rfl, St.below_row B1 (by omega) _⟩

set_option maxRecDepth 10000 in
set_option maxHeartbeats 1000000 in
theorem pnext_step (X : Nat → Int) (r c : Int) (z : Nat → Int) (r1 c1 : Int) (z1 : Nat → Int) (r2 c2 : Int) (z2 : Nat → Int) (w : World) (hC : ∀ W, Calls Try.prog 12 #[.agg (svals X r c z).toArray] W fun e w' => e = .returned (.nilIface) ∧ Below W.heap.size W w') (h1 : ¬ (r1 = 6 ∧ c1 = 6)) :
    Calls Try.prog 7 #[.agg (svals X r c z).toArray, .agg (mvals r1 c1 z1).toArray, .agg (mvals r2 c2 z2).toArray] w fun e w' => e = .returned (.tuple #[.agg (svals (fun _ => 0) 0 0 (fun _ => 0)).toArray, .bool false, .iface 50 (.int .i64 1)]) ∧ Below w.heap.size w w' := by
  have HC := hide hC
  have H1 := hide (fun W => pisSix_no r1 c1 z1 W h1)
  clear hC h1
  have t0 := (((crow_new w 29 (svals X r c z)).alloc (.cells (mvals r1 c1 z1).toArray 27)).alloc (.cells (mvals r2 c2 z2).toArray 27)).alloc (.cells (svals (fun _ => 0) 0 0 (fun _ => 0)).toArray 29)
  have m0 := ((mrow_new1 w (.cells (svals X r c z).toArray 29) r1 c1 z1).alloc (.cells (mvals r2 c2 z2).toArray 27)).alloc (.cells (svals (fun _ => 0) 0 0 (fun _ => 0)).toArray 29)
  have q0 := (mrow_new2 w (.cells (svals X r c z).toArray 29) (.cells (mvals r1 c1 z1).toArray 27) r2 c2 z2).alloc (.cells (svals (fun _ => 0) 0 0 (fun _ => 0)).toArray 29)
  have r0 := crow_new3 w (.cells (svals X r c z).toArray 29) (.cells (mvals r1 c1 z1).toArray 27) (.cells (mvals r2 c2 z2).toArray 27) 29 (svals (fun _ => 0) 0 0 (fun _ => 0))
  have B0 : Below w.heap.size w ((((w.alloc (.cells (svals X r c z).toArray 29)).alloc (.cells (mvals r1 c1 z1).toArray 27)).alloc (.cells (mvals r2 c2 z2).toArray 27)).alloc (.cells (svals (fun _ => 0) 0 0 (fun _ => 0)).toArray 29)) := below_al (below_al (below_al (below_al (Below.refl _ _) _) _) _) _
  obtain ⟨W, hW⟩ : ∃ W, W = (((w.alloc (.cells (svals X r c z).toArray 29)).alloc (.cells (mvals r1 c1 z1).toArray 27)).alloc (.cells (mvals r2 c2 z2).toArray 27)).alloc (.cells (svals (fun _ => 0) 0 0 (fun _ => 0)).toArray 29) := ⟨_, rfl⟩
  rw [← hW] at t0 m0 q0 r0 B0
  have HW := hide hW
  clear hW
  go_enter Try.func7, Try.ntmps7
  go_wp2_with (first
    | (rw [zeroS, ← HW.out]; refine St.wpList_load isS (by rfl) _ (by rfl) _ _ (by rfl) (by with_reducible exact t0) (svals_len _ _ _ _) ?_)
    | fail)
  refine (HC.out _).mono ?_
  rintro e w1 ⟨rfl, k1⟩
  have t1 := CRow.keep t0 k1
  have m1 := m0.keep k1
  have q1 := q0.keep k1
  have r1 := CRow.keep r0 k1
  have B1 := below_tr B0 k1
  clear t0 m0 q0 r0 B0
  go_wp2_with (first
    | (refine Hk.loadM _ (by with_reducible rfl) _ _ _ _ (by rfl) (by with_reducible exact m1) (by kernel_rfl) ?_)
    | fail)
  refine (H1.out _).mono ?_
  rintro e w2 ⟨rfl, k2⟩
  have t2 := CRow.keep t1 k2
  have m2 := m1.keep k2
  have q2 := q1.keep k2
  have r2 := CRow.keep r1 k2
  have B2 := below_tr B1 k2
  clear t1 m1 q1 r1 B1
  go_wp2_with (first
    | (refine Pd.buildS0 (by with_reducible rfl) (by kernel_rfl) ?_)
    | (refine St.wpList_store isS rfl _ _ (by rfl) _ _ _ (by rfl) (by rfl) (by with_reducible exact r2) (svals_len _ _ _ _) (svals_len _ _ _ _) (one_svals _ _ _ _) ?_)
    | fail)
  exact bodyPost_ret (results_3 isS Try.results7 _ _ (w.heap.size + 1 + 1 + 1) _ rfl (CRow.row r2 _) (svals_len _ _ _ _)) rfl ⟨rfl, St.below_row B2 (by omega) _⟩

set_option maxRecDepth 10000 in
set_option maxHeartbeats 1000000 in
theorem pnext_noise (X : Nat → Int) (r c : Int) (z : Nat → Int) (r1 c1 : Int) (z1 : Nat → Int) (r2 c2 : Int) (z2 : Nat → Int) (w : World) (hC : ∀ W, Calls Try.prog 12 #[.agg (svals X r c z).toArray] W fun e w' => e = .returned (.nilIface) ∧ Below W.heap.size W w') (h1 : r1 = 6 ∧ c1 = 6) (h2 : ¬ (r2 = 6 ∧ c2 = 6)) :
    Calls Try.prog 7 #[.agg (svals X r c z).toArray, .agg (mvals r1 c1 z1).toArray, .agg (mvals r2 c2 z2).toArray] w fun e w' => e = .returned (.tuple #[.agg (svals (fun _ => 0) 0 0 (fun _ => 0)).toArray, .bool false, .iface 50 (.int .i64 1)]) ∧ Below w.heap.size w w' := by
  obtain ⟨rfl, rfl⟩ := h1
  have HC := hide hC
  have H1 := hide (fun W => pisSix_yes z1 W)
  have H2 := hide (fun W => pisSix_no r2 c2 z2 W h2)
  clear hC h2
  have t0 := (((crow_new w 29 (svals X r c z)).alloc (.cells (mvals 6 6 z1).toArray 27)).alloc (.cells (mvals r2 c2 z2).toArray 27)).alloc (.cells (svals (fun _ => 0) 0 0 (fun _ => 0)).toArray 29)
  have m0 := ((mrow_new1 w (.cells (svals X r c z).toArray 29) 6 6 z1).alloc (.cells (mvals r2 c2 z2).toArray 27)).alloc (.cells (svals (fun _ => 0) 0 0 (fun _ => 0)).toArray 29)
  have q0 := (mrow_new2 w (.cells (svals X r c z).toArray 29) (.cells (mvals 6 6 z1).toArray 27) r2 c2 z2).alloc (.cells (svals (fun _ => 0) 0 0 (fun _ => 0)).toArray 29)
  have r0 := crow_new3 w (.cells (svals X r c z).toArray 29) (.cells (mvals 6 6 z1).toArray 27) (.cells (mvals r2 c2 z2).toArray 27) 29 (svals (fun _ => 0) 0 0 (fun _ => 0))
  have B0 : Below w.heap.size w ((((w.alloc (.cells (svals X r c z).toArray 29)).alloc (.cells (mvals 6 6 z1).toArray 27)).alloc (.cells (mvals r2 c2 z2).toArray 27)).alloc (.cells (svals (fun _ => 0) 0 0 (fun _ => 0)).toArray 29)) := below_al (below_al (below_al (below_al (Below.refl _ _) _) _) _) _
  obtain ⟨W, hW⟩ : ∃ W, W = (((w.alloc (.cells (svals X r c z).toArray 29)).alloc (.cells (mvals 6 6 z1).toArray 27)).alloc (.cells (mvals r2 c2 z2).toArray 27)).alloc (.cells (svals (fun _ => 0) 0 0 (fun _ => 0)).toArray 29) := ⟨_, rfl⟩
  rw [← hW] at t0 m0 q0 r0 B0
  have HW := hide hW
  clear hW
  go_enter Try.func7, Try.ntmps7
  go_wp2_with (first
    | (rw [zeroS, ← HW.out]; refine St.wpList_load isS (by rfl) _ (by rfl) _ _ (by rfl) (by with_reducible exact t0) (svals_len _ _ _ _) ?_)
    | fail)
  refine (HC.out _).mono ?_
  rintro e w1 ⟨rfl, k1⟩
  have t1 := CRow.keep t0 k1
  have m1 := m0.keep k1
  have q1 := q0.keep k1
  have r1 := CRow.keep r0 k1
  have B1 := below_tr B0 k1
  clear t0 m0 q0 r0 B0
  go_wp2_with (first
    | (refine Hk.loadM _ (by with_reducible rfl) _ _ _ _ (by rfl) (by with_reducible exact m1) (by kernel_rfl) ?_)
    | fail)
  refine (H1.out _).mono ?_
  rintro e w2 ⟨rfl, k2⟩
  have t2 := CRow.keep t1 k2
  have m2 := m1.keep k2
  have q2 := q1.keep k2
  have r2 := CRow.keep r1 k2
  have B2 := below_tr B1 k2
  clear t1 m1 q1 r1 B1
  go_wp2_with (first
    | (refine Hk.loadM _ (by with_reducible rfl) _ _ _ _ (by rfl) (by with_reducible exact q2) (by kernel_rfl) ?_)
    | fail)
  refine (H2.out _).mono ?_
  rintro e w3 ⟨rfl, k3⟩
  have t3 := CRow.keep t2 k3
  have m3 := m2.keep k3
  have q3 := q2.keep k3
  have r3 := CRow.keep r2 k3
  have B3 := below_tr B2 k3
  clear t2 m2 q2 r2 B2
  go_wp2_with (first
    | (refine Pd.buildS0 (by with_reducible rfl) (by kernel_rfl) ?_)
    | (refine St.wpList_store isS rfl _ _ (by rfl) _ _ _ (by rfl) (by rfl) (by with_reducible exact r3) (svals_len _ _ _ _) (svals_len _ _ _ _) (one_svals _ _ _ _) ?_)
    | fail)
  exact bodyPost_ret (results_3 isS Try.results7 _ _ (w.heap.size + 1 + 1 + 1) _ rfl (CRow.row r3 _) (svals_len _ _ _ _)) rfl ⟨rfl, St.below_row B3 (by omega) _⟩

set_option maxRecDepth 10000 in
set_option maxHeartbeats 4000000 in
theorem pnext_yes (X : Nat → Int) (P F Q : Nat → Nat → Int) (w : World) (hm : MayV X P) (bX : B64 X) (bP : B2 P) (bF : B2 F) (bQ : B2 Q) :
    Calls Try.prog 7 #[.agg (svals X 6 6 (mz 6 6 P)).toArray, .agg (mvals 6 6 (mz 6 6 F)).toArray, .agg (mvals 6 6 (mz 6 6 Q)).toArray] w fun e w' => e = .returned (.tuple #[.agg (svals (nX F X) 6 6 (mz 6 6 (nP F P Q))).toArray, .bool (oP F X P Q), .nilIface]) ∧ Below w.heap.size w w' := by
  have HC : Hid (∀ W, Calls Try.prog 12 #[.agg (svals X 6 6 (mz 6 6 P)).toArray] W fun e w' => e = .returned .nilIface ∧ Below W.heap.size W w') := fun W => pcheck_six X P true W ⟨fun _ => hm, fun _ => rfl⟩
  have H1 := hide (fun W => pisSix_yes (mz 6 6 F) W)
  have H2 := hide (fun W => pisSix_yes (mz 6 6 Q) W)
  have H3 := hide (fun s a W (h : ORow W s a) => pmoved_any s X F a W h bF bX)
  have H4 := hide (fun s a W (h : ORow W s a) => pspread2_any s P F Q a W h bP bF bQ)
  have eO : Hid (oP F X P Q = (oX F X || oS F P Q)) := by
    show (oX F X || oY F P || oZ F P || oW F P Q || oE F P Q) = (oX F X || (oY F P || oZ F P || oW F P Q || oE F P Q))
    cases oX F X <;> rfl
  obtain ⟨zP, hzP⟩ : ∃ z, z = mz 6 6 P := ⟨_, rfl⟩
  obtain ⟨zF, hzF⟩ : ∃ z, z = mz 6 6 F := ⟨_, rfl⟩
  obtain ⟨zQ, hzQ⟩ : ∃ z, z = mz 6 6 Q := ⟨_, rfl⟩
  obtain ⟨zN, hzN⟩ : ∃ z, z = mz 6 6 (nP F P Q) := ⟨_, rfl⟩
  obtain ⟨Y, hY⟩ : ∃ Y, Y = nX F X := ⟨_, rfl⟩
  obtain ⟨x1, hx1⟩ : ∃ q, q = oX F X := ⟨_, rfl⟩
  obtain ⟨x2, hx2⟩ : ∃ q, q = oS F P Q := ⟨_, rfl⟩
  rw [← hx1, ← hx2] at eO
  rw [eO.out]
  rw [← hzP] at HC
  rw [← hzF] at H1
  rw [← hzQ] at H2
  rw [← hzF, ← hY, ← hx1] at H3
  rw [← hzP, ← hzF, ← hzQ, ← hzN, ← hx2] at H4
  rw [← hzP, ← hzF, ← hzQ, ← hzN, ← hY]
  clear hzP hzF hzQ hzN hY hx1 hx2 hm bX bP bF bQ eO
  have t0 := (((crow_new w 29 (svals X 6 6 zP)).alloc (.cells (mvals 6 6 zF).toArray 27)).alloc (.cells (mvals 6 6 zQ).toArray 27)).alloc (.cells (svals (fun _ => 0) 0 0 (fun _ => 0)).toArray 29)
  have m0 := ((mrow_new1 w (.cells (svals X 6 6 zP).toArray 29) 6 6 zF).alloc (.cells (mvals 6 6 zQ).toArray 27)).alloc (.cells (svals (fun _ => 0) 0 0 (fun _ => 0)).toArray 29)
  have q0 := (mrow_new2 w (.cells (svals X 6 6 zP).toArray 29) (.cells (mvals 6 6 zF).toArray 27) 6 6 zQ).alloc (.cells (svals (fun _ => 0) 0 0 (fun _ => 0)).toArray 29)
  have r0 := crow_new3 w (.cells (svals X 6 6 zP).toArray 29) (.cells (mvals 6 6 zF).toArray 27) (.cells (mvals 6 6 zQ).toArray 27) 29 (svals (fun _ => 0) 0 0 (fun _ => 0))
  have B0 : Below w.heap.size w ((((w.alloc (.cells (svals X 6 6 zP).toArray 29)).alloc (.cells (mvals 6 6 zF).toArray 27)).alloc (.cells (mvals 6 6 zQ).toArray 27)).alloc (.cells (svals (fun _ => 0) 0 0 (fun _ => 0)).toArray 29)) := below_al (below_al (below_al (below_al (Below.refl _ _) _) _) _) _
  obtain ⟨W, hW⟩ : ∃ W, W = (((w.alloc (.cells (svals X 6 6 zP).toArray 29)).alloc (.cells (mvals 6 6 zF).toArray 27)).alloc (.cells (mvals 6 6 zQ).toArray 27)).alloc (.cells (svals (fun _ => 0) 0 0 (fun _ => 0)).toArray 29) := ⟨_, rfl⟩
  rw [← hW] at t0 m0 q0 r0 B0
  have HW := hide hW
  clear hW
  go_enter Try.func7, Try.ntmps7
  go_wp2_with (first
    | (rw [zeroS, ← HW.out]; refine St.wpList_load isS (by rfl) _ (by rfl) _ _ (by rfl) (by with_reducible exact t0) (svals_len _ _ _ _) ?_)
    | fail)
  refine (HC.out _).mono ?_
  rintro e w1 ⟨rfl, k1⟩
  have t1 := CRow.keep t0 k1
  have m1 := m0.keep k1
  have q1 := q0.keep k1
  have r1 := CRow.keep r0 k1
  have B1 := below_tr B0 k1
  clear t0 m0 q0 r0 B0
  go_wp2_with (first
    | (refine Hk.loadM _ (by with_reducible rfl) _ _ _ _ (by rfl) (by with_reducible exact m1) (by kernel_rfl) ?_)
    | fail)
  refine (H1.out _).mono ?_
  rintro e w2 ⟨rfl, k2⟩
  have t2 := CRow.keep t1 k2
  have m2 := m1.keep k2
  have q2 := q1.keep k2
  have r2 := CRow.keep r1 k2
  have B2 := below_tr B1 k2
  clear t1 m1 q1 r1 B1
  go_wp2_with (first
    | (refine Hk.loadM _ (by with_reducible rfl) _ _ _ _ (by rfl) (by with_reducible exact q2) (by kernel_rfl) ?_)
    | fail)
  refine (H2.out _).mono ?_
  rintro e w3 ⟨rfl, k3⟩
  have t3 := CRow.keep t2 k3
  have m3 := m2.keep k3
  have q3 := q2.keep k3
  have r3 := CRow.keep r2 k3
  have B3 := below_tr B2 k3
  clear t2 m2 q2 r2 B2
  have s4 := crow_new w3 52 [.bool false]
  have A4 := below_al (Below.refl _ w3) (.cells [.bool false].toArray 52)
  have t4 := CRow.keep t3 A4
  have m4 := m3.keep A4
  have q4 := q3.keep A4
  have r4 := CRow.keep r3 A4
  have B4 := below_tr B3 A4
  have l3 := CRow.lt r3
  obtain ⟨w4, hw4⟩ : ∃ w4, w4 = w3.alloc (.cells [.bool false].toArray 52) := ⟨_, rfl⟩
  rw [← hw4] at s4 t4 m4 q4 r4 B4
  have H4w := hide hw4
  obtain ⟨s, hs⟩ : ∃ s, s = w3.heap.size := ⟨_, rfl⟩
  rw [← hs] at s4 l3
  have Hs := hide hs
  have ls := CRow.lt s4
  clear hw4 hs t3 m3 q3 r3 B3 A4 H1 H2 HC HW
  go_upto_region 4 with (first | (rw [← H4w.out, ← Hs.out]) | fail)
  try rw [← H4w.out, ← Hs.out]
  have hS : ∀ W, But (· = s) w4 W → (SRow W w.heap.size X 6 6 zP ∧ MRow W (w.heap.size + 1) 6 6 zF ∧ MRow W (w.heap.size + 1 + 1) 6 6 zQ) := fun W k => ⟨crowBut t4 k (by omega), mrowBut m4 k (by omega), mrowBut q4 k (by omega)⟩
  have hR : ∀ W, But (· = s) w4 W → SRow W (w.heap.size + 1 + 1 + 1) (fun _ => 0) 0 0 (fun _ => 0) := fun W k => crowBut r4 k (by omega)
  have hB : ∀ W, But (· = s) w4 W → Below w.heap.size w W := fun W k => k.below B4 B4.size (fun q e => by omega)
  have HS := hide hS
  have HR := hide hR
  have HB := hide hB
  have D0 : But (· = s) w4 w4.drew := (But.refl _ _).drew
  have o0 : ORow w4.drew s false := CRow.drew s4
  have z4 : w.heap.size + 1 + 1 + 1 < w4.heap.size := CRow.lt r4
  have HH4 := hide H4
  clear hS hR hB H4 t4 m4 q4 r4 B4 H4w Hs
  refine Ru.wp_region_U [11] (fun w' => SRow w' w.heap.size X 6 6 zP ∧ MRow w' (w.heap.size + 1) 6 6 zF ∧ MRow w' (w.heap.size + 1 + 1) 6 6 zQ) (by kernel_rfl) (HS.out _ D0) (fun hHeld => ?_)
  refine Ru.wpAnyU_take (i := 0) (v := .pointer (some ⟨w.heap.size, 0, none⟩)) rfl (by kernel_rfl) (by kernel_rfl) (by kernel_rfl) (by kernel_rfl) (by kernel_rfl) (by kernel_rfl) (fun _ _ _ h => h) (Or.inl ⟨by kernel_rfl, fun w hS => by obtain ⟨sc0, sc1, sc2⟩ := hS; go_simp⟩) hHeld ?_
  simp only [Act.put, List.getElem_toArray, List.getElem_cons_zero, List.getElem_cons_succ, List.setIfInBounds_toArray, List.set_cons_zero, List.set_cons_succ]
  refine Ru.wpAnyU_take (i := 1) (v := .agg (vals 6 X).toArray) rfl (by kernel_rfl) (by kernel_rfl) (by kernel_rfl) (by kernel_rfl) (by kernel_rfl) (by kernel_rfl) (fun _ _ _ h => h) (Pd.yieldsP is6 (by kernel_rfl) _ (by rfl) w.heap.size 0 _ (by rfl) (fun w h => SRow.rx h.1) (vals_len _ _)) hHeld ?_
  simp only [Act.put, List.getElem_toArray, List.getElem_cons_zero, List.getElem_cons_succ, List.setIfInBounds_toArray, List.set_cons_zero, List.set_cons_succ]
  refine Ru.wpAnyU_take (i := 2) (v := .agg (mvals 6 6 zF).toArray) rfl (by kernel_rfl) (by kernel_rfl) (by kernel_rfl) (by kernel_rfl) (by kernel_rfl) (by kernel_rfl) (fun _ _ _ h => h) (Ru.yieldsM (by kernel_rfl) _ (by rfl) (w.heap.size + 1) 6 6 zF (by rfl) (fun w h => h.2.1)) hHeld ?_
  simp only [Act.put, List.getElem_toArray, List.getElem_cons_zero, List.getElem_cons_succ, List.setIfInBounds_toArray, List.set_cons_zero, List.set_cons_succ]
  refine Ru.wpAnyU_take (i := 4) (v := .pointer (some ⟨w.heap.size, 6, none⟩)) rfl (by kernel_rfl) (by kernel_rfl) (by kernel_rfl) (by kernel_rfl) (by kernel_rfl) (by kernel_rfl) (fun _ _ _ h => h) (Or.inl ⟨by kernel_rfl, fun w hS => by obtain ⟨sc0, sc1, sc2⟩ := hS; go_simp⟩) hHeld ?_
  simp only [Act.put, List.getElem_toArray, List.getElem_cons_zero, List.getElem_cons_succ, List.setIfInBounds_toArray, List.set_cons_zero, List.set_cons_succ]
  refine Ru.wpAnyU_take (i := 5) (v := .agg (mvals 6 6 zP).toArray) rfl (by kernel_rfl) (by kernel_rfl) (by kernel_rfl) (by kernel_rfl) (by kernel_rfl) (by kernel_rfl) (fun _ _ _ h => h) (Pd.yieldsP isMt (by kernel_rfl) _ (by rfl) w.heap.size 6 _ (by rfl) (fun w h => SRow.rm h.1) (mvals_len _ _ _)) hHeld ?_
  simp only [Act.put, List.getElem_toArray, List.getElem_cons_zero, List.getElem_cons_succ, List.setIfInBounds_toArray, List.set_cons_zero, List.set_cons_succ]
  refine Ru.wpAnyU_take (i := 6) (v := .agg (mvals 6 6 zF).toArray) rfl (by kernel_rfl) (by kernel_rfl) (by kernel_rfl) (by kernel_rfl) (by kernel_rfl) (by kernel_rfl) (fun _ _ _ h => h) (Ru.yieldsM (by kernel_rfl) _ (by rfl) (w.heap.size + 1) 6 6 zF (by rfl) (fun w h => h.2.1)) hHeld ?_
  simp only [Act.put, List.getElem_toArray, List.getElem_cons_zero, List.getElem_cons_succ, List.setIfInBounds_toArray, List.set_cons_zero, List.set_cons_succ]
  refine Ru.wpAnyU_take (i := 7) (v := .agg (mvals 6 6 zQ).toArray) rfl (by kernel_rfl) (by kernel_rfl) (by kernel_rfl) (by kernel_rfl) (by kernel_rfl) (by kernel_rfl) (fun _ _ _ h => h) (Ru.yieldsM (by kernel_rfl) _ (by rfl) (w.heap.size + 1 + 1) 6 6 zQ (by rfl) (fun w h => h.2.2)) hHeld ?_
  simp only [Act.put, List.getElem_toArray, List.getElem_cons_zero, List.getElem_cons_succ, List.setIfInBounds_toArray, List.set_cons_zero, List.set_cons_succ]
  refine Ru.wpAnyU_ready (rs := [3, 10]) (by kernel_rfl) (by simp) ?_
  refine Ru.AllReadyU.cons rfl (by kernel_rfl) (fun K hK => ?_) ?_
  · go_simp
    refine (H3.out s _ _ o0).mono ?_
    rintro e v_1 ⟨rfl, o_1, k_1⟩
    have D_1 := D0.trans k_1
    go_wp2_with fail
    refine hK.out _ _ (HS.out _ D_1) (fun hHeld => ?_)
    clear hK K
    try simp only [Act.put, List.getElem_toArray, List.getElem_cons_zero, List.getElem_cons_succ, List.setIfInBounds_toArray, List.set_cons_zero, List.set_cons_succ]
    refine Ru.wpAnyU_ready (rs := [8, 10]) (by kernel_rfl) (by simp) ?_
    refine Ru.AllReadyU.cons rfl (by kernel_rfl) (fun K hK => ?_) ?_
    · go_simp
      refine (HH4.out s _ _ o_1).mono ?_
      rintro e v_2 ⟨rfl, o_2, k_2⟩
      have D_2 := D_1.trans k_2
      go_wp2_with fail
      refine hK.out _ _ (HS.out _ D_2) (fun hHeld => ?_)
      clear hK K
      try simp only [Act.put, List.getElem_toArray, List.getElem_cons_zero, List.getElem_cons_succ, List.setIfInBounds_toArray, List.set_cons_zero, List.set_cons_succ]
      refine Ru.wpAnyU_take (i := 9) (v := .agg (svals Y 6 6 zN).toArray) rfl (by kernel_rfl) (by kernel_rfl) (by kernel_rfl) (by kernel_rfl) (by kernel_rfl) (by kernel_rfl) (fun _ _ _ h => h) (Pd.yieldsB (by kernel_rfl) _ _ (by rfl) Y 6 6 zN (by rfl) (by rfl)) hHeld ?_
      simp only [Act.put, List.getElem_toArray, List.getElem_cons_zero, List.getElem_cons_succ, List.setIfInBounds_toArray, List.set_cons_zero, List.set_cons_succ]
      refine Ru.wpAnyU_ready (rs := [10]) (by kernel_rfl) (by simp) ?_
      refine Ru.AllReadyU.cons rfl (by kernel_rfl) (fun K hK => ?_) Ru.AllReadyU.nil
      go_simp
      try rw [zeroS]
      have n_3 : CRow (v_2.alloc (.cells (svals (fun _ => 0) 0 0 (fun _ => 0)).toArray 29)) v_2.heap.size 29 (svals (fun _ => 0) 0 0 (fun _ => 0)) := crow_new v_2 29 (svals (fun _ => 0) 0 0 (fun _ => 0))
      have a_3 := below_al (Below.refl _ v_2) (.cells (svals (fun _ => 0) 0 0 (fun _ => 0)).toArray 29)
      have D_3 := D_2.then a_3
      have o_3 := CRow.keep o_2 a_3
      have g_3 := D_2.size
      refine hK.out _ _ (HS.out _ D_3) (fun hHeld => ?_)
      clear hK K
      try simp only [Act.put, List.getElem_toArray, List.getElem_cons_zero, List.getElem_cons_succ, List.setIfInBounds_toArray, List.set_cons_zero, List.set_cons_succ]
      refine Ru.wpAnyU_ready (rs := [11]) (by kernel_rfl) (by simp) ?_
      refine Ru.AllReadyU.cons2 rfl (by kernel_rfl) (fun K hK => ?_) Ru.AllReadyU.nil
      refine Ru.stepC isS (by kernel_rfl) _ _ (by rfl) (v_2.heap.size) _ (svals Y 6 6 zN) (by rfl) (by rfl) n_3 (svals_len _ _ _ _) (svals_len _ _ _ _) (one_svals _ _ _ _) ?_
      have nE := CRow.row n_3 (svals Y 6 6 zN)
      have oE := CRow.rowOther o_3 (g := v_2.heap.size) (by omega) (svals Y 6 6 zN).toArray
      have rE := CRow.rowOther (HR.out _ D_3) (g := v_2.heap.size) (by omega) (svals Y 6 6 zN).toArray
      have bE := St.below_row (HB.out _ D_3) (g := v_2.heap.size) (by omega) (svals Y 6 6 zN).toArray
      have gz : s < v_2.heap.size := by omega
      have gr : w.heap.size + 1 + 1 + 1 ≠ v_2.heap.size := by omega
      obtain ⟨g, hg⟩ : ∃ g, g = v_2.heap.size := ⟨_, rfl⟩
      rw [← hg] at nE oE rE bE gz gr ⊢
      refine hK.out _ _ ?_
      clear hK K
      clear HS HR HB D0 o0 H3 HH4
      generalize (World.setRow _ g (svals Y 6 6 zN).toArray) = wE at *
      try simp only [Act.put, List.getElem_toArray, List.getElem_cons_zero, List.getElem_cons_succ, List.setIfInBounds_toArray, List.set_cons_zero, List.set_cons_succ]
      refine wpAny_done (by kernel_rfl) ?_ _
      have c5 := ORow.o oE
      go_upto_region 5 with fail
      refine Ru.wp_region_U [5] (fun w' => SRow w' g Y 6 6 zN ∧ w'.cell? ⟨s, 0, none⟩ = some (.bool (false || x1 || x2))) (by kernel_rfl) ⟨CRow.drew nE, c5⟩ (fun hHeld => ?_)
      refine Ru.wpAnyU_take (i := 0) (v := .agg (svals Y 6 6 zN).toArray) rfl (by kernel_rfl) (by kernel_rfl) (by kernel_rfl) (by kernel_rfl) (by kernel_rfl) (by kernel_rfl) (fun _ _ _ h => h) (Ru.yieldsC isS (by kernel_rfl) _ (by rfl) g _ (by rfl) (fun w h => h.1) (svals_len _ _ _ _)) hHeld ?_
      simp only [Act.put, List.getElem_toArray, List.getElem_cons_zero, List.getElem_cons_succ, List.setIfInBounds_toArray, List.set_cons_zero, List.set_cons_succ]
      refine Ru.wpAnyU_take (i := 1) (v := .pointer (some ⟨s, 0, none⟩)) rfl (by kernel_rfl) (by kernel_rfl) (by kernel_rfl) (by kernel_rfl) (by kernel_rfl) (by kernel_rfl) (fun _ _ _ h => h) (Or.inl ⟨by kernel_rfl, fun w hS => by obtain ⟨sc0, sc1⟩ := hS; go_simp⟩) hHeld ?_
      simp only [Act.put, List.getElem_toArray, List.getElem_cons_zero, List.getElem_cons_succ, List.setIfInBounds_toArray, List.set_cons_zero, List.set_cons_succ]
      refine Ru.wpAnyU_take (i := 2) (v := .bool (false || x1 || x2)) rfl (by kernel_rfl) (by kernel_rfl) (by kernel_rfl) (by kernel_rfl) (by kernel_rfl) (by kernel_rfl) (fun _ _ _ h => h) (Or.inl ⟨by kernel_rfl, fun w hS => by obtain ⟨sc0, sc1⟩ := hS; go_simp⟩) hHeld ?_
      simp only [Act.put, List.getElem_toArray, List.getElem_cons_zero, List.getElem_cons_succ, List.setIfInBounds_toArray, List.set_cons_zero, List.set_cons_succ]
      refine Ru.wpAnyU_ready (rs := [3]) (by kernel_rfl) (by simp) ?_
      refine Ru.AllReadyU.cons rfl (by kernel_rfl) (fun K hK => ?_) Ru.AllReadyU.nil
      refine Ru.stepC isS (by kernel_rfl) _ _ (by rfl) (w.heap.size + 1 + 1 + 1) _ (svals Y 6 6 zN) (by rfl) (by rfl) (CRow.drew rE) (svals_len _ _ _ _) (svals_len _ _ _ _) (one_svals _ _ _ _) ?_
      have nF : SRow (wE.drew.setRow (w.heap.size + 1 + 1 + 1) (svals Y 6 6 zN).toArray) g Y 6 6 zN := CRow.rowOther (CRow.drew nE) (by omega) _
      have oF : ORow (wE.drew.setRow (w.heap.size + 1 + 1 + 1) (svals Y 6 6 zN).toArray) s (false || x1 || x2) := CRow.rowOther (CRow.drew oE) (by omega) _
      have rF : SRow (wE.drew.setRow (w.heap.size + 1 + 1 + 1) (svals Y 6 6 zN).toArray) (w.heap.size + 1 + 1 + 1) Y 6 6 zN := CRow.row (CRow.drew rE) _
      have bF := St.below_row bE.drew (g := w.heap.size + 1 + 1 + 1) (by omega) (svals Y 6 6 zN).toArray
      refine hK.out _ _ ⟨nF, ORow.o oF⟩ (fun hHeld => ?_)
      clear hK K
      try simp only [Act.put, List.getElem_toArray, List.getElem_cons_zero, List.getElem_cons_succ, List.setIfInBounds_toArray, List.set_cons_zero, List.set_cons_succ]
      refine Ru.wpAnyU_take (i := 4) (v := .bool (false || x1 || x2)) rfl (by kernel_rfl) (by kernel_rfl) (by kernel_rfl) (by kernel_rfl) (by kernel_rfl) (by kernel_rfl) (fun _ _ _ h => h) (Or.inl ⟨by kernel_rfl, fun w hS => by obtain ⟨sc0, sc1⟩ := hS; go_simp⟩) hHeld ?_
      simp only [Act.put, List.getElem_toArray, List.getElem_cons_zero, List.getElem_cons_succ, List.setIfInBounds_toArray, List.set_cons_zero, List.set_cons_succ]
      refine Ru.wpAnyU_ready (rs := [5]) (by kernel_rfl) (by simp) ?_
      refine Ru.AllReadyU.cons2 rfl (by kernel_rfl) (fun K hK => ?_) Ru.AllReadyU.nil
      go_simp
      refine hK.out _ _ ?_
      clear hK K
      try simp only [Act.put, List.getElem_toArray, List.getElem_cons_zero, List.getElem_cons_succ, List.setIfInBounds_toArray, List.set_cons_zero, List.set_cons_succ]
      refine wpAny_done (by kernel_rfl) ?_ _
      go_wp2
      exact bodyPost_ret (results_3 isS Try.results7 _ _ (w.heap.size + 1 + 1 + 1) _ rfl rF (svals_len _ _ _ _)) rfl ⟨by simp, bF⟩
    refine Ru.AllReadyU.cons rfl (by kernel_rfl) (fun K hK => ?_) Ru.AllReadyU.nil
    go_simp
    try rw [zeroS]
    have n_4 : CRow (v_1.alloc (.cells (svals (fun _ => 0) 0 0 (fun _ => 0)).toArray 29)) v_1.heap.size 29 (svals (fun _ => 0) 0 0 (fun _ => 0)) := crow_new v_1 29 (svals (fun _ => 0) 0 0 (fun _ => 0))
    have a_4 := below_al (Below.refl _ v_1) (.cells (svals (fun _ => 0) 0 0 (fun _ => 0)).toArray 29)
    have D_4 := D_1.then a_4
    have o_4 := CRow.keep o_1 a_4
    have g_4 := D_1.size
    refine hK.out _ _ (HS.out _ D_4) (fun hHeld => ?_)
    clear hK K
    try simp only [Act.put, List.getElem_toArray, List.getElem_cons_zero, List.getElem_cons_succ, List.setIfInBounds_toArray, List.set_cons_zero, List.set_cons_succ]
    refine Ru.wpAnyU_ready (rs := [8]) (by kernel_rfl) (by simp) ?_
    refine Ru.AllReadyU.cons rfl (by kernel_rfl) (fun K hK => ?_) Ru.AllReadyU.nil
    go_simp
    refine (HH4.out s _ _ o_4).mono ?_
    rintro e v_5 ⟨rfl, o_5, k_5⟩
    have D_5 := D_4.trans k_5
    have n_5 := crowBut n_4 k_5 (by omega)
    go_wp2_with fail
    refine hK.out _ _ (HS.out _ D_5) (fun hHeld => ?_)
    clear hK K
    try simp only [Act.put, List.getElem_toArray, List.getElem_cons_zero, List.getElem_cons_succ, List.setIfInBounds_toArray, List.set_cons_zero, List.set_cons_succ]
    refine Ru.wpAnyU_take (i := 9) (v := .agg (svals Y 6 6 zN).toArray) rfl (by kernel_rfl) (by kernel_rfl) (by kernel_rfl) (by kernel_rfl) (by kernel_rfl) (by kernel_rfl) (fun _ _ _ h => h) (Pd.yieldsB (by kernel_rfl) _ _ (by rfl) Y 6 6 zN (by rfl) (by rfl)) hHeld ?_
    simp only [Act.put, List.getElem_toArray, List.getElem_cons_zero, List.getElem_cons_succ, List.setIfInBounds_toArray, List.set_cons_zero, List.set_cons_succ]
    refine Ru.wpAnyU_ready (rs := [11]) (by kernel_rfl) (by simp) ?_
    refine Ru.AllReadyU.cons2 rfl (by kernel_rfl) (fun K hK => ?_) Ru.AllReadyU.nil
    refine Ru.stepC isS (by kernel_rfl) _ _ (by rfl) (v_1.heap.size) _ (svals Y 6 6 zN) (by rfl) (by rfl) n_5 (svals_len _ _ _ _) (svals_len _ _ _ _) (one_svals _ _ _ _) ?_
    have nE := CRow.row n_5 (svals Y 6 6 zN)
    have oE := CRow.rowOther o_5 (g := v_1.heap.size) (by omega) (svals Y 6 6 zN).toArray
    have rE := CRow.rowOther (HR.out _ D_5) (g := v_1.heap.size) (by omega) (svals Y 6 6 zN).toArray
    have bE := St.below_row (HB.out _ D_5) (g := v_1.heap.size) (by omega) (svals Y 6 6 zN).toArray
    have gz : s < v_1.heap.size := by omega
    have gr : w.heap.size + 1 + 1 + 1 ≠ v_1.heap.size := by omega
    obtain ⟨g, hg⟩ : ∃ g, g = v_1.heap.size := ⟨_, rfl⟩
    rw [← hg] at nE oE rE bE gz gr ⊢
    refine hK.out _ _ ?_
    clear hK K
    clear HS HR HB D0 o0 H3 HH4
    generalize (World.setRow _ g (svals Y 6 6 zN).toArray) = wE at *
    try simp only [Act.put, List.getElem_toArray, List.getElem_cons_zero, List.getElem_cons_succ, List.setIfInBounds_toArray, List.set_cons_zero, List.set_cons_succ]
    refine wpAny_done (by kernel_rfl) ?_ _
    have c5 := ORow.o oE
    go_upto_region 5 with fail
    refine Ru.wp_region_U [5] (fun w' => SRow w' g Y 6 6 zN ∧ w'.cell? ⟨s, 0, none⟩ = some (.bool (false || x1 || x2))) (by kernel_rfl) ⟨CRow.drew nE, c5⟩ (fun hHeld => ?_)
    refine Ru.wpAnyU_take (i := 0) (v := .agg (svals Y 6 6 zN).toArray) rfl (by kernel_rfl) (by kernel_rfl) (by kernel_rfl) (by kernel_rfl) (by kernel_rfl) (by kernel_rfl) (fun _ _ _ h => h) (Ru.yieldsC isS (by kernel_rfl) _ (by rfl) g _ (by rfl) (fun w h => h.1) (svals_len _ _ _ _)) hHeld ?_
    simp only [Act.put, List.getElem_toArray, List.getElem_cons_zero, List.getElem_cons_succ, List.setIfInBounds_toArray, List.set_cons_zero, List.set_cons_succ]
    refine Ru.wpAnyU_take (i := 1) (v := .pointer (some ⟨s, 0, none⟩)) rfl (by kernel_rfl) (by kernel_rfl) (by kernel_rfl) (by kernel_rfl) (by kernel_rfl) (by kernel_rfl) (fun _ _ _ h => h) (Or.inl ⟨by kernel_rfl, fun w hS => by obtain ⟨sc0, sc1⟩ := hS; go_simp⟩) hHeld ?_
    simp only [Act.put, List.getElem_toArray, List.getElem_cons_zero, List.getElem_cons_succ, List.setIfInBounds_toArray, List.set_cons_zero, List.set_cons_succ]
    refine Ru.wpAnyU_take (i := 2) (v := .bool (false || x1 || x2)) rfl (by kernel_rfl) (by kernel_rfl) (by kernel_rfl) (by kernel_rfl) (by kernel_rfl) (by kernel_rfl) (fun _ _ _ h => h) (Or.inl ⟨by kernel_rfl, fun w hS => by obtain ⟨sc0, sc1⟩ := hS; go_simp⟩) hHeld ?_
    simp only [Act.put, List.getElem_toArray, List.getElem_cons_zero, List.getElem_cons_succ, List.setIfInBounds_toArray, List.set_cons_zero, List.set_cons_succ]
    refine Ru.wpAnyU_ready (rs := [3]) (by kernel_rfl) (by simp) ?_
    refine Ru.AllReadyU.cons rfl (by kernel_rfl) (fun K hK => ?_) Ru.AllReadyU.nil
    refine Ru.stepC isS (by kernel_rfl) _ _ (by rfl) (w.heap.size + 1 + 1 + 1) _ (svals Y 6 6 zN) (by rfl) (by rfl) (CRow.drew rE) (svals_len _ _ _ _) (svals_len _ _ _ _) (one_svals _ _ _ _) ?_
    have nF : SRow (wE.drew.setRow (w.heap.size + 1 + 1 + 1) (svals Y 6 6 zN).toArray) g Y 6 6 zN := CRow.rowOther (CRow.drew nE) (by omega) _
    have oF : ORow (wE.drew.setRow (w.heap.size + 1 + 1 + 1) (svals Y 6 6 zN).toArray) s (false || x1 || x2) := CRow.rowOther (CRow.drew oE) (by omega) _
    have rF : SRow (wE.drew.setRow (w.heap.size + 1 + 1 + 1) (svals Y 6 6 zN).toArray) (w.heap.size + 1 + 1 + 1) Y 6 6 zN := CRow.row (CRow.drew rE) _
    have bF := St.below_row bE.drew (g := w.heap.size + 1 + 1 + 1) (by omega) (svals Y 6 6 zN).toArray
    refine hK.out _ _ ⟨nF, ORow.o oF⟩ (fun hHeld => ?_)
    clear hK K
    try simp only [Act.put, List.getElem_toArray, List.getElem_cons_zero, List.getElem_cons_succ, List.setIfInBounds_toArray, List.set_cons_zero, List.set_cons_succ]
    refine Ru.wpAnyU_take (i := 4) (v := .bool (false || x1 || x2)) rfl (by kernel_rfl) (by kernel_rfl) (by kernel_rfl) (by kernel_rfl) (by kernel_rfl) (by kernel_rfl) (fun _ _ _ h => h) (Or.inl ⟨by kernel_rfl, fun w hS => by obtain ⟨sc0, sc1⟩ := hS; go_simp⟩) hHeld ?_
    simp only [Act.put, List.getElem_toArray, List.getElem_cons_zero, List.getElem_cons_succ, List.setIfInBounds_toArray, List.set_cons_zero, List.set_cons_succ]
    refine Ru.wpAnyU_ready (rs := [5]) (by kernel_rfl) (by simp) ?_
    refine Ru.AllReadyU.cons2 rfl (by kernel_rfl) (fun K hK => ?_) Ru.AllReadyU.nil
    go_simp
    refine hK.out _ _ ?_
    clear hK K
    try simp only [Act.put, List.getElem_toArray, List.getElem_cons_zero, List.getElem_cons_succ, List.setIfInBounds_toArray, List.set_cons_zero, List.set_cons_succ]
    refine wpAny_done (by kernel_rfl) ?_ _
    go_wp2
    exact bodyPost_ret (results_3 isS Try.results7 _ _ (w.heap.size + 1 + 1 + 1) _ rfl rF (svals_len _ _ _ _)) rfl ⟨by simp, bF⟩
  refine Ru.AllReadyU.cons rfl (by kernel_rfl) (fun K hK => ?_) Ru.AllReadyU.nil
  go_simp
  try rw [zeroS]
  have n_6 : CRow (w4.drew.alloc (.cells (svals (fun _ => 0) 0 0 (fun _ => 0)).toArray 29)) w4.heap.size 29 (svals (fun _ => 0) 0 0 (fun _ => 0)) := crow_new w4.drew 29 (svals (fun _ => 0) 0 0 (fun _ => 0))
  have a_6 := below_al (Below.refl _ w4.drew) (.cells (svals (fun _ => 0) 0 0 (fun _ => 0)).toArray 29)
  have D_6 := D0.then a_6
  have o_6 := CRow.keep o0 a_6
  have g_6 := D0.size
  have e_6 : w4.drew.heap.size = w4.heap.size := rfl
  refine hK.out _ _ (HS.out _ D_6) (fun hHeld => ?_)
  clear hK K
  try simp only [Act.put, List.getElem_toArray, List.getElem_cons_zero, List.getElem_cons_succ, List.setIfInBounds_toArray, List.set_cons_zero, List.set_cons_succ]
  refine Ru.wpAnyU_ready (rs := [3]) (by kernel_rfl) (by simp) ?_
  refine Ru.AllReadyU.cons rfl (by kernel_rfl) (fun K hK => ?_) Ru.AllReadyU.nil
  go_simp
  refine (H3.out s _ _ o_6).mono ?_
  rintro e v_7 ⟨rfl, o_7, k_7⟩
  have D_7 := D_6.trans k_7
  have n_7 := crowBut n_6 k_7 (by omega)
  go_wp2_with fail
  refine hK.out _ _ (HS.out _ D_7) (fun hHeld => ?_)
  clear hK K
  try simp only [Act.put, List.getElem_toArray, List.getElem_cons_zero, List.getElem_cons_succ, List.setIfInBounds_toArray, List.set_cons_zero, List.set_cons_succ]
  refine Ru.wpAnyU_ready (rs := [8]) (by kernel_rfl) (by simp) ?_
  refine Ru.AllReadyU.cons rfl (by kernel_rfl) (fun K hK => ?_) Ru.AllReadyU.nil
  go_simp
  refine (HH4.out s _ _ o_7).mono ?_
  rintro e v_8 ⟨rfl, o_8, k_8⟩
  have D_8 := D_7.trans k_8
  have n_8 := crowBut n_7 k_8 (by omega)
  go_wp2_with fail
  refine hK.out _ _ (HS.out _ D_8) (fun hHeld => ?_)
  clear hK K
  try simp only [Act.put, List.getElem_toArray, List.getElem_cons_zero, List.getElem_cons_succ, List.setIfInBounds_toArray, List.set_cons_zero, List.set_cons_succ]
  refine Ru.wpAnyU_take (i := 9) (v := .agg (svals Y 6 6 zN).toArray) rfl (by kernel_rfl) (by kernel_rfl) (by kernel_rfl) (by kernel_rfl) (by kernel_rfl) (by kernel_rfl) (fun _ _ _ h => h) (Pd.yieldsB (by kernel_rfl) _ _ (by rfl) Y 6 6 zN (by rfl) (by rfl)) hHeld ?_
  simp only [Act.put, List.getElem_toArray, List.getElem_cons_zero, List.getElem_cons_succ, List.setIfInBounds_toArray, List.set_cons_zero, List.set_cons_succ]
  refine Ru.wpAnyU_ready (rs := [11]) (by kernel_rfl) (by simp) ?_
  refine Ru.AllReadyU.cons2 rfl (by kernel_rfl) (fun K hK => ?_) Ru.AllReadyU.nil
  refine Ru.stepC isS (by kernel_rfl) _ _ (by rfl) (w4.heap.size) _ (svals Y 6 6 zN) (by rfl) (by rfl) n_8 (svals_len _ _ _ _) (svals_len _ _ _ _) (one_svals _ _ _ _) ?_
  have nE := CRow.row n_8 (svals Y 6 6 zN)
  have oE := CRow.rowOther o_8 (g := w4.heap.size) (by omega) (svals Y 6 6 zN).toArray
  have rE := CRow.rowOther (HR.out _ D_8) (g := w4.heap.size) (by omega) (svals Y 6 6 zN).toArray
  have bE := St.below_row (HB.out _ D_8) (g := w4.heap.size) (by omega) (svals Y 6 6 zN).toArray
  have gz : s < w4.heap.size := by omega
  have gr : w.heap.size + 1 + 1 + 1 ≠ w4.heap.size := by omega
  obtain ⟨g, hg⟩ : ∃ g, g = w4.heap.size := ⟨_, rfl⟩
  rw [← hg] at nE oE rE bE gz gr ⊢
  refine hK.out _ _ ?_
  clear hK K
  clear HS HR HB D0 o0 H3 HH4
  generalize (World.setRow _ g (svals Y 6 6 zN).toArray) = wE at *
  try simp only [Act.put, List.getElem_toArray, List.getElem_cons_zero, List.getElem_cons_succ, List.setIfInBounds_toArray, List.set_cons_zero, List.set_cons_succ]
  refine wpAny_done (by kernel_rfl) ?_ _
  have c5 := ORow.o oE
  go_upto_region 5 with fail
  refine Ru.wp_region_U [5] (fun w' => SRow w' g Y 6 6 zN ∧ w'.cell? ⟨s, 0, none⟩ = some (.bool (false || x1 || x2))) (by kernel_rfl) ⟨CRow.drew nE, c5⟩ (fun hHeld => ?_)
  refine Ru.wpAnyU_take (i := 0) (v := .agg (svals Y 6 6 zN).toArray) rfl (by kernel_rfl) (by kernel_rfl) (by kernel_rfl) (by kernel_rfl) (by kernel_rfl) (by kernel_rfl) (fun _ _ _ h => h) (Ru.yieldsC isS (by kernel_rfl) _ (by rfl) g _ (by rfl) (fun w h => h.1) (svals_len _ _ _ _)) hHeld ?_
  simp only [Act.put, List.getElem_toArray, List.getElem_cons_zero, List.getElem_cons_succ, List.setIfInBounds_toArray, List.set_cons_zero, List.set_cons_succ]
  refine Ru.wpAnyU_take (i := 1) (v := .pointer (some ⟨s, 0, none⟩)) rfl (by kernel_rfl) (by kernel_rfl) (by kernel_rfl) (by kernel_rfl) (by kernel_rfl) (by kernel_rfl) (fun _ _ _ h => h) (Or.inl ⟨by kernel_rfl, fun w hS => by obtain ⟨sc0, sc1⟩ := hS; go_simp⟩) hHeld ?_
  simp only [Act.put, List.getElem_toArray, List.getElem_cons_zero, List.getElem_cons_succ, List.setIfInBounds_toArray, List.set_cons_zero, List.set_cons_succ]
  refine Ru.wpAnyU_take (i := 2) (v := .bool (false || x1 || x2)) rfl (by kernel_rfl) (by kernel_rfl) (by kernel_rfl) (by kernel_rfl) (by kernel_rfl) (by kernel_rfl) (fun _ _ _ h => h) (Or.inl ⟨by kernel_rfl, fun w hS => by obtain ⟨sc0, sc1⟩ := hS; go_simp⟩) hHeld ?_
  simp only [Act.put, List.getElem_toArray, List.getElem_cons_zero, List.getElem_cons_succ, List.setIfInBounds_toArray, List.set_cons_zero, List.set_cons_succ]
  refine Ru.wpAnyU_ready (rs := [3]) (by kernel_rfl) (by simp) ?_
  refine Ru.AllReadyU.cons rfl (by kernel_rfl) (fun K hK => ?_) Ru.AllReadyU.nil
  refine Ru.stepC isS (by kernel_rfl) _ _ (by rfl) (w.heap.size + 1 + 1 + 1) _ (svals Y 6 6 zN) (by rfl) (by rfl) (CRow.drew rE) (svals_len _ _ _ _) (svals_len _ _ _ _) (one_svals _ _ _ _) ?_
  have nF : SRow (wE.drew.setRow (w.heap.size + 1 + 1 + 1) (svals Y 6 6 zN).toArray) g Y 6 6 zN := CRow.rowOther (CRow.drew nE) (by omega) _
  have oF : ORow (wE.drew.setRow (w.heap.size + 1 + 1 + 1) (svals Y 6 6 zN).toArray) s (false || x1 || x2) := CRow.rowOther (CRow.drew oE) (by omega) _
  have rF : SRow (wE.drew.setRow (w.heap.size + 1 + 1 + 1) (svals Y 6 6 zN).toArray) (w.heap.size + 1 + 1 + 1) Y 6 6 zN := CRow.row (CRow.drew rE) _
  have bF := St.below_row bE.drew (g := w.heap.size + 1 + 1 + 1) (by omega) (svals Y 6 6 zN).toArray
  refine hK.out _ _ ⟨nF, ORow.o oF⟩ (fun hHeld => ?_)
  clear hK K
  try simp only [Act.put, List.getElem_toArray, List.getElem_cons_zero, List.getElem_cons_succ, List.setIfInBounds_toArray, List.set_cons_zero, List.set_cons_succ]
  refine Ru.wpAnyU_take (i := 4) (v := .bool (false || x1 || x2)) rfl (by kernel_rfl) (by kernel_rfl) (by kernel_rfl) (by kernel_rfl) (by kernel_rfl) (by kernel_rfl) (fun _ _ _ h => h) (Or.inl ⟨by kernel_rfl, fun w hS => by obtain ⟨sc0, sc1⟩ := hS; go_simp⟩) hHeld ?_
  simp only [Act.put, List.getElem_toArray, List.getElem_cons_zero, List.getElem_cons_succ, List.setIfInBounds_toArray, List.set_cons_zero, List.set_cons_succ]
  refine Ru.wpAnyU_ready (rs := [5]) (by kernel_rfl) (by simp) ?_
  refine Ru.AllReadyU.cons2 rfl (by kernel_rfl) (fun K hK => ?_) Ru.AllReadyU.nil
  go_simp
  refine hK.out _ _ ?_
  clear hK K
  try simp only [Act.put, List.getElem_toArray, List.getElem_cons_zero, List.getElem_cons_succ, List.setIfInBounds_toArray, List.set_cons_zero, List.set_cons_succ]
  refine wpAny_done (by kernel_rfl) ?_ _
  go_wp2
  exact bodyPost_ret (results_3 isS Try.results7 _ _ (w.heap.size + 1 + 1 + 1) _ rfl rF (svals_len _ _ _ _)) rfl ⟨by simp, bF⟩
end Go.Proofs.Ytbdcbobmfkdalaa

/-
  States of package predict: Blank; what must come whatever the input is.
-/
set_option linter.unusedSimpArgs false
set_option linter.unusedVariables false
namespace Go.Proofs.Ytbdcbobmfkdalaa
open Go.RowKit Vc St Mt Cm Ld Pd Pr Qn Dt
attribute [local go_sem ↓] Go.wp_at_zero Go.wp_at_succ

namespace Pd
def six (a b c d e f : Int) : Nat → Int
  | 0 => a
  | 1 => b
  | 2 => c
  | 3 => d
  | 4 => e
  | _ => f
theorem vals_six (a b c d e f : Int) : vals 6 (six a b c d e f) = [.int .i64 a, .int .i64 b, .int .i64 c, .int .i64 d, .int .i64 e, .int .i64 f] := rfl
theorem vals_four (a b c d e f : Int) : vals 4 (six a b c d e f) = [.int .i64 a, .int .i64 b, .int .i64 c, .int .i64 d] := rfl
theorem arr_six (a b c d e f : Int) : #[.int .i64 a, .int .i64 b, .int .i64 c, .int .i64 d, .int .i64 e, .int .i64 f] = (vals 6 (six a b c d e f)).toArray := rfl
theorem arr_four (a b c d e f : Int) : #[.int .i64 a, .int .i64 b, .int .i64 c, .int .i64 d] = (vals 4 (six a b c d e f)).toArray := rfl
theorem crow_sl {w : World} {g : Nat} {t : TypeId} {n : Nat} {z : Nat → Int} (h : CRow w g t (vals n z)) (hn : n ≤ 9223372036854775807) : Sl w (some ⟨g, 0, none⟩) n n z :=
  ⟨Nat.le_refl _, hn, fun k hk => ⟨_, rfl, by rw [Addr.add_lit]; exact h.cell (vals_at hk) (by omega)⟩⟩
/-- What is known at first: the numbers of the diagonal. -/
def bP (D : Nat → Int) : Nat → Nat → Int := wd (fun _ _ => 0) D
theorem mz_zero (k : Nat) : mz 6 6 (fun _ _ => 0) k = 0 := by unfold mz mpart; split <;> rfl
theorem wdk_bP (D : Nat → Int) : mvals 6 6 (wdk (fun _ => 0) D 6) = mvals 6 6 (mz 6 6 (bP D)) := by
  refine mvals_congr fun k hk => ?_
  have e := wdk_mz (fun _ _ => 0) D k hk
  unfold bP
  rw [← e]
  unfold wdk
  rw [mz_zero]
theorem blank_may {X D : Nat → Int} (h : ∀ k, k < 6 → InV (X k)) (h' : ∀ k, k < 6 → 1 ≤ D k ∧ D k ≤ 4611686018427387903) : MayV X (bP D) := fun i hi => by
  refine ⟨h i hi, ?_, fun j hj => ⟨?_, ?_⟩⟩
  · unfold bP wd; rw [if_pos rfl]; have := h' i hi; omega
  · unfold bP wd
    split
    · have := h' i hi; exact ⟨by omega, by omega⟩
    · exact (show InV 0 from ⟨by omega, by omega⟩)
  · unfold bP wd
    by_cases e : i = j
    · subst e; rfl
    · rw [if_neg e, if_neg (fun q => e q.symm)]
theorem bP_b2 {D : Nat → Int} (h : B64 D) : B2 (bP D) := fun i j => by
  show _ ≤ (if i = j then D i else 0) ∧ (if i = j then D i else 0) ≤ _
  split
  · exact h i
  · omega
end Pd

set_option maxRecDepth 10000 in
set_option maxHeartbeats 1000000 in
theorem pblank_far (x y vx vy n f p : Int) (w : World) (h : ¬ ∀ k, k < 4 → InV (six x y vx vy 0 0 k)) :
    Calls Try.prog 19 #[.int .i64 x, .int .i64 y, .int .i64 vx, .int .i64 vy, .int .i64 n, .int .i64 f, .int .i64 p] w fun e w' => e = .returned (.tuple #[.agg (svals (fun _ => 0) 0 0 (fun _ => 0)).toArray, .iface 50 (.int .i64 1)]) ∧ Below w.heap.size w w' := by
  have HB := hide (fun ao W (q : Sl W ao 4 4 (six x y vx vy 0 0)) => pbounded_any false ao 4 4 _ W q ⟨fun c => (by cases c), fun c => absurd c h⟩)
  clear h
  have r0 := (crow_new w 29 (svals (fun _ => 0) 0 0 (fun _ => 0)))
  have B0 := below_al (Below.refl _ w) (.cells (svals (fun _ => 0) 0 0 (fun _ => 0)).toArray 29)
  obtain ⟨W, hW⟩ : ∃ W, W = w.alloc (.cells (svals (fun _ => 0) 0 0 (fun _ => 0)).toArray 29) := ⟨_, rfl⟩
  rw [← hW] at r0 B0
  have HW := hide hW
  clear hW
  go_enter Try.func19, Try.ntmps19
  go_wp2_with (first
    | (rw [zeroS, ← HW.out])
    | (rw [zero6]; refine St.wpList_storeNew isPt rfl _ _ (by rfl) _ _ (vals 6 (six n f p n f p)) (by rfl) (by rfl) (vals_len _ _) (vals_len _ _) (one_vals _ _) ?_; intro w1 d1 k1; have r1 := CRow.keep r0 k1; have B1 := below_tr B0 k1)
    | fail)
  rw [arr_four x y vx vy 0 0]
  have q2 := crow_new w1 2 (vals 4 (six x y vx vy 0 0))
  have k2 := below_al (Below.refl _ w1) (.cells (vals 4 (six x y vx vy 0 0)).toArray 2)
  have s2 : Sl (w1.alloc (.cells (vals 4 (six x y vx vy 0 0)).toArray 2)) (some ⟨w1.heap.size, 0, none⟩) 4 4 (six x y vx vy 0 0) := crow_sl q2 (by omega)
  have d2 := CRow.keep d1 k2
  have r2 := CRow.keep r1 k2
  have B2 := below_tr B1 k2
  generalize w1.alloc (.cells (vals 4 (six x y vx vy 0 0)).toArray 2) = w2 at *
  refine (HB.out _ _ s2).mono ?_
  rintro e w3 ⟨rfl, rfl⟩
  go_wp2_with (first
    | (refine Pd.buildS0 (by with_reducible rfl) (by kernel_rfl) ?_)
    | (refine St.wpList_store isS rfl _ _ (by rfl) _ _ _ (by rfl) (by rfl) (by with_reducible exact r2) (svals_len _ _ _ _) (svals_len _ _ _ _) (one_svals _ _ _ _) ?_)
    | fail)
  exact bodyPost_ret (results_2 isS Try.results19 _ _ w.heap.size _ rfl (CRow.row r2 _) (svals_len _ _ _ _)) rfl ⟨rfl, St.below_row B2 (Nat.le_refl _) _⟩

set_option maxRecDepth 10000 in
set_option maxHeartbeats 1000000 in
theorem pblank_unsure (x y vx vy n f p : Int) (w : World) (h : ∀ k, k < 4 → InV (six x y vx vy 0 0 k)) (h2 : ¬ allIn 1 4611686018427387903 (six n f p n f p) 6) :
    Calls Try.prog 19 #[.int .i64 x, .int .i64 y, .int .i64 vx, .int .i64 vy, .int .i64 n, .int .i64 f, .int .i64 p] w fun e w' => e = .returned (.tuple #[.agg (svals (fun _ => 0) 0 0 (fun _ => 0)).toArray, .iface 50 (.int .i64 1)]) ∧ Below w.heap.size w w' := by
  have HB := hide (fun ao W (q : Sl W ao 4 4 (six x y vx vy 0 0)) => pbounded_any true ao 4 4 _ W q ⟨fun _ => h, fun _ => rfl⟩)
  have HU := hide (fun ao W (q : Sl W ao 6 6 (six n f p n f p)) => pwithin_any false 1 4611686018427387903 ao 6 6 _ W q ⟨fun c => (by cases c), fun c => absurd c h2⟩)
  clear h h2
  have r0 := (crow_new w 29 (svals (fun _ => 0) 0 0 (fun _ => 0)))
  have B0 := below_al (Below.refl _ w) (.cells (svals (fun _ => 0) 0 0 (fun _ => 0)).toArray 29)
  obtain ⟨W, hW⟩ : ∃ W, W = w.alloc (.cells (svals (fun _ => 0) 0 0 (fun _ => 0)).toArray 29) := ⟨_, rfl⟩
  rw [← hW] at r0 B0
  have HW := hide hW
  clear hW
  go_enter Try.func19, Try.ntmps19
  go_wp2_with (first
    | (rw [zeroS, ← HW.out])
    | (rw [zero6]; refine St.wpList_storeNew isPt rfl _ _ (by rfl) _ _ (vals 6 (six n f p n f p)) (by rfl) (by rfl) (vals_len _ _) (vals_len _ _) (one_vals _ _) ?_; intro w1 d1 k1; have r1 := CRow.keep r0 k1; have B1 := below_tr B0 k1)
    | fail)
  rw [arr_four x y vx vy 0 0]
  have q2 := crow_new w1 2 (vals 4 (six x y vx vy 0 0))
  have k2 := below_al (Below.refl _ w1) (.cells (vals 4 (six x y vx vy 0 0)).toArray 2)
  have s2 : Sl (w1.alloc (.cells (vals 4 (six x y vx vy 0 0)).toArray 2)) (some ⟨w1.heap.size, 0, none⟩) 4 4 (six x y vx vy 0 0) := crow_sl q2 (by omega)
  have d2 := CRow.keep d1 k2
  have r2 := CRow.keep r1 k2
  have B2 := below_tr B1 k2
  generalize w1.alloc (.cells (vals 4 (six x y vx vy 0 0)).toArray 2) = w2 at *
  refine (HB.out _ _ s2).mono ?_
  rintro e w3 ⟨rfl, rfl⟩
  have aQ := fun V => allPt W.heap.size V
  go_wp2_with fail
  refine (HU.out _ _ (PRow.sl d2)).mono ?_
  rintro e w4 ⟨rfl, rfl⟩
  go_wp2_with (first
    | (refine Pd.buildS0 (by with_reducible rfl) (by kernel_rfl) ?_)
    | (refine St.wpList_store isS rfl _ _ (by rfl) _ _ _ (by rfl) (by rfl) (by with_reducible exact r2) (svals_len _ _ _ _) (svals_len _ _ _ _) (one_svals _ _ _ _) ?_)
    | fail)
  exact bodyPost_ret (results_2 isS Try.results19 _ _ w.heap.size _ rfl (CRow.row r2 _) (svals_len _ _ _ _)) rfl ⟨rfl, St.below_row B2 (Nat.le_refl _) _⟩

set_option maxRecDepth 10000 in
set_option maxHeartbeats 1000000 in
theorem pblank_yes (x y vx vy n f p : Int) (w : World) (h : ∀ k, k < 4 → InV (six x y vx vy 0 0 k)) (h2 : allIn 1 4611686018427387903 (six n f p n f p) 6) :
    Calls Try.prog 19 #[.int .i64 x, .int .i64 y, .int .i64 vx, .int .i64 vy, .int .i64 n, .int .i64 f, .int .i64 p] w fun e w' => e = .returned (.tuple #[.agg (svals (six x vx 0 y vy 0) 6 6 (mz 6 6 (bP (six n f p n f p)))).toArray, .nilIface]) ∧ Below w.heap.size w w' := by
  have HB := hide (fun ao W (q : Sl W ao 4 4 (six x y vx vy 0 0)) => pbounded_any true ao 4 4 _ W q ⟨fun _ => h, fun _ => rfl⟩)
  have HU := hide (fun ao W (q : Sl W ao 6 6 (six n f p n f p)) => pwithin_any true 1 4611686018427387903 ao 6 6 _ W q ⟨fun _ => h2, fun _ => rfl⟩)
  have HD := hide (fun W => pwd_any (fun _ => 0) (six n f p n f p) W)
  rw [wdk_bP] at HD
  obtain ⟨z, hz⟩ : ∃ z, z = mz 6 6 (bP (six n f p n f p)) := ⟨_, rfl⟩
  rw [← hz] at HD ⊢
  clear h h2 hz
  have r0 := (crow_new w 29 (svals (fun _ => 0) 0 0 (fun _ => 0)))
  have B0 := below_al (Below.refl _ w) (.cells (svals (fun _ => 0) 0 0 (fun _ => 0)).toArray 29)
  obtain ⟨W, hW⟩ : ∃ W, W = w.alloc (.cells (svals (fun _ => 0) 0 0 (fun _ => 0)).toArray 29) := ⟨_, rfl⟩
  rw [← hW] at r0 B0
  have HW := hide hW
  clear hW
  go_enter Try.func19, Try.ntmps19
  go_wp2_with (first
    | (rw [zeroS, ← HW.out])
    | (rw [zero6]; refine St.wpList_storeNew isPt rfl _ _ (by rfl) _ _ (vals 6 (six n f p n f p)) (by rfl) (by rfl) (vals_len _ _) (vals_len _ _) (one_vals _ _) ?_; intro w1 d1 k1; have r1 := CRow.keep r0 k1; have B1 := below_tr B0 k1)
    | fail)
  rw [arr_four x y vx vy 0 0]
  have q2 := crow_new w1 2 (vals 4 (six x y vx vy 0 0))
  have k2 := below_al (Below.refl _ w1) (.cells (vals 4 (six x y vx vy 0 0)).toArray 2)
  have s2 : Sl (w1.alloc (.cells (vals 4 (six x y vx vy 0 0)).toArray 2)) (some ⟨w1.heap.size, 0, none⟩) 4 4 (six x y vx vy 0 0) := crow_sl q2 (by omega)
  have d2 := CRow.keep d1 k2
  have r2 := CRow.keep r1 k2
  have B2 := below_tr B1 k2
  generalize w1.alloc (.cells (vals 4 (six x y vx vy 0 0)).toArray 2) = w2 at *
  refine (HB.out _ _ s2).mono ?_
  rintro e w3 ⟨rfl, rfl⟩
  have aQ := fun V => allPt W.heap.size V
  go_wp2_with fail
  refine (HU.out _ _ (PRow.sl d2)).mono ?_
  rintro e w4 ⟨rfl, rfl⟩
  clear HB HU r1 B1 s2 q2 d1 aQ
  go_wp2_with (first
    | (refine wpList_build2 rfl _ _ (by rfl) _ _ (by rfl) (by rfl) ?_)
    | (rw [zeroM]; refine Mt.wpList_storeNew rfl _ _ (by rfl) _ _ _ _ (by rfl) (by rfl) ?_; intro w5 n5 k5; have r5 := CRow.keep r2 k5; have B5 := below_tr B2 k5; have d5 := CRow.keep d2 k5)
    | (refine Hk.loadM _ (by with_reducible rfl) _ _ _ _ (by rfl) (by with_reducible exact n5) (by kernel_rfl) ?_)
    | (refine St.wpList_load isPt (by rfl) _ (by rfl) _ _ (by rfl) (by with_reducible exact d5) (vals_len _ _) ?_)
    | fail)
  refine (HD.out _).mono ?_
  rintro e w6 ⟨rfl, k6⟩
  have r6 := CRow.keep r5 k6
  have B6 := below_tr B5 k6
  go_wp2_with (first
    | (refine Pd.buildS2 _ _ (by with_reducible rfl) (six x vx 0 y vy 0) 6 6 z (by rfl) (by rfl) (by kernel_rfl) ?_)
    | (refine St.wpList_store isS rfl _ _ (by rfl) _ _ _ (by rfl) (by rfl) (by with_reducible exact r6) (svals_len _ _ _ _) (svals_len _ _ _ _) (one_svals _ _ _ _) ?_)
    | fail)
  exact bodyPost_ret (results_2 isS Try.results19 _ _ w.heap.size _ rfl (CRow.row r6 _) (svals_len _ _ _ _)) rfl ⟨rfl, St.below_row B6 (Nat.le_refl _) _⟩

end Go.Proofs.Ytbdcbobmfkdalaa

/-
  Layer 12's laws: a state as the program's, part by part; what must come whatever the input is.
-/
set_option linter.unusedSimpArgs false
set_option linter.unusedVariables false
namespace Go.Proofs.Ytbdcbobmfkdalaa
open Go.RowKit Vc St Mt Cm Ld Pd Pr Qn Dt
attribute [local go_sem ↓] Go.wp_at_zero Go.wp_at_succ

namespace Pd
theorem builtS1 (r c : Int) (z : Nat → Int) : Try.prog.built 29 [(1, .agg (mvals r c z).toArray)] = some (svals (fun _ => 0) r c z).toArray := by kernel_rfl
/-- 'State{P: ..}'. -/
theorem buildS1 {ops : Array Oper} {rest : List Oper} {o : Oper} {a : Act} {w : World} {Q : Exit → Act → World → Prop} (y : Operand) (ho : o.op = .build 29 #[(1, y)]) (r c : Int) (z : Nat → Int) (hy : a.eval y = .agg (mvals r c z).toArray) (hw : Region.wanted o (yielded ops a.tmps) = true)
    (h : wpList Try.prog ops Q rest (a.put o.dst (.agg (svals (fun _ => 0) r c z).toArray)) w) : wpList Try.prog ops Q (o :: rest) a w :=
  wpList_want hw fun _ hK => by
    unfold Oper.wp execOp
    have em : ((#[(1, y)] : Array (Nat × Operand)).map fun (i, x) => (i, a.eval x)).toList = [(1, .agg (mvals r c z).toArray)] := by simp [hy]
    simp only [ho, Sem.run_bind, run_build w 29 _ _ (by rw [em]; exact builtS1 r c z), Result.andThen_ok]
    exact hK _ _ h
end Pd

set_option maxRecDepth 10000 in
set_option maxHeartbeats 1000000 in
theorem pgive_any (xo po : Option Addr) (xc n pc : Nat) (X : Nat → Int) (r c : Int) (z : Nat → Int) (w : World) (hX : Sl w xo 6 xc X)
    (hP : ∀ W, Below w.heap.size w W → Calls Try.prog 11 #[.slice po n pc] W fun e w' => e = .returned (.agg (mvals r c z).toArray) ∧ Below W.heap.size W w') :
    Calls Try.prog 4 #[.agg #[.slice xo 6 xc, .slice po n pc]] w fun e w' => e = .returned (.agg (svals X r c z).toArray) ∧ Below w.heap.size w w' := by
  have m0 := (crow_new w 32 [.slice xo 6 xc, .slice po n pc]).alloc (.cells (svals (fun _ => 0) 0 0 (fun _ => 0)).toArray 29)
  have r0 := crow_new1 w (.cells [.slice xo 6 xc, .slice po n pc].toArray 32) 29 (svals (fun _ => 0) 0 0 (fun _ => 0))
  have B0 : Below w.heap.size w ((w.alloc (.cells [.slice xo 6 xc, .slice po n pc].toArray 32)).alloc (.cells (svals (fun _ => 0) 0 0 (fun _ => 0)).toArray 29)) := below_al (below_al (Below.refl _ _) _) _
  obtain ⟨W, hW⟩ : ∃ W, W = (w.alloc (.cells [.slice xo 6 xc, .slice po n pc].toArray 32)).alloc (.cells (svals (fun _ => 0) 0 0 (fun _ => 0)).toArray 29) := ⟨_, rfl⟩
  rw [← hW] at m0 r0 B0
  have HW := hide hW
  have HP := hide (hP W B0)
  have c1 : W.cell? ⟨w.heap.size, 1, none⟩ = some (.slice po n pc) := CRow.cell m0 (k := 1) rfl rfl
  clear hW hP
  go_enter Try.func4, Try.ntmps4
  go_wp2_with (first | (rw [zeroS]; erw [← HW.out]) | fail)
  refine HP.out.mono ?_
  rintro e w1 ⟨rfl, k1⟩
  have m1 := CRow.keep m0 k1
  have r1 := CRow.keep r0 k1
  have B1 := below_tr B0 k1
  have l1 := CRow.lt r1
  clear HW HP m0 r0 B0 k1 c1
  go_wp2_with (first
    | (refine Pd.buildS1 _ (by with_reducible rfl) r c z (by rfl) (by kernel_rfl) ?_)
    | (rw [zeroS]; refine St.wpList_storeNew isS rfl _ _ (by rfl) _ _ _ (by rfl) (by rfl) (svals_len _ _ _ _) (svals_len _ _ _ _) (one_svals _ _ _ _) ?_; intro w2 n2 k2; have m2 := CRow.keep m1 k2; have r2 := CRow.keep r1 k2; have B2 := below_tr B1 k2; have c0 : w2.cell? ⟨w.heap.size, 0, none⟩ = some (.slice xo 6 xc) := CRow.cell m2 (k := 0) rfl rfl; clear m1 r1 B1 k2)
    | fail)
  obtain ⟨g, hg⟩ : ∃ g, g = w1.heap.size := ⟨_, rfl⟩
  rw [← hg] at n2 l1 ⊢
  have HX := hide hX
  clear hg c0 hX
  go_loopw [4] (fun i wr => ∃ k : Nat, k ≤ 6 ∧ i = .int .i64 (k : Int) ∧ CRow wr w.heap.size 32 [.slice xo 6 xc, .slice po n pc] ∧ SRow wr (w.heap.size + 1) (fun _ => 0) 0 0 (fun _ => 0) ∧ SRow wr g (pt X (fun _ => 0) k) r c z ∧ Below w.heap.size w wr) (fun i _ => 6 - (intOf i).toNat)
  case atStart => exact ⟨0, by omega, rfl, m2, r2, SRow.congr n2 (fun i _ => pt_zero X (fun _ => 0) i) (fun _ _ => rfl), B2⟩
  case round =>
    obtain ⟨k, hk, rfl, m3, r3, n3, B3⟩ := hrel
    have x3 := HX.out.keep B3
    obtain ⟨xa, hxa, hxc⟩ := x3.get
    obtain rfl := hxa (by omega)
    have l5 := x3.le
    have l6 := x3.cap
    by_cases h : k < 6
    · have c0 : World.cell? _ ⟨w.heap.size, 0, none⟩ = some (.slice (some xa) 6 xc) := CRow.cell m3 (k := 0) rfl rfl
      have c2 := hxc k h
      have c3 := SRow.x n3 (k := k) h rfl
      have f3 := CRow.free n3 k
      obtain ⟨v, hv⟩ : ∃ v, v = X k := ⟨_, rfl⟩
      rw [← hv] at c2
      have HV := hide hv
      clear hv hxc hxa x3
      go_wp2
      go_roundw
      case rel => exact ⟨k + 1, by omega, by go_num, CRow.other m3 _ (by show w.heap.size ≠ g; omega), CRow.other r3 _ (by show w.heap.size + 1 ≠ g; omega), SRow.congr (SRow.setx n3 h rfl _) (fun i _ => by rw [HV.out]; exact pt_step X (fun _ => 0) k i) (fun _ _ => rfl), B3.trans (St.below_set B3.size (by show w.heap.size ≤ g; omega) _)⟩
      case measure => simp [intOf]; omega
    · obtain rfl : k = 6 := by omega
      have n4 := SRow.congr n3 (fun i hi => pt_end X (fun _ => 0) hi) (fun _ _ => rfl)
      clear n3 hxc hxa x3 h
      go_wp2_with (first
        | (refine St.wpList_load isS (by rfl) _ (by rfl) _ _ (by rfl) (by with_reducible exact n4) (svals_len _ _ _ _) ?_)
        | (refine St.wpList_store isS rfl _ _ (by rfl) _ _ _ (by rfl) (by rfl) (by with_reducible exact r3) (svals_len _ _ _ _) (svals_len _ _ _ _) (one_svals _ _ _ _) ?_)
        | fail)
      exact bodyPost_ret (results_1 isS Try.results4 _ _ (w.heap.size + 1) _ rfl (CRow.row r3 _) (svals_len _ _ _ _)) rfl ⟨rfl, St.below_row B3 (by omega) _⟩


namespace Pd
def suX : Nat → Int := six 0 10485760 0 0 0 0
def suD : Nat → Int := six 1048576 1048576 1048576 1048576 1048576 1048576
def suF : Nat → Nat → Int := fun i j => if i = 0 ∧ j = 1 then 1048576 else eyeF i j
def suQ : Nat → Nat → Int := fun _ _ => 0
theorem suX_in : ∀ k, k < 6 → InV (suX k) := by decide +kernel
theorem su4 : ∀ k, k < 4 → InV (six 0 0 10485760 0 0 0 k) := by decide +kernel
theorem suD_in : ∀ k, k < 6 → 1 ≤ suD k ∧ suD k ≤ 4611686018427387903 := by decide +kernel
theorem six_b {a b c d e f : Int} (h : ∀ v ∈ [a, b, c, d, e, f], -9223372036854775808 ≤ v ∧ v ≤ 9223372036854775807) : B64 (six a b c d e f) := fun k => by
  match k with
  | 0 => exact h a (by simp)
  | 1 => exact h b (by simp)
  | 2 => exact h c (by simp)
  | 3 => exact h d (by simp)
  | 4 => exact h e (by simp)
  | _ + 5 => exact h f (by simp)
theorem suX_b : B64 suX := six_b (by decide)
theorem suD_b : B64 suD := six_b (by decide)
theorem suF_b : B2 suF := fun i j => by
  show _ ≤ (if i = 0 ∧ j = 1 then (1048576 : Int) else eyeF i j) ∧ (if i = 0 ∧ j = 1 then (1048576 : Int) else eyeF i j) ≤ _
  unfold eyeF
  split
  · omega
  · split <;> omega
theorem suQ_b : B2 suQ := fun i j => by show _ ≤ (0 : Int) ∧ (0 : Int) ≤ _; omega
theorem suF_set (k : Nat) (hk : k < 36) : (if k = 1 then 1048576 else mz 6 6 eyeF k) = mz 6 6 suF k := by
  unfold mz mpart suF
  rw [if_pos (by omega : k < 6 * 6), if_pos (by omega : k < 6 * 6)]
  by_cases e : k = 1
  · subst e; rfl
  · rw [if_neg e, if_neg (by omega)]
theorem suQ_mz (k : Nat) : (0 : Int) = mz 6 6 suQ k := (mz_zero k).symm
theorem su_o : oP suF suX (bP suD) suQ = false := by decide +kernel
theorem su_0 : nX suF suX 0 = 10485760 := by decide +kernel
theorem su_1 : nX suF suX 1 = 10485760 := by decide +kernel
theorem su_2 : mz 6 6 (nP suF (bP suD) suQ) 0 = 2097152 := by decide +kernel
theorem su_3 : mz 6 6 (nP suF (bP suD) suQ) 1 = 1048576 := by decide +kernel
end Pd

set_option maxRecDepth 20000 in
set_option maxHeartbeats 2000000 in
theorem psure_any (w : World) :
    Calls Try.prog 10 #[] w fun e w' => e = .returned (.bool true) ∧ Below w.heap.size w w' := by
  have H1 : Hid (∀ W, Calls Try.prog 19 #[.int .i64 0, .int .i64 0, .int .i64 10485760, .int .i64 0, .int .i64 1048576, .int .i64 1048576, .int .i64 1048576] W fun e w' => e = .returned (.tuple #[.agg (svals suX 6 6 (mz 6 6 (bP suD))).toArray, .nilIface]) ∧ Below W.heap.size W w') := fun W => pblank_yes 0 0 10485760 0 1048576 1048576 1048576 W su4 suD_in
  have H2 : Hid (∀ W, Calls Try.prog 6 #[.int .i64 6] W fun e w' => e = .returned (.tuple #[.agg (mvals 6 6 (mz 6 6 eyeF)).toArray, .nilIface]) ∧ Below W.heap.size W w') := fun W => meye_any 6 W (by omega) (by omega)
  have H3 := hide (fun W => pnext_yes suX (bP suD) suF suQ W (blank_may suX_in suD_in) suX_b (bP_b2 suD_b) suF_b suQ_b)
  rw [su_o, ← mvals_congr (r := 6) (c := 6) (fun k (_ : k < 36) => suQ_mz k)] at H3
  have s0 := su_0
  have s1 := su_1
  have s2 := su_2
  have s3 := su_3
  have HF := hide suF_set
  obtain ⟨zP, hzP⟩ : ∃ z, z = mz 6 6 (bP suD) := ⟨_, rfl⟩
  obtain ⟨zE, hzE⟩ : ∃ z, z = mz 6 6 eyeF := ⟨_, rfl⟩
  obtain ⟨zF, hzF⟩ : ∃ z, z = mz 6 6 suF := ⟨_, rfl⟩
  obtain ⟨zN, hzN⟩ : ∃ z, z = mz 6 6 (nP suF (bP suD) suQ) := ⟨_, rfl⟩
  obtain ⟨Y, hY⟩ : ∃ Y, Y = nX suF suX := ⟨_, rfl⟩
  rw [← hzP] at H1
  rw [← hzE] at H2
  rw [← hzP, ← hzF, ← hzN, ← hY] at H3
  rw [← hzN] at s2 s3
  rw [← hY] at s0 s1
  rw [← hzE, ← hzF] at HF
  clear hzP hzE hzF hzN hY
  go_enter Try.func10, Try.ntmps10
  go_wp2_with fail
  refine (H1.out _).mono ?_
  rintro e w1 ⟨rfl, k1⟩
  go_wp2_with (first
    | (rw [zeroS]; refine St.wpList_storeNew isS rfl _ _ (by rfl) _ _ _ (by rfl) (by rfl) (svals_len _ _ _ _) (svals_len _ _ _ _) (one_svals _ _ _ _) ?_; intro w2 t2 k2; have B2 := below_tr k1 k2; clear k1 k2)
    | fail)
  refine (H2.out _).mono ?_
  rintro e w3 ⟨rfl, k3⟩
  have t3 := CRow.keep t2 k3
  have B3 := below_tr B2 k3
  have l3 := CRow.lt t3
  have z3 := B3.size
  clear t2 B2 k3
  go_upto_region 3 with (first
    | (rw [zeroM]; refine Mt.wpList_storeNew rfl _ _ (by rfl) _ _ _ _ (by rfl) (by rfl) ?_; intro w4 m4 k4; have t4 := CRow.keep t3 k4; have B4 := below_tr B3 k4; clear t3 B3 k4)
    | fail)
  obtain ⟨g, hg⟩ : ∃ g, g = w3.heap.size := ⟨_, rfl⟩
  rw [← hg] at m4 l3 z3 ⊢
  have c4 := m4.cell (k := 1) (o := 3) (by omega) rfl
  have f4 := m4.free 3
  have m5 := (MRow.set m4 1 1048576 (o := 3) rfl).congr (fun k hk => HF.out k hk)
  have t5 := CRow.other t4 (p := ⟨g, 3, none⟩) (.int .i64 1048576) (by show w1.heap.size ≠ g; omega)
  have B5 := B4.trans (St.below_set (x := ⟨g, 3, none⟩) B4.size (by show w.heap.size ≤ g; omega) (.int .i64 1048576))
  obtain ⟨w5, hw5⟩ : ∃ w5, w5 = w4.setCell ⟨g, 3, none⟩ (.int .i64 1048576) := ⟨_, rfl⟩
  rw [← hw5] at m5 t5 B5
  have H5 := hide hw5
  clear hw5 hg m4 t4 B4 l3 z3
  go_wp2_with (first
    | (rw [← H5.out]; refine St.wpList_load isS (by rfl) _ (by rfl) _ _ (by rfl) (by with_reducible exact t5) (svals_len _ _ _ _) ?_)
    | (refine St.wpList_load isS (by rfl) _ (by rfl) _ _ (by rfl) (by with_reducible exact t5) (svals_len _ _ _ _) ?_)
    | (refine Hk.loadM _ (by with_reducible rfl) _ _ _ _ (by rfl) (by with_reducible exact m5) (by kernel_rfl) ?_)
    | (refine wpList_build2 rfl _ _ (by rfl) _ _ (by rfl) (by rfl) ?_)
    | (rw [← H5.out])
    | fail)
  refine (H3.out _).mono ?_
  rintro e w6 ⟨rfl, k6⟩
  have B6 := below_tr B5 k6
  clear t5 m5 B5 k6 H5
  go_wp2_with (first
    | (rw [zeroS]; refine St.wpList_storeNew isS rfl _ _ (by rfl) _ _ _ (by rfl) (by rfl) (svals_len _ _ _ _) (svals_len _ _ _ _) (one_svals _ _ _ _) ?_; intro w7 t7 k7
       have B7 := below_tr B6 k7
       have c0 : w7.cell? ⟨w6.heap.size, 0, none⟩ = some (.int .i64 10485760) := by have e := SRow.x t7 (k := 0) (by omega) rfl; rw [s0] at e; exact e
       have c1 : w7.cell? ⟨w6.heap.size, 1, none⟩ = some (.int .i64 10485760) := by have e := SRow.x t7 (k := 1) (by omega) rfl; rw [s1] at e; exact e
       have c2 : w7.cell? ⟨w6.heap.size, 8, none⟩ = some (.int .i64 2097152) := by have e := SRow.z t7 (k := 0) (by omega) rfl; rw [s2] at e; exact e
       have c3 : w7.cell? ⟨w6.heap.size, 9, none⟩ = some (.int .i64 1048576) := by have e := SRow.z t7 (k := 1) (by omega) rfl; rw [s3] at e; exact e
       clear t7 k7 B6)
    | fail)
  go_ret
  exact ⟨rfl, B7⟩
end Go.Proofs.Ytbdcbobmfkdalaa
