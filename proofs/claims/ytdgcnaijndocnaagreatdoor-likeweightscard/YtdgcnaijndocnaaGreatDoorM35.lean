/-
  The document's answer of layer 13 (radomeref13): May, add, around.
-/
import Derived.Test.YtdgcnaijndocnaaGreatDoorM33
import Derived.Test.YtdgcnaijndocnaaGreatDoorM4
import Derived.Test.YtdgcnaijndocnaaGreatDoorM5
import Derived.Test.YtdgcnaijndocnaaGreatDoorM34
import Derived.Test.YtdgcnaijndocnaaGreatDoorLdR
import Derived.Test.YtdgcnaijndocnaaGreatDoorM6
import Derived.Deep.RegionWith
import Derived.Test.YtdgcnaijndocnaaGreatDoorM22
import Derived.Test.YtdgcnaijndocnaaGreatDoorRegM
import Derived.Test.YtdgcnaijndocnaaGreatDoorM21
import Derived.Deep.CutRange
set_option linter.unusedSimpArgs false
set_option linter.unusedVariables false
namespace Go.Proofs.YtdgcnaijndocnaaGreatDoor
open Go.RowKit Vc St Mt Dt Pr
attribute [local go_sem ↓] Go.wp_at_zero Go.wp_at_succ

namespace Ud
end Ud
open Ud

end Go.Proofs.YtdgcnaijndocnaaGreatDoor

/-
  The document's factors, row by row: two lists that are appended to; factorsOf of the laws.
-/
set_option linter.unusedSimpArgs false
set_option linter.unusedVariables false
namespace Go.Proofs.YtdgcnaijndocnaaGreatDoor
open Go.RowKit Vc Mt St Qn Dt Ld

namespace Ld
theorem rowBut {P : Nat → Prop} {a b : World} {B : Nat} {t : TypeId} {s : Nat} {v : Value} {n : Nat} {xs : List Value} (h : a.ownsRow B t s v n xs) (k : But P a b) (hx : ∀ g, v.ownBlock = some g → ¬ P g) : b.ownsRow B t s v n xs := by
  obtain ⟨h1, h2⟩ := h
  refine ⟨h1, ?_⟩
  rcases h2 with h2 | ⟨g, cap, cur, rfl, hb, hg, hn, hc, hs, ht⟩
  · exact Or.inl h2
  · refine Or.inr ⟨g, cap, cur, rfl, hb, ?_, hn, hc, hs, ht⟩
    have hlt : g < a.heap.size := by
      rcases Nat.lt_or_ge g a.heap.size with q | q
      · exact q
      · rw [Array.getElem?_eq_none q] at hg; cases hg
    exact (k.block g hlt (hx g rfl)).trans hg
end Ld

end Go.Proofs.YtdgcnaijndocnaaGreatDoor

/-
  States of package predict: the steps: matrix, moved, spread.
-/
set_option linter.unusedSimpArgs false
set_option linter.unusedVariables false
namespace Go.Proofs.YtdgcnaijndocnaaGreatDoor
open Go.RowKit Vc St Mt Cm Ld Pd Pr Qn Dt
attribute [local go_sem ↓] Go.wp_at_zero Go.wp_at_succ

namespace Pd
end Pd

end Go.Proofs.YtdgcnaijndocnaaGreatDoor

/-
  Package update: what it is made of: bounds, places, closures that tell a matrix's numbers, the steps' bool.
-/
set_option linter.unusedSimpArgs false
set_option linter.unusedVariables false
namespace Go.Proofs.YtdgcnaijndocnaaGreatDoor
open Go.RowKit Vc St Mt Pr Qn Ud
attribute [local go_sem ↓] Go.wp_at_zero Go.wp_at_succ

namespace Up
end Up
open Up

namespace Up
end Up

end Go.Proofs.YtdgcnaijndocnaaGreatDoor

/-
  Package update: the steps: number, numbers, matrix; away, spreadOfBoth, between; a diagonal that may be.
-/
set_option linter.unusedSimpArgs false
set_option linter.unusedVariables false
namespace Go.Proofs.YtdgcnaijndocnaaGreatDoor
open Go.RowKit Vc St Mt Pr Qn Ud Up Ld
attribute [local go_sem ↓] Go.wp_at_zero Go.wp_at_succ

namespace Up
end Up

namespace Up
end Up

end Go.Proofs.YtdgcnaijndocnaaGreatDoor

/-
  Package update: between, notBelowNought, gain, kept, moved.
-/
set_option linter.unusedSimpArgs false
set_option linter.unusedVariables false
namespace Go.Proofs.YtdgcnaijndocnaaGreatDoor
open Go.RowKit Vc St Mt Pr Qn Ud Up Ld
attribute [local go_sem ↓] Go.wp_at_zero Go.wp_at_succ

namespace Up
end Up

namespace Up
end Up

namespace Up
end Up

end Go.Proofs.YtdgcnaijndocnaaGreatDoor

/-
  Package update: kept, moved, spread.
-/
set_option linter.unusedSimpArgs false
set_option linter.unusedVariables false
namespace Go.Proofs.YtdgcnaijndocnaaGreatDoor
open Go.RowKit Vc St Mt Pr Qn Ud Up Ld
attribute [local go_sem ↓] Go.wp_at_zero Go.wp_at_succ

namespace Up
end Up

namespace Up
theorem all2 (g : Nat) (w : World) : (Instr.sliceAt 29 (.pointer (some ⟨g, 0, none⟩)) none none none).run Tryz.prog w = .ok (.slice (some ⟨g, 0, none⟩) 2 2) w := by kernel_rfl
end Up

end Go.Proofs.YtdgcnaijndocnaaGreatDoor

/-
  Package update: spread, Far.
-/
set_option linter.unusedSimpArgs false
set_option linter.unusedVariables false
namespace Go.Proofs.YtdgcnaijndocnaaGreatDoor
open Go.RowKit Vc St Mt Pr Qn Ud Up Ld
attribute [local go_sem ↓] Go.wp_at_zero Go.wp_at_succ

namespace Up
end Up

namespace Up
/-- A gap's numbers: V and the factors. -/
def gvals (V : Nat → Int) (n : Int) (z d : Nat → Int) : List Value := vals 2 V ++ fvals n z d
theorem gvals_len (V : Nat → Int) (n : Int) (z d : Nat → Int) : (gvals V n z d).length = 45 := by simp [gvals, vals_len, fvals_len]
theorem gvals_v {V : Nat → Int} {n : Int} {z d : Nat → Int} {k : Nat} (h : k < 2) : (gvals V n z d)[k]? = some (.int .i64 (V k)) := by
  unfold gvals
  rw [List.getElem?_append_left (by rw [vals_len]; exact h)]
  exact vals_at h
theorem gvals_f (V : Nat → Int) (n : Int) (z d : Nat → Int) (k : Nat) : (gvals V n z d)[k + 2]? = (fvals n z d)[k]? := by
  unfold gvals
  rw [List.getElem?_append_right (by rw [vals_len]; omega), vals_len, Nat.add_sub_cancel]
theorem isG : Is 35 45 := ⟨by kernel_rfl, ⟨_, Tryz.underlying35, rfl⟩⟩
abbrev GRow (w : World) (g : Nat) (V : Nat → Int) (n : Int) (z d : Nat → Int) : Prop := CRow w g 35 (gvals V n z d)
theorem GRow.v {w : World} {g : Nat} {V : Nat → Int} {n : Int} {z d : Nat → Int} (h : GRow w g V n z d) {k o : Nat} (hk : k < 2) (ho : o = k) : w.cell? ⟨g, o, none⟩ = some (.int .i64 (V k)) := h.cell (gvals_v hk) ho
theorem GRow.sl {w : World} {g : Nat} {V : Nat → Int} {n : Int} {z d : Nat → Int} (h : GRow w g V n z d) : Sl w (some ⟨g, 0, none⟩) 2 2 V :=
  ⟨Nat.le_refl _, by omega, fun k hk => ⟨_, rfl, by rw [Addr.add_lit]; exact GRow.v h hk (by omega)⟩⟩
theorem GRow.rf {w : World} {g : Nat} {V : Nat → Int} {n : Int} {z d : Nat → Int} (h : GRow w g V n z d) : w.rangeAt g 2 (fvals n z d) := CRow.mid h (o := 2) fun j v hv => by
  rw [Nat.add_comm, gvals_f]; exact hv
end Up

set_option maxRecDepth 10000 in
set_option maxHeartbeats 2000000 in
theorem ufar_by (V : Nat → Int) (n : Int) (z d : Nat → Int) (x : Int) (q : Bool) (f : Value) (w : World)
    (hF : ∀ g W, Sl W (some ⟨g, 0, none⟩) 2 2 V → Calls Tryz.prog 62 #[.agg (fvals n z d).toArray, .slice (some ⟨g, 0, none⟩) 2 2] W fun e w' => e = .returned (.tuple #[.int .i64 x, .bool q, f]) ∧ Below W.heap.size W w') :
    Calls Tryz.prog 23 #[.agg (gvals V n z d).toArray] w fun e w' => e = .returned (.tuple #[.int .i64 x, .bool q, f]) ∧ Below w.heap.size w w' := by
  have HF := Ud.hide hF
  have g0 := crow_new w 35 (gvals V n z d)
  have B0 := below_al (Below.refl _ w) (.cells (gvals V n z d).toArray 35)
  obtain ⟨W, hW⟩ : ∃ W, W = w.alloc (.cells (gvals V n z d).toArray 35) := ⟨_, rfl⟩
  rw [← hW] at g0 B0
  have HW := Ud.hide hW
  have al2 := fun W => all2 w.heap.size W
  have HS : Hid (∀ U, Below W.heap.size W U → GRow U w.heap.size V n z d) := fun U k => CRow.keep g0 k
  clear hW hF g0
  go_enter Tryz.func23, Tryz.ntmps23
  go_upto_region 1 with (first | (rw [← HW.out]) | fail)
  try rw [← HW.out]
  refine Ru.wp_region_U [] (fun w' => GRow w' w.heap.size V n z d) (by kernel_rfl) (HS.out _ (Vc.below_drew' _)) (fun hHeld => ?_)
  refine Ru.wpAnyU_take (i := 0) (v := .pointer (some ⟨w.heap.size, 2, none⟩)) rfl (by kernel_rfl) (by kernel_rfl) (by kernel_rfl) (by kernel_rfl) (by kernel_rfl) (by kernel_rfl) (fun _ _ _ h => h) (Or.inl ⟨by kernel_rfl, fun w hS => by have sc0 := hS; go_simp⟩) hHeld ?_
  simp only [Act.put, List.getElem_toArray, List.getElem_cons_zero, List.getElem_cons_succ, List.setIfInBounds_toArray, List.set_cons_zero, List.set_cons_succ]
  refine Ru.wpAnyU_take (i := 1) (v := .agg (fvals n z d).toArray) rfl (by kernel_rfl) (by kernel_rfl) (by kernel_rfl) (by kernel_rfl) (by kernel_rfl) (by kernel_rfl) (fun _ _ _ h => h) (Ud.yieldsPart isF (by kernel_rfl) _ (by rfl) w.heap.size 2 _ (by rfl) (fun w h => GRow.rf h) (fvals_len _ _ _)) hHeld ?_
  simp only [Act.put, List.getElem_toArray, List.getElem_cons_zero, List.getElem_cons_succ, List.setIfInBounds_toArray, List.set_cons_zero, List.set_cons_succ]
  refine Ru.wpAnyU_take (i := 2) (v := .pointer (some ⟨w.heap.size, 0, none⟩)) rfl (by kernel_rfl) (by kernel_rfl) (by kernel_rfl) (by kernel_rfl) (by kernel_rfl) (by kernel_rfl) (fun _ _ _ h => h) (Or.inl ⟨by kernel_rfl, fun w hS => by have sc0 := hS; go_simp⟩) hHeld ?_
  simp only [Act.put, List.getElem_toArray, List.getElem_cons_zero, List.getElem_cons_succ, List.setIfInBounds_toArray, List.set_cons_zero, List.set_cons_succ]
  refine Ru.wpAnyU_take (i := 3) (v := .slice (some ⟨w.heap.size, 0, none⟩) 2 2) rfl (by kernel_rfl) (by kernel_rfl) (by kernel_rfl) (by kernel_rfl) (by kernel_rfl) (by kernel_rfl) (fun _ _ _ h => h) (Or.inl ⟨by kernel_rfl, fun w hS => by have sc0 := hS; go_simp⟩) hHeld ?_
  simp only [Act.put, List.getElem_toArray, List.getElem_cons_zero, List.getElem_cons_succ, List.setIfInBounds_toArray, List.set_cons_zero, List.set_cons_succ]
  refine Ru.wpAnyU_ready (rs := [4]) (by kernel_rfl) (by simp) ?_
  refine Ru.AllReadyU.cons rfl (by kernel_rfl) (fun K hK => ?_) Ru.AllReadyU.nil
  go_simp
  refine (HF.out _ _ (GRow.sl (HS.out _ (Vc.below_drew' _)))).mono ?_
  rintro _ w1 ⟨rfl, k1⟩
  have D1 := below_tr (Vc.below_drew' W) k1
  go_wp2_with fail
  refine hK.out _ _ (HS.out _ D1) (fun hHeld => ?_)
  clear hK K
  try simp only [Act.put, List.getElem_toArray, List.getElem_cons_zero, List.getElem_cons_succ, List.setIfInBounds_toArray, List.set_cons_zero, List.set_cons_succ]
  refine Ru.wpAnyU_take (i := 5) (v := .int .i64 x) rfl (by kernel_rfl) (by kernel_rfl) (by kernel_rfl) (by kernel_rfl) (by kernel_rfl) (by kernel_rfl) (fun _ _ _ h => h) (Or.inl ⟨by kernel_rfl, fun w hS => by have sc0 := hS; go_simp⟩) hHeld ?_
  simp only [Act.put, List.getElem_toArray, List.getElem_cons_zero, List.getElem_cons_succ, List.setIfInBounds_toArray, List.set_cons_zero, List.set_cons_succ]
  refine Ru.wpAnyU_take (i := 6) (v := .bool q) rfl (by kernel_rfl) (by kernel_rfl) (by kernel_rfl) (by kernel_rfl) (by kernel_rfl) (by kernel_rfl) (fun _ _ _ h => h) (Or.inl ⟨by kernel_rfl, fun w hS => by have sc0 := hS; go_simp⟩) hHeld ?_
  simp only [Act.put, List.getElem_toArray, List.getElem_cons_zero, List.getElem_cons_succ, List.setIfInBounds_toArray, List.set_cons_zero, List.set_cons_succ]
  refine Ru.wpAnyU_take (i := 7) (v := f) rfl (by kernel_rfl) (by kernel_rfl) (by kernel_rfl) (by kernel_rfl) (by kernel_rfl) (by kernel_rfl) (fun _ _ _ h => h) (Or.inl ⟨by kernel_rfl, fun w hS => by have sc0 := hS; go_simp⟩) hHeld ?_
  simp only [Act.put, List.getElem_toArray, List.getElem_cons_zero, List.getElem_cons_succ, List.setIfInBounds_toArray, List.set_cons_zero, List.set_cons_succ]
  refine Ru.wpAnyU_take (i := 8) (v := .int .i64 x) rfl (by kernel_rfl) (by kernel_rfl) (by kernel_rfl) (by kernel_rfl) (by kernel_rfl) (by kernel_rfl) (fun _ _ _ h => h) (Or.inl ⟨by kernel_rfl, fun w hS => by have sc0 := hS; go_simp⟩) hHeld ?_
  simp only [Act.put, List.getElem_toArray, List.getElem_cons_zero, List.getElem_cons_succ, List.setIfInBounds_toArray, List.set_cons_zero, List.set_cons_succ]
  refine Ru.wpAnyU_take (i := 9) (v := .bool q) rfl (by kernel_rfl) (by kernel_rfl) (by kernel_rfl) (by kernel_rfl) (by kernel_rfl) (by kernel_rfl) (fun _ _ _ h => h) (Or.inl ⟨by kernel_rfl, fun w hS => by have sc0 := hS; go_simp⟩) hHeld ?_
  simp only [Act.put, List.getElem_toArray, List.getElem_cons_zero, List.getElem_cons_succ, List.setIfInBounds_toArray, List.set_cons_zero, List.set_cons_succ]
  refine Ru.wpAnyU_take (i := 10) (v := f) rfl (by kernel_rfl) (by kernel_rfl) (by kernel_rfl) (by kernel_rfl) (by kernel_rfl) (by kernel_rfl) (fun _ _ _ h => h) (Or.inl ⟨by kernel_rfl, fun w hS => by have sc0 := hS; go_simp⟩) hHeld ?_
  simp only [Act.put, List.getElem_toArray, List.getElem_cons_zero, List.getElem_cons_succ, List.setIfInBounds_toArray, List.set_cons_zero, List.set_cons_succ]
  refine Ru.wpAnyU_done (by kernel_rfl) ?_
  go_wp2
  go_ret3
  exact ⟨rfl, below_tr B0 D1⟩

end Go.Proofs.YtdgcnaijndocnaaGreatDoor

/-
  States of package predict: spread, Next.
-/
set_option linter.unusedSimpArgs false
set_option linter.unusedVariables false
namespace Go.Proofs.YtdgcnaijndocnaaGreatDoor
open Go.RowKit Vc St Mt Cm Ld Pd Pr Qn Dt
attribute [local go_sem ↓] Go.wp_at_zero Go.wp_at_succ

namespace Pd
end Pd

end Go.Proofs.YtdgcnaijndocnaaGreatDoor

/-
  Package update: Of's errors; Next, by what Of answers.
-/
set_option linter.unusedSimpArgs false
set_option linter.unusedVariables false
namespace Go.Proofs.YtdgcnaijndocnaaGreatDoor
open Go.RowKit Vc St Mt Pr Qn Ud Up Ld
attribute [local go_sem ↓] Go.wp_at_zero Go.wp_at_succ

namespace Up
theorem builtG0 : Tryz.prog.built 35 [] = some (gvals (fun _ => 0) 0 (fun _ => 0) (fun _ => 0)).toArray := by kernel_rfl
/-- 'Gap{}'. -/
theorem buildG0 {ops : Array Oper} {rest : List Oper} {o : Oper} {a : Act} {w : World} {Q : Exit → Act → World → Prop} (ho : o.op = .build 35 #[]) (hw : Region.wanted o (yielded ops a.tmps) = true)
    (h : wpList Tryz.prog ops Q rest (a.put o.dst (.agg (gvals (fun _ => 0) 0 (fun _ => 0) (fun _ => 0)).toArray)) w) : wpList Tryz.prog ops Q (o :: rest) a w :=
  wpList_want hw fun _ hK => by
    unfold Oper.wp execOp
    have em : ((#[] : Array (Nat × Operand)).map fun (i, x) => (i, a.eval x)).toList = [] := by simp
    simp only [ho, Sem.run_bind, run_build w 35 _ _ (by rw [em]; exact builtG0), Result.andThen_ok]
    exact hK _ _ h
end Up

end Go.Proofs.YtdgcnaijndocnaaGreatDoor

/-
  Package update: Next, where Of answers a gap.
-/
set_option linter.unusedSimpArgs false
set_option linter.unusedVariables false
namespace Go.Proofs.YtdgcnaijndocnaaGreatDoor
open Go.RowKit Vc St Mt Pr Qn Ud Up Ld
attribute [local go_sem ↓] Go.wp_at_zero Go.wp_at_succ

namespace Up
end Up

end Go.Proofs.YtdgcnaijndocnaaGreatDoor

/-
  Package update: Next as the document's numbers, where Of answers a gap.
-/
set_option linter.unusedSimpArgs false
set_option linter.unusedVariables false
namespace Go.Proofs.YtdgcnaijndocnaaGreatDoor
open Go.RowKit Vc St Mt Pr Qn Ud Up Ld

namespace Up
theorem may_gap {P : Nat → Nat → Int} {a b c : Int} (hf : ∀ i, i < 2 → fine (oM P a b c) i) : FMay 2 (mz 2 2 (fL P a b c)) (fD P a b c) := may_st (n := 2) (by omega) (by omega) hf
theorem v_b (X : Nat → Int) (x y : Int) : B64 (v2 (ox X x) (oy X y)) := v2_b (cl64 _) (cl64 _)
end Up

theorem ufar_ok (X : Nat → Int) (P : Nat → Nat → Int) (x y a b c : Int) (w : World) (hf : ∀ i, i < 2 → fine (oM P a b c) i) :
    Calls Tryz.prog 23 #[.agg (gvals (v2 (ox X x) (oy X y)) 2 (mz 2 2 (fL P a b c)) (fD P a b c)).toArray] w fun e w' => e = .returned (.tuple #[.int .i64 (farV (downV (fL P a b c) (v2 (ox X x) (oy X y)) 2) (fD P a b c) 2), .bool (downO (fL P a b c) (v2 (ox X x) (oy X y)) 2 || farO (downV (fL P a b c) (v2 (ox X x) (oy X y)) 2) (fD P a b c) 2), .nilIface]) ∧ Below w.heap.size w w' :=
  ufar_by _ _ _ _ _ _ _ w fun g W hs => lfar_any 2 (some ⟨g, 0, none⟩) 2 (v2 (ox X x) (oy X y)) (fL P a b c) (fD P a b c) W (may_gap hf) hs (v_b X x y) (fL_b P a b c)
end Go.Proofs.YtdgcnaijndocnaaGreatDoor

/-
  Package update: gaps compared, whatever they are.
-/
set_option linter.unusedSimpArgs false
set_option linter.unusedVariables false
namespace Go.Proofs.YtdgcnaijndocnaaGreatDoor
open Go.RowKit Vc St Mt Ud Up
namespace Up
end Up

/-- Far of a gap that can't be. -/
theorem ufar_none (w : World) : Calls Tryz.prog 23 #[.agg (gvals (fun _ => 0) 0 (fun _ => 0) (fun _ => 0)).toArray] w fun e w' => e = .returned (.tuple #[.int .i64 0, .bool false, .iface 70 (.int .i64 1)]) ∧ Below w.heap.size w w' :=
  ufar_by _ _ _ _ _ _ _ w fun g W _ => lfar_no 0 (fun _ => 0) (fun _ => 0) (some ⟨g, 0, none⟩) 2 2 W (fun h => by have := h.1; omega)
end Go.Proofs.YtdgcnaijndocnaaGreatDoor
