/-
  States of package predict: the steps: matrix, moved, spread.
-/
import Derived.Test.YtoglokgkgonmdaaGreatDoorM16
import Derived.Test.YtoglokgkgonmdaaGreatDoorM15
import Derived.Test.YtoglokgkgonmdaaGreatDoorM8
import Derived.Test.YtoglokgkgonmdaaGreatDoorRegM
import Derived.Test.YtoglokgkgonmdaaGreatDoorM7
import Derived.Test.YtoglokgkgonmdaaGreatDoorM3
import Derived.Test.YtoglokgkgonmdaaGreatDoorM6
set_option linter.unusedSimpArgs false
set_option linter.unusedVariables false
namespace Go.Proofs.YtoglokgkgonmdaaGreatDoor
open Go.RowKit Vc St Mt Cm Ld Pd Pr Qn Dt
attribute [local go_sem ↓] Go.wp_at_zero Go.wp_at_succ

namespace Pd
theorem mrowBut {P : Nat → Prop} {a b : World} {g : Nat} {r c : Int} {z : Nat → Int} (h : MRow a g r c z) (k : But P a b) (hx : ¬ P g) : MRow b g r c z := by
  unfold MRow; rw [k.block g h.lt hx]; exact h
end Pd

end Go.Proofs.YtoglokgkgonmdaaGreatDoor

/-
  States of package predict: spread, Next.
-/
set_option linter.unusedSimpArgs false
set_option linter.unusedVariables false
namespace Go.Proofs.YtoglokgkgonmdaaGreatDoor
open Go.RowKit Vc St Mt Cm Ld Pd Pr Qn Dt
attribute [local go_sem ↓] Go.wp_at_zero Go.wp_at_succ

namespace Pd
theorem builtS (X : Nat → Int) (r c : Int) (z : Nat → Int) : Tryz.prog.built 42 [(0, .agg (vals 6 X).toArray), (1, .agg (mvals r c z).toArray)] = some (svals X r c z).toArray := by kernel_rfl
theorem builtS0 : Tryz.prog.built 42 [] = some (svals (fun _ => 0) 0 0 (fun _ => 0)).toArray := by kernel_rfl
theorem yieldsB {ops : Array Oper} {S : World → Prop} {o : Oper} {a : Act} (hw : Region.wanted o (yielded ops a.tmps) = true) (x y : Operand) (ho : o.op = .build 42 #[(0, x), (1, y)])
    (X : Nat → Int) (r c : Int) (z : Nat → Int) (hx : a.eval x = .agg (vals 6 X).toArray) (hy : a.eval y = .agg (mvals r c z).toArray) : YieldsIf Tryz.prog ops S o (.agg (svals X r c z).toArray) a :=
  .inl ⟨hw, fun w _ => by
    unfold execOp
    have em : ((#[(0, x), (1, y)] : Array (Nat × Operand)).map fun (i, x) => (i, a.eval x)).toList = [(0, .agg (vals 6 X).toArray), (1, .agg (mvals r c z).toArray)] := by simp [hx, hy]
    simp only [ho, Sem.run_bind, run_build w 42 _ _ (by rw [em]; exact builtS X r c z), Result.andThen_ok, Sem.run_pure]⟩
/-- 'State{}'. -/
theorem buildS0 {ops : Array Oper} {rest : List Oper} {o : Oper} {a : Act} {w : World} {Q : Exit → Act → World → Prop} (ho : o.op = .build 42 #[]) (hw : Region.wanted o (yielded ops a.tmps) = true)
    (h : wpList Tryz.prog ops Q rest (a.put o.dst (.agg (svals (fun _ => 0) 0 0 (fun _ => 0)).toArray)) w) : wpList Tryz.prog ops Q (o :: rest) a w :=
  wpList_want hw fun _ hK => by
    unfold Oper.wp execOp
    have em : ((#[] : Array (Nat × Operand)).map fun (i, x) => (i, a.eval x)).toList = [] := by simp
    simp only [ho, Sem.run_bind, run_build w 42 _ _ (by rw [em]; exact builtS0), Result.andThen_ok]
    exact hK _ _ h
/-- 'State{X: .., P: ..}'. -/
theorem buildS2 {ops : Array Oper} {rest : List Oper} {o : Oper} {a : Act} {w : World} {Q : Exit → Act → World → Prop} (x y : Operand) (ho : o.op = .build 42 #[(0, x), (1, y)]) (X : Nat → Int) (r c : Int) (z : Nat → Int) (hx : a.eval x = .agg (vals 6 X).toArray) (hy : a.eval y = .agg (mvals r c z).toArray) (hw : Region.wanted o (yielded ops a.tmps) = true)
    (h : wpList Tryz.prog ops Q rest (a.put o.dst (.agg (svals X r c z).toArray)) w) : wpList Tryz.prog ops Q (o :: rest) a w :=
  wpList_want hw fun _ hK => by
    unfold Oper.wp execOp
    have em : ((#[(0, x), (1, y)] : Array (Nat × Operand)).map fun (i, x) => (i, a.eval x)).toList = [(0, .agg (vals 6 X).toArray), (1, .agg (mvals r c z).toArray)] := by simp [hx, hy]
    simp only [ho, Sem.run_bind, run_build w 42 _ _ (by rw [em]; exact builtS X r c z), Result.andThen_ok]
    exact hK _ _ h
end Pd

end Go.Proofs.YtoglokgkgonmdaaGreatDoor

/-
  States of package predict: Next.
-/
set_option linter.unusedSimpArgs false
set_option linter.unusedVariables false
namespace Go.Proofs.YtoglokgkgonmdaaGreatDoor
open Go.RowKit Vc St Mt Cm Ld Pd Pr Qn Dt
attribute [local go_sem ↓] Go.wp_at_zero Go.wp_at_succ

end Go.Proofs.YtoglokgkgonmdaaGreatDoor

/-
  States of package predict: Blank; what must come whatever the input is.
-/
set_option linter.unusedSimpArgs false
set_option linter.unusedVariables false
namespace Go.Proofs.YtoglokgkgonmdaaGreatDoor
open Go.RowKit Vc St Mt Cm Ld Pd Pr Qn Dt
attribute [local go_sem ↓] Go.wp_at_zero Go.wp_at_succ

namespace Pd
def six (a b c d e f : Int) : Nat → Int
  | 0 => a
  | 1 => b
  | 2 => c
  | 3 => d
  | 4 => e
  | _ => f
theorem arr_four (a b c d e f : Int) : #[.int .i64 a, .int .i64 b, .int .i64 c, .int .i64 d] = (vals 4 (six a b c d e f)).toArray := rfl
theorem crow_sl {w : World} {g : Nat} {t : TypeId} {n : Nat} {z : Nat → Int} (h : CRow w g t (vals n z)) (hn : n ≤ 9223372036854775807) : Sl w (some ⟨g, 0, none⟩) n n z :=
  ⟨Nat.le_refl _, hn, fun k hk => ⟨_, rfl, by rw [Addr.add_lit]; exact h.cell (vals_at hk) (by omega)⟩⟩
/-- What is known at first: the numbers of the diagonal. -/
def bP (D : Nat → Int) : Nat → Nat → Int := wd (fun _ _ => 0) D
theorem mz_zero (k : Nat) : mz 6 6 (fun _ _ => 0) k = 0 := by unfold mz mpart; split <;> rfl
theorem wdk_bP (D : Nat → Int) : mvals 6 6 (wdk (fun _ => 0) D 6) = mvals 6 6 (mz 6 6 (bP D)) := by
  refine mvals_congr fun k hk => ?_
  have e := wdk_mz (fun _ _ => 0) D k hk
  unfold bP
  rw [← e]
  unfold wdk
  rw [mz_zero]
theorem blank_may {X D : Nat → Int} (h : ∀ k, k < 6 → InV (X k)) (h' : ∀ k, k < 6 → 1 ≤ D k ∧ D k ≤ 4611686018427387903) : MayV X (bP D) := fun i hi => by
  refine ⟨h i hi, ?_, fun j hj => ⟨?_, ?_⟩⟩
  · unfold bP wd; rw [if_pos rfl]; have := h' i hi; omega
  · unfold bP wd
    split
    · have := h' i hi; exact ⟨by omega, by omega⟩
    · exact (show InV 0 from ⟨by omega, by omega⟩)
  · unfold bP wd
    by_cases e : i = j
    · subst e; rfl
    · rw [if_neg e, if_neg (fun q => e q.symm)]
theorem bP_b2 {D : Nat → Int} (h : B64 D) : B2 (bP D) := fun i j => by
  show _ ≤ (if i = j then D i else 0) ∧ (if i = j then D i else 0) ≤ _
  split
  · exact h i
  · omega
end Pd

set_option maxRecDepth 10000 in
set_option maxHeartbeats 1000000 in
theorem pblank_far (x y vx vy n f p : Int) (w : World) (h : ¬ ∀ k, k < 4 → InV (six x y vx vy 0 0 k)) :
    Calls Tryz.prog 26 #[.int .i64 x, .int .i64 y, .int .i64 vx, .int .i64 vy, .int .i64 n, .int .i64 f, .int .i64 p] w fun e w' => e = .returned (.tuple #[.agg (svals (fun _ => 0) 0 0 (fun _ => 0)).toArray, .iface 61 (.int .i64 1)]) ∧ Below w.heap.size w w' := by
  have HB := hide (fun ao W (q : Sl W ao 4 4 (six x y vx vy 0 0)) => pbounded_any false ao 4 4 _ W q ⟨fun c => (by cases c), fun c => absurd c h⟩)
  clear h
  have r0 := (crow_new w 42 (svals (fun _ => 0) 0 0 (fun _ => 0)))
  have B0 := below_al (Below.refl _ w) (.cells (svals (fun _ => 0) 0 0 (fun _ => 0)).toArray 42)
  obtain ⟨W, hW⟩ : ∃ W, W = w.alloc (.cells (svals (fun _ => 0) 0 0 (fun _ => 0)).toArray 42) := ⟨_, rfl⟩
  rw [← hW] at r0 B0
  have HW := hide hW
  clear hW
  go_enter Tryz.func26, Tryz.ntmps26
  go_wp2_with (first
    | (rw [zeroS, ← HW.out])
    | (rw [Pd.zero6]; refine St.wpList_storeNew isPt rfl _ _ (by rfl) _ _ (vals 6 (six n f p n f p)) (by rfl) (by rfl) (vals_len _ _) (vals_len _ _) (one_vals _ _) ?_; intro w1 d1 k1; have r1 := CRow.keep r0 k1; have B1 := below_tr B0 k1)
    | fail)
  rw [arr_four x y vx vy 0 0]
  have q2 := crow_new w1 2 (vals 4 (six x y vx vy 0 0))
  have k2 := below_al (Below.refl _ w1) (.cells (vals 4 (six x y vx vy 0 0)).toArray 2)
  have s2 : Sl (w1.alloc (.cells (vals 4 (six x y vx vy 0 0)).toArray 2)) (some ⟨w1.heap.size, 0, none⟩) 4 4 (six x y vx vy 0 0) := crow_sl q2 (by omega)
  have d2 := CRow.keep d1 k2
  have r2 := CRow.keep r1 k2
  have B2 := below_tr B1 k2
  generalize w1.alloc (.cells (vals 4 (six x y vx vy 0 0)).toArray 2) = w2 at *
  refine (HB.out _ _ s2).mono ?_
  rintro e w3 ⟨rfl, rfl⟩
  go_wp2_with (first
    | (refine Pd.buildS0 (by with_reducible rfl) (by kernel_rfl) ?_)
    | (refine St.wpList_store isS rfl _ _ (by rfl) _ _ _ (by rfl) (by rfl) (by with_reducible exact r2) (svals_len _ _ _ _) (svals_len _ _ _ _) (one_svals _ _ _ _) ?_)
    | fail)
  exact bodyPost_ret (results_2 isS Tryz.results26 _ _ w.heap.size _ rfl (CRow.row r2 _) (svals_len _ _ _ _)) rfl ⟨rfl, St.below_row B2 (Nat.le_refl _) _⟩

set_option maxRecDepth 10000 in
set_option maxHeartbeats 1000000 in
theorem pblank_yes (x y vx vy n f p : Int) (w : World) (h : ∀ k, k < 4 → InV (six x y vx vy 0 0 k)) (h2 : allIn 1 4611686018427387903 (six n f p n f p) 6) :
    Calls Tryz.prog 26 #[.int .i64 x, .int .i64 y, .int .i64 vx, .int .i64 vy, .int .i64 n, .int .i64 f, .int .i64 p] w fun e w' => e = .returned (.tuple #[.agg (svals (six x vx 0 y vy 0) 6 6 (mz 6 6 (bP (six n f p n f p)))).toArray, .nilIface]) ∧ Below w.heap.size w w' := by
  have HB := hide (fun ao W (q : Sl W ao 4 4 (six x y vx vy 0 0)) => pbounded_any true ao 4 4 _ W q ⟨fun _ => h, fun _ => rfl⟩)
  have HU := hide (fun ao W (q : Sl W ao 6 6 (six n f p n f p)) => pwithin_any true 1 4611686018427387903 ao 6 6 _ W q ⟨fun _ => h2, fun _ => rfl⟩)
  have HD := hide (fun W => pwd_any (fun _ => 0) (six n f p n f p) W)
  rw [wdk_bP] at HD
  obtain ⟨z, hz⟩ : ∃ z, z = mz 6 6 (bP (six n f p n f p)) := ⟨_, rfl⟩
  rw [← hz] at HD ⊢
  clear h h2 hz
  have r0 := (crow_new w 42 (svals (fun _ => 0) 0 0 (fun _ => 0)))
  have B0 := below_al (Below.refl _ w) (.cells (svals (fun _ => 0) 0 0 (fun _ => 0)).toArray 42)
  obtain ⟨W, hW⟩ : ∃ W, W = w.alloc (.cells (svals (fun _ => 0) 0 0 (fun _ => 0)).toArray 42) := ⟨_, rfl⟩
  rw [← hW] at r0 B0
  have HW := hide hW
  clear hW
  go_enter Tryz.func26, Tryz.ntmps26
  go_wp2_with (first
    | (rw [zeroS, ← HW.out])
    | (rw [Pd.zero6]; refine St.wpList_storeNew isPt rfl _ _ (by rfl) _ _ (vals 6 (six n f p n f p)) (by rfl) (by rfl) (vals_len _ _) (vals_len _ _) (one_vals _ _) ?_; intro w1 d1 k1; have r1 := CRow.keep r0 k1; have B1 := below_tr B0 k1)
    | fail)
  rw [arr_four x y vx vy 0 0]
  have q2 := crow_new w1 2 (vals 4 (six x y vx vy 0 0))
  have k2 := below_al (Below.refl _ w1) (.cells (vals 4 (six x y vx vy 0 0)).toArray 2)
  have s2 : Sl (w1.alloc (.cells (vals 4 (six x y vx vy 0 0)).toArray 2)) (some ⟨w1.heap.size, 0, none⟩) 4 4 (six x y vx vy 0 0) := crow_sl q2 (by omega)
  have d2 := CRow.keep d1 k2
  have r2 := CRow.keep r1 k2
  have B2 := below_tr B1 k2
  generalize w1.alloc (.cells (vals 4 (six x y vx vy 0 0)).toArray 2) = w2 at *
  refine (HB.out _ _ s2).mono ?_
  rintro e w3 ⟨rfl, rfl⟩
  have aQ := fun V => allPt W.heap.size V
  go_wp2_with fail
  refine (HU.out _ _ (PRow.sl d2)).mono ?_
  rintro e w4 ⟨rfl, rfl⟩
  clear HB HU r1 B1 s2 q2 d1 aQ
  go_wp2_with (first
    | (refine wpList_build2 rfl _ _ (by rfl) _ _ (by rfl) (by rfl) ?_)
    | (rw [zeroM]; refine Mt.wpList_storeNew rfl _ _ (by rfl) _ _ _ _ (by rfl) (by rfl) ?_; intro w5 n5 k5; have r5 := CRow.keep r2 k5; have B5 := below_tr B2 k5; have d5 := CRow.keep d2 k5)
    | (refine Hk.loadM _ (by with_reducible rfl) _ _ _ _ (by rfl) (by with_reducible exact n5) (by kernel_rfl) ?_)
    | (refine St.wpList_load isPt (by rfl) _ (by rfl) _ _ (by rfl) (by with_reducible exact d5) (vals_len _ _) ?_)
    | fail)
  refine (HD.out _).mono ?_
  rintro e w6 ⟨rfl, k6⟩
  have r6 := CRow.keep r5 k6
  have B6 := below_tr B5 k6
  go_wp2_with (first
    | (refine Pd.buildS2 _ _ (by with_reducible rfl) (six x vx 0 y vy 0) 6 6 z (by rfl) (by rfl) (by kernel_rfl) ?_)
    | (refine St.wpList_store isS rfl _ _ (by rfl) _ _ _ (by rfl) (by rfl) (by with_reducible exact r6) (svals_len _ _ _ _) (svals_len _ _ _ _) (one_svals _ _ _ _) ?_)
    | fail)
  exact bodyPost_ret (results_2 isS Tryz.results26 _ _ w.heap.size _ rfl (CRow.row r6 _) (svals_len _ _ _ _)) rfl ⟨rfl, St.below_row B6 (Nat.le_refl _) _⟩

end Go.Proofs.YtoglokgkgonmdaaGreatDoor

/-
  Layer 12's laws: a state as the program's, part by part; what must come whatever the input is.
-/
set_option linter.unusedSimpArgs false
set_option linter.unusedVariables false
namespace Go.Proofs.YtoglokgkgonmdaaGreatDoor
open Go.RowKit Vc St Mt Cm Ld Pd Pr Qn Dt
attribute [local go_sem ↓] Go.wp_at_zero Go.wp_at_succ

namespace Pd
theorem builtS1 (r c : Int) (z : Nat → Int) : Tryz.prog.built 42 [(1, .agg (mvals r c z).toArray)] = some (svals (fun _ => 0) r c z).toArray := by kernel_rfl
/-- 'State{P: ..}'. -/
theorem buildS1 {ops : Array Oper} {rest : List Oper} {o : Oper} {a : Act} {w : World} {Q : Exit → Act → World → Prop} (y : Operand) (ho : o.op = .build 42 #[(1, y)]) (r c : Int) (z : Nat → Int) (hy : a.eval y = .agg (mvals r c z).toArray) (hw : Region.wanted o (yielded ops a.tmps) = true)
    (h : wpList Tryz.prog ops Q rest (a.put o.dst (.agg (svals (fun _ => 0) r c z).toArray)) w) : wpList Tryz.prog ops Q (o :: rest) a w :=
  wpList_want hw fun _ hK => by
    unfold Oper.wp execOp
    have em : ((#[(1, y)] : Array (Nat × Operand)).map fun (i, x) => (i, a.eval x)).toList = [(1, .agg (mvals r c z).toArray)] := by simp [hy]
    simp only [ho, Sem.run_bind, run_build w 42 _ _ (by rw [em]; exact builtS1 r c z), Result.andThen_ok]
    exact hK _ _ h
end Pd

namespace Pd
end Pd

end Go.Proofs.YtoglokgkgonmdaaGreatDoor
