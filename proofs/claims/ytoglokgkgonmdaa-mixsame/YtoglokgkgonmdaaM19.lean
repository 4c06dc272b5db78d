/-
  States of package predict: the steps: matrix, moved, spread.
-/
import Derived.Test.YtoglokgkgonmdaaM16
import Derived.Test.YtoglokgkgonmdaaM15
import Derived.Test.YtoglokgkgonmdaaM8
import Derived.Test.YtoglokgkgonmdaaRegM
import Derived.Test.YtoglokgkgonmdaaM7
import Derived.Test.YtoglokgkgonmdaaM3
import Derived.Test.YtoglokgkgonmdaaM6
set_option linter.unusedSimpArgs false
set_option linter.unusedVariables false
namespace Go.Proofs.Ytoglokgkgonmdaa
open Go.RowKit Vc St Mt Cm Ld Pd Pr Qn Dt
attribute [local go_sem ↓] Go.wp_at_zero Go.wp_at_succ

namespace Pd
theorem mrowBut {P : Nat → Prop} {a b : World} {g : Nat} {r c : Int} {z : Nat → Int} (h : MRow a g r c z) (k : But P a b) (hx : ¬ P g) : MRow b g r c z := by
  unfold MRow; rw [k.block g h.lt hx]; exact h
theorem splice6 (X Y : Nat → Int) : splice (vals 6 X) 0 (vals 6 Y) = vals 6 Y := splice_all 6 X Y
end Pd

end Go.Proofs.Ytoglokgkgonmdaa

/-
  States of package predict: spread, Next.
-/
set_option linter.unusedSimpArgs false
set_option linter.unusedVariables false
namespace Go.Proofs.Ytoglokgkgonmdaa
open Go.RowKit Vc St Mt Cm Ld Pd Pr Qn Dt
attribute [local go_sem ↓] Go.wp_at_zero Go.wp_at_succ

namespace Pd
theorem nought_nP (F P Q : Nat → Nat → Int) : mvals 6 6 (wdk (mz 6 6 (nE F P Q)) (nn (dg (mz 6 6 (nE F P Q)))) 6) = mvals 6 6 (mz 6 6 (nP F P Q)) := by
  refine mvals_congr fun k hk => ?_
  rw [wdk_mz _ _ k hk]
  refine mz_congr (fun i j hi hj => ?_) k
  unfold wd nP nn
  by_cases e : i = j
  · subst e
    rw [if_pos rfl, dg_mz _ hi]
    by_cases h : nE F P Q i i < 0
    · rw [if_pos ⟨rfl, h⟩]; omega
    · rw [if_neg (fun q => h q.2)]; omega
  · rw [if_neg e, if_neg (fun q => e q.1)]
/-- Whether a step of the spread was too great. -/
def oS (F P Q : Nat → Nat → Int) : Bool := oY F P || oZ F P || oW F P Q || oE F P Q
theorem builtS (X : Nat → Int) (r c : Int) (z : Nat → Int) : Try.prog.built 29 [(0, .agg (vals 6 X).toArray), (1, .agg (mvals r c z).toArray)] = some (svals X r c z).toArray := by kernel_rfl
theorem builtS0 : Try.prog.built 29 [] = some (svals (fun _ => 0) 0 0 (fun _ => 0)).toArray := by kernel_rfl
theorem yieldsP {ops : Array Oper} {S : World → Prop} {o : Oper} {a : Act} {t : TypeId} {n : Nat} (I : Is t n) (hw : Region.wanted o (yielded ops a.tmps) = true) (x : Operand) (ho : o.op = .load t x)
    (b p : Nat) (cs : List Value) (hx : a.eval x = .pointer (some ⟨b, p, none⟩)) (hS : ∀ w, S w → w.rangeAt b p cs) (hl : cs.length = n) : YieldsIf Try.prog ops S o (.agg cs.toArray) a := by
  obtain ⟨d, hd, hr⟩ := I.row
  exact yieldsIf_load_mid hw _ x ho b p hx cs d hS hd hr (by rw [I.size, hl])
theorem yieldsB {ops : Array Oper} {S : World → Prop} {o : Oper} {a : Act} (hw : Region.wanted o (yielded ops a.tmps) = true) (x y : Operand) (ho : o.op = .build 29 #[(0, x), (1, y)])
    (X : Nat → Int) (r c : Int) (z : Nat → Int) (hx : a.eval x = .agg (vals 6 X).toArray) (hy : a.eval y = .agg (mvals r c z).toArray) : YieldsIf Try.prog ops S o (.agg (svals X r c z).toArray) a :=
  .inl ⟨hw, fun w _ => by
    unfold execOp
    have em : ((#[(0, x), (1, y)] : Array (Nat × Operand)).map fun (i, x) => (i, a.eval x)).toList = [(0, .agg (vals 6 X).toArray), (1, .agg (mvals r c z).toArray)] := by simp [hx, hy]
    simp only [ho, Sem.run_bind, run_build w 29 _ _ (by rw [em]; exact builtS X r c z), Result.andThen_ok, Sem.run_pure]⟩
/-- 'State{}'. -/
theorem buildS0 {ops : Array Oper} {rest : List Oper} {o : Oper} {a : Act} {w : World} {Q : Exit → Act → World → Prop} (ho : o.op = .build 29 #[]) (hw : Region.wanted o (yielded ops a.tmps) = true)
    (h : wpList Try.prog ops Q rest (a.put o.dst (.agg (svals (fun _ => 0) 0 0 (fun _ => 0)).toArray)) w) : wpList Try.prog ops Q (o :: rest) a w :=
  wpList_want hw fun _ hK => by
    unfold Oper.wp execOp
    have em : ((#[] : Array (Nat × Operand)).map fun (i, x) => (i, a.eval x)).toList = [] := by simp
    simp only [ho, Sem.run_bind, run_build w 29 _ _ (by rw [em]; exact builtS0), Result.andThen_ok]
    exact hK _ _ h
/-- 'State{X: .., P: ..}'. -/
theorem buildS2 {ops : Array Oper} {rest : List Oper} {o : Oper} {a : Act} {w : World} {Q : Exit → Act → World → Prop} (x y : Operand) (ho : o.op = .build 29 #[(0, x), (1, y)]) (X : Nat → Int) (r c : Int) (z : Nat → Int) (hx : a.eval x = .agg (vals 6 X).toArray) (hy : a.eval y = .agg (mvals r c z).toArray) (hw : Region.wanted o (yielded ops a.tmps) = true)
    (h : wpList Try.prog ops Q rest (a.put o.dst (.agg (svals X r c z).toArray)) w) : wpList Try.prog ops Q (o :: rest) a w :=
  wpList_want hw fun _ hK => by
    unfold Oper.wp execOp
    have em : ((#[(0, x), (1, y)] : Array (Nat × Operand)).map fun (i, x) => (i, a.eval x)).toList = [(0, .agg (vals 6 X).toArray), (1, .agg (mvals r c z).toArray)] := by simp [hx, hy]
    simp only [ho, Sem.run_bind, run_build w 29 _ _ (by rw [em]; exact builtS X r c z), Result.andThen_ok]
    exact hK _ _ h
end Pd

end Go.Proofs.Ytoglokgkgonmdaa

/-
  States of package predict: Next.
-/
set_option linter.unusedSimpArgs false
set_option linter.unusedVariables false
namespace Go.Proofs.Ytoglokgkgonmdaa
open Go.RowKit Vc St Mt Cm Ld Pd Pr Qn Dt
attribute [local go_sem ↓] Go.wp_at_zero Go.wp_at_succ

end Go.Proofs.Ytoglokgkgonmdaa

/-
  States of package predict: Blank; what must come whatever the input is.
-/
set_option linter.unusedSimpArgs false
set_option linter.unusedVariables false
namespace Go.Proofs.Ytoglokgkgonmdaa
open Go.RowKit Vc St Mt Cm Ld Pd Pr Qn Dt
attribute [local go_sem ↓] Go.wp_at_zero Go.wp_at_succ

namespace Pd
def six (a b c d e f : Int) : Nat → Int
  | 0 => a
  | 1 => b
  | 2 => c
  | 3 => d
  | 4 => e
  | _ => f
theorem vals_six (a b c d e f : Int) : vals 6 (six a b c d e f) = [.int .i64 a, .int .i64 b, .int .i64 c, .int .i64 d, .int .i64 e, .int .i64 f] := rfl
theorem vals_four (a b c d e f : Int) : vals 4 (six a b c d e f) = [.int .i64 a, .int .i64 b, .int .i64 c, .int .i64 d] := rfl
theorem arr_six (a b c d e f : Int) : #[.int .i64 a, .int .i64 b, .int .i64 c, .int .i64 d, .int .i64 e, .int .i64 f] = (vals 6 (six a b c d e f)).toArray := rfl
theorem arr_four (a b c d e f : Int) : #[.int .i64 a, .int .i64 b, .int .i64 c, .int .i64 d] = (vals 4 (six a b c d e f)).toArray := rfl
theorem crow_sl {w : World} {g : Nat} {t : TypeId} {n : Nat} {z : Nat → Int} (h : CRow w g t (vals n z)) (hn : n ≤ 9223372036854775807) : Sl w (some ⟨g, 0, none⟩) n n z :=
  ⟨Nat.le_refl _, hn, fun k hk => ⟨_, rfl, by rw [Addr.add_lit]; exact h.cell (vals_at hk) (by omega)⟩⟩
/-- What is known at first: the numbers of the diagonal. -/
def bP (D : Nat → Int) : Nat → Nat → Int := wd (fun _ _ => 0) D
theorem mz_zero (k : Nat) : mz 6 6 (fun _ _ => 0) k = 0 := by unfold mz mpart; split <;> rfl
theorem wdk_bP (D : Nat → Int) : mvals 6 6 (wdk (fun _ => 0) D 6) = mvals 6 6 (mz 6 6 (bP D)) := by
  refine mvals_congr fun k hk => ?_
  have e := wdk_mz (fun _ _ => 0) D k hk
  unfold bP
  rw [← e]
  unfold wdk
  rw [mz_zero]
theorem blank_may {X D : Nat → Int} (h : ∀ k, k < 6 → InV (X k)) (h' : ∀ k, k < 6 → 1 ≤ D k ∧ D k ≤ 4611686018427387903) : MayV X (bP D) := fun i hi => by
  refine ⟨h i hi, ?_, fun j hj => ⟨?_, ?_⟩⟩
  · unfold bP wd; rw [if_pos rfl]; have := h' i hi; omega
  · unfold bP wd
    split
    · have := h' i hi; exact ⟨by omega, by omega⟩
    · exact (show InV 0 from ⟨by omega, by omega⟩)
  · unfold bP wd
    by_cases e : i = j
    · subst e; rfl
    · rw [if_neg e, if_neg (fun q => e q.symm)]
theorem bP_b2 {D : Nat → Int} (h : B64 D) : B2 (bP D) := fun i j => by
  show _ ≤ (if i = j then D i else 0) ∧ (if i = j then D i else 0) ≤ _
  split
  · exact h i
  · omega
end Pd

set_option maxRecDepth 10000 in
set_option maxHeartbeats 1000000 in
theorem pblank_far (x y vx vy n f p : Int) (w : World) (h : ¬ ∀ k, k < 4 → InV (six x y vx vy 0 0 k)) :
    Calls Try.prog 13 #[.int .i64 x, .int .i64 y, .int .i64 vx, .int .i64 vy, .int .i64 n, .int .i64 f, .int .i64 p] w fun e w' => e = .returned (.tuple #[.agg (svals (fun _ => 0) 0 0 (fun _ => 0)).toArray, .iface 52 (.int .i64 1)]) ∧ Below w.heap.size w w' := by
  have HB := hide (fun ao W (q : Sl W ao 4 4 (six x y vx vy 0 0)) => pbounded_any false ao 4 4 _ W q ⟨fun c => (by cases c), fun c => absurd c h⟩)
  clear h
  have r0 := (crow_new w 29 (svals (fun _ => 0) 0 0 (fun _ => 0)))
  have B0 := below_al (Below.refl _ w) (.cells (svals (fun _ => 0) 0 0 (fun _ => 0)).toArray 29)
  obtain ⟨W, hW⟩ : ∃ W, W = w.alloc (.cells (svals (fun _ => 0) 0 0 (fun _ => 0)).toArray 29) := ⟨_, rfl⟩
  rw [← hW] at r0 B0
  have HW := hide hW
  clear hW
  go_enter Try.func13, Try.ntmps13
  go_wp2_with (first
    | (rw [zeroS, ← HW.out])
    | (rw [Pd.zero6]; refine St.wpList_storeNew isPt rfl _ _ (by rfl) _ _ (vals 6 (six n f p n f p)) (by rfl) (by rfl) (vals_len _ _) (vals_len _ _) (one_vals _ _) ?_; intro w1 d1 k1; have r1 := CRow.keep r0 k1; have B1 := below_tr B0 k1)
    | fail)
  rw [arr_four x y vx vy 0 0]
  have q2 := crow_new w1 2 (vals 4 (six x y vx vy 0 0))
  have k2 := below_al (Below.refl _ w1) (.cells (vals 4 (six x y vx vy 0 0)).toArray 2)
  have s2 : Sl (w1.alloc (.cells (vals 4 (six x y vx vy 0 0)).toArray 2)) (some ⟨w1.heap.size, 0, none⟩) 4 4 (six x y vx vy 0 0) := crow_sl q2 (by omega)
  have d2 := CRow.keep d1 k2
  have r2 := CRow.keep r1 k2
  have B2 := below_tr B1 k2
  generalize w1.alloc (.cells (vals 4 (six x y vx vy 0 0)).toArray 2) = w2 at *
  refine (HB.out _ _ s2).mono ?_
  rintro e w3 ⟨rfl, rfl⟩
  go_wp2_with (first
    | (refine Pd.buildS0 (by with_reducible rfl) (by kernel_rfl) ?_)
    | (refine St.wpList_store isS rfl _ _ (by rfl) _ _ _ (by rfl) (by rfl) (by with_reducible exact r2) (svals_len _ _ _ _) (svals_len _ _ _ _) (one_svals _ _ _ _) ?_)
    | fail)
  exact bodyPost_ret (results_2 isS Try.results13 _ _ w.heap.size _ rfl (CRow.row r2 _) (svals_len _ _ _ _)) rfl ⟨rfl, St.below_row B2 (Nat.le_refl _) _⟩

set_option maxRecDepth 10000 in
set_option maxHeartbeats 1000000 in
theorem pblank_unsure (x y vx vy n f p : Int) (w : World) (h : ∀ k, k < 4 → InV (six x y vx vy 0 0 k)) (h2 : ¬ allIn 1 4611686018427387903 (six n f p n f p) 6) :
    Calls Try.prog 13 #[.int .i64 x, .int .i64 y, .int .i64 vx, .int .i64 vy, .int .i64 n, .int .i64 f, .int .i64 p] w fun e w' => e = .returned (.tuple #[.agg (svals (fun _ => 0) 0 0 (fun _ => 0)).toArray, .iface 52 (.int .i64 1)]) ∧ Below w.heap.size w w' := by
  have HB := hide (fun ao W (q : Sl W ao 4 4 (six x y vx vy 0 0)) => pbounded_any true ao 4 4 _ W q ⟨fun _ => h, fun _ => rfl⟩)
  have HU := hide (fun ao W (q : Sl W ao 6 6 (six n f p n f p)) => pwithin_any false 1 4611686018427387903 ao 6 6 _ W q ⟨fun c => (by cases c), fun c => absurd c h2⟩)
  clear h h2
  have r0 := (crow_new w 29 (svals (fun _ => 0) 0 0 (fun _ => 0)))
  have B0 := below_al (Below.refl _ w) (.cells (svals (fun _ => 0) 0 0 (fun _ => 0)).toArray 29)
  obtain ⟨W, hW⟩ : ∃ W, W = w.alloc (.cells (svals (fun _ => 0) 0 0 (fun _ => 0)).toArray 29) := ⟨_, rfl⟩
  rw [← hW] at r0 B0
  have HW := hide hW
  clear hW
  go_enter Try.func13, Try.ntmps13
  go_wp2_with (first
    | (rw [zeroS, ← HW.out])
    | (rw [Pd.zero6]; refine St.wpList_storeNew isPt rfl _ _ (by rfl) _ _ (vals 6 (six n f p n f p)) (by rfl) (by rfl) (vals_len _ _) (vals_len _ _) (one_vals _ _) ?_; intro w1 d1 k1; have r1 := CRow.keep r0 k1; have B1 := below_tr B0 k1)
    | fail)
  rw [arr_four x y vx vy 0 0]
  have q2 := crow_new w1 2 (vals 4 (six x y vx vy 0 0))
  have k2 := below_al (Below.refl _ w1) (.cells (vals 4 (six x y vx vy 0 0)).toArray 2)
  have s2 : Sl (w1.alloc (.cells (vals 4 (six x y vx vy 0 0)).toArray 2)) (some ⟨w1.heap.size, 0, none⟩) 4 4 (six x y vx vy 0 0) := crow_sl q2 (by omega)
  have d2 := CRow.keep d1 k2
  have r2 := CRow.keep r1 k2
  have B2 := below_tr B1 k2
  generalize w1.alloc (.cells (vals 4 (six x y vx vy 0 0)).toArray 2) = w2 at *
  refine (HB.out _ _ s2).mono ?_
  rintro e w3 ⟨rfl, rfl⟩
  have aQ := fun V => allPt W.heap.size V
  go_wp2_with fail
  refine (HU.out _ _ (PRow.sl d2)).mono ?_
  rintro e w4 ⟨rfl, rfl⟩
  go_wp2_with (first
    | (refine Pd.buildS0 (by with_reducible rfl) (by kernel_rfl) ?_)
    | (refine St.wpList_store isS rfl _ _ (by rfl) _ _ _ (by rfl) (by rfl) (by with_reducible exact r2) (svals_len _ _ _ _) (svals_len _ _ _ _) (one_svals _ _ _ _) ?_)
    | fail)
  exact bodyPost_ret (results_2 isS Try.results13 _ _ w.heap.size _ rfl (CRow.row r2 _) (svals_len _ _ _ _)) rfl ⟨rfl, St.below_row B2 (Nat.le_refl _) _⟩

set_option maxRecDepth 10000 in
set_option maxHeartbeats 1000000 in
theorem pblank_yes (x y vx vy n f p : Int) (w : World) (h : ∀ k, k < 4 → InV (six x y vx vy 0 0 k)) (h2 : allIn 1 4611686018427387903 (six n f p n f p) 6) :
    Calls Try.prog 13 #[.int .i64 x, .int .i64 y, .int .i64 vx, .int .i64 vy, .int .i64 n, .int .i64 f, .int .i64 p] w fun e w' => e = .returned (.tuple #[.agg (svals (six x vx 0 y vy 0) 6 6 (mz 6 6 (bP (six n f p n f p)))).toArray, .nilIface]) ∧ Below w.heap.size w w' := by
  have HB := hide (fun ao W (q : Sl W ao 4 4 (six x y vx vy 0 0)) => pbounded_any true ao 4 4 _ W q ⟨fun _ => h, fun _ => rfl⟩)
  have HU := hide (fun ao W (q : Sl W ao 6 6 (six n f p n f p)) => pwithin_any true 1 4611686018427387903 ao 6 6 _ W q ⟨fun _ => h2, fun _ => rfl⟩)
  have HD := hide (fun W => pwd_any (fun _ => 0) (six n f p n f p) W)
  rw [wdk_bP] at HD
  obtain ⟨z, hz⟩ : ∃ z, z = mz 6 6 (bP (six n f p n f p)) := ⟨_, rfl⟩
  rw [← hz] at HD ⊢
  clear h h2 hz
  have r0 := (crow_new w 29 (svals (fun _ => 0) 0 0 (fun _ => 0)))
  have B0 := below_al (Below.refl _ w) (.cells (svals (fun _ => 0) 0 0 (fun _ => 0)).toArray 29)
  obtain ⟨W, hW⟩ : ∃ W, W = w.alloc (.cells (svals (fun _ => 0) 0 0 (fun _ => 0)).toArray 29) := ⟨_, rfl⟩
  rw [← hW] at r0 B0
  have HW := hide hW
  clear hW
  go_enter Try.func13, Try.ntmps13
  go_wp2_with (first
    | (rw [zeroS, ← HW.out])
    | (rw [Pd.zero6]; refine St.wpList_storeNew isPt rfl _ _ (by rfl) _ _ (vals 6 (six n f p n f p)) (by rfl) (by rfl) (vals_len _ _) (vals_len _ _) (one_vals _ _) ?_; intro w1 d1 k1; have r1 := CRow.keep r0 k1; have B1 := below_tr B0 k1)
    | fail)
  rw [arr_four x y vx vy 0 0]
  have q2 := crow_new w1 2 (vals 4 (six x y vx vy 0 0))
  have k2 := below_al (Below.refl _ w1) (.cells (vals 4 (six x y vx vy 0 0)).toArray 2)
  have s2 : Sl (w1.alloc (.cells (vals 4 (six x y vx vy 0 0)).toArray 2)) (some ⟨w1.heap.size, 0, none⟩) 4 4 (six x y vx vy 0 0) := crow_sl q2 (by omega)
  have d2 := CRow.keep d1 k2
  have r2 := CRow.keep r1 k2
  have B2 := below_tr B1 k2
  generalize w1.alloc (.cells (vals 4 (six x y vx vy 0 0)).toArray 2) = w2 at *
  refine (HB.out _ _ s2).mono ?_
  rintro e w3 ⟨rfl, rfl⟩
  have aQ := fun V => allPt W.heap.size V
  go_wp2_with fail
  refine (HU.out _ _ (PRow.sl d2)).mono ?_
  rintro e w4 ⟨rfl, rfl⟩
  clear HB HU r1 B1 s2 q2 d1 aQ
  go_wp2_with (first
    | (refine wpList_build2 rfl _ _ (by rfl) _ _ (by rfl) (by rfl) ?_)
    | (rw [zeroM]; refine Mt.wpList_storeNew rfl _ _ (by rfl) _ _ _ _ (by rfl) (by rfl) ?_; intro w5 n5 k5; have r5 := CRow.keep r2 k5; have B5 := below_tr B2 k5; have d5 := CRow.keep d2 k5)
    | (refine Hk.loadM _ (by with_reducible rfl) _ _ _ _ (by rfl) (by with_reducible exact n5) (by kernel_rfl) ?_)
    | (refine St.wpList_load isPt (by rfl) _ (by rfl) _ _ (by rfl) (by with_reducible exact d5) (vals_len _ _) ?_)
    | fail)
  refine (HD.out _).mono ?_
  rintro e w6 ⟨rfl, k6⟩
  have r6 := CRow.keep r5 k6
  have B6 := below_tr B5 k6
  go_wp2_with (first
    | (refine Pd.buildS2 _ _ (by with_reducible rfl) (six x vx 0 y vy 0) 6 6 z (by rfl) (by rfl) (by kernel_rfl) ?_)
    | (refine St.wpList_store isS rfl _ _ (by rfl) _ _ _ (by rfl) (by rfl) (by with_reducible exact r6) (svals_len _ _ _ _) (svals_len _ _ _ _) (one_svals _ _ _ _) ?_)
    | fail)
  exact bodyPost_ret (results_2 isS Try.results13 _ _ w.heap.size _ rfl (CRow.row r6 _) (svals_len _ _ _ _)) rfl ⟨rfl, St.below_row B6 (Nat.le_refl _) _⟩

end Go.Proofs.Ytoglokgkgonmdaa

/-
  Layer 12's laws: a state as the program's, part by part; what must come whatever the input is.
-/
set_option linter.unusedSimpArgs false
set_option linter.unusedVariables false
namespace Go.Proofs.Ytoglokgkgonmdaa
open Go.RowKit Vc St Mt Cm Ld Pd Pr Qn Dt
attribute [local go_sem ↓] Go.wp_at_zero Go.wp_at_succ

namespace Pd
theorem builtS1 (r c : Int) (z : Nat → Int) : Try.prog.built 29 [(1, .agg (mvals r c z).toArray)] = some (svals (fun _ => 0) r c z).toArray := by kernel_rfl
/-- 'State{P: ..}'. -/
theorem buildS1 {ops : Array Oper} {rest : List Oper} {o : Oper} {a : Act} {w : World} {Q : Exit → Act → World → Prop} (y : Operand) (ho : o.op = .build 29 #[(1, y)]) (r c : Int) (z : Nat → Int) (hy : a.eval y = .agg (mvals r c z).toArray) (hw : Region.wanted o (yielded ops a.tmps) = true)
    (h : wpList Try.prog ops Q rest (a.put o.dst (.agg (svals (fun _ => 0) r c z).toArray)) w) : wpList Try.prog ops Q (o :: rest) a w :=
  wpList_want hw fun _ hK => by
    unfold Oper.wp execOp
    have em : ((#[(1, y)] : Array (Nat × Operand)).map fun (i, x) => (i, a.eval x)).toList = [(1, .agg (mvals r c z).toArray)] := by simp [hy]
    simp only [ho, Sem.run_bind, run_build w 29 _ _ (by rw [em]; exact builtS1 r c z), Result.andThen_ok]
    exact hK _ _ h
end Pd

set_option maxRecDepth 10000 in
set_option maxHeartbeats 1000000 in
theorem pgive_any (xo po : Option Addr) (xc n pc : Nat) (X : Nat → Int) (r c : Int) (z : Nat → Int) (w : World) (hX : Sl w xo 6 xc X)
    (hP : ∀ W, Below w.heap.size w W → Calls Try.prog 12 #[.slice po n pc] W fun e w' => e = .returned (.agg (mvals r c z).toArray) ∧ Below W.heap.size W w') :
    Calls Try.prog 4 #[.agg #[.slice xo 6 xc, .slice po n pc]] w fun e w' => e = .returned (.agg (svals X r c z).toArray) ∧ Below w.heap.size w w' := by
  have m0 := (crow_new w 32 [.slice xo 6 xc, .slice po n pc]).alloc (.cells (svals (fun _ => 0) 0 0 (fun _ => 0)).toArray 29)
  have r0 := crow_new1 w (.cells [.slice xo 6 xc, .slice po n pc].toArray 32) 29 (svals (fun _ => 0) 0 0 (fun _ => 0))
  have B0 : Below w.heap.size w ((w.alloc (.cells [.slice xo 6 xc, .slice po n pc].toArray 32)).alloc (.cells (svals (fun _ => 0) 0 0 (fun _ => 0)).toArray 29)) := below_al (below_al (Below.refl _ _) _) _
  obtain ⟨W, hW⟩ : ∃ W, W = (w.alloc (.cells [.slice xo 6 xc, .slice po n pc].toArray 32)).alloc (.cells (svals (fun _ => 0) 0 0 (fun _ => 0)).toArray 29) := ⟨_, rfl⟩
  rw [← hW] at m0 r0 B0
  have HW := hide hW
  have HP := hide (hP W B0)
  have c1 : W.cell? ⟨w.heap.size, 1, none⟩ = some (.slice po n pc) := CRow.cell m0 (k := 1) rfl rfl
  clear hW hP
  go_enter Try.func4, Try.ntmps4
  go_wp2_with (first | (rw [zeroS]; erw [← HW.out]) | fail)
  refine HP.out.mono ?_
  rintro e w1 ⟨rfl, k1⟩
  have m1 := CRow.keep m0 k1
  have r1 := CRow.keep r0 k1
  have B1 := below_tr B0 k1
  have l1 := CRow.lt r1
  clear HW HP m0 r0 B0 k1 c1
  go_wp2_with (first
    | (refine Pd.buildS1 _ (by with_reducible rfl) r c z (by rfl) (by kernel_rfl) ?_)
    | (rw [zeroS]; refine St.wpList_storeNew isS rfl _ _ (by rfl) _ _ _ (by rfl) (by rfl) (svals_len _ _ _ _) (svals_len _ _ _ _) (one_svals _ _ _ _) ?_; intro w2 n2 k2; have m2 := CRow.keep m1 k2; have r2 := CRow.keep r1 k2; have B2 := below_tr B1 k2; have c0 : w2.cell? ⟨w.heap.size, 0, none⟩ = some (.slice xo 6 xc) := CRow.cell m2 (k := 0) rfl rfl; clear m1 r1 B1 k2)
    | fail)
  obtain ⟨g, hg⟩ : ∃ g, g = w1.heap.size := ⟨_, rfl⟩
  rw [← hg] at n2 l1 ⊢
  have HX := hide hX
  clear hg c0 hX
  go_loopw [4] (fun i wr => ∃ k : Nat, k ≤ 6 ∧ i = .int .i64 (k : Int) ∧ CRow wr w.heap.size 32 [.slice xo 6 xc, .slice po n pc] ∧ SRow wr (w.heap.size + 1) (fun _ => 0) 0 0 (fun _ => 0) ∧ SRow wr g (pt X (fun _ => 0) k) r c z ∧ Below w.heap.size w wr) (fun i _ => 6 - (intOf i).toNat)
  case atStart => exact ⟨0, by omega, rfl, m2, r2, SRow.congr n2 (fun i _ => pt_zero X (fun _ => 0) i) (fun _ _ => rfl), B2⟩
  case round =>
    obtain ⟨k, hk, rfl, m3, r3, n3, B3⟩ := hrel
    have x3 := HX.out.keep B3
    obtain ⟨xa, hxa, hxc⟩ := x3.get
    obtain rfl := hxa (by omega)
    have l5 := x3.le
    have l6 := x3.cap
    by_cases h : k < 6
    · have c0 : World.cell? _ ⟨w.heap.size, 0, none⟩ = some (.slice (some xa) 6 xc) := CRow.cell m3 (k := 0) rfl rfl
      have c2 := hxc k h
      have c3 := SRow.x n3 (k := k) h rfl
      have f3 := CRow.free n3 k
      obtain ⟨v, hv⟩ : ∃ v, v = X k := ⟨_, rfl⟩
      rw [← hv] at c2
      have HV := hide hv
      clear hv hxc hxa x3
      go_wp2
      go_roundw
      case rel => exact ⟨k + 1, by omega, by go_num, CRow.other m3 _ (by show w.heap.size ≠ g; omega), CRow.other r3 _ (by show w.heap.size + 1 ≠ g; omega), SRow.congr (SRow.setx n3 h rfl _) (fun i _ => by rw [HV.out]; exact pt_step X (fun _ => 0) k i) (fun _ _ => rfl), B3.trans (St.below_set B3.size (by show w.heap.size ≤ g; omega) _)⟩
      case measure => simp [intOf]; omega
    · obtain rfl : k = 6 := by omega
      have n4 := SRow.congr n3 (fun i hi => pt_end X (fun _ => 0) hi) (fun _ _ => rfl)
      clear n3 hxc hxa x3 h
      go_wp2_with (first
        | (refine St.wpList_load isS (by rfl) _ (by rfl) _ _ (by rfl) (by with_reducible exact n4) (svals_len _ _ _ _) ?_)
        | (refine St.wpList_store isS rfl _ _ (by rfl) _ _ _ (by rfl) (by rfl) (by with_reducible exact r3) (svals_len _ _ _ _) (svals_len _ _ _ _) (one_svals _ _ _ _) ?_)
        | fail)
      exact bodyPost_ret (results_1 isS Try.results4 _ _ (w.heap.size + 1) _ rfl (CRow.row r3 _) (svals_len _ _ _ _)) rfl ⟨rfl, St.below_row B3 (by omega) _⟩


namespace Pd
def suX : Nat → Int := six 0 10485760 0 0 0 0
def suD : Nat → Int := six 1048576 1048576 1048576 1048576 1048576 1048576
def suQ : Nat → Nat → Int := fun _ _ => 0
theorem suX_in : ∀ k, k < 6 → InV (suX k) := by decide +kernel
theorem su4 : ∀ k, k < 4 → InV (six 0 0 10485760 0 0 0 k) := by decide +kernel
theorem suD_in : ∀ k, k < 6 → 1 ≤ suD k ∧ suD k ≤ 4611686018427387903 := by decide +kernel
theorem six_b {a b c d e f : Int} (h : ∀ v ∈ [a, b, c, d, e, f], -9223372036854775808 ≤ v ∧ v ≤ 9223372036854775807) : B64 (six a b c d e f) := fun k => by
  match k with
  | 0 => exact h a (by simp)
  | 1 => exact h b (by simp)
  | 2 => exact h c (by simp)
  | 3 => exact h d (by simp)
  | 4 => exact h e (by simp)
  | _ + 5 => exact h f (by simp)
theorem suX_b : B64 suX := six_b (by decide)
theorem suD_b : B64 suD := six_b (by decide)
theorem suQ_b : B2 suQ := fun i j => by show _ ≤ (0 : Int) ∧ (0 : Int) ≤ _; omega
theorem suQ_mz (k : Nat) : (0 : Int) = mz 6 6 suQ k := (mz_zero k).symm
end Pd

end Go.Proofs.Ytoglokgkgonmdaa

/-
  Layer 12's laws: a state of small numbers (someState).
-/
set_option linter.unusedSimpArgs false
set_option linter.unusedVariables false
namespace Go.Proofs.Ytoglokgkgonmdaa
open Go.RowKit Vc St Mt Cm Ld Pd Pr Qn Dt
attribute [local go_sem ↓] Go.wp_at_zero Go.wp_at_succ

namespace Pd
theorem hide2 {p : Prop} (h : p) : Hid p := h
theorem isR3 : Is 32 2 := ⟨by kernel_rfl, ⟨_, Try.underlying32, rfl⟩⟩
theorem soP_eq (m : Nat) (K : Nat → Nat) (Z : Nat → Nat → Int) (k : Nat) : soP m K Z k k = (if soN m K Z k k < 0 then -soN m K Z k k else soN m K Z k k) + 68719476736 := by unfold soP; rw [if_pos rfl]
theorem soP_ne (m : Nat) (K : Nat → Nat) (Z : Nat → Nat → Int) {k j : Nat} (h : k ≠ j) : soP m K Z k j = soN m K Z (max k j) (min k j) := by unfold soP; rw [if_neg h]
end Pd

set_option maxRecDepth 20000 in
set_option maxHeartbeats 8000000 in
theorem psome_any (xo po : Option Addr) (l xc m pc : Nat) (zx : Nat → Int) (A : Nat → Option Addr) (K C : Nat → Nat) (Z : Nat → Nat → Int) (w : World) (hX : Sl w xo l xc zx) (hP : Sls w po m pc A K C) (hZ : ∀ r, r < m → Sl w (A r) (K r) (C r) (Z r)) :
    Calls Try.prog 5 #[.slice xo l xc, .slice po m pc, .int .i64 68719476736] w fun e w' => ∃ yo yc ro rc, e = .returned (.agg #[.slice yo 6 yc, .slice ro 6 rc]) ∧ Sl w' yo 6 yc (soX l zx) ∧ Grid w' ro 6 rc 6 (soP m K Z) ∧ Below w.heap.size w w' := by
  have r0 := crow_new w 32 [.slice none 0 0, .slice none 0 0]
  have B0 := below_al (Below.refl _ w) (.cells [.slice none 0 0, .slice none 0 0].toArray 32)
  obtain ⟨W, hW⟩ : ∃ W, W = w.alloc (.cells [.slice none 0 0, .slice none 0 0].toArray 32) := ⟨_, rfl⟩
  rw [← hW] at r0 B0
  have HW := hide2 hW
  have lX1 := hX.le
  have lX2 := hX.cap
  have lP1 := hP.le
  have lP2 := hP.cap
  have HX := hide2 hX
  have HP := hide2 hP
  have HZ := hide2 hZ
  clear hW hX hP hZ
  go_enter Try.func5, Try.ntmps5
  go_wp2_with (first
    | (erw [← HW.out])
    | (refine St.wpList_storeNew isR3 rfl _ _ (by rfl) _ [.slice none 0 0, .slice none 0 0] [.slice none 0 0, .slice none 0 0] (by rfl) (by rfl) rfl rfl (by intro v hv; simp only [List.mem_cons, List.not_mem_nil, or_false] at hv; rcases hv with rfl | rfl <;> rfl) ?_; intro w1 n1 k1; have r1 := CRow.keep r0 k1; have B1 := below_tr B0 k1)
    | fail)
  have l0 := CRow.lt r0
  have l1 := CRow.lt n1
  have lb := B0.size
  obtain ⟨g, hg⟩ : ∃ g, g = W.heap.size := ⟨_, rfl⟩
  rw [← hg] at n1 l0 l1 ⊢
  obtain ⟨o, ho⟩ : ∃ o, o = w1.heap.size := ⟨_, rfl⟩
  rw [← ho] at l1
  have z1 : Ls.Sts o w1 (.slice none 0 0) (.slice none 0 0) 0 0 6 (soX l zx) (soP m K Z) := Ls.Sts.nil (by omega) _ _ _
  have hR : ∀ V, But (fun q => q = g ∨ o ≤ q) w1 V → CRow V w.heap.size 32 [.slice none 0 0, .slice none 0 0] := fun V k => crowBut r1 k (by rintro (e | e) <;> omega)
  have hB : ∀ V, But (fun q => q = g ∨ o ≤ q) w1 V → Below w.heap.size w V := fun V k => k.below B1 B1.size (by rintro q (e | e) <;> omega)
  have HR := hide2 hR
  have HB := hide2 hB
  clear hR hB r0 r1 B0 B1 k1 ho hg HW lb
  go_loopw [8] (fun i wr => ∃ (k : Nat) (vX vP : Value), k ≤ 6 ∧ i = .int .i64 (k : Int) ∧ CRow wr g 32 [vX, vP] ∧ Ls.Sts o wr vX vP k k 6 (soX l zx) (soP m K Z) ∧ But (fun q => q = g ∨ o ≤ q) w1 wr) (fun i _ => 6 - (intOf i).toNat)
  case atStart => exact ⟨0, _, _, by omega, rfl, n1, z1, But.refl _ _⟩
  case round =>
    rename World => wr
    obtain ⟨k, vX, vP, hk, rfl, nr, zr, br⟩ := hrel
    by_cases h : k < 6
    · have Br := HB.out _ br
      have xr := HX.out.keep Br
      have cX : wr.cell? ⟨g, 0, none⟩ = some vX := CRow.cell nr (k := 0) rfl rfl
      have e64 : soX l zx k = soX l zx k := rfl
      have bX := soX_in l zx k
      obtain ⟨V, hV⟩ : ∃ V, V = soX l zx k := ⟨_, rfl⟩
      rw [← hV] at bX
      have HV := hide2 hV
      clear e64 hV
      go_upto_if 23 with fail
      go_cut [9] (fun v wx => v = .int .i64 V ∧ wx = wr)
      case first =>
        by_cases hl : k < l
        · obtain ⟨xa, hxa, hxc⟩ := xr.get
          obtain rfl := hxa (by omega)
          have cz := hxc k hl
          have d1 : decide ((k : Int) < (l : Int)) = true := decide_eq_true (by omega)
          have eV : Hid (V = (zx k).tmod 68719476736) := by show V = _; rw [HV.out]; unfold soX; rw [if_pos hl]
          obtain ⟨zk, hzk⟩ : ∃ z, z = zx k := ⟨_, rfl⟩
          rw [← hzk] at cz eV
          have e1 : Int.tmod zk 68719476736 = V := eV.out.symm
          clear hzk hxa hxc eV
          go_wp2
          go_meet
          exact ⟨rfl, rfl⟩
        · have d1 : decide ((k : Int) < (l : Int)) = false := decide_eq_false (by omega)
          have eV : V = 0 := by rw [HV.out]; unfold soX; rw [if_neg hl]
          go_wp2
          go_meet
          exact ⟨by rw [eV], rfl⟩
      obtain ⟨rfl, rfl⟩ := hcut
      go_wp2_with (first
        | (at_builtin; refine Ls.pushX (by rfl) _ _ (by rfl) o _ vP k k 6 (soX l zx) (soP m K Z) (by rfl) zr (by omega) (by omega) V HV.out (by rfl) ?_)
        | fail)
      intro v' w' zp bp
      obtain ⟨lo', cm', hv', _⟩ := zp.sl
      subst hv'
      have n2 := crowBut nr bp (by omega)
      have c2 : w'.cell? ⟨g, 0, none⟩ = some vX := CRow.cell n2 (k := 0) rfl rfl
      have f2 := CRow.free n2 0
      have n3 := CRow.set n2 0 (.slice lo' (k + 1) cm')
      have b3 := (br.trans (bp.mono fun q e => Or.inr e)).set (p := ⟨g, 0, none⟩) (.slice lo' (k + 1) cm') (Or.inl rfl)
      have z3 := zp.put (g := g) l1 ((But.refl (· = g) w').set (p := ⟨g, 0, none⟩) (.slice lo' (k + 1) cm') rfl)
      obtain ⟨w3, hw3⟩ : ∃ W, W = w'.setCell ⟨g, 0, none⟩ (.slice lo' (k + 1) cm') := ⟨_, rfl⟩
      rw [← hw3] at n3 b3 z3
      have H3 := hide2 hw3
      have B3 := HB.out _ b3
      clear hw3 n2 bp zp nr br zr cX xr
      go_wp2_with (first | (rw [← H3.out]) | fail)
      go_loopw [10, 11] (fun v i wi => ∃ j : Nat, j ≤ 6 ∧ i = .int .i64 (j : Int) ∧ Own w3.heap.size w3 wi v j (soP m K Z k)) (fun _ i _ => 6 - (intOf i).toNat)
      case atStart => exact ⟨0, by omega, rfl, Own.nil (Below.refl _ _) (Nat.le_refl _) _⟩
      case round =>
        rename World => wi
        obtain ⟨j, hj, rfl, hO⟩ := hrel
        by_cases h5 : j < 6
        · have Bi := below_tr B3 hO.below
          obtain ⟨a, ha⟩ : ∃ a, a = max k j := ⟨_, rfl⟩
          obtain ⟨b, hb⟩ : ∃ b, b = min k j := ⟨_, rfl⟩
          have e1 : max (k : Int) (j : Int) = (a : Int) := by omega
          have e2 : min (k : Int) (j : Int) = (b : Int) := by omega
          have bN := soN_in m K Z a b
          have HN : Hid (soN m K Z a b = soN m K Z a b) := rfl
          obtain ⟨n, hn⟩ : ∃ n, n = soN m K Z a b := ⟨_, rfl⟩
          rw [← hn] at bN
          have HNv := hide2 hn
          have a6 : a < 6 := by omega
          have b6 : b < 6 := by omega
          have eP : Hid (soP m K Z k j = if k = j then (if n < 0 then -n else n) + 68719476736 else n) := by
            show _ = _
            by_cases e : k = j
            · subst e
              have ea : a = k := by omega
              have eb : b = k := by omega
              rw [if_pos rfl, soP_eq, hn, ea, eb]
            · rw [if_neg e, soP_ne _ _ _ e, hn, ha, hb]
          have HAB : Hid (a = max k j ∧ b = min k j) := ⟨ha, hb⟩
          clear hn HN ha hb
          by_cases hm : a < m
          · obtain ⟨pa, hpa, hpc⟩ := (HP.out.keep Bi).get
            obtain rfl := hpa (by omega)
            have cr := hpc a hm
            have sr := (HZ.out a hm).keep Bi
            have l5 := sr.le
            have l6 := sr.cap
            have d1 : decide ((a : Int) < (m : Int)) = true := decide_eq_true (by omega)
            obtain ⟨ka, hka⟩ : ∃ q, q = K a := ⟨_, rfl⟩
            obtain ⟨ca, hca⟩ : ∃ q, q = C a := ⟨_, rfl⟩
            rw [← hka] at cr sr l5
            rw [← hca] at cr sr l5 l6
            by_cases hb : b < ka
            · obtain ⟨ra, hra, hrc⟩ := sr.get
              rw [hra (by omega)] at cr
              have cz := hrc b hb
              have d2 : decide ((b : Int) < (ka : Int)) = true := decide_eq_true (by omega)
              have eV : Hid (n = (Z a b).tmod 1073741824) := by show n = _; rw [HNv.out]; unfold soN; rw [if_pos ⟨hm, by rw [← hka]; exact hb⟩]
              obtain ⟨zk, hzk⟩ : ∃ z, z = Z a b := ⟨_, rfl⟩
              rw [← hzk] at cz eV
              have e3 : Int.tmod zk 1073741824 = n := eV.out.symm
              clear hzk hpa hpc hra hrc sr eV hka hca
              obtain ⟨y, hy⟩ : ∃ y, y = soP m K Z k j := ⟨_, rfl⟩
              have HY := hide2 hy
              rw [← hy] at eP
              clear hy
              by_cases ekj : k = j
              · subst ekj
                by_cases hn0 : n < 0
                · have ey : Hid (y = -n + 68719476736) := by show y = _; rw [eP.out, if_pos rfl, if_pos hn0]
                  have e4 : -n + 68719476736 = y := ey.out.symm
                  have d3 : decide (n < 0) = true := decide_eq_true hn0
                  have by0 : 68719476736 ≤ y ∧ y < 69793218560 := by omega
                  clear ey eP HNv HAB
                  go_wp2_with (first
                    | (at_builtin; refine Ls.pushN (by rfl) _ _ (by rfl) w3.heap.size w3 _ k (soP m K Z k) (by rfl) hO (by omega) y HY.out (by rfl) ?_)
                    | fail)
                  intro v4 w4 hO4
                  go_wp2
                  go_roundw
                  case rel => exact ⟨k + 1, by omega, by go_num, hO4⟩
                  case measure => simp [intOf]; omega
                · have ey : Hid (y = n + 68719476736) := by show y = _; rw [eP.out, if_pos rfl, if_neg hn0]
                  have e4 : n + 68719476736 = y := ey.out.symm
                  have d3 : decide (n < 0) = false := decide_eq_false hn0
                  have by0 : 68719476736 ≤ y ∧ y < 69793218560 := by omega
                  clear ey eP HNv HAB
                  go_wp2_with (first
                    | (at_builtin; refine Ls.pushN (by rfl) _ _ (by rfl) w3.heap.size w3 _ k (soP m K Z k) (by rfl) hO (by omega) y HY.out (by rfl) ?_)
                    | fail)
                  intro v4 w4 hO4
                  go_wp2
                  go_roundw
                  case rel => exact ⟨k + 1, by omega, by go_num, hO4⟩
                  case measure => simp [intOf]; omega
              · have ey : Hid (y = n) := by show y = _; rw [eP.out, if_neg ekj]
                have d5 : ((k : Int) == (j : Int)) = false := beq_eq_false_iff_ne.2 (by omega)
                have d6 : decide ((k : Int) = (j : Int)) = false := decide_eq_false (by omega)
                have HY2 : Hid (n = soP m K Z k j) := by show n = _; rw [← HY.out, ey.out]
                clear ey eP HNv HAB HY
                go_wp2_with (first
                  | (at_builtin; refine Ls.pushN (by rfl) _ _ (by rfl) w3.heap.size w3 _ j (soP m K Z k) (by rfl) hO (by omega) n HY2.out (by rfl) ?_)
                  | fail)
                intro v4 w4 hO4
                go_wp2
                go_roundw
                case rel => exact ⟨j + 1, by omega, by go_num, hO4⟩
                case measure => simp [intOf]; omega
            · have d2 : decide ((b : Int) < (ka : Int)) = false := decide_eq_false (by omega)
              have eV : n = 0 := by rw [HNv.out]; unfold soN; rw [if_neg (fun q => hb (by rw [hka]; exact q.2))]
              subst eV
              clear hpa hpc sr hka hca
              by_cases ekj : k = j
              · subst ekj
                have HY2 : Hid (68719476736 = soP m K Z k k) := by show (68719476736 : Int) = _; rw [eP.out, if_pos rfl]; rfl
                clear eP HNv HAB
                go_wp2_with (first
                  | (at_builtin; refine Ls.pushN (by rfl) _ _ (by rfl) w3.heap.size w3 _ k (soP m K Z k) (by rfl) hO (by omega) 68719476736 HY2.out (by rfl) ?_)
                  | fail)
                intro v4 w4 hO4
                go_wp2
                go_roundw
                case rel => exact ⟨k + 1, by omega, by go_num, hO4⟩
                case measure => simp [intOf]; omega
              · have HY2 : Hid (0 = soP m K Z k j) := by show (0 : Int) = _; rw [eP.out, if_neg ekj]
                have d5 : ((k : Int) == (j : Int)) = false := beq_eq_false_iff_ne.2 (by omega)
                have d6 : decide ((k : Int) = (j : Int)) = false := decide_eq_false (by omega)
                clear eP HNv HAB
                go_wp2_with (first
                  | (at_builtin; refine Ls.pushN (by rfl) _ _ (by rfl) w3.heap.size w3 _ j (soP m K Z k) (by rfl) hO (by omega) 0 HY2.out (by rfl) ?_)
                  | fail)
                intro v4 w4 hO4
                go_wp2
                go_roundw
                case rel => exact ⟨j + 1, by omega, by go_num, hO4⟩
                case measure => simp [intOf]; omega
          · have d1 : decide ((a : Int) < (m : Int)) = false := decide_eq_false (by omega)
            have eV : n = 0 := by rw [HNv.out]; unfold soN; rw [if_neg (fun q => hm q.1)]
            subst eV
            by_cases ekj : k = j
            · subst ekj
              have HY2 : Hid (68719476736 = soP m K Z k k) := by show (68719476736 : Int) = _; rw [eP.out, if_pos rfl]; rfl
              clear eP HNv HAB
              go_wp2_with (first
                | (at_builtin; refine Ls.pushN (by rfl) _ _ (by rfl) w3.heap.size w3 _ k (soP m K Z k) (by rfl) hO (by omega) 68719476736 HY2.out (by rfl) ?_)
                | fail)
              intro v4 w4 hO4
              go_wp2
              go_roundw
              case rel => exact ⟨k + 1, by omega, by go_num, hO4⟩
              case measure => simp [intOf]; omega
            · have HY2 : Hid (0 = soP m K Z k j) := by show (0 : Int) = _; rw [eP.out, if_neg ekj]
              have d5 : ((k : Int) == (j : Int)) = false := beq_eq_false_iff_ne.2 (by omega)
              have d6 : decide ((k : Int) = (j : Int)) = false := decide_eq_false (by omega)
              clear eP HNv HAB
              go_wp2_with (first
                | (at_builtin; refine Ls.pushN (by rfl) _ _ (by rfl) w3.heap.size w3 _ j (soP m K Z k) (by rfl) hO (by omega) 0 HY2.out (by rfl) ?_)
                | fail)
              intro v4 w4 hO4
              go_wp2
              go_roundw
              case rel => exact ⟨j + 1, by omega, by go_num, hO4⟩
              case measure => simp [intOf]; omega
        · obtain rfl : j = 6 := by omega
          obtain ⟨ra, rc, rfl, sr, fr⟩ := own_fresh hO
          have ki := hO.below
          have z4 := z3.keep ki
          have n4 := CRow.keep n3 ki
          have b4 := b3.then ki
          have ap := z3.apart fr
          have c4 : wi.cell? ⟨g, 1, none⟩ = some vP := CRow.cell n4 (k := 1) rfl rfl
          have HSr := hide2 sr
          have HAP := hide2 ap
          clear sr ap fr hO ki h5
          go_wp2_with (first
            | (at_builtin; refine Ls.pushP (by rfl) _ _ (by rfl) o _ vP (k + 1) k 6 (soX l zx) (soP m K Z) (by rfl) z4 (by omega) (by omega) ra rc HSr.out HAP.out (by rfl) ?_)
            | fail)
          intro v' w5 z5 b5
          obtain ⟨lp, cp, hv', _⟩ := z5.grid
          subst hv'
          have n5 := crowBut n4 b5 (by omega)
          have c5 : w5.cell? ⟨g, 1, none⟩ = some vP := CRow.cell n5 (k := 1) rfl rfl
          have f5 := CRow.free n5 1
          have n6 := CRow.set n5 1 (.slice lp (k + 1) cp)
          have b6 := (b4.trans (b5.mono fun q e => Or.inr e)).set (p := ⟨g, 1, none⟩) (.slice lp (k + 1) cp) (Or.inl rfl)
          have z6 := z5.put (g := g) l1 ((But.refl (· = g) w5).set (p := ⟨g, 1, none⟩) (.slice lp (k + 1) cp) rfl)
          clear n5 b5 z5 n4 b4 z4 c4 HSr HAP n3 b3 z3
          go_wp2
          go_roundw
          case rel => exact ⟨k + 1, _, _, by omega, by go_num, n6, z6, b6⟩
          case measure => simp [intOf]; omega
    · obtain rfl : k = 6 := by omega
      obtain ⟨yo, yc, rfl, _⟩ := zr.sl
      obtain ⟨ro, rc, rfl, _⟩ := zr.grid
      have rr := HR.out _ br
      have Br := HB.out _ br
      have rE := CRow.row rr [.slice yo 6 yc, .slice ro 6 rc]
      have zE := zr.put (g := w.heap.size) (by omega) (Ls.but_row wr w.heap.size ([.slice yo 6 yc, .slice ro 6 rc] : List Value).toArray)
      obtain ⟨yo', yc', e1, sE⟩ := zE.sl
      obtain ⟨ro', rc', e2, gE⟩ := zE.grid
      cases e1
      cases e2
      clear h zE zr
      go_wp2_with (first
        | (refine St.wpList_load isR3 (by rfl) _ (by rfl) _ _ (by rfl) (by with_reducible exact nr) rfl ?_)
        | (refine St.wpList_store isR3 rfl _ _ (by rfl) _ _ [.slice yo 6 yc, .slice ro 6 rc] (by rfl) (by rfl) (by with_reducible exact rr) rfl rfl (by intro v hv; simp only [List.mem_cons, List.not_mem_nil, or_false] at hv; rcases hv with rfl | rfl <;> rfl) ?_)
        | fail)
      exact bodyPost_ret (results_1 isR3 Try.results5 _ _ w.heap.size _ rfl rE rfl) rfl ⟨_, _, _, _, rfl, sE, gE, St.below_row Br (Nat.le_refl _) _⟩
end Go.Proofs.Ytoglokgkgonmdaa
