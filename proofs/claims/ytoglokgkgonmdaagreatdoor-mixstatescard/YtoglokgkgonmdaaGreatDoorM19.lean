/-
  States of package predict: the steps: matrix, moved, spread.
-/
import Derived.Test.YtoglokgkgonmdaaGreatDoorM16
import Derived.Test.YtoglokgkgonmdaaGreatDoorM15
import Derived.Test.YtoglokgkgonmdaaGreatDoorM8
import Derived.Test.YtoglokgkgonmdaaGreatDoorRegM
import Derived.Test.YtoglokgkgonmdaaGreatDoorM7
import Derived.Test.YtoglokgkgonmdaaGreatDoorM3
import Derived.Test.YtoglokgkgonmdaaGreatDoorM6
set_option linter.unusedSimpArgs false
set_option linter.unusedVariables false
namespace Go.Proofs.YtoglokgkgonmdaaGreatDoor
open Go.RowKit Vc St Mt Cm Ld Pd Pr Qn Dt
attribute [local go_sem ↓] Go.wp_at_zero Go.wp_at_succ
namespace Pd
theorem mrowBut {P : Nat → Prop} {a b : World} {g : Nat} {r c : Int} {z : Nat → Int} (h : MRow a g r c z) (k : But P a b) (hx : ¬ P g) : MRow b g r c z := by
  unfold MRow; rw [k.block g h.lt hx]; exact h
end Pd
end Go.Proofs.YtoglokgkgonmdaaGreatDoor
namespace Go.Proofs.YtoglokgkgonmdaaGreatDoor
open Go.RowKit Vc St Mt Cm Ld Pd Pr Qn Dt
attribute [local go_sem ↓] Go.wp_at_zero Go.wp_at_succ
namespace Pd
theorem builtS (X : Nat → Int) (r c : Int) (z : Nat → Int) : Tryz.prog.built 42 [(0, .agg (vals 6 X).toArray), (1, .agg (mvals r c z).toArray)] = some (svals X r c z).toArray := by kernel_rfl
theorem builtS0 : Tryz.prog.built 42 [] = some (svals (fun _ => 0) 0 0 (fun _ => 0)).toArray := by kernel_rfl
theorem yieldsP {ops : Array Oper} {S : World → Prop} {o : Oper} {a : Act} {t : TypeId} {n : Nat} (I : Is t n) (hw : Region.wanted o (yielded ops a.tmps) = true) (x : Operand) (ho : o.op = .load t x)
    (b p : Nat) (cs : List Value) (hx : a.eval x = .pointer (some ⟨b, p, none⟩)) (hS : ∀ w, S w → w.rangeAt b p cs) (hl : cs.length = n) : YieldsIf Tryz.prog ops S o (.agg cs.toArray) a := by
  obtain ⟨d, hd, hr⟩ := I.row
  exact yieldsIf_load_mid hw _ x ho b p hx cs d hS hd hr (by rw [I.size, hl])
theorem yieldsB {ops : Array Oper} {S : World → Prop} {o : Oper} {a : Act} (hw : Region.wanted o (yielded ops a.tmps) = true) (x y : Operand) (ho : o.op = .build 42 #[(0, x), (1, y)])
    (X : Nat → Int) (r c : Int) (z : Nat → Int) (hx : a.eval x = .agg (vals 6 X).toArray) (hy : a.eval y = .agg (mvals r c z).toArray) : YieldsIf Tryz.prog ops S o (.agg (svals X r c z).toArray) a :=
  .inl ⟨hw, fun w _ => by
    unfold execOp
    have em : ((#[(0, x), (1, y)] : Array (Nat × Operand)).map fun (i, x) => (i, a.eval x)).toList = [(0, .agg (vals 6 X).toArray), (1, .agg (mvals r c z).toArray)] := by simp [hx, hy]
    simp only [ho, Sem.run_bind, run_build w 42 _ _ (by rw [em]; exact builtS X r c z), Result.andThen_ok, Sem.run_pure]⟩
theorem buildS0 {ops : Array Oper} {rest : List Oper} {o : Oper} {a : Act} {w : World} {Q : Exit → Act → World → Prop} (ho : o.op = .build 42 #[]) (hw : Region.wanted o (yielded ops a.tmps) = true)
    (h : wpList Tryz.prog ops Q rest (a.put o.dst (.agg (svals (fun _ => 0) 0 0 (fun _ => 0)).toArray)) w) : wpList Tryz.prog ops Q (o :: rest) a w :=
  wpList_want hw fun _ hK => by
    unfold Oper.wp execOp
    have em : ((#[] : Array (Nat × Operand)).map fun (i, x) => (i, a.eval x)).toList = [] := by simp
    simp only [ho, Sem.run_bind, run_build w 42 _ _ (by rw [em]; exact builtS0), Result.andThen_ok]
    exact hK _ _ h
theorem buildS2 {ops : Array Oper} {rest : List Oper} {o : Oper} {a : Act} {w : World} {Q : Exit → Act → World → Prop} (x y : Operand) (ho : o.op = .build 42 #[(0, x), (1, y)]) (X : Nat → Int) (r c : Int) (z : Nat → Int) (hx : a.eval x = .agg (vals 6 X).toArray) (hy : a.eval y = .agg (mvals r c z).toArray) (hw : Region.wanted o (yielded ops a.tmps) = true)
    (h : wpList Tryz.prog ops Q rest (a.put o.dst (.agg (svals X r c z).toArray)) w) : wpList Tryz.prog ops Q (o :: rest) a w :=
  wpList_want hw fun _ hK => by
    unfold Oper.wp execOp
    have em : ((#[(0, x), (1, y)] : Array (Nat × Operand)).map fun (i, x) => (i, a.eval x)).toList = [(0, .agg (vals 6 X).toArray), (1, .agg (mvals r c z).toArray)] := by simp [hx, hy]
    simp only [ho, Sem.run_bind, run_build w 42 _ _ (by rw [em]; exact builtS X r c z), Result.andThen_ok]
    exact hK _ _ h
end Pd
end Go.Proofs.YtoglokgkgonmdaaGreatDoor
namespace Go.Proofs.YtoglokgkgonmdaaGreatDoor
open Go.RowKit Vc St Mt Cm Ld Pd Pr Qn Dt
attribute [local go_sem ↓] Go.wp_at_zero Go.wp_at_succ
end Go.Proofs.YtoglokgkgonmdaaGreatDoor
namespace Go.Proofs.YtoglokgkgonmdaaGreatDoor
open Go.RowKit Vc St Mt Cm Ld Pd Pr Qn Dt
attribute [local go_sem ↓] Go.wp_at_zero Go.wp_at_succ
namespace Pd
def six (a b c d e f : Int) : Nat → Int
  | 0 => a
  | 1 => b
  | 2 => c
  | 3 => d
  | 4 => e
  | _ => f
theorem arr_four (a b c d e f : Int) : #[.int .i64 a, .int .i64 b, .int .i64 c, .int .i64 d] = (vals 4 (six a b c d e f)).toArray := rfl
theorem crow_sl {w : World} {g : Nat} {t : TypeId} {n : Nat} {z : Nat → Int} (h : CRow w g t (vals n z)) (hn : n ≤ 9223372036854775807) : Sl w (some ⟨g, 0, none⟩) n n z :=
  ⟨Nat.le_refl _, hn, fun k hk => ⟨_, rfl, by rw [Addr.add_lit]; exact h.cell (vals_at hk) (by omega)⟩⟩
def bP (D : Nat → Int) : Nat → Nat → Int := wd (fun _ _ => 0) D
theorem mz_zero (k : Nat) : mz 6 6 (fun _ _ => 0) k = 0 := by unfold mz mpart; split <;> rfl
theorem wdk_bP (D : Nat → Int) : mvals 6 6 (wdk (fun _ => 0) D 6) = mvals 6 6 (mz 6 6 (bP D)) := by
  refine mvals_congr fun k hk => ?_
  have e := wdk_mz (fun _ _ => 0) D k hk
  unfold bP
  rw [← e]
  unfold wdk
  rw [mz_zero]
theorem blank_may {X D : Nat → Int} (h : ∀ k, k < 6 → InV (X k)) (h' : ∀ k, k < 6 → 1 ≤ D k ∧ D k ≤ 4611686018427387903) : MayV X (bP D) := fun i hi => by
  refine ⟨h i hi, ?_, fun j hj => ⟨?_, ?_⟩⟩
  · unfold bP wd; rw [if_pos rfl]; have := h' i hi; omega
  · unfold bP wd
    split
    · have := h' i hi; exact ⟨by omega, by omega⟩
    · exact (show InV 0 from ⟨by omega, by omega⟩)
  · unfold bP wd
    by_cases e : i = j
    · subst e; rfl
    · rw [if_neg e, if_neg (fun q => e q.symm)]
theorem bP_b2 {D : Nat → Int} (h : B64 D) : B2 (bP D) := fun i j => by
  show _ ≤ (if i = j then D i else 0) ∧ (if i = j then D i else 0) ≤ _
  split
  · exact h i
  · omega
end Pd
set_option maxRecDepth 10000 in
set_option maxHeartbeats 1000000 in
theorem pblank_far (x y vx vy n f p : Int) (w : World) (h : ¬ ∀ k, k < 4 → InV (six x y vx vy 0 0 k)) :
  Calls Tryz.prog 26 #[.int .i64 x, .int .i64 y, .int .i64 vx, .int .i64 vy, .int .i64 n, .int .i64 f, .int .i64 p] w fun e w' => e = .returned (.tuple #[.agg (svals (fun _ => 0) 0 0 (fun _ => 0)).toArray, .iface 61 (.int .i64 1)]) ∧ Below w.heap.size w w' := by
 have HB := hide (fun ao W (q : Sl W ao 4 4 (six x y vx vy 0 0)) => pbounded_any false ao 4 4 _ W q ⟨fun c => (by cases c), fun c => absurd c h⟩)
 clear h
 have r0 := (crow_new w 42 (svals (fun _ => 0) 0 0 (fun _ => 0)))
 have B0 := below_al (Below.refl _ w) (.cells (svals (fun _ => 0) 0 0 (fun _ => 0)).toArray 42)
 obtain ⟨W, hW⟩ : ∃ W, W = w.alloc (.cells (svals (fun _ => 0) 0 0 (fun _ => 0)).toArray 42) := ⟨_, rfl⟩
 rw [← hW] at r0 B0
 have HW := hide hW
 clear hW
 go_enter Tryz.func26, Tryz.ntmps26
 go_wp2_with (first
  | (rw [zeroS, ← HW.out])
  | (rw [Pd.zero6]; refine St.wpList_storeNew isPt rfl _ _ (by rfl) _ _ (vals 6 (six n f p n f p)) (by rfl) (by rfl) (vals_len _ _) (vals_len _ _) (one_vals _ _) ?_; intro w1 d1 k1; have r1 := CRow.keep r0 k1; have B1 := below_tr B0 k1)
  | fail)
 rw [arr_four x y vx vy 0 0]
 have q2 := crow_new w1 2 (vals 4 (six x y vx vy 0 0))
 have k2 := below_al (Below.refl _ w1) (.cells (vals 4 (six x y vx vy 0 0)).toArray 2)
 have s2 : Sl (w1.alloc (.cells (vals 4 (six x y vx vy 0 0)).toArray 2)) (some ⟨w1.heap.size, 0, none⟩) 4 4 (six x y vx vy 0 0) := crow_sl q2 (by omega)
 have d2 := CRow.keep d1 k2
 have r2 := CRow.keep r1 k2
 have B2 := below_tr B1 k2
 generalize w1.alloc (.cells (vals 4 (six x y vx vy 0 0)).toArray 2) = w2 at *
 refine (HB.out _ _ s2).mono ?_
 rintro e w3 ⟨rfl, rfl⟩
 go_wp2_with (first
  | (refine Pd.buildS0 (by with_reducible rfl) (by kernel_rfl) ?_)
  | (refine St.wpList_store isS rfl _ _ (by rfl) _ _ _ (by rfl) (by rfl) (by with_reducible exact r2) (svals_len _ _ _ _) (svals_len _ _ _ _) (one_svals _ _ _ _) ?_)
  | fail)
 exact bodyPost_ret (results_2 isS Tryz.results26 _ _ w.heap.size _ rfl (CRow.row r2 _) (svals_len _ _ _ _)) rfl ⟨rfl, St.below_row B2 (Nat.le_refl _) _⟩
set_option maxRecDepth 10000 in
set_option maxHeartbeats 1000000 in
theorem pblank_yes (x y vx vy n f p : Int) (w : World) (h : ∀ k, k < 4 → InV (six x y vx vy 0 0 k)) (h2 : allIn 1 4611686018427387903 (six n f p n f p) 6) :
  Calls Tryz.prog 26 #[.int .i64 x, .int .i64 y, .int .i64 vx, .int .i64 vy, .int .i64 n, .int .i64 f, .int .i64 p] w fun e w' => e = .returned (.tuple #[.agg (svals (six x vx 0 y vy 0) 6 6 (mz 6 6 (bP (six n f p n f p)))).toArray, .nilIface]) ∧ Below w.heap.size w w' := by
 have HB := hide (fun ao W (q : Sl W ao 4 4 (six x y vx vy 0 0)) => pbounded_any true ao 4 4 _ W q ⟨fun _ => h, fun _ => rfl⟩)
 have HU := hide (fun ao W (q : Sl W ao 6 6 (six n f p n f p)) => pwithin_any true 1 4611686018427387903 ao 6 6 _ W q ⟨fun _ => h2, fun _ => rfl⟩)
 have HD := hide (fun W => pwd_any (fun _ => 0) (six n f p n f p) W)
 rw [wdk_bP] at HD
 obtain ⟨z, hz⟩ : ∃ z, z = mz 6 6 (bP (six n f p n f p)) := ⟨_, rfl⟩
 rw [← hz] at HD ⊢
 clear h h2 hz
 have r0 := (crow_new w 42 (svals (fun _ => 0) 0 0 (fun _ => 0)))
 have B0 := below_al (Below.refl _ w) (.cells (svals (fun _ => 0) 0 0 (fun _ => 0)).toArray 42)
 obtain ⟨W, hW⟩ : ∃ W, W = w.alloc (.cells (svals (fun _ => 0) 0 0 (fun _ => 0)).toArray 42) := ⟨_, rfl⟩
 rw [← hW] at r0 B0
 have HW := hide hW
 clear hW
 go_enter Tryz.func26, Tryz.ntmps26
 go_wp2_with (first
  | (rw [zeroS, ← HW.out])
  | (rw [Pd.zero6]; refine St.wpList_storeNew isPt rfl _ _ (by rfl) _ _ (vals 6 (six n f p n f p)) (by rfl) (by rfl) (vals_len _ _) (vals_len _ _) (one_vals _ _) ?_; intro w1 d1 k1; have r1 := CRow.keep r0 k1; have B1 := below_tr B0 k1)
  | fail)
 rw [arr_four x y vx vy 0 0]
 have q2 := crow_new w1 2 (vals 4 (six x y vx vy 0 0))
 have k2 := below_al (Below.refl _ w1) (.cells (vals 4 (six x y vx vy 0 0)).toArray 2)
 have s2 : Sl (w1.alloc (.cells (vals 4 (six x y vx vy 0 0)).toArray 2)) (some ⟨w1.heap.size, 0, none⟩) 4 4 (six x y vx vy 0 0) := crow_sl q2 (by omega)
 have d2 := CRow.keep d1 k2
 have r2 := CRow.keep r1 k2
 have B2 := below_tr B1 k2
 generalize w1.alloc (.cells (vals 4 (six x y vx vy 0 0)).toArray 2) = w2 at *
 refine (HB.out _ _ s2).mono ?_
 rintro e w3 ⟨rfl, rfl⟩
 have aQ := fun V => allPt W.heap.size V
 go_wp2_with fail
 refine (HU.out _ _ (PRow.sl d2)).mono ?_
 rintro e w4 ⟨rfl, rfl⟩
 clear HB HU r1 B1 s2 q2 d1 aQ
 go_wp2_with (first
  | (refine wpList_build2 rfl _ _ (by rfl) _ _ (by rfl) (by rfl) ?_)
  | (rw [zeroM]; refine Mt.wpList_storeNew rfl _ _ (by rfl) _ _ _ _ (by rfl) (by rfl) ?_; intro w5 n5 k5; have r5 := CRow.keep r2 k5; have B5 := below_tr B2 k5; have d5 := CRow.keep d2 k5)
  | (refine Hk.loadM _ (by with_reducible rfl) _ _ _ _ (by rfl) (by with_reducible exact n5) (by kernel_rfl) ?_)
  | (refine St.wpList_load isPt (by rfl) _ (by rfl) _ _ (by rfl) (by with_reducible exact d5) (vals_len _ _) ?_)
  | fail)
 refine (HD.out _).mono ?_
 rintro e w6 ⟨rfl, k6⟩
 have r6 := CRow.keep r5 k6
 have B6 := below_tr B5 k6
 go_wp2_with (first
  | (refine Pd.buildS2 _ _ (by with_reducible rfl) (six x vx 0 y vy 0) 6 6 z (by rfl) (by rfl) (by kernel_rfl) ?_)
  | (refine St.wpList_store isS rfl _ _ (by rfl) _ _ _ (by rfl) (by rfl) (by with_reducible exact r6) (svals_len _ _ _ _) (svals_len _ _ _ _) (one_svals _ _ _ _) ?_)
  | fail)
 exact bodyPost_ret (results_2 isS Tryz.results26 _ _ w.heap.size _ rfl (CRow.row r6 _) (svals_len _ _ _ _)) rfl ⟨rfl, St.below_row B6 (Nat.le_refl _) _⟩
end Go.Proofs.YtoglokgkgonmdaaGreatDoor
namespace Go.Proofs.YtoglokgkgonmdaaGreatDoor
open Go.RowKit Vc St Mt Cm Ld Pd Pr Qn Dt
attribute [local go_sem ↓] Go.wp_at_zero Go.wp_at_succ
namespace Pd
theorem builtS1 (r c : Int) (z : Nat → Int) : Tryz.prog.built 42 [(1, .agg (mvals r c z).toArray)] = some (svals (fun _ => 0) r c z).toArray := by kernel_rfl
theorem buildS1 {ops : Array Oper} {rest : List Oper} {o : Oper} {a : Act} {w : World} {Q : Exit → Act → World → Prop} (y : Operand) (ho : o.op = .build 42 #[(1, y)]) (r c : Int) (z : Nat → Int) (hy : a.eval y = .agg (mvals r c z).toArray) (hw : Region.wanted o (yielded ops a.tmps) = true)
    (h : wpList Tryz.prog ops Q rest (a.put o.dst (.agg (svals (fun _ => 0) r c z).toArray)) w) : wpList Tryz.prog ops Q (o :: rest) a w :=
  wpList_want hw fun _ hK => by
    unfold Oper.wp execOp
    have em : ((#[(1, y)] : Array (Nat × Operand)).map fun (i, x) => (i, a.eval x)).toList = [(1, .agg (mvals r c z).toArray)] := by simp [hy]
    simp only [ho, Sem.run_bind, run_build w 42 _ _ (by rw [em]; exact builtS1 r c z), Result.andThen_ok]
    exact hK _ _ h
end Pd
set_option maxRecDepth 10000 in
set_option maxHeartbeats 1000000 in
theorem pgive_any (xo po : Option Addr) (xc n pc : Nat) (X : Nat → Int) (r c : Int) (z : Nat → Int) (w : World) (hX : Sl w xo 6 xc X)
  (hP : ∀ W, Below w.heap.size w W → Calls Tryz.prog 62 #[.slice po n pc] W fun e w' => e = .returned (.agg (mvals r c z).toArray) ∧ Below W.heap.size W w') :
  Calls Tryz.prog 29 #[.agg #[.slice xo 6 xc, .slice po n pc]] w fun e w' => e = .returned (.agg (svals X r c z).toArray) ∧ Below w.heap.size w w' := by
 have m0 := (crow_new w 54 [.slice xo 6 xc, .slice po n pc]).alloc (.cells (svals (fun _ => 0) 0 0 (fun _ => 0)).toArray 42)
 have r0 := crow_new1 w (.cells [.slice xo 6 xc, .slice po n pc].toArray 54) 42 (svals (fun _ => 0) 0 0 (fun _ => 0))
 have B0 : Below w.heap.size w ((w.alloc (.cells [.slice xo 6 xc, .slice po n pc].toArray 54)).alloc (.cells (svals (fun _ => 0) 0 0 (fun _ => 0)).toArray 42)) := below_al (below_al (Below.refl _ _) _) _
 obtain ⟨W, hW⟩ : ∃ W, W = (w.alloc (.cells [.slice xo 6 xc, .slice po n pc].toArray 54)).alloc (.cells (svals (fun _ => 0) 0 0 (fun _ => 0)).toArray 42) := ⟨_, rfl⟩
 rw [← hW] at m0 r0 B0
 have HW := hide hW
 have HP := hide (hP W B0)
 have c1 : W.cell? ⟨w.heap.size, 1, none⟩ = some (.slice po n pc) := CRow.cell m0 (k := 1) rfl rfl
 clear hW hP
 go_enter Tryz.func29, Tryz.ntmps29
 go_wp2_with (first | (rw [zeroS]; erw [← HW.out]) | fail)
 refine HP.out.mono ?_
 rintro e w1 ⟨rfl, k1⟩
 have m1 := CRow.keep m0 k1
 have r1 := CRow.keep r0 k1
 have B1 := below_tr B0 k1
 have l1 := CRow.lt r1
 clear HW HP m0 r0 B0 k1 c1
 go_wp2_with (first
  | (refine Pd.buildS1 _ (by with_reducible rfl) r c z (by rfl) (by kernel_rfl) ?_)
  | (rw [zeroS]; refine St.wpList_storeNew isS rfl _ _ (by rfl) _ _ _ (by rfl) (by rfl) (svals_len _ _ _ _) (svals_len _ _ _ _) (one_svals _ _ _ _) ?_; intro w2 n2 k2; have m2 := CRow.keep m1 k2; have r2 := CRow.keep r1 k2; have B2 := below_tr B1 k2; have c0 : w2.cell? ⟨w.heap.size, 0, none⟩ = some (.slice xo 6 xc) := CRow.cell m2 (k := 0) rfl rfl; clear m1 r1 B1 k2)
  | fail)
 obtain ⟨g, hg⟩ : ∃ g, g = w1.heap.size := ⟨_, rfl⟩
 rw [← hg] at n2 l1 ⊢
 have HX := hide hX
 clear hg c0 hX
 go_loopw [4] (fun i wr => ∃ k : Nat, k ≤ 6 ∧ i = .int .i64 (k : Int) ∧ CRow wr w.heap.size 54 [.slice xo 6 xc, .slice po n pc] ∧ SRow wr (w.heap.size + 1) (fun _ => 0) 0 0 (fun _ => 0) ∧ SRow wr g (pt X (fun _ => 0) k) r c z ∧ Below w.heap.size w wr) (fun i _ => 6 - (intOf i).toNat)
 case atStart => exact ⟨0, by omega, rfl, m2, r2, SRow.congr n2 (fun i _ => pt_zero X (fun _ => 0) i) (fun _ _ => rfl), B2⟩
 case round =>
  obtain ⟨k, hk, rfl, m3, r3, n3, B3⟩ := hrel
  have x3 := HX.out.keep B3
  obtain ⟨xa, hxa, hxc⟩ := x3.get
  obtain rfl := hxa (by omega)
  have l5 := x3.le
  have l6 := x3.cap
  by_cases h : k < 6
  ·have c0 : World.cell? _ ⟨w.heap.size, 0, none⟩ = some (.slice (some xa) 6 xc) := CRow.cell m3 (k := 0) rfl rfl
   have c2 := hxc k h
   have c3 := SRow.x n3 (k := k) h rfl
   have f3 := CRow.free n3 k
   obtain ⟨v, hv⟩ : ∃ v, v = X k := ⟨_, rfl⟩
   rw [← hv] at c2
   have HV := hide hv
   clear hv hxc hxa x3
   go_wp2
   go_roundw
   case rel => exact ⟨k + 1, by omega, by go_num, CRow.other m3 _ (by show w.heap.size ≠ g; omega), CRow.other r3 _ (by show w.heap.size + 1 ≠ g; omega), SRow.congr (SRow.setx n3 h rfl _) (fun i _ => by rw [HV.out]; exact pt_step X (fun _ => 0) k i) (fun _ _ => rfl), B3.trans (St.below_set B3.size (by show w.heap.size ≤ g; omega) _)⟩
   case measure => simp [intOf]; omega
  ·obtain rfl : k = 6 := by omega
   have n4 := SRow.congr n3 (fun i hi => pt_end X (fun _ => 0) hi) (fun _ _ => rfl)
   clear n3 hxc hxa x3 h
   go_wp2_with (first
    | (refine St.wpList_load isS (by rfl) _ (by rfl) _ _ (by rfl) (by with_reducible exact n4) (svals_len _ _ _ _) ?_)
    | (refine St.wpList_store isS rfl _ _ (by rfl) _ _ _ (by rfl) (by rfl) (by with_reducible exact r3) (svals_len _ _ _ _) (svals_len _ _ _ _) (one_svals _ _ _ _) ?_)
    | fail)
   exact bodyPost_ret (results_1 isS Tryz.results29 _ _ (w.heap.size + 1) _ rfl (CRow.row r3 _) (svals_len _ _ _ _)) rfl ⟨rfl, St.below_row B3 (by omega) _⟩
set_option maxRecDepth 10000 in
set_option maxHeartbeats 2000000 in
theorem pisState_yes (yo ro : Option Addr) (yc rc : Nat) (X : Nat → Int) (P : Nat → Nat → Int) (w : World) (hX : Sl w yo 6 yc X) (hP : Grid w ro 6 rc 6 P) :
  Calls Tryz.prog 19 #[.agg (svals X 6 6 (mz 6 6 P)).toArray, .agg #[.slice yo 6 yc, .slice ro 6 rc]] w fun e w' => e = .returned (.bool true) ∧ Below w.heap.size w w' := by
 have t0 := (crow_new w 42 (svals X 6 6 (mz 6 6 P))).alloc (.cells [.slice yo 6 yc, .slice ro 6 rc].toArray 54)
 have m0 := crow_new1 w (.cells (svals X 6 6 (mz 6 6 P)).toArray 42) 54 [.slice yo 6 yc, .slice ro 6 rc]
 have B0 : Below w.heap.size w ((w.alloc (.cells (svals X 6 6 (mz 6 6 P)).toArray 42)).alloc (.cells [.slice yo 6 yc, .slice ro 6 rc].toArray 54)) := below_al (below_al (Below.refl _ _) _) _
 obtain ⟨W, hW⟩ : ∃ W, W = (w.alloc (.cells (svals X 6 6 (mz 6 6 P)).toArray 42)).alloc (.cells [.slice yo 6 yc, .slice ro 6 rc].toArray 54) := ⟨_, rfl⟩
 rw [← hW] at t0 m0 B0
 have HR := hide (fun W => rowsOf_any 6 6 P W (by omega) (by omega) (by omega) (by omega))
 have HX := hide (hX.keep B0)
 have HP := hide (hP.keep B0)
 obtain ⟨z, hz⟩ : ∃ z, z = mz 6 6 P := ⟨_, rfl⟩
 rw [← hz] at t0 hW HR ⊢
 have HW := hide hW
 have hS : ∀ V, Below W.heap.size W V → (SRow V w.heap.size X 6 6 z ∧ V.cell? ⟨w.heap.size + 1, 0, none⟩ = some (.slice yo 6 yc) ∧ V.cell? ⟨w.heap.size + 1, 1, none⟩ = some (.slice ro 6 rc)) := fun V k => ⟨CRow.keep t0 k, CRow.cell (CRow.keep m0 k) (k := 0) rfl rfl, CRow.cell (CRow.keep m0 k) (k := 1) rfl rfl⟩
 have HS := hide hS
 have al := fun V => all6 w.heap.size V
 clear hS hW hz hX hP t0 m0
 go_enter Tryz.func19, Tryz.ntmps19
 go_upto_region 1 with (first | (rw [← HW.out]) | fail)
 try erw [← HW.out]
 refine Ru.wp_region_U [13] (fun w' => SRow w' w.heap.size X 6 6 z ∧ w'.cell? ⟨w.heap.size + 1, 0, none⟩ = some (.slice yo 6 yc) ∧ w'.cell? ⟨w.heap.size + 1, 1, none⟩ = some (.slice ro 6 rc)) (by kernel_rfl) (HS.out _ (Vc.below_drew' _)) (fun hHeld => ?_)
 refine Ru.wpAnyU_take (i := 0) (v := .pointer (some ⟨w.heap.size, 0, none⟩)) rfl (by kernel_rfl) (by kernel_rfl) (by kernel_rfl) (by kernel_rfl) (by kernel_rfl) (by kernel_rfl) (fun _ _ _ h => h) (Or.inl ⟨by kernel_rfl, fun w hS => by obtain ⟨sc0, sc1, sc2⟩ := hS; go_simp⟩) hHeld ?_
 simp only [Act.put, zq1, zq2, zq3, zq4, zq5, zq6]
 refine Ru.wpAnyU_take (i := 1) (v := .slice (some ⟨w.heap.size, 0, none⟩) 6 6) rfl (by kernel_rfl) (by kernel_rfl) (by kernel_rfl) (by kernel_rfl) (by kernel_rfl) (by kernel_rfl) (fun _ _ _ h => h) (Or.inl ⟨by kernel_rfl, fun w hS => by obtain ⟨sc0, sc1, sc2⟩ := hS; go_simp⟩) hHeld ?_
 simp only [Act.put, zq1, zq2, zq3, zq4, zq5, zq6]
 refine Ru.wpAnyU_take (i := 2) (v := .pointer (some ⟨w.heap.size + 1, 0, none⟩)) rfl (by kernel_rfl) (by kernel_rfl) (by kernel_rfl) (by kernel_rfl) (by kernel_rfl) (by kernel_rfl) (fun _ _ _ h => h) (Or.inl ⟨by kernel_rfl, fun w hS => by obtain ⟨sc0, sc1, sc2⟩ := hS; go_simp⟩) hHeld ?_
 simp only [Act.put, zq1, zq2, zq3, zq4, zq5, zq6]
 refine Ru.wpAnyU_take (i := 3) (v := .slice yo 6 yc) rfl (by kernel_rfl) (by kernel_rfl) (by kernel_rfl) (by kernel_rfl) (by kernel_rfl) (by kernel_rfl) (fun _ _ _ h => h) (Or.inl ⟨by kernel_rfl, fun w hS => by obtain ⟨sc0, sc1, sc2⟩ := hS; go_simp⟩) hHeld ?_
 simp only [Act.put, zq1, zq2, zq3, zq4, zq5, zq6]
 refine Ru.wpAnyU_ready (rs := [4]) (by kernel_rfl) (by simp) ?_
 refine Ru.AllReadyU.cons rfl (by kernel_rfl) (fun K hK => ?_) Ru.AllReadyU.nil
 go_simp
 refine (nums_yes _ _ 6 _ _ X _ (SRow.sl (HS.out _ (Vc.below_drew' _)).1) (HX.out.keep (Vc.below_drew' _))).mono ?_
 rintro _ v1 ⟨rfl, k1⟩
 have Kv1 := below_tr (Vc.below_drew' _) k1
 go_wp2_with fail
 refine hK.out _ _ (HS.out _ Kv1) (fun hHeld => ?_)
 clear hK K
 try simp only [Act.put, zq1, zq2, zq3, zq4, zq5, zq6]
 refine Ru.wpAnyU_take (i := 5) (v := .bool true) rfl (by kernel_rfl) (by kernel_rfl) (by kernel_rfl) (by kernel_rfl) (by kernel_rfl) (by kernel_rfl) (fun _ _ _ h => h) (Or.inl ⟨by kernel_rfl, fun w hS => by obtain ⟨sc0, sc1, sc2⟩ := hS; go_simp⟩) hHeld ?_
 simp only [Act.put, zq1, zq2, zq3, zq4, zq5, zq6]
 refine Ru.wpAnyU_take (i := 6) (v := .pointer (some ⟨w.heap.size, 6, none⟩)) rfl (by kernel_rfl) (by kernel_rfl) (by kernel_rfl) (by kernel_rfl) (by kernel_rfl) (by kernel_rfl) (fun _ _ _ h => h) (Or.inl ⟨by kernel_rfl, fun w hS => by obtain ⟨sc0, sc1, sc2⟩ := hS; go_simp⟩) hHeld ?_
 simp only [Act.put, zq1, zq2, zq3, zq4, zq5, zq6]
 refine Ru.wpAnyU_take (i := 7) (v := .agg (mvals 6 6 z).toArray) rfl (by kernel_rfl) (by kernel_rfl) (by kernel_rfl) (by kernel_rfl) (by kernel_rfl) (by kernel_rfl) (fun _ _ _ h => h) (Pd.yieldsP isMt (by kernel_rfl) _ (by rfl) w.heap.size 6 _ (by rfl) (fun w h => SRow.rm h.1) (mvals_len _ _ _)) hHeld ?_
 simp only [Act.put, zq1, zq2, zq3, zq4, zq5, zq6]
 refine Ru.wpAnyU_take (i := 9) (v := .pointer (some ⟨w.heap.size + 1, 1, none⟩)) rfl (by kernel_rfl) (by kernel_rfl) (by kernel_rfl) (by kernel_rfl) (by kernel_rfl) (by kernel_rfl) (fun _ _ _ h => h) (Or.inl ⟨by kernel_rfl, fun w hS => by obtain ⟨sc0, sc1, sc2⟩ := hS; go_simp⟩) hHeld ?_
 simp only [Act.put, zq1, zq2, zq3, zq4, zq5, zq6]
 refine Ru.wpAnyU_take (i := 10) (v := .slice ro 6 rc) rfl (by kernel_rfl) (by kernel_rfl) (by kernel_rfl) (by kernel_rfl) (by kernel_rfl) (by kernel_rfl) (fun _ _ _ h => h) (Or.inl ⟨by kernel_rfl, fun w hS => by obtain ⟨sc0, sc1, sc2⟩ := hS; go_simp⟩) hHeld ?_
 simp only [Act.put, zq1, zq2, zq3, zq4, zq5, zq6]
 refine Ru.wpAnyU_ready (rs := [8]) (by kernel_rfl) (by simp) ?_
 refine Ru.AllReadyU.cons rfl (by kernel_rfl) (fun K hK => ?_) Ru.AllReadyU.nil
 go_simp
 refine (HR.out _).mono ?_
 rintro _ v2 ⟨lo, cm, rfl, gA, k2⟩
 have Kv2 := below_tr Kv1 k2
 go_wp2_with fail
 refine hK.out _ _ (HS.out _ Kv2) (fun hHeld => ?_)
 clear hK K
 try simp only [Act.put, zq1, zq2, zq3, zq4, zq5, zq6]
 refine Ru.wpAnyU_ready (rs := [11]) (by kernel_rfl) (by simp) ?_
 refine Ru.AllReadyU.cons rfl (by kernel_rfl) (fun K hK => ?_) Ru.AllReadyU.nil
 go_simp
 refine (sameRows_yes 6 6 _ _ _ _ P _ (by omega) gA (HP.out.keep Kv2)).mono ?_
 rintro _ v3 ⟨rfl, k3⟩
 have Kv3 := below_tr Kv2 k3
 go_wp2_with fail
 refine hK.out _ _ (HS.out _ Kv3) (fun hHeld => ?_)
 clear hK K
 try simp only [Act.put, zq1, zq2, zq3, zq4, zq5, zq6]
 refine Ru.wpAnyU_take (i := 12) (v := .bool true) rfl (by kernel_rfl) (by kernel_rfl) (by kernel_rfl) (by kernel_rfl) (by kernel_rfl) (by kernel_rfl) (fun _ _ _ h => h) (Or.inl ⟨by kernel_rfl, fun w hS => by obtain ⟨sc0, sc1, sc2⟩ := hS; go_simp⟩) hHeld ?_
 simp only [Act.put, zq1, zq2, zq3, zq4, zq5, zq6]
 refine Ru.wpAnyU_ready (rs := [13]) (by kernel_rfl) (by simp) ?_
 refine Ru.AllReadyU.cons2 rfl (by kernel_rfl) (fun K hK => ?_) Ru.AllReadyU.nil
 go_simp
 refine hK.out _ _ ?_
 clear hK K
 try simp only [Act.put, zq1, zq2, zq3, zq4, zq5, zq6]
 refine wpAny_done (by kernel_rfl) ?_ _
 go_wp2
 go_ret
 exact ⟨rfl, below_tr B0 Kv3⟩
namespace Pd
end Pd
end Go.Proofs.YtoglokgkgonmdaaGreatDoor
