/-
  Layer 12's laws: a state as the program's, part by part; what must come whatever the input is.
-/
import Derived.Test.YtlomfjacgomhdaaGreatDoorM22
import Derived.Test.YtlomfjacgomhdaaGreatDoorM16
import Derived.Test.YtlomfjacgomhdaaGreatDoorM2
import Derived.Test.YtlomfjacgomhdaaGreatDoorVcB
set_option linter.unusedSimpArgs false
set_option linter.unusedVariables false
namespace Go.Proofs.YtlomfjacgomhdaaGreatDoor
open Go.RowKit Vc St Mt Cm Ld Pd Pr Qn Dt
attribute [local go_sem ↓] Go.wp_at_zero Go.wp_at_succ

namespace Pd
theorem builtS1 (r c : Int) (z : Nat → Int) : Tryz.prog.built 43 [(1, .agg (mvals r c z).toArray)] = some (svals (fun _ => 0) r c z).toArray := by kernel_rfl
/-- 'State{P: ..}'. -/
theorem buildS1 {ops : Array Oper} {rest : List Oper} {o : Oper} {a : Act} {w : World} {Q : Exit → Act → World → Prop} (y : Operand) (ho : o.op = .build 43 #[(1, y)]) (r c : Int) (z : Nat → Int) (hy : a.eval y = .agg (mvals r c z).toArray) (hw : Region.wanted o (yielded ops a.tmps) = true)
    (h : wpList Tryz.prog ops Q rest (a.put o.dst (.agg (svals (fun _ => 0) r c z).toArray)) w) : wpList Tryz.prog ops Q (o :: rest) a w :=
  wpList_want hw fun _ hK => by
    unfold Oper.wp execOp
    have em : ((#[(1, y)] : Array (Nat × Operand)).map fun (i, x) => (i, a.eval x)).toList = [(1, .agg (mvals r c z).toArray)] := by simp [hy]
    simp only [ho, Sem.run_bind, run_build w 43 _ _ (by rw [em]; exact builtS1 r c z), Result.andThen_ok]
    exact hK _ _ h
end Pd

set_option maxRecDepth 10000 in
set_option maxHeartbeats 1000000 in
theorem pgive_any (xo po : Option Addr) (xc n pc : Nat) (X : Nat → Int) (r c : Int) (z : Nat → Int) (w : World) (hX : Sl w xo 6 xc X)
    (hP : ∀ W, Below w.heap.size w W → Calls Tryz.prog 22 #[.slice po n pc] W fun e w' => e = .returned (.agg (mvals r c z).toArray) ∧ Below W.heap.size W w') :
    Calls Tryz.prog 7 #[.agg #[.slice xo 6 xc, .slice po n pc]] w fun e w' => e = .returned (.agg (svals X r c z).toArray) ∧ Below w.heap.size w w' := by
  have m0 := (crow_new w 25 [.slice xo 6 xc, .slice po n pc]).alloc (.cells (svals (fun _ => 0) 0 0 (fun _ => 0)).toArray 43)
  have r0 := crow_new1 w (.cells [.slice xo 6 xc, .slice po n pc].toArray 25) 43 (svals (fun _ => 0) 0 0 (fun _ => 0))
  have B0 : Below w.heap.size w ((w.alloc (.cells [.slice xo 6 xc, .slice po n pc].toArray 25)).alloc (.cells (svals (fun _ => 0) 0 0 (fun _ => 0)).toArray 43)) := below_al (below_al (Below.refl _ _) _) _
  obtain ⟨W, hW⟩ : ∃ W, W = (w.alloc (.cells [.slice xo 6 xc, .slice po n pc].toArray 25)).alloc (.cells (svals (fun _ => 0) 0 0 (fun _ => 0)).toArray 43) := ⟨_, rfl⟩
  rw [← hW] at m0 r0 B0
  have HW := hide hW
  have HP := hide (hP W B0)
  have c1 : W.cell? ⟨w.heap.size, 1, none⟩ = some (.slice po n pc) := CRow.cell m0 (k := 1) rfl rfl
  clear hW hP
  go_enter Tryz.func7, Tryz.ntmps7
  go_wp2_with (first | (rw [zeroS]; erw [← HW.out]) | fail)
  refine HP.out.mono ?_
  rintro e w1 ⟨rfl, k1⟩
  have m1 := CRow.keep m0 k1
  have r1 := CRow.keep r0 k1
  have B1 := below_tr B0 k1
  have l1 := CRow.lt r1
  clear HW HP m0 r0 B0 k1 c1
  go_wp2_with (first
    | (refine Pd.buildS1 _ (by with_reducible rfl) r c z (by rfl) (by kernel_rfl) ?_)
    | (rw [zeroS]; refine St.wpList_storeNew isS rfl _ _ (by rfl) _ _ _ (by rfl) (by rfl) (svals_len _ _ _ _) (svals_len _ _ _ _) (one_svals _ _ _ _) ?_; intro w2 n2 k2; have m2 := CRow.keep m1 k2; have r2 := CRow.keep r1 k2; have B2 := below_tr B1 k2; have c0 : w2.cell? ⟨w.heap.size, 0, none⟩ = some (.slice xo 6 xc) := CRow.cell m2 (k := 0) rfl rfl; clear m1 r1 B1 k2)
    | fail)
  obtain ⟨g, hg⟩ : ∃ g, g = w1.heap.size := ⟨_, rfl⟩
  rw [← hg] at n2 l1 ⊢
  have HX := hide hX
  clear hg c0 hX
  go_loopw [4] (fun i wr => ∃ k : Nat, k ≤ 6 ∧ i = .int .i64 (k : Int) ∧ CRow wr w.heap.size 25 [.slice xo 6 xc, .slice po n pc] ∧ SRow wr (w.heap.size + 1) (fun _ => 0) 0 0 (fun _ => 0) ∧ SRow wr g (pt X (fun _ => 0) k) r c z ∧ Below w.heap.size w wr) (fun i _ => 6 - (intOf i).toNat)
  case atStart => exact ⟨0, by omega, rfl, m2, r2, SRow.congr n2 (fun i _ => pt_zero X (fun _ => 0) i) (fun _ _ => rfl), B2⟩
  case round =>
    obtain ⟨k, hk, rfl, m3, r3, n3, B3⟩ := hrel
    have x3 := HX.out.keep B3
    obtain ⟨xa, hxa, hxc⟩ := x3.get
    obtain rfl := hxa (by omega)
    have l5 := x3.le
    have l6 := x3.cap
    by_cases h : k < 6
    · have c0 : World.cell? _ ⟨w.heap.size, 0, none⟩ = some (.slice (some xa) 6 xc) := CRow.cell m3 (k := 0) rfl rfl
      have c2 := hxc k h
      have c3 := SRow.x n3 (k := k) h rfl
      have f3 := CRow.free n3 k
      obtain ⟨v, hv⟩ : ∃ v, v = X k := ⟨_, rfl⟩
      rw [← hv] at c2
      have HV := hide hv
      clear hv hxc hxa x3
      go_wp2
      go_roundw
      case rel => exact ⟨k + 1, by omega, by go_num, CRow.other m3 _ (by show w.heap.size ≠ g; omega), CRow.other r3 _ (by show w.heap.size + 1 ≠ g; omega), SRow.congr (SRow.setx n3 h rfl _) (fun i _ => by rw [HV.out]; exact pt_step X (fun _ => 0) k i) (fun _ _ => rfl), B3.trans (St.below_set B3.size (by show w.heap.size ≤ g; omega) _)⟩
      case measure => simp [intOf]; omega
    · obtain rfl : k = 6 := by omega
      have n4 := SRow.congr n3 (fun i hi => pt_end X (fun _ => 0) hi) (fun _ _ => rfl)
      clear n3 hxc hxa x3 h
      go_wp2_with (first
        | (refine St.wpList_load isS (by rfl) _ (by rfl) _ _ (by rfl) (by with_reducible exact n4) (svals_len _ _ _ _) ?_)
        | (refine St.wpList_store isS rfl _ _ (by rfl) _ _ _ (by rfl) (by rfl) (by with_reducible exact r3) (svals_len _ _ _ _) (svals_len _ _ _ _) (one_svals _ _ _ _) ?_)
        | fail)
      exact bodyPost_ret (results_1 isS Tryz.results7 _ _ (w.heap.size + 1) _ rfl (CRow.row r3 _) (svals_len _ _ _ _)) rfl ⟨rfl, St.below_row B3 (by omega) _⟩

namespace Pd
end Pd

end Go.Proofs.YtlomfjacgomhdaaGreatDoor
