/-
  Dot of the document's answer of layer 3 (radomeref03): the sum of products, rounded once, and bounded; by py/Dots.py.
-/
import Derived.Test.YtgmagehgnjopcaaDoorLgD
import Derived.Test.YtgmagehgnjopcaaDoorPure
import Derived.Deep.RegionHeld3
import Derived.Deep.DeepCutAuto
set_option linter.unusedSimpArgs false
set_option linter.unusedVariables false
namespace Go.Proofs.YtgmagehgnjopcaaDoor
open Go.RowKit Lg Dt
attribute [local go_sem ↓] Go.wp_at_zero Go.wp_at_succ

namespace Lg
theorem Row9.sets {w : World} {b : Nat} {s : Bool} {x0 x1 x2 x3 x4 x5 x6 x7 : Int} (h : Row9 w b s x0 x1 x2 x3 x4 x5 x6 x7) (v : Bool) : Row9 (w.setCell ⟨b, 0, none⟩ (.bool v)) b v x0 x1 x2 x3 x4 x5 x6 x7 := heap_setCell_same w b 0 _ _ _ h
theorem sgz_bd {s : Bool} {A M : Int} (hA : 0 ≤ A) (h : -M ≤ sgz s A ∧ sgz s A ≤ M) : A ≤ M := by
  unfold sgz at h; split at h <;> omega
end Lg

set_option maxRecDepth 20000 in
set_option maxHeartbeats 2000000 in
/-- Dot: rounded once, and bounded. -/
theorem ldot_any (ao bo : Option Addr) (xa xb : Addr) (n ca cb : Nat) (za zb : Nat → Int) (b : Nat) (w : World) (hn : n ≤ 64) (hao : 0 < n → ao = some xa) (hbo : 0 < n → bo = some xb)
    (hca : ∀ k, k < n → w.cell? (xa.add k) = some (.int .i64 (za k))) (hcb : ∀ k, k < n → w.cell? (xb.add k) = some (.int .i64 (zb k)))
    (ba : ∀ k, -9223372036854775808 ≤ za k ∧ za k ≤ 9223372036854775807) (bb : ∀ k, -9223372036854775808 ≤ zb k ∧ zb k ≤ 9223372036854775807) (hb : b ≤ 62) :
    Calls Tryd.prog 43 #[.slice ao n ca, .slice bo n cb, .int .i64 b] w fun e w' => e = .returned (.tuple #[.int .i64 (Qn.clamp (Qn.rne (dk za zb n) (2 ^ b))), .bool (Qn.great (Qn.rne (dk za zb n) (2 ^ b)))]) ∧ Below w.heap.size w w' := by
  have HAO := Hid.mk'' hao
  have HBO := Hid.mk'' hbo
  have HCA := Hid.mk'' hca
  have HCB := Hid.mk'' hcb
  have HBA := Hid.mk'' ba
  have HBB := Hid.mk'' bb
  have HDK := Hid.mk'' (dk_bd za zb ba bb)
  obtain ⟨X, hX⟩ : ∃ X, X = Qn.rne (dk za zb n) (2 ^ b) := ⟨_, rfl⟩
  rw [← hX]
  have HX := Hid.mk'' hX
  clear hao hbo hca hcb ba bb hX
  go_enter Tryd.func43, Tryd.ntmps43
  go_wp2
  go_loopw [9] (fun i wr => ∃ (k : Nat) (s : Bool) (A : Int), k ≤ n ∧ i = .int .i64 (k : Int) ∧ Row9 wr w.heap.size s (wd 0 A) (wd 1 A) (wd 2 A) (wd 3 A) (wd 4 A) (wd 5 A) (wd 6 A) (wd 7 A) ∧ 0 ≤ A ∧ sgz s A = dk za zb k ∧ Below w.heap.size w wr) (fun i _ => n - (intOf i).toNat)
  case atStart => exact ⟨0, false, 0, by omega, rfl, row9_new w _ _ _ _ _ _ _ _ _, by omega, rfl, below_al (Below.refl _ _) _⟩
  case round =>
    obtain ⟨k, s, A, hk, rfl, hr, hA0, hsg, hbel⟩ := hrel
    have hbk := HDK.out k
    have hA1 : A ≤ 5444517870735015415413993718908291383296 := sgz_bd hA0 (by rw [hsg]; omega)
    have hA8 : In8 A := by unfold In8; omega
    have HSG := Hid.mk'' hsg
    clear hsg hbk
    by_cases h : k < n
    · obtain rfl := HAO.out (by omega)
      obtain rfl := HBO.out (by omega)
      have ca' := keep_cell hbel (HCA.out k h)
      have cb' := keep_cell hbel (HCB.out k h)
      have pa := HBA.out k
      have pb := HBB.out k
      have HNA : xa.block < w.heap.size := World.block_lt_of_cell? w _ (HCA.out 0 (by omega))
      have HNB : xb.block < w.heap.size := World.block_lt_of_cell? w _ (HCB.out 0 (by omega))
      have nA : xa.block ≠ w.heap.size := Nat.ne_of_lt HNA
      have nB : xb.block ≠ w.heap.size := Nat.ne_of_lt HNB
      have nA' : (xa.add k).block ≠ w.heap.size := by unfold Addr.add; split <;> exact nA
      have nB' : (xb.add k).block ≠ w.heap.size := by unfold Addr.add; split <;> exact nB
      obtain ⟨P, hP⟩ : ∃ P, P = za k := ⟨_, rfl⟩
      obtain ⟨Q, hQ⟩ : ∃ Q, Q = zb k := ⟨_, rfl⟩
      rw [← hP] at ca' pa
      rw [← hQ] at cb' pb
      have HP := Hid.mk'' hP
      have HQ := Hid.mk'' hQ
      clear hP hQ
      have z0 := hr.c0
      have z1 := hr.c1
      have z2 := hr.c2
      have z3 := hr.c3
      have z4 := hr.c4
      have z5 := hr.c5
      have z6 := hr.c6
      have z7 := hr.c7
      have zs := hr.cs
      go_wp2
      go_region_with
        (first
          | (go_at_call 61; refine (lprod_any P Q _ pa.1 pa.2 pb.1 pb.2).mono ?_; rintro e w2 ⟨s2, C2, rfl, hC0, hC1, hC2, hb2⟩; have HC2 := Hid.mk'' hC2; clear hC2; have hr2 := hr.drew.keep hb2; have y0 := hr2.c0; have y1 := hr2.c1; have y2 := hr2.c2; have y3 := hr2.c3; have y4 := hr2.c4; have y5 := hr2.c5; have y6 := hr2.c6; have y7 := hr2.c7; have ys := hr2.cs)
          | (go_at_call 60; refine (join_any s s2 A C2 _ hA8 (by unfold In8; omega) (by unfold In8; omega)).mono ?_; rintro e w3 ⟨s3, C3, rfl, h38, h3e, hb3⟩; have H3E := Hid.mk'' h3e; clear h3e; have hr3 := hr2.keep hb3; have t0 := hr3.c0; have t1 := hr3.c1; have t2 := hr3.c2; have t3 := hr3.c3; have t4 := hr3.c4; have t5 := hr3.c5; have t6 := hr3.c6; have t7 := hr3.c7; have ts := hr3.cs; have f0 := hr3.free 0; have f1 := hr3.free 1; have f2 := hr3.free 2; have f3 := hr3.free 3; have f4 := hr3.free 4; have f5 := hr3.free 5; have f6 := hr3.free 6; have f7 := hr3.free 7; have f8 := hr3.free 8))
      all_goals go_wp2
      all_goals go_roundw
      all_goals first
        | (simp [intOf]; omega)
        | exact ⟨k + 1, s3, C3, by omega, by go_num, (((((((((hr3.sets s3).set0 _).set1 _).set2 _).set3 _).set4 _).set5 _).set6 _).set7 _), h38.1, by rw [H3E.out, HC2.out, HSG.out, HP.out, HQ.out]; rfl, (((((((((below_tr (below_tr hbel.drew hb2) hb3).setCell (Nat.le_refl _) _).setCell (Nat.le_refl _) _).setCell (Nat.le_refl _) _).setCell (Nat.le_refl _) _).setCell (Nat.le_refl _) _).setCell (Nat.le_refl _) _).setCell (Nat.le_refl _) _).setCell (Nat.le_refl _) _).setCell (Nat.le_refl _) _⟩
        | trace_state
    · obtain rfl : k = n := by omega
      have hz := hr
      go_wp2_with (first | (refine wpList_load9 rfl (.tmp 8) rfl _ _ _ _ _ _ _ _ _ _ rfl hr ?_) | fail)
      refine (lby_any s A b _ hA0 (by omega) hb).mono ?_
      rintro e w9 ⟨rfl, hb9⟩
      rw [HSG.out, ← HX.out]
      go_wp2
      go_ret2
      exact ⟨rfl, below_tr hbel hb9⟩

end Go.Proofs.YtgmagehgnjopcaaDoor
