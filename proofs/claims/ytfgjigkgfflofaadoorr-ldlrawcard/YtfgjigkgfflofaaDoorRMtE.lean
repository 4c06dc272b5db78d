/-
  Matrices (mat): At, Row, Eye, Turn, or their errors.
-/
import Derived.Test.YtfgjigkgfflofaaDoorRMtD
set_option linter.unusedSimpArgs false
set_option linter.unusedVariables false
namespace Go.Proofs.YtfgjigkgfflofaaDoorR
open Go.RowKit Vc Mt

namespace Mt
theorem any2_no (n m : Nat) : any2 (fun _ _ => false) n m = false := any2_false.2 fun _ _ _ _ => rfl
theorem may_mz {n m : Nat} {F : Nat → Nat → Int} (h1 : 1 ≤ n) (h2 : n ≤ 6) (h3 : 1 ≤ m) (h4 : m ≤ 6) : May n m (mz n m F) := ⟨n, m, rfl, rfl, h1, h2, h3, h4, fun k hk _ => mz_behind hk⟩
end Mt


set_option maxRecDepth 10000 in
set_option maxHeartbeats 1000000 in
theorem mrow_any (n m i : Nat) (F : Nat → Nat → Int) (w : World) (h1 : 1 ≤ n) (h2 : n ≤ 6) (h3 : 1 ≤ m) (h4 : m ≤ 6) (hi : i < n) :
    Calls Tryd.prog 46 #[.agg (mvals n m (mz n m F)).toArray, .int .i64 (i : Int)] w fun e w' => ∃ co cc, e = .returned (.tuple #[.slice co m cc, .nilIface]) ∧ Sl w' co m cc (F i) ∧ Fresh w.heap.size co ∧ Below w.heap.size w w' := by
  have rA := mrow_new w n m (mz n m F)
  have hB := below_al (Below.refl _ w) (.cells (mvals n m (mz n m F)).toArray 57)
  obtain ⟨z, hz⟩ : ∃ z, z = mz n m F := ⟨_, rfl⟩
  have hM : May n m z := by rw [hz]; exact may_mz h1 h2 h3 h4
  have hF : Hid (∀ j, j < m → z (i * m + j) = F i j) := by rw [hz]; exact fun j hj => mz_at hi hj
  rw [← hz] at rA hB
  rw [← hz]
  obtain ⟨W, hW⟩ : ∃ W, W = w.alloc (.cells (mvals n m z).toArray 57) := ⟨_, rfl⟩
  obtain ⟨g, hg⟩ : ∃ g, g = w.heap.size := ⟨_, rfl⟩
  rw [← hW] at rA hB
  rw [← hg] at rA
  have HW := Hid.mkV hW
  have HG := Hid.mkV hg
  have HM := Hid.mkV hM
  have h36 := size_le h2 h4
  obtain ⟨p, hp⟩ : ∃ p, p = i * m := ⟨_, rfl⟩
  rw [← hp] at hF
  have hpl : p + m ≤ n * m := by rw [hp]; exact place_le hi
  have HP := Hid.mkV hp
  have ei : decide (0 ≤ (i : Int) ∧ (i : Int) < n) = true := decide_eq_true ⟨by omega, by omega⟩
  clear hz hW hg hM hp
  go_enter Tryd.func46, Tryd.ntmps46
  go_wp2_with (first
    | (rw [← HW.out, ← HG.out]; refine wpList_loadM (by rfl) _ (by rfl) _ _ _ _ (by rfl) (by with_reducible exact rA) ?_)
    | fail)
  refine (check_may W HM.out).mono ?_
  rintro e w1 ⟨rfl, k1⟩
  have r1 := rA.keep k1
  have B1 := below_tr hB k1
  have c0 := r1.rows
  have c1 := r1.cols
  clear rA hB k1
  go_wp2_with fail
  refine (within_any i n w1).mono ?_
  rintro e w2 ⟨rfl, rfl⟩
  rw [ei]
  go_wp2_with fail
  refine (row_any g i m p n _ w2 r1 HP.out h4 (by omega) (by omega) (by omega)).mono ?_
  rintro e w4 ⟨rfl, k4⟩
  have r4 := r1.keep k4
  have s4 : Sl w4 (some ⟨g, p + 2, none⟩) m (36 - p) (F i) := (r4.sl (by omega) (by omega) (by omega) rfl).congr hF.out
  have B4 := below_tr B1 k4
  go_wp2_with fail
  refine (copied_any _ m _ _ w4 s4 (by omega)).mono ?_
  rintro e w5 ⟨co, cc, rfl, s5, f5, k5⟩
  have hsz := B4.size
  go_wp2
  go_ret2
  exact ⟨co, cc, rfl, s5, fun x hx => Nat.le_trans hsz (f5 x hx), below_tr B4 k5⟩

set_option maxRecDepth 10000 in
set_option maxHeartbeats 1000000 in
theorem mrow_out (n m : Nat) (i : Int) (F : Nat → Nat → Int) (w : World) (h1 : 1 ≤ n) (h2 : n ≤ 6) (h3 : 1 ≤ m) (h4 : m ≤ 6) (h : ¬ (0 ≤ i ∧ i < n)) :
    Calls Tryd.prog 46 #[.agg (mvals n m (mz n m F)).toArray, .int .i64 i] w fun e w' => e = .returned (.tuple #[.slice none 0 0, .iface 39 (.int .i64 1)]) ∧ Below w.heap.size w w' := by
  have rA := mrow_new w n m (mz n m F)
  have hB := below_al (Below.refl _ w) (.cells (mvals n m (mz n m F)).toArray 57)
  obtain ⟨z, hz⟩ : ∃ z, z = mz n m F := ⟨_, rfl⟩
  have hM : May n m z := by rw [hz]; exact may_mz h1 h2 h3 h4
  rw [← hz] at rA hB
  rw [← hz]
  obtain ⟨W, hW⟩ : ∃ W, W = w.alloc (.cells (mvals n m z).toArray 57) := ⟨_, rfl⟩
  obtain ⟨g, hg⟩ : ∃ g, g = w.heap.size := ⟨_, rfl⟩
  rw [← hW] at rA hB
  rw [← hg] at rA
  have HW := Hid.mkV hW
  have HG := Hid.mkV hg
  have HM := Hid.mkV hM
  have ei : decide (0 ≤ i ∧ i < n) = false := decide_eq_false h
  clear hz hW hg hM h
  go_enter Tryd.func46, Tryd.ntmps46
  go_wp2_with (first
    | (rw [← HW.out, ← HG.out]; refine wpList_loadM (by rfl) _ (by rfl) _ _ _ _ (by rfl) (by with_reducible exact rA) ?_)
    | fail)
  refine (check_may W HM.out).mono ?_
  rintro e w1 ⟨rfl, k1⟩
  have r1 := rA.keep k1
  have B1 := below_tr hB k1
  have c0 := r1.rows
  have c1 := r1.cols
  clear rA hB k1
  go_wp2_with fail
  refine (within_any i n w1).mono ?_
  rintro e w2 ⟨rfl, rfl⟩
  rw [ei]
  go_wp2
  go_ret2
  exact ⟨rfl, B1⟩

set_option maxRecDepth 10000 in
set_option maxHeartbeats 1000000 in
theorem mrow_not (r c i : Int) (z : Nat → Int) (w : World) (h : ¬ May r c z) :
    Calls Tryd.prog 46 #[.agg (mvals r c z).toArray, .int .i64 i] w fun e w' => e = .returned (.tuple #[.slice none 0 0, .iface 39 (.int .i64 1)]) ∧ Below w.heap.size w w' := by
  have rA := mrow_new w r c z
  have hB := below_al (Below.refl _ w) (.cells (mvals r c z).toArray 57)
  obtain ⟨W, hW⟩ : ∃ W, W = w.alloc (.cells (mvals r c z).toArray 57) := ⟨_, rfl⟩
  obtain ⟨g, hg⟩ : ∃ g, g = w.heap.size := ⟨_, rfl⟩
  rw [← hW] at rA hB
  rw [← hg] at rA
  have HW := Hid.mkV hW
  have HG := Hid.mkV hg
  have HH := Hid.mkV h
  clear hW hg h
  go_enter Tryd.func46, Tryd.ntmps46
  go_wp2_with (first
    | (rw [← HW.out, ← HG.out]; refine wpList_loadM (by rfl) _ (by rfl) _ _ _ _ (by rfl) (by with_reducible exact rA) ?_)
    | fail)
  refine (check_not W HH.out).mono ?_
  rintro e w1 ⟨rfl, k1⟩
  go_wp2
  go_ret2
  exact ⟨rfl, below_tr hB k1⟩


end Go.Proofs.YtfgjigkgfflofaaDoorR
