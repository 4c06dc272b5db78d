/-
  Matrices (mat): At, Row, Eye, Turn, or their errors.
-/
import Derived.Test.YtgmagehgnjopcaaDoorMtD
set_option linter.unusedSimpArgs false
set_option linter.unusedVariables false
namespace Go.Proofs.YtgmagehgnjopcaaDoor
open Go.RowKit Vc Mt

namespace Mt
theorem may_mz {n m : Nat} {F : Nat → Nat → Int} (h1 : 1 ≤ n) (h2 : n ≤ 6) (h3 : 1 ≤ m) (h4 : m ≤ 6) : May n m (mz n m F) := ⟨n, m, rfl, rfl, h1, h2, h3, h4, fun k hk _ => mz_behind hk⟩
end Mt

set_option maxRecDepth 10000 in
set_option maxHeartbeats 1000000 in
theorem mat_any (n m i j : Nat) (F : Nat → Nat → Int) (w : World) (h1 : 1 ≤ n) (h2 : n ≤ 6) (h3 : 1 ≤ m) (h4 : m ≤ 6) (hi : i < n) (hj : j < m) :
    Calls Tryd.prog 16 #[.agg (mvals n m (mz n m F)).toArray, .int .i64 (i : Int), .int .i64 (j : Int)] w fun e w' => e = .returned (.tuple #[.int .i64 (F i j), .nilIface]) ∧ Below w.heap.size w w' := by
  have rA := mrow_new w n m (mz n m F)
  have hB := below_al (Below.refl _ w) (.cells (mvals n m (mz n m F)).toArray 25)
  obtain ⟨z, hz⟩ : ∃ z, z = mz n m F := ⟨_, rfl⟩
  have hM : May n m z := by rw [hz]; exact may_mz h1 h2 h3 h4
  have hF : Hid (z (i * m + j) = F i j) := by rw [hz]; exact mz_at hi hj
  rw [← hz] at rA hB
  rw [← hz]
  obtain ⟨W, hW⟩ : ∃ W, W = w.alloc (.cells (mvals n m z).toArray 25) := ⟨_, rfl⟩
  obtain ⟨g, hg⟩ : ∃ g, g = w.heap.size := ⟨_, rfl⟩
  rw [← hW] at rA hB
  rw [← hg] at rA
  have HW := Hid.mkV hW
  have HG := Hid.mkV hg
  have HM := Hid.mkV hM
  have h36 := size_le h2 h4
  obtain ⟨p, hp⟩ : ∃ p, p = i * m := ⟨_, rfl⟩
  rw [← hp] at hF
  have hpl : p + m ≤ n * m := by rw [hp]; exact place_le hi
  have HP := Hid.mkV hp
  have ei : decide (0 ≤ (i : Int) ∧ (i : Int) < n) = true := decide_eq_true ⟨by omega, by omega⟩
  have ej : decide (0 ≤ (j : Int) ∧ (j : Int) < m) = true := decide_eq_true ⟨by omega, by omega⟩
  clear hz hW hg hM hp
  go_enter Tryd.func16, Tryd.ntmps16
  go_wp2_with (first
    | (rw [← HW.out, ← HG.out]; refine wpList_loadM (by rfl) _ (by rfl) _ _ _ _ (by rfl) (by with_reducible exact rA) ?_)
    | fail)
  refine (check_may W HM.out).mono ?_
  rintro e w1 ⟨rfl, k1⟩
  have r1 := rA.keep k1
  have B1 := below_tr hB k1
  have c0 := r1.rows
  have c1 := r1.cols
  clear rA hB k1
  go_wp2_with fail
  refine (within_any i n w1).mono ?_
  rintro e w2 ⟨rfl, rfl⟩
  rw [ei]
  go_wp2_with fail
  refine (within_any j m w2).mono ?_
  rintro e w3 ⟨rfl, rfl⟩
  rw [ej]
  go_wp2_with fail
  refine (row_any g i m p n _ w3 r1 HP.out h4 (by omega) (by omega) (by omega)).mono ?_
  rintro e w4 ⟨rfl, k4⟩
  have r4 := r1.keep k4
  have cc := r4.cell (show p + j < 36 by omega) (show p + 2 + j = p + j + 2 by omega)
  rw [hF.out] at cc
  go_wp2
  go_ret2
  exact ⟨rfl, below_tr B1 k4⟩

set_option maxRecDepth 10000 in
set_option maxHeartbeats 1000000 in
theorem mat_out (n m : Nat) (i j : Int) (F : Nat → Nat → Int) (w : World) (h1 : 1 ≤ n) (h2 : n ≤ 6) (h3 : 1 ≤ m) (h4 : m ≤ 6) (h : ¬ (0 ≤ i ∧ i < n) ∨ ¬ (0 ≤ j ∧ j < m)) :
    Calls Tryd.prog 16 #[.agg (mvals n m (mz n m F)).toArray, .int .i64 i, .int .i64 j] w fun e w' => e = .returned (.tuple #[.int .i64 0, .iface 64 (.int .i64 1)]) ∧ Below w.heap.size w w' := by
  have rA := mrow_new w n m (mz n m F)
  have hB := below_al (Below.refl _ w) (.cells (mvals n m (mz n m F)).toArray 25)
  obtain ⟨z, hz⟩ : ∃ z, z = mz n m F := ⟨_, rfl⟩
  have hM : May n m z := by rw [hz]; exact may_mz h1 h2 h3 h4
  rw [← hz] at rA hB
  rw [← hz]
  obtain ⟨W, hW⟩ : ∃ W, W = w.alloc (.cells (mvals n m z).toArray 25) := ⟨_, rfl⟩
  obtain ⟨g, hg⟩ : ∃ g, g = w.heap.size := ⟨_, rfl⟩
  rw [← hW] at rA hB
  rw [← hg] at rA
  have HW := Hid.mkV hW
  have HG := Hid.mkV hg
  have HM := Hid.mkV hM
  have HH := Hid.mkV h
  clear hz hW hg hM h
  go_enter Tryd.func16, Tryd.ntmps16
  go_wp2_with (first
    | (rw [← HW.out, ← HG.out]; refine wpList_loadM (by rfl) _ (by rfl) _ _ _ _ (by rfl) (by with_reducible exact rA) ?_)
    | fail)
  refine (check_may W HM.out).mono ?_
  rintro e w1 ⟨rfl, k1⟩
  have r1 := rA.keep k1
  have B1 := below_tr hB k1
  have c0 := r1.rows
  have c1 := r1.cols
  clear rA hB k1
  go_wp2_with fail
  refine (within_any i n w1).mono ?_
  rintro e w2 ⟨rfl, rfl⟩
  by_cases hi : 0 ≤ i ∧ i < n
  · have ei : decide (0 ≤ i ∧ i < n) = true := decide_eq_true hi
    have ej : decide (0 ≤ j ∧ j < m) = false := decide_eq_false (by rcases HH.out with h | h; exact absurd hi h; exact h)
    rw [ei]
    clear hi
    go_wp2_with fail
    refine (within_any j m w2).mono ?_
    rintro e w3 ⟨rfl, rfl⟩
    rw [ej]
    go_wp2
    go_ret2
    exact ⟨rfl, B1⟩
  · have ei : decide (0 ≤ i ∧ i < n) = false := decide_eq_false hi
    rw [ei]
    clear hi
    go_wp2
    go_ret2
    exact ⟨rfl, B1⟩

set_option maxRecDepth 10000 in
set_option maxHeartbeats 1000000 in
theorem mat_not (r c i j : Int) (z : Nat → Int) (w : World) (h : ¬ May r c z) :
    Calls Tryd.prog 16 #[.agg (mvals r c z).toArray, .int .i64 i, .int .i64 j] w fun e w' => e = .returned (.tuple #[.int .i64 0, .iface 64 (.int .i64 1)]) ∧ Below w.heap.size w w' := by
  have rA := mrow_new w r c z
  have hB := below_al (Below.refl _ w) (.cells (mvals r c z).toArray 25)
  obtain ⟨W, hW⟩ : ∃ W, W = w.alloc (.cells (mvals r c z).toArray 25) := ⟨_, rfl⟩
  obtain ⟨g, hg⟩ : ∃ g, g = w.heap.size := ⟨_, rfl⟩
  rw [← hW] at rA hB
  rw [← hg] at rA
  have HW := Hid.mkV hW
  have HG := Hid.mkV hg
  have HH := Hid.mkV h
  clear hW hg h
  go_enter Tryd.func16, Tryd.ntmps16
  go_wp2_with (first
    | (rw [← HW.out, ← HG.out]; refine wpList_loadM (by rfl) _ (by rfl) _ _ _ _ (by rfl) (by with_reducible exact rA) ?_)
    | fail)
  refine (check_not W HH.out).mono ?_
  rintro e w1 ⟨rfl, k1⟩
  go_wp2
  go_ret2
  exact ⟨rfl, below_tr hB k1⟩

set_option maxRecDepth 10000 in
set_option maxHeartbeats 1000000 in
theorem mrow_any (n m i : Nat) (F : Nat → Nat → Int) (w : World) (h1 : 1 ≤ n) (h2 : n ≤ 6) (h3 : 1 ≤ m) (h4 : m ≤ 6) (hi : i < n) :
    Calls Tryd.prog 17 #[.agg (mvals n m (mz n m F)).toArray, .int .i64 (i : Int)] w fun e w' => ∃ co cc, e = .returned (.tuple #[.slice co m cc, .nilIface]) ∧ Sl w' co m cc (F i) ∧ Fresh w.heap.size co ∧ Below w.heap.size w w' := by
  have rA := mrow_new w n m (mz n m F)
  have hB := below_al (Below.refl _ w) (.cells (mvals n m (mz n m F)).toArray 25)
  obtain ⟨z, hz⟩ : ∃ z, z = mz n m F := ⟨_, rfl⟩
  have hM : May n m z := by rw [hz]; exact may_mz h1 h2 h3 h4
  have hF : Hid (∀ j, j < m → z (i * m + j) = F i j) := by rw [hz]; exact fun j hj => mz_at hi hj
  rw [← hz] at rA hB
  rw [← hz]
  obtain ⟨W, hW⟩ : ∃ W, W = w.alloc (.cells (mvals n m z).toArray 25) := ⟨_, rfl⟩
  obtain ⟨g, hg⟩ : ∃ g, g = w.heap.size := ⟨_, rfl⟩
  rw [← hW] at rA hB
  rw [← hg] at rA
  have HW := Hid.mkV hW
  have HG := Hid.mkV hg
  have HM := Hid.mkV hM
  have h36 := size_le h2 h4
  obtain ⟨p, hp⟩ : ∃ p, p = i * m := ⟨_, rfl⟩
  rw [← hp] at hF
  have hpl : p + m ≤ n * m := by rw [hp]; exact place_le hi
  have HP := Hid.mkV hp
  have ei : decide (0 ≤ (i : Int) ∧ (i : Int) < n) = true := decide_eq_true ⟨by omega, by omega⟩
  clear hz hW hg hM hp
  go_enter Tryd.func17, Tryd.ntmps17
  go_wp2_with (first
    | (rw [← HW.out, ← HG.out]; refine wpList_loadM (by rfl) _ (by rfl) _ _ _ _ (by rfl) (by with_reducible exact rA) ?_)
    | fail)
  refine (check_may W HM.out).mono ?_
  rintro e w1 ⟨rfl, k1⟩
  have r1 := rA.keep k1
  have B1 := below_tr hB k1
  have c0 := r1.rows
  have c1 := r1.cols
  clear rA hB k1
  go_wp2_with fail
  refine (within_any i n w1).mono ?_
  rintro e w2 ⟨rfl, rfl⟩
  rw [ei]
  go_wp2_with fail
  refine (row_any g i m p n _ w2 r1 HP.out h4 (by omega) (by omega) (by omega)).mono ?_
  rintro e w4 ⟨rfl, k4⟩
  have r4 := r1.keep k4
  have s4 : Sl w4 (some ⟨g, p + 2, none⟩) m (36 - p) (F i) := (r4.sl (by omega) (by omega) (by omega) rfl).congr hF.out
  have B4 := below_tr B1 k4
  go_wp2_with fail
  refine (copied_any _ m _ _ w4 s4 (by omega)).mono ?_
  rintro e w5 ⟨co, cc, rfl, s5, f5, k5⟩
  have hsz := B4.size
  go_wp2
  go_ret2
  exact ⟨co, cc, rfl, s5, fun x hx => Nat.le_trans hsz (f5 x hx), below_tr B4 k5⟩

set_option maxRecDepth 10000 in
set_option maxHeartbeats 1000000 in
theorem mrow_out (n m : Nat) (i : Int) (F : Nat → Nat → Int) (w : World) (h1 : 1 ≤ n) (h2 : n ≤ 6) (h3 : 1 ≤ m) (h4 : m ≤ 6) (h : ¬ (0 ≤ i ∧ i < n)) :
    Calls Tryd.prog 17 #[.agg (mvals n m (mz n m F)).toArray, .int .i64 i] w fun e w' => e = .returned (.tuple #[.slice none 0 0, .iface 64 (.int .i64 1)]) ∧ Below w.heap.size w w' := by
  have rA := mrow_new w n m (mz n m F)
  have hB := below_al (Below.refl _ w) (.cells (mvals n m (mz n m F)).toArray 25)
  obtain ⟨z, hz⟩ : ∃ z, z = mz n m F := ⟨_, rfl⟩
  have hM : May n m z := by rw [hz]; exact may_mz h1 h2 h3 h4
  rw [← hz] at rA hB
  rw [← hz]
  obtain ⟨W, hW⟩ : ∃ W, W = w.alloc (.cells (mvals n m z).toArray 25) := ⟨_, rfl⟩
  obtain ⟨g, hg⟩ : ∃ g, g = w.heap.size := ⟨_, rfl⟩
  rw [← hW] at rA hB
  rw [← hg] at rA
  have HW := Hid.mkV hW
  have HG := Hid.mkV hg
  have HM := Hid.mkV hM
  have ei : decide (0 ≤ i ∧ i < n) = false := decide_eq_false h
  clear hz hW hg hM h
  go_enter Tryd.func17, Tryd.ntmps17
  go_wp2_with (first
    | (rw [← HW.out, ← HG.out]; refine wpList_loadM (by rfl) _ (by rfl) _ _ _ _ (by rfl) (by with_reducible exact rA) ?_)
    | fail)
  refine (check_may W HM.out).mono ?_
  rintro e w1 ⟨rfl, k1⟩
  have r1 := rA.keep k1
  have B1 := below_tr hB k1
  have c0 := r1.rows
  have c1 := r1.cols
  clear rA hB k1
  go_wp2_with fail
  refine (within_any i n w1).mono ?_
  rintro e w2 ⟨rfl, rfl⟩
  rw [ei]
  go_wp2
  go_ret2
  exact ⟨rfl, B1⟩

set_option maxRecDepth 10000 in
set_option maxHeartbeats 1000000 in
theorem mrow_not (r c i : Int) (z : Nat → Int) (w : World) (h : ¬ May r c z) :
    Calls Tryd.prog 17 #[.agg (mvals r c z).toArray, .int .i64 i] w fun e w' => e = .returned (.tuple #[.slice none 0 0, .iface 64 (.int .i64 1)]) ∧ Below w.heap.size w w' := by
  have rA := mrow_new w r c z
  have hB := below_al (Below.refl _ w) (.cells (mvals r c z).toArray 25)
  obtain ⟨W, hW⟩ : ∃ W, W = w.alloc (.cells (mvals r c z).toArray 25) := ⟨_, rfl⟩
  obtain ⟨g, hg⟩ : ∃ g, g = w.heap.size := ⟨_, rfl⟩
  rw [← hW] at rA hB
  rw [← hg] at rA
  have HW := Hid.mkV hW
  have HG := Hid.mkV hg
  have HH := Hid.mkV h
  clear hW hg h
  go_enter Tryd.func17, Tryd.ntmps17
  go_wp2_with (first
    | (rw [← HW.out, ← HG.out]; refine wpList_loadM (by rfl) _ (by rfl) _ _ _ _ (by rfl) (by with_reducible exact rA) ?_)
    | fail)
  refine (check_not W HH.out).mono ?_
  rintro e w1 ⟨rfl, k1⟩
  go_wp2
  go_ret2
  exact ⟨rfl, below_tr hB k1⟩

set_option maxRecDepth 10000 in
set_option maxHeartbeats 1000000 in
theorem meye1_any (i j : Nat) (w : World) (hi : i ≤ 6) (hj : j ≤ 6) :
    Calls Tryd.prog 36 #[.int .i64 (i : Int), .int .i64 (j : Int)] w fun e w' => e = .returned (.tuple #[.int .i64 (if i = j then 1048576 else 0), .bool false, .nilIface]) ∧ Below w.heap.size w w' := by
  by_cases h : i = j
  · subst h
    rw [if_pos rfl]
    go_enter Tryd.func36, Tryd.ntmps36
    go_wp2
    go_ret3
    exact ⟨rfl, Below.refl _ _⟩
  · rw [if_neg h]
    have e1 : (((i : Nat) : Int) == ((j : Nat) : Int)) = false := beq_eq_false_iff_ne.2 (by omega)
    clear h
    go_enter Tryd.func36, Tryd.ntmps36
    go_wp2
    go_ret3
    exact ⟨rfl, Below.refl _ _⟩

namespace Mt
def eyeF : Nat → Nat → Int := fun i j => if i = j then 1048576 else 0
theorem any2_no (n m : Nat) : any2 (fun _ _ => false) n m = false := any2_false.2 fun _ _ _ _ => rfl
end Mt

set_option maxRecDepth 10000 in
set_option maxHeartbeats 1000000 in
theorem meye_any (n : Nat) (w : World) (h1 : 1 ≤ n) (h2 : n ≤ 6) :
    Calls Tryd.prog 7 #[.int .i64 (n : Int)] w fun e w' => e = .returned (.tuple #[.agg (mvals n n (mz n n eyeF)).toArray, .nilIface]) ∧ Below w.heap.size w w' := by
  have rA := mrow_new w 0 0 (fun _ => 0)
  have hB := below_al (Below.refl _ w) (.cells (mvals 0 0 (fun _ => 0)).toArray 25)
  obtain ⟨W, hW⟩ : ∃ W, W = w.alloc (.cells (mvals 0 0 (fun _ => 0)).toArray 25) := ⟨_, rfl⟩
  rw [← hW] at rA hB
  have HW := Hid.mkV hW
  have HN := Hid.mkV (byNumber_Eye n n eyeF (fun _ _ => false) W h1 h2 h1 h2 (fun i j hi hj w1 _ => meye1_any i j w1 (by omega) (by omega)))
  rw [any2_no] at HN
  clear hW
  obtain ⟨z, hz⟩ : ∃ z, z = mz n n eyeF := ⟨_, rfl⟩
  rw [← hz] at HN
  rw [← hz]
  clear hz
  go_enter Tryd.func7, Tryd.ntmps7
  go_wp2_with fail
  rw [zeroM, ← HW.out]
  refine HN.out.mono ?_
  rintro e w1 ⟨rfl, k1⟩
  have r1 := rA.keep k1
  have rR := r1.alloc (.cells (mvals 0 0 (fun _ => 0)).toArray 25)
  have rN := mrow_new w1 0 0 (fun _ => 0)
  have B1 := below_tr hB k1
  have B2 := below_al B1 (.cells (mvals 0 0 (fun _ => 0)).toArray 25)
  have hne : w.heap.size ≠ w1.heap.size := by have := r1.lt; omega
  go_wp2_with (first
    | (rw [zeroM]; refine wpList_storeM rfl _ _ (by rfl) _ _ _ _ _ _ _ (by rfl) (by rfl) (by with_reducible exact rN) ?_)
    | (refine wpList_loadM (by rfl) _ (by rfl) _ _ _ _ (by rfl) (by with_reducible exact rN.row _ _ _) ?_)
    | (refine wpList_storeM rfl _ _ (by rfl) _ _ _ _ _ _ _ (by rfl) (by rfl) (by with_reducible exact rR.rowOther hne _) ?_)
    | fail)
  exact bodyPost_ret (results_M2 Tryd.results7 _ _ w.heap.size _ _ _ rfl ((rR.rowOther hne _).row _ _ _)) rfl ⟨rfl, below_row (below_row B2 B1.size _) (Nat.le_refl _) _⟩

set_option maxRecDepth 10000 in
set_option maxHeartbeats 1000000 in
theorem meye_not (n : Int) (w : World) (h : ¬ (1 ≤ n ∧ n ≤ 6)) :
    Calls Tryd.prog 7 #[.int .i64 n] w fun e w' => e = .returned (.tuple #[.agg (mvals 0 0 (fun _ => 0)).toArray, .iface 64 (.int .i64 1)]) ∧ Below w.heap.size w w' := by
  have rA := mrow_new w 0 0 (fun _ => 0)
  have hB := below_al (Below.refl _ w) (.cells (mvals 0 0 (fun _ => 0)).toArray 25)
  obtain ⟨W, hW⟩ : ∃ W, W = w.alloc (.cells (mvals 0 0 (fun _ => 0)).toArray 25) := ⟨_, rfl⟩
  rw [← hW] at rA hB
  have HW := Hid.mkV hW
  have HN := Hid.mkV (fun f => byNumber_err n n f W (fun h' => h ⟨h'.1, h'.2.1⟩))
  clear hW h
  go_enter Tryd.func7, Tryd.ntmps7
  go_wp2_with fail
  rw [zeroM, ← HW.out]
  refine (HN.out _).mono ?_
  rintro e w1 ⟨rfl, k1⟩
  have r1 := rA.keep k1
  have rR := r1.alloc (.cells (mvals 0 0 (fun _ => 0)).toArray 25)
  have rN := mrow_new w1 0 0 (fun _ => 0)
  have B1 := below_tr hB k1
  have B2 := below_al B1 (.cells (mvals 0 0 (fun _ => 0)).toArray 25)
  have hne : w.heap.size ≠ w1.heap.size := by have := r1.lt; omega
  go_wp2_with (first
    | (rw [zeroM]; refine wpList_storeM rfl _ _ (by rfl) _ _ _ _ _ _ _ (by rfl) (by rfl) (by with_reducible exact rN) ?_)
    | (refine wpList_loadM (by rfl) _ (by rfl) _ _ _ _ (by rfl) (by with_reducible exact rN.row _ _ _) ?_)
    | (refine wpList_storeM rfl _ _ (by rfl) _ _ _ _ _ _ _ (by rfl) (by rfl) (by with_reducible exact rR.rowOther hne _) ?_)
    | fail)
  exact bodyPost_ret (results_M2 Tryd.results7 _ _ w.heap.size _ _ _ rfl ((rR.rowOther hne _).row _ _ _)) rfl ⟨rfl, below_row (below_row B2 B1.size _) (Nat.le_refl _) _⟩

end Go.Proofs.YtgmagehgnjopcaaDoor
