/-
  Matrices (mat): Add, Sub, or their errors. (By py/MtG.py.)
-/
import Derived.Test.YtgmagehgnjopcaaDoorMtF
import Derived.Test.YtgmagehgnjopcaaDoorQK
import Derived.Deep.RegionHeld3
set_option linter.unusedSimpArgs false
set_option linter.unusedVariables false
namespace Go.Proofs.YtgmagehgnjopcaaDoor
open Go.RowKit Vc Mt Qn Dt

namespace Mt
theorem mrow_new3 (w : World) (A B C : Obj) (r c : Int) (z : Nat → Int) : MRow ((((w.alloc A).alloc B).alloc C).alloc (.cells (mvals r c z).toArray 25)) (w.heap.size + 1 + 1 + 1) r c z := by
  have h := mrow_new (((w.alloc A).alloc B).alloc C) r c z
  rwa [show (((w.alloc A).alloc B).alloc C).heap.size = w.heap.size + 1 + 1 + 1 by simp] at h
end Mt

set_option maxRecDepth 10000 in
set_option maxHeartbeats 1000000 in
theorem mpairs1_Add (n m i j gn ga gb : Nat) (F G : Nat → Nat → Int) (w : World) (h1 : 1 ≤ n) (h2 : n ≤ 6) (h3 : 1 ≤ m) (h4 : m ≤ 6) (hi : i < n) (hj : j < m) (ra : MRow w ga n m (mz n m F)) (rb : MRow w gb n m (mz n m G)) (hF : B2 F) (hG : B2 G) (cn : w.cell? ⟨gn, 0, none⟩ = some (.func (.func 45) #[] #[])) :
    Calls Tryd.prog 63 #[.int .i64 (i : Int), .int .i64 (j : Int), .pointer (some ⟨gn, 0, none⟩), .pointer (some ⟨ga, 0, none⟩), .pointer (some ⟨gb, 0, none⟩)] w fun e w' => e = .returned (.tuple #[.int .i64 (clamp (F i j + G i j)), .bool (great (F i j + G i j)), .nilIface]) ∧ Below w.heap.size w w' := by
  have h36 := size_le h2 h4
  obtain ⟨p, hp⟩ : ∃ p, p = i * m := ⟨_, rfl⟩
  have hpl : p + m ≤ n * m := by rw [hp]; exact place_le hi
  have ca := ra.cell (show p + j < 36 by omega) (show p + 2 + j = p + j + 2 by omega)
  have cb := rb.cell (show p + j < 36 by omega) (show p + 2 + j = p + j + 2 by omega)
  rw [hp, mz_at hi hj, ← hp] at ca cb
  have RA : Hid (∀ W, Below w.heap.size w W → Calls Tryd.prog 34 #[.pointer (some ⟨ga, 0, none⟩), .int .i64 (i : Int)] W fun e w' => e = .returned (.slice (some ⟨ga, p + 2, none⟩) m (36 - p)) ∧ Below W.heap.size W w') := fun W b => row_any ga i m p n _ W (ra.keep b) hp h4 (by omega) (by omega) (by omega)
  have RB : Hid (∀ W, Below w.heap.size w W → Calls Tryd.prog 34 #[.pointer (some ⟨gb, 0, none⟩), .int .i64 (i : Int)] W fun e w' => e = .returned (.slice (some ⟨gb, p + 2, none⟩) m (36 - p)) ∧ Below W.heap.size W w') := fun W b => row_any gb i m p n _ W (rb.keep b) hp h4 (by omega) (by omega) (by omega)
  have QA := Hid.mkV (fun W => qadd_any (F i j) (G i j) W (hF i j).1 (hF i j).2 (hG i j).1 (hG i j).2)
  obtain ⟨R, hR⟩ : ∃ R, R = clamp (F i j + G i j) := ⟨_, rfl⟩
  obtain ⟨g, hg⟩ : ∃ g, g = great (F i j + G i j) := ⟨_, rfl⟩
  obtain ⟨x, hx⟩ : ∃ x, x = F i j := ⟨_, rfl⟩
  obtain ⟨y, hy⟩ : ∃ y, y = G i j := ⟨_, rfl⟩
  rw [← hR, ← hg] at QA
  rw [← hx] at ca
  rw [← hy] at cb
  rw [← hx, ← hy] at QA
  rw [← hR, ← hg]
  clear hR hg hx hy hF hG ra rb hp
  go_enter Tryd.func63, Tryd.ntmps63
  go_wp2
  go_region_held3 (fun w' => w'.cell? ⟨gn, 0, none⟩ = some (.func (.func 45) #[] #[]) ∧ w'.cell? ⟨ga, p + 2 + j, none⟩ = some (.int .i64 x) ∧ w'.cell? ⟨gb, p + 2 + j, none⟩ = some (.int .i64 y))
    (first
      | (refine ⟨keep_cell (W := w) ?_ cn, keep_cell (W := w) ?_ ca, keep_cell (W := w) ?_ cb⟩ <;> first | with_reducible exact Below.refl _ _ | with_reducible exact Vc.below_drew' _ | with_reducible exact kb | with_reducible exact ka | with_reducible exact kq))
    (first
      | (go_at_call_of 34 (Value.pointer (some ⟨ga, 0, none⟩)); refine (RA.out _ (by first | with_reducible exact Vc.below_drew' _ | with_reducible exact kb)).mono ?_; rintro e wa ⟨rfl, ka'⟩
         have ka : Below w.heap.size w wa := by first | exact below_tr (Vc.below_drew' _) ka' | exact below_tr kb ka')
      | (go_at_call_of 34 (Value.pointer (some ⟨gb, 0, none⟩)); refine (RB.out _ (by first | with_reducible exact Vc.below_drew' _ | with_reducible exact ka)).mono ?_; rintro e wb ⟨rfl, kb'⟩
         have kb : Below w.heap.size w wb := by first | exact below_tr (Vc.below_drew' _) kb' | exact below_tr ka kb')
      | (go_at_call 45; refine (QA.out _).mono ?_; rintro e wq ⟨rfl, kq'⟩
         have kq : Below w.heap.size w wq := by first | with_reducible exact below_tr kb kq' | with_reducible exact below_tr ka kq'))
  all_goals go_wp2
  all_goals go_ret3
  all_goals exact ⟨rfl, kq⟩

set_option maxRecDepth 10000 in
set_option maxHeartbeats 1000000 in
theorem byPairs_Add (n m : Nat) (F G : Nat → Nat → Int) (w : World) (h1 : 1 ≤ n) (h2 : n ≤ 6) (h3 : 1 ≤ m) (h4 : m ≤ 6) (hF : B2 F) (hG : B2 G) :
    Calls Tryd.prog 44 #[.agg (mvals n m (mz n m F)).toArray, .agg (mvals n m (mz n m G)).toArray, .func (.func 45) #[] #[]] w fun e w' => e = .returned (.tuple #[.agg (mvals n m (mz n m (fun i j => clamp (F i j + G i j)))).toArray, .bool (any2 (fun i j => great (F i j + G i j)) n m), .nilIface]) ∧ Below w.heap.size w w' := by
  have rA := (((mrow_new w n m (mz n m F)).alloc (.cells (mvals n m (mz n m G)).toArray 25)).alloc (.cells #[.func (.func 45) #[] #[]] 76)).alloc (.cells (mvals 0 0 (fun _ => 0)).toArray 25)
  have rB := ((mrow_new1 w (.cells (mvals n m (mz n m F)).toArray 25) n m (mz n m G)).alloc (.cells #[.func (.func 45) #[] #[]] 76)).alloc (.cells (mvals 0 0 (fun _ => 0)).toArray 25)
  have rZ := mrow_new3 w (.cells (mvals n m (mz n m F)).toArray 25) (.cells (mvals n m (mz n m G)).toArray 25) (.cells #[.func (.func 45) #[] #[]] 76) 0 0 (fun _ => 0)
  have hB := below_al (below_al (below_al (below_al (Below.refl _ w) (.cells (mvals n m (mz n m F)).toArray 25)) (.cells (mvals n m (mz n m G)).toArray 25)) (.cells #[.func (.func 45) #[] #[]] 76)) (.cells (mvals 0 0 (fun _ => 0)).toArray 25)
  have cn : ((((w.alloc (.cells (mvals n m (mz n m F)).toArray 25)).alloc (.cells (mvals n m (mz n m G)).toArray 25)).alloc (.cells #[.func (.func 45) #[] #[]] 76)).alloc (.cells (mvals 0 0 (fun _ => 0)).toArray 25)).cell? ⟨w.heap.size + 1 + 1, 0, none⟩ = some (.func (.func 45) #[] #[]) := by go_simp
  obtain ⟨W, hW⟩ : ∃ W, W = (((w.alloc (.cells (mvals n m (mz n m F)).toArray 25)).alloc (.cells (mvals n m (mz n m G)).toArray 25)).alloc (.cells #[.func (.func 45) #[] #[]] 76)).alloc (.cells (mvals 0 0 (fun _ => 0)).toArray 25) := ⟨_, rfl⟩
  rw [← hW] at rA rB rZ hB cn
  have HCa := Hid.mkV (fun W' => check_may W' (may_mz (F := F) h1 h2 h3 h4))
  have HCb := Hid.mkV (fun W' => check_may W' (may_mz (F := G) h1 h2 h3 h4))
  have HN := Hid.mkV (fun W' (b : Below W.heap.size W W') => byNumber_byPairs (.pointer (some ⟨w.heap.size + 1 + 1, 0, none⟩)) (.pointer (some ⟨w.heap.size, 0, none⟩)) (.pointer (some ⟨w.heap.size + 1, 0, none⟩)) n m (fun i j => clamp (F i j + G i j)) (fun i j => great (F i j + G i j)) W' h1 h2 h3 h4
    (fun i j hi hj w1 k1 => mpairs1_Add n m i j (w.heap.size + 1 + 1) w.heap.size (w.heap.size + 1) F G w1 h1 h2 h3 h4 hi hj (rA.keep (below_tr b k1)) (rB.keep (below_tr b k1)) hF hG (keep_cell (below_tr b k1) cn)))
  obtain ⟨z, hz⟩ : ∃ z, z = mz n m F := ⟨_, rfl⟩
  obtain ⟨y, hy⟩ : ∃ y, y = mz n m G := ⟨_, rfl⟩
  obtain ⟨v, hv⟩ : ∃ v, v = mz n m (fun i j => clamp (F i j + G i j)) := ⟨_, rfl⟩
  obtain ⟨t, ht⟩ : ∃ t, t = any2 (fun i j => great (F i j + G i j)) n m := ⟨_, rfl⟩
  rw [← hz] at HCa rA hW
  rw [← hy] at HCb rB hW
  rw [← hv, ← ht] at HN
  rw [← hz, ← hy, ← hv, ← ht]
  have HW := Hid.mkV hW
  clear hz hy hv ht hW hF hG
  go_enter Tryd.func44, Tryd.ntmps44
  go_wp2_with (first
    | (rw [zeroM, ← HW.out]; refine wpList_loadM (by rfl) _ (by rfl) _ _ _ _ (by rfl) (by with_reducible exact rA) ?_)
    | fail)
  refine (HCa.out _).mono ?_
  rintro e w1 ⟨rfl, k1⟩
  have a1 := rA.keep k1
  have b1 := rB.keep k1
  have z1 := rZ.keep k1
  have B1 := below_tr hB k1
  clear rA rB rZ hB cn HCa
  go_wp2_with (first
    | (refine wpList_loadM (by rfl) _ (by rfl) _ _ _ _ (by rfl) (by with_reducible exact b1) ?_)
    | fail)
  refine (HCb.out _).mono ?_
  rintro e w2 ⟨rfl, k2⟩
  have a2 := a1.keep k2
  have b2 := b1.keep k2
  have z2 := z1.keep k2
  have B2' := below_tr B1 k2
  have c0 := a2.rows
  have c1 := a2.cols
  have d0 := b2.rows
  have d1 := b2.cols
  have HN2 := Hid.mkV (HN.out w2 (below_tr k1 k2))
  clear a1 b1 z1 B1 HCb HN k1 k2
  go_wp2_with fail
  refine HN2.out.mono ?_
  rintro e w3 ⟨rfl, k3⟩
  have z3 := z2.keep k3
  have B3 := below_tr B2' k3
  go_wp2_with (first
    | (refine wpList_storeM rfl _ _ (by rfl) _ _ _ _ _ _ _ (by rfl) (by rfl) (by with_reducible exact z3) ?_)
    | fail)
  exact bodyPost_ret (results_M3 Tryd.results44 _ _ (w.heap.size + 1 + 1 + 1) _ _ _ rfl (z3.row _ _ _)) rfl ⟨rfl, below_row B3 (by omega) _⟩

set_option maxRecDepth 10000 in
set_option maxHeartbeats 1000000 in
theorem byPairs_Add_no (r c r' c' : Int) (z y : Nat → Int) (w : World) (h : ¬ May r c z ∨ (May r c z ∧ ¬ May r' c' y) ∨ (May r c z ∧ May r' c' y ∧ (r ≠ r' ∨ c ≠ c'))) :
    Calls Tryd.prog 44 #[.agg (mvals r c z).toArray, .agg (mvals r' c' y).toArray, .func (.func 45) #[] #[]] w fun e w' => e = .returned (.tuple #[.agg (mvals 0 0 (fun _ => 0)).toArray, .bool false, .iface 64 (.int .i64 1)]) ∧ Below w.heap.size w w' := by
  have rA := (((mrow_new w r c z).alloc (.cells (mvals r' c' y).toArray 25)).alloc (.cells #[.func (.func 45) #[] #[]] 76)).alloc (.cells (mvals 0 0 (fun _ => 0)).toArray 25)
  have rB := ((mrow_new1 w (.cells (mvals r c z).toArray 25) r' c' y).alloc (.cells #[.func (.func 45) #[] #[]] 76)).alloc (.cells (mvals 0 0 (fun _ => 0)).toArray 25)
  have rZ := mrow_new3 w (.cells (mvals r c z).toArray 25) (.cells (mvals r' c' y).toArray 25) (.cells #[.func (.func 45) #[] #[]] 76) 0 0 (fun _ => 0)
  have hB := below_al (below_al (below_al (below_al (Below.refl _ w) (.cells (mvals r c z).toArray 25)) (.cells (mvals r' c' y).toArray 25)) (.cells #[.func (.func 45) #[] #[]] 76)) (.cells (mvals 0 0 (fun _ => 0)).toArray 25)
  obtain ⟨W, hW⟩ : ∃ W, W = (((w.alloc (.cells (mvals r c z).toArray 25)).alloc (.cells (mvals r' c' y).toArray 25)).alloc (.cells #[.func (.func 45) #[] #[]] 76)).alloc (.cells (mvals 0 0 (fun _ => 0)).toArray 25) := ⟨_, rfl⟩
  rw [← hW] at rA rB rZ hB
  have HW := Hid.mkV hW
  clear hW
  rcases h with h | ⟨h, h'⟩ | ⟨h, h', h''⟩
  · have HC := Hid.mkV (fun W' => check_not W' h)
    clear h
    go_enter Tryd.func44, Tryd.ntmps44
    go_wp2_with (first
      | (rw [zeroM, ← HW.out]; refine wpList_loadM (by rfl) _ (by rfl) _ _ _ _ (by rfl) (by with_reducible exact rA) ?_)
      | fail)
    refine (HC.out _).mono ?_
    rintro e w1 ⟨rfl, k1⟩
    have z1 := rZ.keep k1
    have B1 := below_tr hB k1
    go_wp2_with (first
      | (refine wpList_build0 rfl (by rfl) ?_)
      | (refine wpList_storeM rfl _ _ (by rfl) _ _ _ _ _ _ _ (by rfl) (by rfl) (by with_reducible exact z1) ?_)
      | fail)
    exact bodyPost_ret (results_M3 Tryd.results44 _ _ (w.heap.size + 1 + 1 + 1) _ _ _ rfl (z1.row _ _ _)) rfl ⟨rfl, below_row B1 (by omega) _⟩
  · have HC := Hid.mkV (fun W' => check_may W' h)
    have HC' := Hid.mkV (fun W' => check_not W' h')
    clear h h'
    go_enter Tryd.func44, Tryd.ntmps44
    go_wp2_with (first
      | (rw [zeroM, ← HW.out]; refine wpList_loadM (by rfl) _ (by rfl) _ _ _ _ (by rfl) (by with_reducible exact rA) ?_)
      | fail)
    refine (HC.out _).mono ?_
    rintro e w1 ⟨rfl, k1⟩
    have b1 := rB.keep k1
    have z1 := rZ.keep k1
    have B1 := below_tr hB k1
    clear rA rB rZ hB HC
    go_wp2_with (first
      | (refine wpList_loadM (by rfl) _ (by rfl) _ _ _ _ (by rfl) (by with_reducible exact b1) ?_)
      | fail)
    refine (HC'.out _).mono ?_
    rintro e w2 ⟨rfl, k2⟩
    have z2 := z1.keep k2
    have B2' := below_tr B1 k2
    go_wp2_with (first
      | (refine wpList_build0 rfl (by rfl) ?_)
      | (refine wpList_storeM rfl _ _ (by rfl) _ _ _ _ _ _ _ (by rfl) (by rfl) (by with_reducible exact z2) ?_)
      | fail)
    exact bodyPost_ret (results_M3 Tryd.results44 _ _ (w.heap.size + 1 + 1 + 1) _ _ _ rfl (z2.row _ _ _)) rfl ⟨rfl, below_row B2' (by omega) _⟩
  · have HC := Hid.mkV (fun W' => check_may W' h)
    have HC' := Hid.mkV (fun W' => check_may W' h')
    have HH := Hid.mkV h''
    clear h h' h''
    go_enter Tryd.func44, Tryd.ntmps44
    go_wp2_with (first
      | (rw [zeroM, ← HW.out]; refine wpList_loadM (by rfl) _ (by rfl) _ _ _ _ (by rfl) (by with_reducible exact rA) ?_)
      | fail)
    refine (HC.out _).mono ?_
    rintro e w1 ⟨rfl, k1⟩
    have a1 := rA.keep k1
    have b1 := rB.keep k1
    have z1 := rZ.keep k1
    have B1 := below_tr hB k1
    clear rA rB rZ hB HC
    go_wp2_with (first
      | (refine wpList_loadM (by rfl) _ (by rfl) _ _ _ _ (by rfl) (by with_reducible exact b1) ?_)
      | fail)
    refine (HC'.out _).mono ?_
    rintro e w2 ⟨rfl, k2⟩
    have z2 := z1.keep k2
    have a2 := a1.keep k2
    have b2 := b1.keep k2
    have c0 := a2.rows
    have c1 := a2.cols
    have d0 := b2.rows
    have d1 := b2.cols
    have B2' := below_tr B1 k2
    clear a1 b1 a2 b2
    by_cases hr : r = r'
    · have er : (r != r') = false := by rw [hr]; simp
      have ec : (c != c') = true := by rw [bne_iff_ne]; rcases HH.out with h | h; exact absurd hr h; exact h
      clear hr
      go_wp2_with (first
        | (refine wpList_build0 rfl (by rfl) ?_)
        | (refine wpList_storeM rfl _ _ (by rfl) _ _ _ _ _ _ _ (by rfl) (by rfl) (by with_reducible exact z2) ?_)
        | fail)
      exact bodyPost_ret (results_M3 Tryd.results44 _ _ (w.heap.size + 1 + 1 + 1) _ _ _ rfl (z2.row _ _ _)) rfl ⟨rfl, below_row B2' (by omega) _⟩
    · have er : (r != r') = true := by rw [bne_iff_ne]; exact hr
      clear hr
      go_wp2_with (first
        | (refine wpList_build0 rfl (by rfl) ?_)
        | (refine wpList_storeM rfl _ _ (by rfl) _ _ _ _ _ _ _ (by rfl) (by rfl) (by with_reducible exact z2) ?_)
        | fail)
      exact bodyPost_ret (results_M3 Tryd.results44 _ _ (w.heap.size + 1 + 1 + 1) _ _ _ rfl (z2.row _ _ _)) rfl ⟨rfl, below_row B2' (by omega) _⟩

set_option maxRecDepth 10000 in
set_option maxHeartbeats 1000000 in
theorem madd_by (r c r' c' : Int) (z y : Nat → Int) (R : Value) (w : World) (r2 c2 : Int) (z2 : Nat → Int) (t : Bool) (er : Value)
    (h : ∀ W, Below w.heap.size w W → Calls Tryd.prog 44 #[.agg (mvals r c z).toArray, .agg (mvals r' c' y).toArray, .func (.func 45) #[] #[]] W fun e w' => e = .returned (.tuple #[.agg (mvals r2 c2 z2).toArray, .bool t, er]) ∧ Below W.heap.size W w') :
    Calls Tryd.prog 23 #[.agg (mvals r c z).toArray, .agg (mvals r' c' y).toArray] w fun e w' => e = .returned (.tuple #[.agg (mvals r2 c2 z2).toArray, .bool t, er]) ∧ Below w.heap.size w w' := by
  have rA := ((mrow_new w r c z).alloc (.cells (mvals r' c' y).toArray 25)).alloc (.cells (mvals 0 0 (fun _ => 0)).toArray 25)
  have rB := (mrow_new1 w (.cells (mvals r c z).toArray 25) r' c' y).alloc (.cells (mvals 0 0 (fun _ => 0)).toArray 25)
  have rZ := mrow_new2 w (.cells (mvals r c z).toArray 25) (.cells (mvals r' c' y).toArray 25) 0 0 (fun _ => 0)
  have hB := below_al (below_al (below_al (Below.refl _ w) (.cells (mvals r c z).toArray 25)) (.cells (mvals r' c' y).toArray 25)) (.cells (mvals 0 0 (fun _ => 0)).toArray 25)
  obtain ⟨W, hW⟩ : ∃ W, W = ((w.alloc (.cells (mvals r c z).toArray 25)).alloc (.cells (mvals r' c' y).toArray 25)).alloc (.cells (mvals 0 0 (fun _ => 0)).toArray 25) := ⟨_, rfl⟩
  rw [← hW] at rA rB rZ hB
  have HW := Hid.mkV hW
  have HN := Hid.mkV (h W hB)
  clear hW h
  go_enter Tryd.func23, Tryd.ntmps23
  go_wp2_with (first
    | (rw [zeroM, ← HW.out]; refine wpList_loadM (by rfl) _ (by rfl) _ _ _ _ (by rfl) (by with_reducible exact rA) ?_)
    | (refine wpList_loadM (by rfl) _ (by rfl) _ _ _ _ (by rfl) (by with_reducible exact rB) ?_)
    | fail)
  refine HN.out.mono ?_
  rintro e w1 ⟨rfl, k1⟩
  have z1 := rZ.keep k1
  have B1 := below_tr hB k1
  go_wp2_with (first
    | (refine wpList_storeM rfl _ _ (by rfl) _ _ _ _ _ _ _ (by rfl) (by rfl) (by with_reducible exact z1) ?_)
    | fail)
  exact bodyPost_ret (results_M3 Tryd.results23 _ _ (w.heap.size + 1 + 1) _ _ _ rfl (z1.row _ _ _)) rfl ⟨rfl, below_row B1 (by omega) _⟩

theorem madd_any (n m : Nat) (F G : Nat → Nat → Int) (w : World) (h1 : 1 ≤ n) (h2 : n ≤ 6) (h3 : 1 ≤ m) (h4 : m ≤ 6) (hF : B2 F) (hG : B2 G) :
    Calls Tryd.prog 23 #[.agg (mvals n m (mz n m F)).toArray, .agg (mvals n m (mz n m G)).toArray] w fun e w' => e = .returned (.tuple #[.agg (mvals n m (mz n m (fun i j => clamp (F i j + G i j)))).toArray, .bool (any2 (fun i j => great (F i j + G i j)) n m), .nilIface]) ∧ Below w.heap.size w w' :=
  madd_by _ _ _ _ _ _ undef w _ _ _ _ _ (fun W _ => byPairs_Add n m F G W h1 h2 h3 h4 hF hG)

theorem madd_no (r c r' c' : Int) (z y : Nat → Int) (w : World) (h : ¬ May r c z ∨ (May r c z ∧ ¬ May r' c' y) ∨ (May r c z ∧ May r' c' y ∧ (r ≠ r' ∨ c ≠ c'))) :
    Calls Tryd.prog 23 #[.agg (mvals r c z).toArray, .agg (mvals r' c' y).toArray] w fun e w' => e = .returned (.tuple #[.agg (mvals 0 0 (fun _ => 0)).toArray, .bool false, .iface 64 (.int .i64 1)]) ∧ Below w.heap.size w w' :=
  madd_by _ _ _ _ _ _ undef w _ _ _ _ _ (fun W _ => byPairs_Add_no r c r' c' z y W h)

set_option maxRecDepth 10000 in
set_option maxHeartbeats 1000000 in
theorem mpairs1_Sub (n m i j gn ga gb : Nat) (F G : Nat → Nat → Int) (w : World) (h1 : 1 ≤ n) (h2 : n ≤ 6) (h3 : 1 ≤ m) (h4 : m ≤ 6) (hi : i < n) (hj : j < m) (ra : MRow w ga n m (mz n m F)) (rb : MRow w gb n m (mz n m G)) (hF : B2 F) (hG : B2 G) (cn : w.cell? ⟨gn, 0, none⟩ = some (.func (.func 46) #[] #[])) :
    Calls Tryd.prog 63 #[.int .i64 (i : Int), .int .i64 (j : Int), .pointer (some ⟨gn, 0, none⟩), .pointer (some ⟨ga, 0, none⟩), .pointer (some ⟨gb, 0, none⟩)] w fun e w' => e = .returned (.tuple #[.int .i64 (clamp (F i j - G i j)), .bool (great (F i j - G i j)), .nilIface]) ∧ Below w.heap.size w w' := by
  have h36 := size_le h2 h4
  obtain ⟨p, hp⟩ : ∃ p, p = i * m := ⟨_, rfl⟩
  have hpl : p + m ≤ n * m := by rw [hp]; exact place_le hi
  have ca := ra.cell (show p + j < 36 by omega) (show p + 2 + j = p + j + 2 by omega)
  have cb := rb.cell (show p + j < 36 by omega) (show p + 2 + j = p + j + 2 by omega)
  rw [hp, mz_at hi hj, ← hp] at ca cb
  have RA : Hid (∀ W, Below w.heap.size w W → Calls Tryd.prog 34 #[.pointer (some ⟨ga, 0, none⟩), .int .i64 (i : Int)] W fun e w' => e = .returned (.slice (some ⟨ga, p + 2, none⟩) m (36 - p)) ∧ Below W.heap.size W w') := fun W b => row_any ga i m p n _ W (ra.keep b) hp h4 (by omega) (by omega) (by omega)
  have RB : Hid (∀ W, Below w.heap.size w W → Calls Tryd.prog 34 #[.pointer (some ⟨gb, 0, none⟩), .int .i64 (i : Int)] W fun e w' => e = .returned (.slice (some ⟨gb, p + 2, none⟩) m (36 - p)) ∧ Below W.heap.size W w') := fun W b => row_any gb i m p n _ W (rb.keep b) hp h4 (by omega) (by omega) (by omega)
  have QA := Hid.mkV (fun W => qsub_any (F i j) (G i j) W (hF i j).1 (hF i j).2 (hG i j).1 (hG i j).2)
  obtain ⟨R, hR⟩ : ∃ R, R = clamp (F i j - G i j) := ⟨_, rfl⟩
  obtain ⟨g, hg⟩ : ∃ g, g = great (F i j - G i j) := ⟨_, rfl⟩
  obtain ⟨x, hx⟩ : ∃ x, x = F i j := ⟨_, rfl⟩
  obtain ⟨y, hy⟩ : ∃ y, y = G i j := ⟨_, rfl⟩
  rw [← hR, ← hg] at QA
  rw [← hx] at ca
  rw [← hy] at cb
  rw [← hx, ← hy] at QA
  rw [← hR, ← hg]
  clear hR hg hx hy hF hG ra rb hp
  go_enter Tryd.func63, Tryd.ntmps63
  go_wp2
  go_region_held3 (fun w' => w'.cell? ⟨gn, 0, none⟩ = some (.func (.func 46) #[] #[]) ∧ w'.cell? ⟨ga, p + 2 + j, none⟩ = some (.int .i64 x) ∧ w'.cell? ⟨gb, p + 2 + j, none⟩ = some (.int .i64 y))
    (first
      | (refine ⟨keep_cell (W := w) ?_ cn, keep_cell (W := w) ?_ ca, keep_cell (W := w) ?_ cb⟩ <;> first | with_reducible exact Below.refl _ _ | with_reducible exact Vc.below_drew' _ | with_reducible exact kb | with_reducible exact ka | with_reducible exact kq))
    (first
      | (go_at_call_of 34 (Value.pointer (some ⟨ga, 0, none⟩)); refine (RA.out _ (by first | with_reducible exact Vc.below_drew' _ | with_reducible exact kb)).mono ?_; rintro e wa ⟨rfl, ka'⟩
         have ka : Below w.heap.size w wa := by first | exact below_tr (Vc.below_drew' _) ka' | exact below_tr kb ka')
      | (go_at_call_of 34 (Value.pointer (some ⟨gb, 0, none⟩)); refine (RB.out _ (by first | with_reducible exact Vc.below_drew' _ | with_reducible exact ka)).mono ?_; rintro e wb ⟨rfl, kb'⟩
         have kb : Below w.heap.size w wb := by first | exact below_tr (Vc.below_drew' _) kb' | exact below_tr ka kb')
      | (go_at_call 46; refine (QA.out _).mono ?_; rintro e wq ⟨rfl, kq'⟩
         have kq : Below w.heap.size w wq := by first | with_reducible exact below_tr kb kq' | with_reducible exact below_tr ka kq'))
  all_goals go_wp2
  all_goals go_ret3
  all_goals exact ⟨rfl, kq⟩

set_option maxRecDepth 10000 in
set_option maxHeartbeats 1000000 in
theorem byPairs_Sub (n m : Nat) (F G : Nat → Nat → Int) (w : World) (h1 : 1 ≤ n) (h2 : n ≤ 6) (h3 : 1 ≤ m) (h4 : m ≤ 6) (hF : B2 F) (hG : B2 G) :
    Calls Tryd.prog 44 #[.agg (mvals n m (mz n m F)).toArray, .agg (mvals n m (mz n m G)).toArray, .func (.func 46) #[] #[]] w fun e w' => e = .returned (.tuple #[.agg (mvals n m (mz n m (fun i j => clamp (F i j - G i j)))).toArray, .bool (any2 (fun i j => great (F i j - G i j)) n m), .nilIface]) ∧ Below w.heap.size w w' := by
  have rA := (((mrow_new w n m (mz n m F)).alloc (.cells (mvals n m (mz n m G)).toArray 25)).alloc (.cells #[.func (.func 46) #[] #[]] 76)).alloc (.cells (mvals 0 0 (fun _ => 0)).toArray 25)
  have rB := ((mrow_new1 w (.cells (mvals n m (mz n m F)).toArray 25) n m (mz n m G)).alloc (.cells #[.func (.func 46) #[] #[]] 76)).alloc (.cells (mvals 0 0 (fun _ => 0)).toArray 25)
  have rZ := mrow_new3 w (.cells (mvals n m (mz n m F)).toArray 25) (.cells (mvals n m (mz n m G)).toArray 25) (.cells #[.func (.func 46) #[] #[]] 76) 0 0 (fun _ => 0)
  have hB := below_al (below_al (below_al (below_al (Below.refl _ w) (.cells (mvals n m (mz n m F)).toArray 25)) (.cells (mvals n m (mz n m G)).toArray 25)) (.cells #[.func (.func 46) #[] #[]] 76)) (.cells (mvals 0 0 (fun _ => 0)).toArray 25)
  have cn : ((((w.alloc (.cells (mvals n m (mz n m F)).toArray 25)).alloc (.cells (mvals n m (mz n m G)).toArray 25)).alloc (.cells #[.func (.func 46) #[] #[]] 76)).alloc (.cells (mvals 0 0 (fun _ => 0)).toArray 25)).cell? ⟨w.heap.size + 1 + 1, 0, none⟩ = some (.func (.func 46) #[] #[]) := by go_simp
  obtain ⟨W, hW⟩ : ∃ W, W = (((w.alloc (.cells (mvals n m (mz n m F)).toArray 25)).alloc (.cells (mvals n m (mz n m G)).toArray 25)).alloc (.cells #[.func (.func 46) #[] #[]] 76)).alloc (.cells (mvals 0 0 (fun _ => 0)).toArray 25) := ⟨_, rfl⟩
  rw [← hW] at rA rB rZ hB cn
  have HCa := Hid.mkV (fun W' => check_may W' (may_mz (F := F) h1 h2 h3 h4))
  have HCb := Hid.mkV (fun W' => check_may W' (may_mz (F := G) h1 h2 h3 h4))
  have HN := Hid.mkV (fun W' (b : Below W.heap.size W W') => byNumber_byPairs (.pointer (some ⟨w.heap.size + 1 + 1, 0, none⟩)) (.pointer (some ⟨w.heap.size, 0, none⟩)) (.pointer (some ⟨w.heap.size + 1, 0, none⟩)) n m (fun i j => clamp (F i j - G i j)) (fun i j => great (F i j - G i j)) W' h1 h2 h3 h4
    (fun i j hi hj w1 k1 => mpairs1_Sub n m i j (w.heap.size + 1 + 1) w.heap.size (w.heap.size + 1) F G w1 h1 h2 h3 h4 hi hj (rA.keep (below_tr b k1)) (rB.keep (below_tr b k1)) hF hG (keep_cell (below_tr b k1) cn)))
  obtain ⟨z, hz⟩ : ∃ z, z = mz n m F := ⟨_, rfl⟩
  obtain ⟨y, hy⟩ : ∃ y, y = mz n m G := ⟨_, rfl⟩
  obtain ⟨v, hv⟩ : ∃ v, v = mz n m (fun i j => clamp (F i j - G i j)) := ⟨_, rfl⟩
  obtain ⟨t, ht⟩ : ∃ t, t = any2 (fun i j => great (F i j - G i j)) n m := ⟨_, rfl⟩
  rw [← hz] at HCa rA hW
  rw [← hy] at HCb rB hW
  rw [← hv, ← ht] at HN
  rw [← hz, ← hy, ← hv, ← ht]
  have HW := Hid.mkV hW
  clear hz hy hv ht hW hF hG
  go_enter Tryd.func44, Tryd.ntmps44
  go_wp2_with (first
    | (rw [zeroM, ← HW.out]; refine wpList_loadM (by rfl) _ (by rfl) _ _ _ _ (by rfl) (by with_reducible exact rA) ?_)
    | fail)
  refine (HCa.out _).mono ?_
  rintro e w1 ⟨rfl, k1⟩
  have a1 := rA.keep k1
  have b1 := rB.keep k1
  have z1 := rZ.keep k1
  have B1 := below_tr hB k1
  clear rA rB rZ hB cn HCa
  go_wp2_with (first
    | (refine wpList_loadM (by rfl) _ (by rfl) _ _ _ _ (by rfl) (by with_reducible exact b1) ?_)
    | fail)
  refine (HCb.out _).mono ?_
  rintro e w2 ⟨rfl, k2⟩
  have a2 := a1.keep k2
  have b2 := b1.keep k2
  have z2 := z1.keep k2
  have B2' := below_tr B1 k2
  have c0 := a2.rows
  have c1 := a2.cols
  have d0 := b2.rows
  have d1 := b2.cols
  have HN2 := Hid.mkV (HN.out w2 (below_tr k1 k2))
  clear a1 b1 z1 B1 HCb HN k1 k2
  go_wp2_with fail
  refine HN2.out.mono ?_
  rintro e w3 ⟨rfl, k3⟩
  have z3 := z2.keep k3
  have B3 := below_tr B2' k3
  go_wp2_with (first
    | (refine wpList_storeM rfl _ _ (by rfl) _ _ _ _ _ _ _ (by rfl) (by rfl) (by with_reducible exact z3) ?_)
    | fail)
  exact bodyPost_ret (results_M3 Tryd.results44 _ _ (w.heap.size + 1 + 1 + 1) _ _ _ rfl (z3.row _ _ _)) rfl ⟨rfl, below_row B3 (by omega) _⟩

set_option maxRecDepth 10000 in
set_option maxHeartbeats 1000000 in
theorem byPairs_Sub_no (r c r' c' : Int) (z y : Nat → Int) (w : World) (h : ¬ May r c z ∨ (May r c z ∧ ¬ May r' c' y) ∨ (May r c z ∧ May r' c' y ∧ (r ≠ r' ∨ c ≠ c'))) :
    Calls Tryd.prog 44 #[.agg (mvals r c z).toArray, .agg (mvals r' c' y).toArray, .func (.func 46) #[] #[]] w fun e w' => e = .returned (.tuple #[.agg (mvals 0 0 (fun _ => 0)).toArray, .bool false, .iface 64 (.int .i64 1)]) ∧ Below w.heap.size w w' := by
  have rA := (((mrow_new w r c z).alloc (.cells (mvals r' c' y).toArray 25)).alloc (.cells #[.func (.func 46) #[] #[]] 76)).alloc (.cells (mvals 0 0 (fun _ => 0)).toArray 25)
  have rB := ((mrow_new1 w (.cells (mvals r c z).toArray 25) r' c' y).alloc (.cells #[.func (.func 46) #[] #[]] 76)).alloc (.cells (mvals 0 0 (fun _ => 0)).toArray 25)
  have rZ := mrow_new3 w (.cells (mvals r c z).toArray 25) (.cells (mvals r' c' y).toArray 25) (.cells #[.func (.func 46) #[] #[]] 76) 0 0 (fun _ => 0)
  have hB := below_al (below_al (below_al (below_al (Below.refl _ w) (.cells (mvals r c z).toArray 25)) (.cells (mvals r' c' y).toArray 25)) (.cells #[.func (.func 46) #[] #[]] 76)) (.cells (mvals 0 0 (fun _ => 0)).toArray 25)
  obtain ⟨W, hW⟩ : ∃ W, W = (((w.alloc (.cells (mvals r c z).toArray 25)).alloc (.cells (mvals r' c' y).toArray 25)).alloc (.cells #[.func (.func 46) #[] #[]] 76)).alloc (.cells (mvals 0 0 (fun _ => 0)).toArray 25) := ⟨_, rfl⟩
  rw [← hW] at rA rB rZ hB
  have HW := Hid.mkV hW
  clear hW
  rcases h with h | ⟨h, h'⟩ | ⟨h, h', h''⟩
  · have HC := Hid.mkV (fun W' => check_not W' h)
    clear h
    go_enter Tryd.func44, Tryd.ntmps44
    go_wp2_with (first
      | (rw [zeroM, ← HW.out]; refine wpList_loadM (by rfl) _ (by rfl) _ _ _ _ (by rfl) (by with_reducible exact rA) ?_)
      | fail)
    refine (HC.out _).mono ?_
    rintro e w1 ⟨rfl, k1⟩
    have z1 := rZ.keep k1
    have B1 := below_tr hB k1
    go_wp2_with (first
      | (refine wpList_build0 rfl (by rfl) ?_)
      | (refine wpList_storeM rfl _ _ (by rfl) _ _ _ _ _ _ _ (by rfl) (by rfl) (by with_reducible exact z1) ?_)
      | fail)
    exact bodyPost_ret (results_M3 Tryd.results44 _ _ (w.heap.size + 1 + 1 + 1) _ _ _ rfl (z1.row _ _ _)) rfl ⟨rfl, below_row B1 (by omega) _⟩
  · have HC := Hid.mkV (fun W' => check_may W' h)
    have HC' := Hid.mkV (fun W' => check_not W' h')
    clear h h'
    go_enter Tryd.func44, Tryd.ntmps44
    go_wp2_with (first
      | (rw [zeroM, ← HW.out]; refine wpList_loadM (by rfl) _ (by rfl) _ _ _ _ (by rfl) (by with_reducible exact rA) ?_)
      | fail)
    refine (HC.out _).mono ?_
    rintro e w1 ⟨rfl, k1⟩
    have b1 := rB.keep k1
    have z1 := rZ.keep k1
    have B1 := below_tr hB k1
    clear rA rB rZ hB HC
    go_wp2_with (first
      | (refine wpList_loadM (by rfl) _ (by rfl) _ _ _ _ (by rfl) (by with_reducible exact b1) ?_)
      | fail)
    refine (HC'.out _).mono ?_
    rintro e w2 ⟨rfl, k2⟩
    have z2 := z1.keep k2
    have B2' := below_tr B1 k2
    go_wp2_with (first
      | (refine wpList_build0 rfl (by rfl) ?_)
      | (refine wpList_storeM rfl _ _ (by rfl) _ _ _ _ _ _ _ (by rfl) (by rfl) (by with_reducible exact z2) ?_)
      | fail)
    exact bodyPost_ret (results_M3 Tryd.results44 _ _ (w.heap.size + 1 + 1 + 1) _ _ _ rfl (z2.row _ _ _)) rfl ⟨rfl, below_row B2' (by omega) _⟩
  · have HC := Hid.mkV (fun W' => check_may W' h)
    have HC' := Hid.mkV (fun W' => check_may W' h')
    have HH := Hid.mkV h''
    clear h h' h''
    go_enter Tryd.func44, Tryd.ntmps44
    go_wp2_with (first
      | (rw [zeroM, ← HW.out]; refine wpList_loadM (by rfl) _ (by rfl) _ _ _ _ (by rfl) (by with_reducible exact rA) ?_)
      | fail)
    refine (HC.out _).mono ?_
    rintro e w1 ⟨rfl, k1⟩
    have a1 := rA.keep k1
    have b1 := rB.keep k1
    have z1 := rZ.keep k1
    have B1 := below_tr hB k1
    clear rA rB rZ hB HC
    go_wp2_with (first
      | (refine wpList_loadM (by rfl) _ (by rfl) _ _ _ _ (by rfl) (by with_reducible exact b1) ?_)
      | fail)
    refine (HC'.out _).mono ?_
    rintro e w2 ⟨rfl, k2⟩
    have z2 := z1.keep k2
    have a2 := a1.keep k2
    have b2 := b1.keep k2
    have c0 := a2.rows
    have c1 := a2.cols
    have d0 := b2.rows
    have d1 := b2.cols
    have B2' := below_tr B1 k2
    clear a1 b1 a2 b2
    by_cases hr : r = r'
    · have er : (r != r') = false := by rw [hr]; simp
      have ec : (c != c') = true := by rw [bne_iff_ne]; rcases HH.out with h | h; exact absurd hr h; exact h
      clear hr
      go_wp2_with (first
        | (refine wpList_build0 rfl (by rfl) ?_)
        | (refine wpList_storeM rfl _ _ (by rfl) _ _ _ _ _ _ _ (by rfl) (by rfl) (by with_reducible exact z2) ?_)
        | fail)
      exact bodyPost_ret (results_M3 Tryd.results44 _ _ (w.heap.size + 1 + 1 + 1) _ _ _ rfl (z2.row _ _ _)) rfl ⟨rfl, below_row B2' (by omega) _⟩
    · have er : (r != r') = true := by rw [bne_iff_ne]; exact hr
      clear hr
      go_wp2_with (first
        | (refine wpList_build0 rfl (by rfl) ?_)
        | (refine wpList_storeM rfl _ _ (by rfl) _ _ _ _ _ _ _ (by rfl) (by rfl) (by with_reducible exact z2) ?_)
        | fail)
      exact bodyPost_ret (results_M3 Tryd.results44 _ _ (w.heap.size + 1 + 1 + 1) _ _ _ rfl (z2.row _ _ _)) rfl ⟨rfl, below_row B2' (by omega) _⟩

set_option maxRecDepth 10000 in
set_option maxHeartbeats 1000000 in
theorem msub_by (r c r' c' : Int) (z y : Nat → Int) (R : Value) (w : World) (r2 c2 : Int) (z2 : Nat → Int) (t : Bool) (er : Value)
    (h : ∀ W, Below w.heap.size w W → Calls Tryd.prog 44 #[.agg (mvals r c z).toArray, .agg (mvals r' c' y).toArray, .func (.func 46) #[] #[]] W fun e w' => e = .returned (.tuple #[.agg (mvals r2 c2 z2).toArray, .bool t, er]) ∧ Below W.heap.size W w') :
    Calls Tryd.prog 24 #[.agg (mvals r c z).toArray, .agg (mvals r' c' y).toArray] w fun e w' => e = .returned (.tuple #[.agg (mvals r2 c2 z2).toArray, .bool t, er]) ∧ Below w.heap.size w w' := by
  have rA := ((mrow_new w r c z).alloc (.cells (mvals r' c' y).toArray 25)).alloc (.cells (mvals 0 0 (fun _ => 0)).toArray 25)
  have rB := (mrow_new1 w (.cells (mvals r c z).toArray 25) r' c' y).alloc (.cells (mvals 0 0 (fun _ => 0)).toArray 25)
  have rZ := mrow_new2 w (.cells (mvals r c z).toArray 25) (.cells (mvals r' c' y).toArray 25) 0 0 (fun _ => 0)
  have hB := below_al (below_al (below_al (Below.refl _ w) (.cells (mvals r c z).toArray 25)) (.cells (mvals r' c' y).toArray 25)) (.cells (mvals 0 0 (fun _ => 0)).toArray 25)
  obtain ⟨W, hW⟩ : ∃ W, W = ((w.alloc (.cells (mvals r c z).toArray 25)).alloc (.cells (mvals r' c' y).toArray 25)).alloc (.cells (mvals 0 0 (fun _ => 0)).toArray 25) := ⟨_, rfl⟩
  rw [← hW] at rA rB rZ hB
  have HW := Hid.mkV hW
  have HN := Hid.mkV (h W hB)
  clear hW h
  go_enter Tryd.func24, Tryd.ntmps24
  go_wp2_with (first
    | (rw [zeroM, ← HW.out]; refine wpList_loadM (by rfl) _ (by rfl) _ _ _ _ (by rfl) (by with_reducible exact rA) ?_)
    | (refine wpList_loadM (by rfl) _ (by rfl) _ _ _ _ (by rfl) (by with_reducible exact rB) ?_)
    | fail)
  refine HN.out.mono ?_
  rintro e w1 ⟨rfl, k1⟩
  have z1 := rZ.keep k1
  have B1 := below_tr hB k1
  go_wp2_with (first
    | (refine wpList_storeM rfl _ _ (by rfl) _ _ _ _ _ _ _ (by rfl) (by rfl) (by with_reducible exact z1) ?_)
    | fail)
  exact bodyPost_ret (results_M3 Tryd.results24 _ _ (w.heap.size + 1 + 1) _ _ _ rfl (z1.row _ _ _)) rfl ⟨rfl, below_row B1 (by omega) _⟩

theorem msub_any (n m : Nat) (F G : Nat → Nat → Int) (w : World) (h1 : 1 ≤ n) (h2 : n ≤ 6) (h3 : 1 ≤ m) (h4 : m ≤ 6) (hF : B2 F) (hG : B2 G) :
    Calls Tryd.prog 24 #[.agg (mvals n m (mz n m F)).toArray, .agg (mvals n m (mz n m G)).toArray] w fun e w' => e = .returned (.tuple #[.agg (mvals n m (mz n m (fun i j => clamp (F i j - G i j)))).toArray, .bool (any2 (fun i j => great (F i j - G i j)) n m), .nilIface]) ∧ Below w.heap.size w w' :=
  msub_by _ _ _ _ _ _ undef w _ _ _ _ _ (fun W _ => byPairs_Sub n m F G W h1 h2 h3 h4 hF hG)

theorem msub_no (r c r' c' : Int) (z y : Nat → Int) (w : World) (h : ¬ May r c z ∨ (May r c z ∧ ¬ May r' c' y) ∨ (May r c z ∧ May r' c' y ∧ (r ≠ r' ∨ c ≠ c'))) :
    Calls Tryd.prog 24 #[.agg (mvals r c z).toArray, .agg (mvals r' c' y).toArray] w fun e w' => e = .returned (.tuple #[.agg (mvals 0 0 (fun _ => 0)).toArray, .bool false, .iface 64 (.int .i64 1)]) ∧ Below w.heap.size w w' :=
  msub_by _ _ _ _ _ _ undef w _ _ _ _ _ (fun W _ => byPairs_Sub_no r c r' c' z y W h)

end Go.Proofs.YtgmagehgnjopcaaDoor
