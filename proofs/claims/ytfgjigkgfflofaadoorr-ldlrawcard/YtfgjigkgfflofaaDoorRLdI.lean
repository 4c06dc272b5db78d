/-
  Factors (ldl): Of.
-/
import Derived.Test.YtfgjigkgfflofaaDoorRLdH
import Derived.Test.YtfgjigkgfflofaaDoorRLdE
set_option linter.unusedSimpArgs false
set_option linter.unusedVariables false
namespace Go.Proofs.YtfgjigkgfflofaaDoorR
open Go.RowKit Vc Mt St Qn Dt Ld

namespace Ld
/-- The cells of no factors. -/
abbrev f0 : List Value := fvals 0 (fun _ => 0) (fun _ => 0)
/-- A matrix is the same turned. -/
def Same (n : Nat) (F : Nat → Nat → Int) : Prop := ∀ i j, i < n → j < n → F i j = F j i
theorem eq_turned {n : Nat} {F : Nat → Nat → Int} (h : Same n F) : (!eqM n n (mz n n (fun i j => F j i)) n n (mz n n F)) = false := by
  rw [eqM_iff.2 ⟨rfl, rfl, fun k hk => mz_congr (fun i j hi hj => (h i j hi hj).symm) k⟩]; rfl
theorem ne_turned {n m : Nat} {F : Nat → Nat → Int} (h1 : n ≤ 6) (h2 : m ≤ 6) (h : ¬ (n = m ∧ Same n F)) : (!eqM m n (mz m n (fun i j => F j i)) n m (mz n m F)) = true := by
  rw [Bool.not_eq_true', Bool.eq_false_iff]
  intro e
  rw [eqM_iff] at e
  obtain ⟨e1, _, e3⟩ := e
  have e1 : m = n := by omega
  subst e1
  exact h ⟨rfl, fun i j hi hj => (mz_inj (size_le h2 h1) e3 hi hj).symm⟩
theorem st_next (F : Nat → Nat → Int) (i : Nat) : (st F (i + 1)).1 = rowIn (st F i).1 i (fun b => if b = i then 1073741824 else rowV (F i) (st F i).1 (st F i).2 i b) := rfl
end Ld

set_option maxRecDepth 10000 in
set_option maxHeartbeats 1000000 in
theorem lof_not (r c : Int) (z : Nat → Int) (w : World) (h : ¬ May r c z) :
    Calls Tryd.prog 23 #[.agg (mvals r c z).toArray] w fun e w' => e = .returned (.tuple #[.agg f0.toArray, .iface 39 (.int .i64 1)]) ∧ Below w.heap.size w w' := by
  have rM := (mrow_new w r c z).alloc (.cells f0.toArray 26)
  have rA := crow_new1 w (.cells (mvals r c z).toArray 57) 26 f0
  have hB := below_al (below_al (Below.refl _ w) (.cells (mvals r c z).toArray 57)) (.cells f0.toArray 26)
  obtain ⟨W, hW⟩ : ∃ W, W = (w.alloc (.cells (mvals r c z).toArray 57)).alloc (.cells f0.toArray 26) := ⟨_, rfl⟩
  rw [← hW] at rM rA hB
  have HT := Hid.mkV (mturn_not r c z W h)
  have HW := Hid.mkV hW
  clear hW h
  go_enter Tryd.func23, Tryd.ntmps23
  go_wp2_with (first
    | (rw [zeroF, ← HW.out]; refine wpList_loadM (by rfl) _ (by rfl) _ _ _ _ (by rfl) (by with_reducible exact rM) ?_)
    | fail)
  refine HT.out.mono ?_
  rintro e w1 ⟨rfl, k1⟩
  have A1 := CRow.keep rA k1
  have B1 := below_tr hB k1
  clear rM rA HT hB k1
  go_wp2_with (first
    | (rw [zeroM]; refine Mt.wpList_storeNew rfl _ _ (by rfl) _ _ _ _ (by rfl) (by rfl) ?_; intro w2 n2 k2; have A2 := CRow.keep A1 k2; have B2 := below_tr B1 k2; clear A1 B1 k2)
    | (refine wpList_buildF0 (by rfl) (by rfl) ?_)
    | (refine St.wpList_store isF rfl _ _ (by rfl) _ _ _ (by rfl) (by rfl) (by with_reducible exact A2) (fvals_len _ _ _) (fvals_len _ _ _) (one_fvals _ _ _) ?_)
    | fail)
  exact bodyPost_ret (St.results_2 isF Tryd.results23 _ _ (w.heap.size + 1) _ rfl (CRow.row A2 _) (fvals_len _ _ _)) rfl ⟨rfl, St.below_row B2 (by omega) _⟩

set_option maxRecDepth 10000 in
set_option maxHeartbeats 1000000 in
theorem lof_odd (n m : Nat) (F : Nat → Nat → Int) (w : World) (h1 : 1 ≤ n) (h2 : n ≤ 6) (h3 : 1 ≤ m) (h4 : m ≤ 6) (h : ¬ (n = m ∧ Same n F)) :
    Calls Tryd.prog 23 #[.agg (mvals n m (mz n m F)).toArray] w fun e w' => e = .returned (.tuple #[.agg f0.toArray, .iface 39 (.int .i64 1)]) ∧ Below w.heap.size w w' := by
  have rM := (mrow_new w n m (mz n m F)).alloc (.cells f0.toArray 26)
  have rA := crow_new1 w (.cells (mvals n m (mz n m F)).toArray 57) 26 f0
  have hB := below_al (below_al (Below.refl _ w) (.cells (mvals n m (mz n m F)).toArray 57)) (.cells f0.toArray 26)
  obtain ⟨W, hW⟩ : ∃ W, W = (w.alloc (.cells (mvals n m (mz n m F)).toArray 57)).alloc (.cells f0.toArray 26) := ⟨_, rfl⟩
  rw [← hW] at rM rA hB
  have HT := Hid.mkV (mturn_any n m F W h1 h2 h3 h4)
  have HE := Hid.mkV (ne_turned h2 h4 h)
  obtain ⟨z, hz⟩ : ∃ z, z = mz n m F := ⟨_, rfl⟩
  obtain ⟨z', hz'⟩ : ∃ z, z = mz m n (fun i j => F j i) := ⟨_, rfl⟩
  rw [← hz] at rM hW HT HE ⊢
  rw [← hz'] at HT HE
  have HW := Hid.mkV hW
  clear hW h hz hz'
  go_enter Tryd.func23, Tryd.ntmps23
  go_wp2_with (first
    | (rw [zeroF, ← HW.out]; refine wpList_loadM (by rfl) _ (by rfl) _ _ _ _ (by rfl) (by with_reducible exact rM) ?_)
    | fail)
  refine HT.out.mono ?_
  rintro e w1 ⟨rfl, k1⟩
  have M1 := rM.keep k1
  have A1 := CRow.keep rA k1
  have B1 := below_tr hB k1
  clear rM rA HT hB k1
  go_wp2_with (first
    | (rw [zeroM]; refine Mt.wpList_storeNew rfl _ _ (by rfl) _ _ _ _ (by rfl) (by rfl) ?_; intro w2 n2 k2; have M2 := M1.keep k2; have A2 := CRow.keep A1 k2; have B2 := below_tr B1 k2; clear M1 A1 B1 k2)
    | (refine wpList_loadM (by rfl) _ (by rfl) _ _ _ _ (by rfl) (by with_reducible exact n2) ?_)
    | (refine wpList_loadM (by rfl) _ (by rfl) _ _ _ _ (by rfl) (by with_reducible exact M2) ?_)
    | (refine wpList_neG (by rfl) _ _ _ (by rfl) _ _ _ _ _ _ _ HE.out (by rfl) (by rfl) ?_)
    | (refine wpList_buildF0 (by rfl) (by rfl) ?_)
    | (refine St.wpList_store isF rfl _ _ (by rfl) _ _ _ (by rfl) (by rfl) (by with_reducible exact A2) (fvals_len _ _ _) (fvals_len _ _ _) (one_fvals _ _ _) ?_)
    | fail)
  exact bodyPost_ret (St.results_2 isF Tryd.results23 _ _ (w.heap.size + 1) _ rfl (CRow.row A2 _) (fvals_len _ _ _)) rfl ⟨rfl, St.below_row B2 (by omega) _⟩

open Classical in
/-- What Of answers of a matrix that is the same turned. -/
noncomputable def Ld.ofV (n : Nat) (F : Nat → Nat → Int) : Value := if ∀ i, i < n → fine F i then .tuple #[.agg (fvals n (mz n n (st F n).1) (st F n).2).toArray, .nilIface] else .tuple #[.agg f0.toArray, .iface 39 (.int .i64 8)]

set_option maxRecDepth 10000 in
set_option maxHeartbeats 1000000 in
theorem lof_any (n : Nat) (F : Nat → Nat → Int) (w : World) (h1 : 1 ≤ n) (h2 : n ≤ 6) (h : Same n F) (hF : B2 F) :
    Calls Tryd.prog 23 #[.agg (mvals n n (mz n n F)).toArray] w fun e w' => e = .returned (ofV n F) ∧ Below w.heap.size w w' := by
  have rM := (mrow_new w n n (mz n n F)).alloc (.cells f0.toArray 26)
  have rA := crow_new1 w (.cells (mvals n n (mz n n F)).toArray 57) 26 f0
  have hB := below_al (below_al (Below.refl _ w) (.cells (mvals n n (mz n n F)).toArray 57)) (.cells f0.toArray 26)
  obtain ⟨W, hW⟩ : ∃ W, W = (w.alloc (.cells (mvals n n (mz n n F)).toArray 57)).alloc (.cells f0.toArray 26) := ⟨_, rfl⟩
  have hWs : w.heap.size + 2 = W.heap.size := by rw [hW]; simp
  rw [← hW] at rM rA hB
  have HT := Hid.mkV (mturn_any n n F W h1 h2 h1 h2)
  have HE := Hid.mkV (eq_turned h)
  have HR := Hid.mkV (fun i (hi : i < n) W' => mrow_any n n i F W' h1 h2 h1 h2 hi)
  have HY : Hid ((∀ i, i < n → fine F i) → ofV n F = .tuple #[.agg (fvals n (mz n n (st F n).1) (st F n).2).toArray, .nilIface]) := fun h => if_pos h
  have HN : Hid ((¬ ∀ i, i < n → fine F i) → ofV n F = .tuple #[.agg f0.toArray, .iface 39 (.int .i64 8)]) := fun h => if_neg h
  obtain ⟨V, hV⟩ : ∃ V, V = ofV n F := ⟨_, rfl⟩
  rw [← hV] at HY HN ⊢
  obtain ⟨z, hz⟩ : ∃ z, z = mz n n F := ⟨_, rfl⟩
  obtain ⟨z', hz'⟩ : ∃ z, z = mz n n (fun i j => F j i) := ⟨_, rfl⟩
  rw [← hz] at rM hW HT HE HR ⊢
  rw [← hz'] at HT HE
  have HW := Hid.mkV hW
  have HFill := Hid.mkV (fun (g s i : Nat) (mo : Option Addr) (mc : Nat) (o : Bool) (W : World) (h : FRow W g n (mz n n (st F i).1) (st F i).2) (hs : SRow W s o) (hgs : g ≠ s) (hm : Sl W mo n mc (F i)) (hmb : ∀ x, mo = some x → x.block ≠ s ∧ x.block ≠ g) (hi : i < n) (hf : ∀ k, k < i → fine F k) =>
    fillRow_any g s i n mo mc (F i) (st F i).1 (st F i).2 o W h hs hgs hm hmb (hF i) h2 hi (fun a => b64_of (st_bdL F i a)) (b64_of (st_bdD F i)) (fun k hk => by rw [st_D F hk]; have := (hf k hk).2; omega) (fun b => st_behindL F (Nat.le_refl _)))
  clear hW h hz hz' hV hF
  go_enter Tryd.func23, Tryd.ntmps23
  go_wp2_with (first
    | (rw [zeroF, ← HW.out]; refine wpList_loadM (by rfl) _ (by rfl) _ _ _ _ (by rfl) (by with_reducible exact rM) ?_)
    | fail)
  refine HT.out.mono ?_
  rintro e w1 ⟨rfl, k1⟩
  have M1 := rM.keep k1
  have A1 := CRow.keep rA k1
  have B1 := below_tr hB k1
  have z1 : w.heap.size + 2 ≤ w1.heap.size := by have := k1.size; omega
  clear rM rA HT hB k1
  go_wp2_with (first
    | (rw [zeroM]; refine Mt.wpList_storeNew rfl _ _ (by rfl) _ _ _ _ (by rfl) (by rfl) ?_; intro w2 n2 k2; have M2 := M1.keep k2; have A2 := CRow.keep A1 k2; have B2 := below_tr B1 k2; have z2 : w.heap.size + 2 ≤ w2.heap.size := (by have := k2.size; omega); clear M1 A1 B1 k2 z1)
    | (refine wpList_loadM (by rfl) _ (by rfl) _ _ _ _ (by rfl) (by with_reducible exact n2) ?_)
    | (refine wpList_loadM (by rfl) _ (by rfl) _ _ _ _ (by rfl) (by with_reducible exact M2) ?_)
    | (refine wpList_neG (by rfl) _ _ _ (by rfl) _ _ _ _ _ _ _ HE.out (by rfl) (by rfl) ?_)
    | (refine Mt.wpList_loadF (by rfl) _ (by rfl) _ _ _ (by rfl) (by with_reducible exact M2.rows) ?_)
    | (refine wpList_buildF1 (by rfl) _ (by rfl) _ (by rfl) ?_)
    | (rw [zeroF]; refine St.wpList_storeNew isF rfl _ _ (by rfl) _ _ _ (by rfl) (by rfl) (fvals_len _ _ _) (fvals_len _ _ _) (one_fvals _ _ _) ?_; intro w3 F3 k3; have M3 := M2.keep k3; have A3 := CRow.keep A2 k3; have B3 := below_tr B2 k3; have z3 : w.heap.size + 3 ≤ w3.heap.size := (by have := F3.lt; omega); clear M2 A2 B2 k3 n2)
    | (refine Mt.wpList_loadF (by rfl) _ (by rfl) _ _ _ (by rfl) (by with_reducible exact FRow.n (CRow.alloc F3 _)) ?_)
    | fail)
  have F4 := CRow.alloc F3 (.cells #[.bool false] 45)
  have S4 : SRow (w3.alloc (.cells #[.bool false] 45)) w3.heap.size false := crow_new w3 _ _
  have M4 := M3.alloc (.cells #[.bool false] 45)
  have A4 := CRow.alloc A3 (.cells #[.bool false] 45)
  have B4 := below_al B3 (.cells #[.bool false] 45)
  have z4 := F3.lt
  obtain ⟨w4, hw4⟩ : ∃ x, x = w3.alloc (.cells #[.bool false] 45) := ⟨_, rfl⟩
  obtain ⟨s, hs⟩ : ∃ x, x = w3.heap.size := ⟨_, rfl⟩
  obtain ⟨g, hg⟩ : ∃ x, x = w2.heap.size := ⟨_, rfl⟩
  rw [← hw4] at F4 S4 M4 A4 B4 ⊢
  rw [← hs] at S4 z3 z4 ⊢
  rw [← hg] at F4 z2 z4 ⊢
  have F4' : FRow w4 g n (mz n n (st F 0).1) (st F 0).2 := FRow.congr F4 (fun k hk => by
    unfold mz mpart
    split <;> rfl) (fun k hk => rfl)
  clear hw4 hs hg F3 M3 A3 B3 F4 HE
  go_loopw [30] (fun ix wr => ∃ i : Nat, i ≤ n ∧ ix = .int .i64 (i : Int) ∧ FRow wr g n (mz n n (st F i).1) (st F i).2 ∧ SRow wr s false ∧ MRow wr w.heap.size n n z ∧ CRow wr (w.heap.size + 1) 26 f0 ∧ Below w.heap.size w wr ∧ Hid (∀ k, k < i → fine F k)) (fun ix _ => n - (intOf ix).toNat)
  case atStart => exact ⟨0, by omega, rfl, F4', S4, M4, A4, B4, fun k hk => by omega⟩
  case round =>
    obtain ⟨i, hi, rfl, Fr, Sr, Mr, Ar, Br, hok⟩ := hrel
    by_cases hin : i < n
    · have HRi := Hid.mkV (HR.out i hin)
      go_wp2_with (first
        | (refine wpList_loadM (by rfl) _ (by rfl) _ _ _ _ (by rfl) (by with_reducible exact Mr) ?_)
        | fail)
      refine (HRi.out _).mono ?_
      rintro e w5 ⟨mo, mc, rfl, sl5, fr5, k5⟩
      have F5 := CRow.keep Fr k5
      have S5 := CRow.keep Sr k5
      have M5 := Mr.keep k5
      have A5 := CRow.keep Ar k5
      have B5 := below_tr Br k5
      have z5 : ∀ x, mo = some x → x.block ≠ s ∧ x.block ≠ g := fun x hx => by
        have h5 := fr5 x hx
        have h6 := Fr.lt
        have h7 := Sr.lt
        omega
      clear HRi
      go_wp2_with fail
      refine (HFill.out g s i mo mc false _ F5 S5 (by omega) sl5 z5 hin hok.out).mono ?_
      rintro e w6 ⟨rfl, F6, S6, k6⟩
      have M6 : MRow w6 w.heap.size n n z := by
        unfold MRow
        rw [k6.block _ M5.lt (by omega)]
        exact M5
      have A6 := crowBut A5 k6 (by omega)
      have B6 := k6.below B5 (by have := M5.lt; omega) (fun k hk => by rcases hk with hk | hk <;> omega)
      have e1 : Hid ((false || (rowO (F i) (st F i).1 (st F i).2 i || midO (F i) (rowV (F i) (st F i).1 (st F i).2 i) (st F i).2 i)) = stO F i) := rfl
      rw [e1.out] at S6
      have F6' : FRow w6 g n (mz n n (st F (i + 1)).1) (st F (i + 1)).2 := F6
      have cD := FRow.d F6' (k := i) (o := 37 + i) (by omega) (by omega)
      rw [st_D F (Nat.lt_succ_self i)] at cD
      have cO := SRow.o S6
      have hfine : Hid (fine F i ↔ stO F i = false ∧ 0 < stD F i) := Iff.rfl
      clear Fr Sr Mr Ar Br F5 S5 M5 A5 B5 F6
      obtain ⟨D, hD⟩ : ∃ D, D = stD F i := ⟨_, rfl⟩
      rw [← hD] at cD hfine
      clear hD
      cases hO : stO F i with
      | true =>
        rw [hO] at cO S6 hfine
        go_wp2_with (first
          | (refine wpList_buildF0 (by rfl) (by rfl) ?_)
          | (refine St.wpList_store isF rfl _ _ (by rfl) _ _ _ (by rfl) (by rfl) (by with_reducible exact A6) (fvals_len _ _ _) (fvals_len _ _ _) (one_fvals _ _ _) ?_)
          | fail)
        refine bodyPost_ret (St.results_2 isF Tryd.results23 _ _ (w.heap.size + 1) _ rfl (CRow.row A6 _) (fvals_len _ _ _)) rfl ⟨?_, St.below_row B6 (by omega) _⟩
        rw [HN.out (fun h => by have := hfine.out.1 (h i hin); exact absurd this.1 (by simp))]
        rfl
      | false =>
        rw [hO] at cO S6 hfine
        by_cases hD : D ≤ 0
        · have e3 : decide (D ≤ 0) = true := decide_eq_true hD
          go_wp2_with (first
            | (refine wpList_buildF0 (by rfl) (by rfl) ?_)
            | (refine St.wpList_store isF rfl _ _ (by rfl) _ _ _ (by rfl) (by rfl) (by with_reducible exact A6) (fvals_len _ _ _) (fvals_len _ _ _) (one_fvals _ _ _) ?_)
            | fail)
          refine bodyPost_ret (St.results_2 isF Tryd.results23 _ _ (w.heap.size + 1) _ rfl (CRow.row A6 _) (fvals_len _ _ _)) rfl ⟨?_, St.below_row B6 (by omega) _⟩
          rw [HN.out (fun h => by have := hfine.out.1 (h i hin); omega)]
          rfl
        · have e3 : decide (D ≤ 0) = false := decide_eq_false hD
          go_wp2
          go_roundw
          case rel =>
            exact ⟨i + 1, by omega, by go_num, F6', S6, M6, A6, B6, fun k hk => by
              rcases Nat.lt_or_ge k i with c | c
              · exact hok.out k c
              · obtain rfl : k = i := by omega
                exact hfine.out.2 ⟨by trivial, by omega⟩⟩
          case measure => simp [intOf]; omega
    · obtain rfl : i = n := by omega
      go_wp2_with (first
        | (refine St.wpList_load isF (by rfl) _ (by rfl) _ _ (by rfl) (by with_reducible exact Fr) (fvals_len _ _ _) ?_)
        | (refine St.wpList_store isF rfl _ _ (by rfl) _ _ _ (by rfl) (by rfl) (by with_reducible exact Ar) (fvals_len _ _ _) (fvals_len _ _ _) (one_fvals _ _ _) ?_)
        | fail)
      refine bodyPost_ret (St.results_2 isF Tryd.results23 _ _ (w.heap.size + 1) _ rfl (CRow.row Ar _) (fvals_len _ _ _)) rfl ⟨?_, St.below_row Br (by omega) _⟩
      rw [HY.out hok.out]
      rfl

end Go.Proofs.YtfgjigkgfflofaaDoorR
