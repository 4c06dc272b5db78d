/-
  Matrices (mat): two that are the same compared; a matrix into a new variable; what must come whatever the input is (sure of the laws of layer 8).
-/
import Derived.Test.YtdgcnaijndocnaaGreatDoorM22
import Derived.Test.YtdgcnaijndocnaaGreatDoorM10
import Derived.ChangeKeysEq
import Derived.Test.YtdgcnaijndocnaaGreatDoorM5
import Derived.Test.YtdgcnaijndocnaaGreatDoorM2
set_option linter.unusedSimpArgs false
set_option linter.unusedVariables false
namespace Go.Proofs.YtdgcnaijndocnaaGreatDoor
open Go.RowKit Vc Mt Qn Dt
namespace Mt
theorem fieldsM : (Tryz.prog.fieldsOf 41).toList.map (fun f => (f.name, f.type, f.offset)) = [("Rows", 3, 0), ("Cols", 3, 1), ("A", 30, 2)] := by kernel_rfl
theorem structM : Tryz.prog.underlying 41 = some (.struct (Tryz.prog.fieldsOf 41)) := by kernel_rfl
theorem stoodM : Tryz.prog.stoodInHeld 41 = false := by kernel_rfl
theorem guardM : Tryz.prog.eqGuardType Tryz.prog.depth 41 = false := by kernel_rfl
theorem arrM36 : Tryz.prog.underlying 30 = some (.array 36 2) := by kernel_rfl
theorem cellsI64 : Tryz.prog.cellsOf 2 = 1 := by kernel_rfl
theorem sizeA36 (w : World) : (sizeOf 30).run Tryz.prog w = .ok 36 w := by
  have h : (Tryz.prog.info? 30).map (·.size) = some 36 := by kernel_rfl
  cases hq : Tryz.prog.info? 30 with
  | none => rw [hq] at h; cases h
  | some i =>
    have hi : i.size = 36 := by rw [hq] at h; simpa using h
    simp [sizeOf, typeInfo, hq, hi]
theorem take_mvals (r c : Int) (z : Nat → Int) : List.take 36 (List.drop 2 (mvals r c z)) = vals 36 z := by
  have h : (vals 36 z).length = 36 := vals_len 36 z
  show List.take 36 (vals 36 z) = vals 36 z
  exact List.take_of_length_le (by omega)
theorem run_part_int (w : World) (xs : Array Value) (o : Nat) (v : Int) (h : xs[o]? = some (.int .i64 v)) : (Go.part 3 xs o).run Tryz.prog w = .ok (.int .i64 v) w := by
  simp [Go.part, isAgg, run_underlying Tryz.underlying3, h]
theorem run_part_i64 (w : World) (xs : Array Value) (o : Nat) (v : Int) (h : xs[o]? = some (.int .i64 v)) : (Go.part 2 xs o).run Tryz.prog w = .ok (.int .i64 v) w := by
  simp [Go.part, isAgg, run_underlying Tryz.underlying2, h]
theorem run_part_A (w : World) (r c : Int) (z : Nat → Int) : (Go.part 30 (mvals r c z).toArray 2).run Tryz.prog w = .ok (.agg (vals 36 z).toArray) w := by
  simp [Go.part, isAgg, run_underlying arrM36, sizeA36]
  exact take_mvals r c z
theorem list3 {α β : Type} {g : α → β} : ∀ {fs : List α} {a b c : β}, fs.map g = [a, b, c] → ∃ x y z, fs = [x, y, z] ∧ g x = a ∧ g y = b ∧ g z = c
  | [], a, b, c, h => by simp at h
  | [x], a, b, c, h => by simp at h
  | [x, y], a, b, c, h => by simp at h
  | [x, y, z], a, b, c, h => by simp at h; exact ⟨x, y, z, rfl, h.1, h.2.1, h.2.2⟩
  | x :: y :: z :: u :: r, a, b, c, h => by simp at h
theorem eqFields_nil (d : Nat) (xs ys : Array Value) (w : World) : (Op.eqFields d xs ys []).run Tryz.prog w = .ok true w := by simp [Op.eqFields]
theorem wpList_storeNew {ops : Array Oper} {rest : List Oper} {o : Oper} {a : Act} {Q : Exit → Act → World → Prop} (hgd : o.guard = none) (x y : Operand) (ho : o.op = .store 41 x y) (w2 : World)
    (r c : Int) (z : Nat → Int) (hx : a.eval x = .pointer (some ⟨w2.heap.size, 0, none⟩)) (hy : a.eval y = .agg (mvals r c z).toArray)
    (h : ∀ w3, MRow w3 w2.heap.size r c z → Below w2.heap.size w2 w3 → wpList Tryz.prog ops Q rest (a.put o.dst undef) w3) : wpList Tryz.prog ops Q (o :: rest) a (w2.alloc (.cells (mvals 0 0 (fun _ => 0)).toArray 41)) :=
  wpList_storeM hgd x y ho _ _ _ _ _ _ _ hx hy (mrow_new w2 0 0 (fun _ => 0)) (h _ ((mrow_new w2 0 0 (fun _ => 0)).row _ _ _) (below_row (below_al (Below.refl _ _) _) (Nat.le_refl _) _))
end Mt
end Go.Proofs.YtdgcnaijndocnaaGreatDoor
namespace Go.Proofs.YtdgcnaijndocnaaGreatDoor
open Go.RowKit Vc Mt St Ld
namespace Ld
def eqz (n : Nat) (z y : Nat → Int) : Bool := (List.range n).all fun i => z i == y i
theorem eqz_iff {n : Nat} {z y : Nat → Int} : eqz n z y = true ↔ ∀ k, k < n → z k = y k := by
  unfold eqz; rw [List.all_eq_true]
  exact ⟨fun h k hk => by simpa using h k (List.mem_range.2 hk), fun h k hk => by simpa using h k (List.mem_range.1 hk)⟩
theorem run_itemsG (n : Nat) (z y : Nat → Int) (w : World) (d : Nat) : ∀ is : List Nat, (∀ i ∈ is, i < n) → (Op.eqItems (d + 1) 2 1 (vals n z).toArray (vals n y).toArray is).run Tryz.prog w = .ok (is.all fun i => z i == y i) w
  | [], _ => by simp [Op.eqItems]
  | i :: is, h => by
    have hi : i < n := h i (by simp)
    have px := run_part_i64 w (vals n z).toArray (i * 1) (z i) (by rw [List.getElem?_toArray, Nat.mul_one]; exact vals_at hi)
    have py := run_part_i64 w (vals n y).toArray (i * 1) (y i) (by rw [List.getElem?_toArray, Nat.mul_one]; exact vals_at hi)
    have pe := run_equalIn_int w d 2 .i64 .i64 (z i) (y i) Tryz.underlying2
    have ih := run_itemsG n z y w d is fun j hj => h j (by simp [hj])
    simp only [Op.eqItems, Sem.run_bind, px, py, pe, Result.andThen_ok]
    cases hb : (z i == y i) with
    | true => simp [ih, hb]
    | false => simp [hb]
theorem eqFields_stepG (d : Nat) (xs ys : Array Value) (f : Field) (fs : List Field) (w : World) (v u : Value) (b c : Bool) (hn : f.name ≠ "_") (p1 : (Go.part f.type xs f.offset).run Tryz.prog w = .ok v w) (p2 : (Go.part f.type ys f.offset).run Tryz.prog w = .ok u w) (pe : (Op.equalIn d f.type v u).run Tryz.prog w = .ok b w)
    (h : (Op.eqFields d xs ys fs).run Tryz.prog w = .ok c w) : (Op.eqFields d xs ys (f :: fs)).run Tryz.prog w = .ok (b && c) w := by
  rw [Op.eqFields, if_pos hn]
  simp only [Sem.run_bind, p1, p2, pe, Result.andThen_ok]
  cases b with
  | true => simpa using h
  | false => simp
def eqM (r c : Int) (z : Nat → Int) (r' c' : Int) (z' : Nat → Int) : Bool := (r == r') && ((c == c') && (eqz 36 z z' && true))
theorem eqM_iff {r c r' c' : Int} {z z' : Nat → Int} : eqM r c z r' c' z' = true ↔ r = r' ∧ c = c' ∧ ∀ k, k < 36 → z k = z' k := by
  unfold eqM; simp [eqz_iff]
set_option maxRecDepth 20000 in
theorem run_eqM (r c : Int) (z : Nat → Int) (r' c' : Int) (z' : Nat → Int) (w : World) : (Op.equalIn 10000 41 (.agg (mvals r c z).toArray) (.agg (mvals r' c' z').toArray)).run Tryz.prog w = .ok (eqM r c z r' c' z') w := by
 obtain ⟨f0, f1, f2, hf, h0, h1, h2⟩ := list3 fieldsM
 injection h0 with n0 h0
 injection h0 with t0 o0
 injection h1 with n1 h1
 injection h1 with t1 o1
 injection h2 with n2 h2
 injection h2 with t2 o2
 rw [run_equalIn_struct w 9999 41 _ _ structM stoodM, hf]
 clear hf
 obtain ⟨i0, hi, _, _, _⟩ := info_parts infoI64
 have q0 := run_equalIn_int w 9998 3 .i64 .i64 r r' Tryz.underlying3
 have q1 := run_equalIn_int w 9998 3 .i64 .i64 c c' Tryz.underlying3
 have q2 : (Op.equalIn 9999 30 (.agg (vals 36 z).toArray) (.agg (vals 36 z').toArray)).run Tryz.prog w = .ok (eqz 36 z z') w := by
  rw [run_equalIn_array w 9998 (vals 36 z).toArray (vals 36 z').toArray arrM36 hi, cellsI64]
  exact run_itemsG 36 z z' w 9997 _ (fun i hi => by simpa using hi)
 exact eqFields_stepG 9999 _ _ f0 _ w _ _ _ _ (by rw [n0]; simp) (by rw [t0, o0]; exact run_part_int w (mvals r c z).toArray 0 r (by simp [mvals])) (by rw [t0, o0]; exact run_part_int w (mvals r' c' z').toArray 0 r' (by simp [mvals])) (by rw [t0]; exact q0)
  (eqFields_stepG 9999 _ _ f1 _ w _ _ _ _ (by rw [n1]; simp) (by rw [t1, o1]; exact run_part_int w (mvals r c z).toArray 1 c (by simp [mvals])) (by rw [t1, o1]; exact run_part_int w (mvals r' c' z').toArray 1 c' (by simp [mvals])) (by rw [t1]; exact q1)
   (eqFields_stepG 9999 _ _ f2 _ w _ _ _ _ (by rw [n2]; simp) (by rw [t2, o2]; exact run_part_A w r c z) (by rw [t2, o2]; exact run_part_A w r' c' z') (by rw [t2]; exact q2) (eqFields_nil _ _ _ w)))
theorem wpList_neG {ops : Array Oper} {rest : List Oper} {o : Oper} {a : Act} {w : World} {Q : Exit → Act → World → Prop} (hw : Region.wanted o (yielded ops a.tmps) = true) (x y : Operand) (u : TypeId) (ho : o.op = .binOp .neq 41 x y u)
    (r c : Int) (z : Nat → Int) (r' c' : Int) (z' : Nat → Int) (b : Bool) (hb : (!eqM r c z r' c' z') = b) (hx : a.eval x = .agg (mvals r c z).toArray) (hy : a.eval y = .agg (mvals r' c' z').toArray)
    (h : wpList Tryz.prog ops Q rest (a.put o.dst (.bool b)) w) : wpList Tryz.prog ops Q (o :: rest) a w :=
  wpList_wanted hw fun _ hK => by
    unfold Oper.wp execOp
    simp only [ho, hx, hy, Sem.run_bind, run_eqGuard_agg w _ _ x y _ _ guardM, Result.andThen_ok, run_neq_struct, run_eqM]
    rw [hb]
    exact hK _ _ h
end Ld
end Go.Proofs.YtdgcnaijndocnaaGreatDoor
namespace Go.Proofs.YtdgcnaijndocnaaGreatDoor
open Go.RowKit Vc Mt St Qn Dt Ld
namespace Ld
abbrev f0 : List Value := fvals 0 (fun _ => 0) (fun _ => 0)
def Same (n : Nat) (F : Nat → Nat → Int) : Prop := ∀ i j, i < n → j < n → F i j = F j i
theorem eq_turned {n : Nat} {F : Nat → Nat → Int} (h : Same n F) : (!eqM n n (mz n n (fun i j => F j i)) n n (mz n n F)) = false := by
  rw [eqM_iff.2 ⟨rfl, rfl, fun k hk => mz_congr (fun i j hi hj => (h i j hi hj).symm) k⟩]; rfl
end Ld
set_option maxRecDepth 10000 in
set_option maxHeartbeats 1000000 in
theorem lof_not (r c : Int) (z : Nat → Int) (w : World) (h : ¬ May r c z) :
  Calls Tryz.prog 19 #[.agg (mvals r c z).toArray] w fun e w' => e = .returned (.tuple #[.agg f0.toArray, .iface 70 (.int .i64 1)]) ∧ Below w.heap.size w w' := by
 have rM := (mrow_new w r c z).alloc (.cells f0.toArray 33)
 have rA := crow_new1 w (.cells (mvals r c z).toArray 41) 33 f0
 have hB := below_al (below_al (Below.refl _ w) (.cells (mvals r c z).toArray 41)) (.cells f0.toArray 33)
 obtain ⟨W, hW⟩ : ∃ W, W = (w.alloc (.cells (mvals r c z).toArray 41)).alloc (.cells f0.toArray 33) := ⟨_, rfl⟩
 rw [← hW] at rM rA hB
 have HT := Hid.mkV (mturn_not r c z W h)
 have HW := Hid.mkV hW
 clear hW h
 go_enter Tryz.func19, Tryz.ntmps19
 go_wp2_with (first
  | (rw [zeroF, ← HW.out]; refine wpList_loadM (by rfl) _ (by rfl) _ _ _ _ (by rfl) (by with_reducible exact rM) ?_)
  | fail)
 refine HT.out.mono ?_
 rintro e w1 ⟨rfl, k1⟩
 have A1 := CRow.keep rA k1
 have B1 := below_tr hB k1
 clear rM rA HT hB k1
 go_wp2_with (first
  | (rw [zeroM]; refine Mt.wpList_storeNew rfl _ _ (by rfl) _ _ _ _ (by rfl) (by rfl) ?_; intro w2 n2 k2; have A2 := CRow.keep A1 k2; have B2 := below_tr B1 k2; clear A1 B1 k2)
  | (refine wpList_buildF0 (by rfl) (by rfl) ?_)
  | (refine St.wpList_store isF rfl _ _ (by rfl) _ _ _ (by rfl) (by rfl) (by with_reducible exact A2) (fvals_len _ _ _) (fvals_len _ _ _) (one_fvals _ _ _) ?_)
  | fail)
 exact bodyPost_ret (St.results_2 isF Tryz.results19 _ _ (w.heap.size + 1) _ rfl (CRow.row A2 _) (fvals_len _ _ _)) rfl ⟨rfl, St.below_row B2 (by omega) _⟩
open Classical in
noncomputable def Ld.ofV (n : Nat) (F : Nat → Nat → Int) : Value := if ∀ i, i < n → fine F i then .tuple #[.agg (fvals n (mz n n (st F n).1) (st F n).2).toArray, .nilIface] else .tuple #[.agg f0.toArray, .iface 70 (.int .i64 8)]
set_option maxRecDepth 10000 in
set_option maxHeartbeats 1000000 in
theorem lof_any (n : Nat) (F : Nat → Nat → Int) (w : World) (h1 : 1 ≤ n) (h2 : n ≤ 6) (h : Same n F) (hF : B2 F) :
  Calls Tryz.prog 19 #[.agg (mvals n n (mz n n F)).toArray] w fun e w' => e = .returned (ofV n F) ∧ Below w.heap.size w w' := by
 have rM := (mrow_new w n n (mz n n F)).alloc (.cells f0.toArray 33)
 have rA := crow_new1 w (.cells (mvals n n (mz n n F)).toArray 41) 33 f0
 have hB := below_al (below_al (Below.refl _ w) (.cells (mvals n n (mz n n F)).toArray 41)) (.cells f0.toArray 33)
 obtain ⟨W, hW⟩ : ∃ W, W = (w.alloc (.cells (mvals n n (mz n n F)).toArray 41)).alloc (.cells f0.toArray 33) := ⟨_, rfl⟩
 have hWs : w.heap.size + 2 = W.heap.size := by rw [hW]; simp
 rw [← hW] at rM rA hB
 have HT := Hid.mkV (mturn_any n n F W h1 h2 h1 h2)
 have HE := Hid.mkV (eq_turned h)
 have HR := Hid.mkV (fun i (hi : i < n) W' => mrow_any n n i F W' h1 h2 h1 h2 hi)
 have HY : Hid ((∀ i, i < n → fine F i) → ofV n F = .tuple #[.agg (fvals n (mz n n (st F n).1) (st F n).2).toArray, .nilIface]) := fun h => if_pos h
 have HN : Hid ((¬ ∀ i, i < n → fine F i) → ofV n F = .tuple #[.agg f0.toArray, .iface 70 (.int .i64 8)]) := fun h => if_neg h
 obtain ⟨V, hV⟩ : ∃ V, V = ofV n F := ⟨_, rfl⟩
 rw [← hV] at HY HN ⊢
 obtain ⟨z, hz⟩ : ∃ z, z = mz n n F := ⟨_, rfl⟩
 obtain ⟨z', hz'⟩ : ∃ z, z = mz n n (fun i j => F j i) := ⟨_, rfl⟩
 rw [← hz] at rM hW HT HE HR ⊢
 rw [← hz'] at HT HE
 have HW := Hid.mkV hW
 have HFill := Hid.mkV (fun (g s i : Nat) (mo : Option Addr) (mc : Nat) (o : Bool) (W : World) (h : FRow W g n (mz n n (st F i).1) (st F i).2) (hs : SRow W s o) (hgs : g ≠ s) (hm : Sl W mo n mc (F i)) (hmb : ∀ x, mo = some x → x.block ≠ s ∧ x.block ≠ g) (hi : i < n) (hf : ∀ k, k < i → fine F k) =>
  fillRow_any g s i n mo mc (F i) (st F i).1 (st F i).2 o W h hs hgs hm hmb (hF i) h2 hi (fun a => b64_of (st_bdL F i a)) (b64_of (st_bdD F i)) (fun k hk => by rw [st_D F hk]; have := (hf k hk).2; omega) (fun b => st_behindL F (Nat.le_refl _)))
 clear hW h hz hz' hV hF
 go_enter Tryz.func19, Tryz.ntmps19
 go_wp2_with (first
  | (rw [zeroF, ← HW.out]; refine wpList_loadM (by rfl) _ (by rfl) _ _ _ _ (by rfl) (by with_reducible exact rM) ?_)
  | fail)
 refine HT.out.mono ?_
 rintro e w1 ⟨rfl, k1⟩
 have M1 := rM.keep k1
 have A1 := CRow.keep rA k1
 have B1 := below_tr hB k1
 have z1 : w.heap.size + 2 ≤ w1.heap.size := by have := k1.size; omega
 clear rM rA HT hB k1
 go_wp2_with (first
  | (rw [zeroM]; refine Mt.wpList_storeNew rfl _ _ (by rfl) _ _ _ _ (by rfl) (by rfl) ?_; intro w2 n2 k2; have M2 := M1.keep k2; have A2 := CRow.keep A1 k2; have B2 := below_tr B1 k2; have z2 : w.heap.size + 2 ≤ w2.heap.size := (by have := k2.size; omega); clear M1 A1 B1 k2 z1)
  | (refine wpList_loadM (by rfl) _ (by rfl) _ _ _ _ (by rfl) (by with_reducible exact n2) ?_)
  | (refine wpList_loadM (by rfl) _ (by rfl) _ _ _ _ (by rfl) (by with_reducible exact M2) ?_)
  | (refine wpList_neG (by rfl) _ _ _ (by rfl) _ _ _ _ _ _ _ HE.out (by rfl) (by rfl) ?_)
  | (refine Mt.wpList_loadF (by rfl) _ (by rfl) _ _ _ (by rfl) (by with_reducible exact M2.rows) ?_)
  | (refine wpList_buildF1 (by rfl) _ (by rfl) _ (by rfl) ?_)
  | (rw [zeroF]; refine St.wpList_storeNew isF rfl _ _ (by rfl) _ _ _ (by rfl) (by rfl) (fvals_len _ _ _) (fvals_len _ _ _) (one_fvals _ _ _) ?_; intro w3 F3 k3; have M3 := M2.keep k3; have A3 := CRow.keep A2 k3; have B3 := below_tr B2 k3; have z3 : w.heap.size + 3 ≤ w3.heap.size := (by have := F3.lt; omega); clear M2 A2 B2 k3 n2)
  | (refine Mt.wpList_loadF (by rfl) _ (by rfl) _ _ _ (by rfl) (by with_reducible exact FRow.n (CRow.alloc F3 _)) ?_)
  | fail)
 have F4 := CRow.alloc F3 (.cells #[.bool false] 115)
 have S4 : SRow (w3.alloc (.cells #[.bool false] 115)) w3.heap.size false := crow_new w3 _ _
 have M4 := M3.alloc (.cells #[.bool false] 115)
 have A4 := CRow.alloc A3 (.cells #[.bool false] 115)
 have B4 := below_al B3 (.cells #[.bool false] 115)
 have z4 := F3.lt
 obtain ⟨w4, hw4⟩ : ∃ x, x = w3.alloc (.cells #[.bool false] 115) := ⟨_, rfl⟩
 obtain ⟨s, hs⟩ : ∃ x, x = w3.heap.size := ⟨_, rfl⟩
 obtain ⟨g, hg⟩ : ∃ x, x = w2.heap.size := ⟨_, rfl⟩
 rw [← hw4] at F4 S4 M4 A4 B4 ⊢
 rw [← hs] at S4 z3 z4 ⊢
 rw [← hg] at F4 z2 z4 ⊢
 have F4' : FRow w4 g n (mz n n (st F 0).1) (st F 0).2 := FRow.congr F4 (fun k hk => by
  unfold mz mpart
  split <;> rfl) (fun k hk => rfl)
 clear hw4 hs hg F3 M3 A3 B3 F4 HE
 go_loopw [30] (fun ix wr => ∃ i : Nat, i ≤ n ∧ ix = .int .i64 (i : Int) ∧ FRow wr g n (mz n n (st F i).1) (st F i).2 ∧ SRow wr s false ∧ MRow wr w.heap.size n n z ∧ CRow wr (w.heap.size + 1) 33 f0 ∧ Below w.heap.size w wr ∧ Hid (∀ k, k < i → fine F k)) (fun ix _ => n - (intOf ix).toNat)
 case atStart => exact ⟨0, by omega, rfl, F4', S4, M4, A4, B4, fun k hk => by omega⟩
 case round =>
  obtain ⟨i, hi, rfl, Fr, Sr, Mr, Ar, Br, hok⟩ := hrel
  by_cases hin : i < n
  ·have HRi := Hid.mkV (HR.out i hin)
   go_wp2_with (first
    | (refine wpList_loadM (by rfl) _ (by rfl) _ _ _ _ (by rfl) (by with_reducible exact Mr) ?_)
    | fail)
   refine (HRi.out _).mono ?_
   rintro e w5 ⟨mo, mc, rfl, sl5, fr5, k5⟩
   have F5 := CRow.keep Fr k5
   have S5 := CRow.keep Sr k5
   have M5 := Mr.keep k5
   have A5 := CRow.keep Ar k5
   have B5 := below_tr Br k5
   have z5 : ∀ x, mo = some x → x.block ≠ s ∧ x.block ≠ g := fun x hx => by
    have h5 := fr5 x hx
    have h6 := Fr.lt
    have h7 := Sr.lt
    omega
   clear HRi
   go_wp2_with fail
   refine (HFill.out g s i mo mc false _ F5 S5 (by omega) sl5 z5 hin hok.out).mono ?_
   rintro e w6 ⟨rfl, F6, S6, k6⟩
   have M6 : MRow w6 w.heap.size n n z := by
    unfold MRow
    rw [k6.block _ M5.lt (by omega)]
    exact M5
   have A6 := crowBut A5 k6 (by omega)
   have B6 := k6.below B5 (by have := M5.lt; omega) (fun k hk => by rcases hk with hk | hk <;> omega)
   have e1 : Hid ((false || (rowO (F i) (st F i).1 (st F i).2 i || midO (F i) (rowV (F i) (st F i).1 (st F i).2 i) (st F i).2 i)) = stO F i) := rfl
   rw [e1.out] at S6
   have F6' : FRow w6 g n (mz n n (st F (i + 1)).1) (st F (i + 1)).2 := F6
   have cD := FRow.d F6' (k := i) (o := 37 + i) (by omega) (by omega)
   rw [st_D F (Nat.lt_succ_self i)] at cD
   have cO := SRow.o S6
   have hfine : Hid (fine F i ↔ stO F i = false ∧ 0 < stD F i) := Iff.rfl
   clear Fr Sr Mr Ar Br F5 S5 M5 A5 B5 F6
   obtain ⟨D, hD⟩ : ∃ D, D = stD F i := ⟨_, rfl⟩
   rw [← hD] at cD hfine
   clear hD
   cases hO : stO F i with
   | true =>
    rw [hO] at cO S6 hfine
    go_wp2_with (first
     | (refine wpList_buildF0 (by rfl) (by rfl) ?_)
     | (refine St.wpList_store isF rfl _ _ (by rfl) _ _ _ (by rfl) (by rfl) (by with_reducible exact A6) (fvals_len _ _ _) (fvals_len _ _ _) (one_fvals _ _ _) ?_)
     | fail)
    refine bodyPost_ret (St.results_2 isF Tryz.results19 _ _ (w.heap.size + 1) _ rfl (CRow.row A6 _) (fvals_len _ _ _)) rfl ⟨?_, St.below_row B6 (by omega) _⟩
    rw [HN.out (fun h => by have := hfine.out.1 (h i hin); exact absurd this.1 (by simp))]
    rfl
   | false =>
    rw [hO] at cO S6 hfine
    by_cases hD : D ≤ 0
    ·have e3 : decide (D ≤ 0) = true := decide_eq_true hD
     go_wp2_with (first
      | (refine wpList_buildF0 (by rfl) (by rfl) ?_)
      | (refine St.wpList_store isF rfl _ _ (by rfl) _ _ _ (by rfl) (by rfl) (by with_reducible exact A6) (fvals_len _ _ _) (fvals_len _ _ _) (one_fvals _ _ _) ?_)
      | fail)
     refine bodyPost_ret (St.results_2 isF Tryz.results19 _ _ (w.heap.size + 1) _ rfl (CRow.row A6 _) (fvals_len _ _ _)) rfl ⟨?_, St.below_row B6 (by omega) _⟩
     rw [HN.out (fun h => by have := hfine.out.1 (h i hin); omega)]
     rfl
    ·have e3 : decide (D ≤ 0) = false := decide_eq_false hD
     go_wp2
     go_roundw
     case rel =>
      exact ⟨i + 1, by omega, by go_num, F6', S6, M6, A6, B6, fun k hk => by
       rcases Nat.lt_or_ge k i with c | c
       ·exact hok.out k c
       ·obtain rfl : k = i := by omega
        exact hfine.out.2 ⟨by trivial, by omega⟩⟩
     case measure => simp [intOf]; omega
  ·obtain rfl : i = n := by omega
   go_wp2_with (first
    | (refine St.wpList_load isF (by rfl) _ (by rfl) _ _ (by rfl) (by with_reducible exact Fr) (fvals_len _ _ _) ?_)
    | (refine St.wpList_store isF rfl _ _ (by rfl) _ _ _ (by rfl) (by rfl) (by with_reducible exact Ar) (fvals_len _ _ _) (fvals_len _ _ _) (one_fvals _ _ _) ?_)
    | fail)
   refine bodyPost_ret (St.results_2 isF Tryz.results19 _ _ (w.heap.size + 1) _ rfl (CRow.row Ar _) (fvals_len _ _ _)) rfl ⟨?_, St.below_row Br (by omega) _⟩
   rw [HY.out hok.out]
   rfl
end Go.Proofs.YtdgcnaijndocnaaGreatDoor
namespace Go.Proofs.YtdgcnaijndocnaaGreatDoor
open Go.RowKit Vc Mt St Qn Dt Ld
namespace Ld
theorem may_st {n : Nat} {F : Nat → Nat → Int} (h1 : 1 ≤ n) (h2 : n ≤ 6) (hf : ∀ i, i < n → fine F i) : FMay n (mz n n (st F n).1) (st F n).2 := by
  refine ⟨by omega, by omega, fun k hk => ?_, fun k hk => ?_⟩
  · rw [Int.toNat_natCast]
    unfold okD
    by_cases e : n ≤ k
    · rw [if_pos e, st_behindD F e]; rfl
    · rw [if_neg e]
      have h3 := st_bdD F n k
      have h4 := (hf k (by omega)).2
      rw [st_D F (by omega)] at h3 ⊢
      rw [decide_eq_true (by omega), decide_eq_true (by omega)]; rfl
  · rw [Int.toNat_natCast]
    unfold okL
    by_cases e : n * n ≤ k
    · have e1 : n ≤ k / n := (Nat.le_div_iff_mul_le (by omega)).2 e
      rw [if_pos (Or.inl e1), mz_behind e]; rfl
    · have e1 : k / n < n := (Nat.div_lt_iff_lt_mul (by omega)).2 (by omega)
      have e2 : k % n < n := Nat.mod_lt _ (by omega)
      have e3 : k = k / n * n + k % n := by rw [Nat.mul_comm]; exact (Nat.div_add_mod k n).symm
      have e4 : mz n n (st F n).1 k = (st F n).1 (k / n) (k % n) := by
        have := mz_at (n := n) (c := n) (F := (st F n).1) e1 e2
        rwa [← e3] at this
      rw [e4]
      by_cases c1 : k / n < k % n
      · rw [if_pos (Or.inr c1), st_up F e1 c1]; rfl
      · rw [if_neg (by omega)]
        by_cases c2 : k % n = k / n
        · rw [if_pos c2, c2, st_one F e1]; rfl
        · rw [if_neg c2]
          have h3 := st_bdL F n (k / n) (k % n)
          rw [great_iff.2 h3]; rfl
theorem ofV_yes {n : Nat} {F : Nat → Nat → Int} (h : ∀ i, i < n → fine F i) : ofV n F = .tuple #[.agg (fvals n (mz n n (st F n).1) (st F n).2).toArray, .nilIface] := if_pos h
theorem ofV_no {n : Nat} {F : Nat → Nat → Int} (h : ¬ ∀ i, i < n → fine F i) : ofV n F = .tuple #[.agg f0.toArray, .iface 70 (.int .i64 8)] := if_neg h
def sV (a b : Int) : Nat → Int := fun k => if k = 0 then a else b
end Ld
end Go.Proofs.YtdgcnaijndocnaaGreatDoor
namespace Go.Proofs.YtdgcnaijndocnaaGreatDoor
open Go.RowKit Vc St Mt Dt Pr
namespace Ud
theorem hide {p : Prop} (h : p) : Hid p := h
def MayN (x y a b c : Int) : Prop := InV x ∧ InV y ∧ InV a ∧ InV b ∧ InV c ∧ 0 ≤ a ∧ 0 ≤ b
instance (x y a b c : Int) : Decidable (MayN x y a b c) := by unfold MayN; infer_instance
abbrev pv (x y a b c : Int) : List Value := [.int .i64 x, .int .i64 y, .int .i64 a, .int .i64 b, .int .i64 c]
def g2 (a b c : Int) : Nat → Nat → Int := fun i j => if i = 0 then (if j = 0 then a else b) else (if j = 0 then b else c)
def v2 (x y : Int) : Nat → Int := fun k => if k = 0 then x else y
theorem g2_same (a b c : Int) : Ld.Same 2 (g2 a b c) := by
  intro i j hi hj
  unfold g2
  by_cases h : i = 0 <;> by_cases h' : j = 0 <;> simp [h, h']
theorem v2_b {x y : Int} (hx : -9223372036854775808 ≤ x ∧ x ≤ 9223372036854775807) (hy : -9223372036854775808 ≤ y ∧ y ≤ 9223372036854775807) : B64 (v2 x y) := fun k => by
  show _ ≤ (if k = 0 then x else y) ∧ (if k = 0 then x else y) ≤ _
  split <;> assumption
theorem crow_sl {w : World} {g : Nat} {t : TypeId} {n : Nat} {z : Nat → Int} (h : CRow w g t (vals n z)) (hn : n ≤ 9223372036854775807) : Sl w (some ⟨g, 0, none⟩) n n z :=
  ⟨Nat.le_refl _, hn, fun k hk => ⟨_, rfl, by rw [Addr.add_lit]; exact h.cell (vals_at hk) (by omega)⟩⟩
theorem grid2 {w : World} {gl g0 g1 : Nat} {x0 y0 x1 y1 : Int} (h : CRow w gl 22 [.slice (some ⟨g0, 0, none⟩) 2 2, .slice (some ⟨g1, 0, none⟩) 2 2]) (h0 : CRow w g0 2 (vals 2 (v2 x0 y0))) (h1 : CRow w g1 2 (vals 2 (v2 x1 y1))) :
    Grid w (some ⟨gl, 0, none⟩) 2 2 2 (fun i => if i = 0 then v2 x0 y0 else v2 x1 y1) :=
  ⟨fun i => if i = 0 then some ⟨g0, 0, none⟩ else some ⟨g1, 0, none⟩, fun _ => 2, ⟨Nat.le_refl _, by omega, fun k hk => ⟨_, rfl, by
      rw [Addr.add_lit]
      match k, hk with
      | 0, _ => exact h.cell (k := 0) rfl rfl
      | 1, _ => exact h.cell (k := 1) rfl rfl⟩⟩, fun k hk => by
      match k, hk with
      | 0, _ => exact crow_sl h0 (by omega)
      | 1, _ => exact crow_sl h1 (by omega)⟩
theorem yieldsI {ops : Array Oper} {S : World → Prop} {o : Oper} {a : Act} (hw : Region.wanted o (yielded ops a.tmps) = true) (x : Operand) (ho : o.op = .load 2 x) (ad : Addr) (v : Int) (hx : a.eval x = .pointer (some ad)) (hS : ∀ w, S w → w.cell? ad = some (.int .i64 v)) : YieldsIf Tryz.prog ops S o (.int .i64 v) a :=
  .inl ⟨hw, fun w h => by
    unfold execOp
    have hL : (loadVar 2 ad).run Tryz.prog w = .ok (.int .i64 v) w := by
      simp [loadVar, isAgg, underlying, Tryz.underlying2, hS w h, Result.andThen]
    simp only [ho, hx, Instr.loadAt, Instr.sureAddr, Sem.run_bind, Sem.run_pure, Result.andThen_ok, hL]⟩
theorem yieldsL {ops : Array Oper} {S : World → Prop} {o : Oper} {a : Act} (hw : Region.wanted o (yielded ops a.tmps) = true) (x : Operand) (ho : o.op = .load 22 x) (ad : Addr) (v : Value) (hx : a.eval x = .pointer (some ad)) (hS : ∀ w, S w → w.cell? ad = some v) : YieldsIf Tryz.prog ops S o v a :=
  .inl ⟨hw, fun w h => by
    unfold execOp
    have hL : (loadVar 22 ad).run Tryz.prog w = .ok v w := by
      simp [loadVar, isAgg, underlying, Tryz.underlying22, hS w h, Result.andThen]
    simp only [ho, hx, Instr.loadAt, Instr.sureAddr, Sem.run_bind, Sem.run_pure, Result.andThen_ok, hL]⟩
theorem in_row {w : World} {g : Nat} {t : TypeId} {cs : List Value} (h : CRow w g t cs) {a : Addr} {v : Value} (hc : w.cell? a = some v) (e : a.block = g) : v ∈ cs := by
  unfold World.cell? at hc
  unfold CRow at h
  rw [e, h] at hc
  simp only at hc
  split at hc
  · cases hc
  · rw [List.getElem?_toArray] at hc
    exact List.mem_of_getElem? hc
theorem sl_keep {a b : World} {g : Nat} {t : TypeId} {cs : List Value} (h : CRow a g t cs) (hc : ∀ z, Value.int .i64 z ∉ cs) {ao : Option Addr} {n ca : Nat} {z : Nat → Int} (s : Sl a ao n ca z) (hn : 0 < n) (k : Ld.But (· = g) a b) : Sl b ao n ca z :=
  Ld.slBut s k fun x hx e => by
    obtain ⟨y, hy, c⟩ := s.at' 0 hn
    rw [hx] at hy
    cases hy
    exact hc _ (in_row h c (by rw [Ld.addr_block]; exact e))
theorem grid_keep {a b : World} {g : Nat} {t : TypeId} {cs : List Value} (h : CRow a g t cs) (hc : ∀ z, Value.int .i64 z ∉ cs) {lo : Option Addr} {n cm m : Nat} {F : Nat → Nat → Int} (hl : ∀ q c, Value.slice q m c ∉ cs) (gr : Grid a lo n cm m F) (hm : 0 < m) (k : Ld.But (· = g) a b) : Grid b lo n cm m F := by
  obtain ⟨A, C, h1, h2⟩ := gr
  refine ⟨A, C, ⟨h1.le, h1.cap, fun j hj => ?_⟩, fun j hj => sl_keep h hc (h2 j hj) hm k⟩
  obtain ⟨x, hx, c⟩ := h1.at' j hj
  exact ⟨x, hx, k.cell c fun e => hl _ _ (in_row h c e)⟩
theorem but_row (w : World) (g : Nat) (cs : Array Value) : Ld.But (· = g) w (w.setRow g cs) := ⟨rfl, rfl, rfl, by simp, fun k hk hn => setRow_other w g k cs hn⟩
theorem g2_rows (a b c : Int) (i j : Nat) (hi : i < 2) (hj : j < 2) : (if i = 0 then v2 a b else v2 b c) j = g2 a b c i j := by
  unfold g2 v2
  by_cases h : i = 0 <;> by_cases h' : j = 0 <;> simp [h, h']
def oa (P : Nat → Nat → Int) (a : Int) : Int := Qn.clamp (P 0 0 + a)
def ob (P : Nat → Nat → Int) (c : Int) : Int := Qn.clamp (P 0 3 + c)
def oc (P : Nat → Nat → Int) (b : Int) : Int := Qn.clamp (P 3 3 + b)
def ox (X : Nat → Int) (x : Int) : Int := Qn.clamp (x - X 0)
def oy (X : Nat → Int) (y : Int) : Int := Qn.clamp (y - X 3)
def og (X : Nat → Int) (P : Nat → Nat → Int) (x y a b c : Int) : Bool := Qn.great (P 0 0 + a) || Qn.great (P 0 3 + c) || Qn.great (P 3 3 + b) || Qn.great (x - X 0) || Qn.great (y - X 3)
def oM (P : Nat → Nat → Int) (a b c : Int) : Nat → Nat → Int := g2 (oa P a) (ob P c) (oc P b)
theorem cl64 (z : Int) : -9223372036854775808 ≤ Qn.clamp z ∧ Qn.clamp z ≤ 9223372036854775807 := by unfold Qn.clamp; constructor <;> (repeat' split) <;> omega
theorem g2_b {a b c : Int} (ha : -9223372036854775808 ≤ a ∧ a ≤ 9223372036854775807) (hb : -9223372036854775808 ≤ b ∧ b ≤ 9223372036854775807) (hc : -9223372036854775808 ≤ c ∧ c ≤ 9223372036854775807) : B2 (g2 a b c) := fun i j => by
  show _ ≤ (if i = 0 then (if j = 0 then a else b) else (if j = 0 then b else c)) ∧ (if i = 0 then (if j = 0 then a else b) else (if j = 0 then b else c)) ≤ _
  split <;> split <;> assumption
def fL (P : Nat → Nat → Int) (a b c : Int) : Nat → Nat → Int := (Ld.st (oM P a b c) 2).1
def fD (P : Nat → Nat → Int) (a b c : Int) : Nat → Int := (Ld.st (oM P a b c) 2).2
theorem yieldsPart {ops : Array Oper} {S : World → Prop} {o : Oper} {a : Act} {t : TypeId} {n : Nat} (I : Is t n) (hw : Region.wanted o (yielded ops a.tmps) = true) (x : Operand) (ho : o.op = .load t x)
    (b p : Nat) (cs : List Value) (hx : a.eval x = .pointer (some ⟨b, p, none⟩)) (hS : ∀ w, S w → w.rangeAt b p cs) (hl : cs.length = n) : YieldsIf Tryz.prog ops S o (.agg cs.toArray) a := by
  obtain ⟨d, hd, hr⟩ := I.row
  exact yieldsIf_load_mid hw _ x ho b p hx cs d hS hd hr (by rw [I.size, hl])
theorem loadC {ops : Array Oper} {rest : List Oper} {o : Oper} {a : Act} {w : World} {Q : Exit → Act → World → Prop} {t : TypeId} {n : Nat} (I : Is t n) (x : Operand) (ho : o.op = .load t x) (b : Nat) (cs : List Value) (hx : a.eval x = .pointer (some ⟨b, 0, none⟩)) (hr : CRow w b t cs) (hl : cs.length = n) (hw : Region.wanted o (yielded ops a.tmps) = true)
    (h : wpList Tryz.prog ops Q rest (a.put o.dst (.agg cs.toArray)) w) : wpList Tryz.prog ops Q (o :: rest) a w := St.wpList_load I hw x ho b cs hx hr hl h
theorem fD_b {P : Nat → Nat → Int} {a b c : Int} (h : ∀ i, i < 2 → Ld.fine (oM P a b c) i) : ∀ k, k < 2 → 1 ≤ fD P a b c k ∧ fD P a b c k ≤ 4611686018427387903 := fun k hk => by
  have h3 := Ld.st_bdD (oM P a b c) 2 k
  have h4 := (h k hk).2
  rw [← Ld.st_D (oM P a b c) hk] at h4
  unfold fD
  omega
theorem fL_b (P : Nat → Nat → Int) (a b c : Int) : ∀ i, B64 (fL P a b c i) := fun i => Ld.b64_of (Ld.st_bdL (oM P a b c) 2 i)
end Ud
end Go.Proofs.YtdgcnaijndocnaaGreatDoor
namespace Go.Proofs.YtdgcnaijndocnaaGreatDoor
open Go.RowKit Vc Mt
namespace Cm
def eqz (n : Nat) (z y : Nat → Int) : Bool := (List.range n).all fun i => z i == y i
theorem eqz_iff {n : Nat} {z y : Nat → Int} : eqz n z y = true ↔ ∀ k, k < n → z k = y k := by
  unfold eqz; rw [List.all_eq_true]
  exact ⟨fun h k hk => by simpa using h k (List.mem_range.2 hk), fun h k hk => by simpa using h k (List.mem_range.1 hk)⟩
theorem run_itemsG (n : Nat) (z y : Nat → Int) (w : World) (d : Nat) : ∀ is : List Nat, (∀ i ∈ is, i < n) → (Op.eqItems (d + 1) 2 1 (vals n z).toArray (vals n y).toArray is).run Tryz.prog w = .ok (is.all fun i => z i == y i) w
  | [], _ => by simp [Op.eqItems]
  | i :: is, h => by
    have hi : i < n := h i (by simp)
    have px := run_part_i64 w (vals n z).toArray (i * 1) (z i) (by rw [List.getElem?_toArray, Nat.mul_one]; exact vals_at hi)
    have py := run_part_i64 w (vals n y).toArray (i * 1) (y i) (by rw [List.getElem?_toArray, Nat.mul_one]; exact vals_at hi)
    have pe := run_equalIn_int w d 2 .i64 .i64 (z i) (y i) Tryz.underlying2
    have ih := run_itemsG n z y w d is fun j hj => h j (by simp [hj])
    simp only [Op.eqItems, Sem.run_bind, px, py, pe, Result.andThen_ok]
    cases hb : (z i == y i) with
    | true => simp [ih, hb]
    | false => simp [hb]
theorem run_eqA {t : TypeId} {n : Nat} (ht : Tryz.prog.underlying t = some (.array n 2)) (z y : Nat → Int) (w : World) (d : Nat) : (Op.equalIn (d + 2) t (.agg (vals n z).toArray) (.agg (vals n y).toArray)).run Tryz.prog w = .ok (eqz n z y) w := by
  obtain ⟨i0, hi, _, _, _⟩ := info_parts infoI64
  rw [run_equalIn_array w (d + 1) (vals n z).toArray (vals n y).toArray ht hi, cellsI64]
  exact run_itemsG n z y w d _ (fun i hi => by simpa using hi)
theorem eqFields_stepG (d : Nat) (xs ys : Array Value) (f : Field) (fs : List Field) (w : World) (v u : Value) (b c : Bool) (hn : f.name ≠ "_") (p1 : (Go.part f.type xs f.offset).run Tryz.prog w = .ok v w) (p2 : (Go.part f.type ys f.offset).run Tryz.prog w = .ok u w) (pe : (Op.equalIn d f.type v u).run Tryz.prog w = .ok b w)
    (h : (Op.eqFields d xs ys fs).run Tryz.prog w = .ok c w) : (Op.eqFields d xs ys (f :: fs)).run Tryz.prog w = .ok (b && c) w := by
  rw [Op.eqFields, if_pos hn]
  simp only [Sem.run_bind, p1, p2, pe, Result.andThen_ok]
  cases b with
  | true => simpa using h
  | false => simp
def eqM (r c : Int) (z : Nat → Int) (r' c' : Int) (z' : Nat → Int) : Bool := (r == r') && ((c == c') && (eqz 36 z z' && true))
theorem eqM_iff {r c r' c' : Int} {z z' : Nat → Int} : eqM r c z r' c' z' = true ↔ r = r' ∧ c = c' ∧ ∀ k, k < 36 → z k = z' k := by
  unfold eqM; simp [eqz_iff]
set_option maxRecDepth 20000 in
theorem run_eqM (r c : Int) (z : Nat → Int) (r' c' : Int) (z' : Nat → Int) (w : World) (d : Nat) : (Op.equalIn (d + 3) 41 (.agg (mvals r c z).toArray) (.agg (mvals r' c' z').toArray)).run Tryz.prog w = .ok (eqM r c z r' c' z') w := by
  obtain ⟨f0, f1, f2, hf, h0, h1, h2⟩ := list3 fieldsM
  injection h0 with n0 h0
  injection h0 with t0 o0
  injection h1 with n1 h1
  injection h1 with t1 o1
  injection h2 with n2 h2
  injection h2 with t2 o2
  rw [run_equalIn_struct w (d + 2) 41 _ _ structM stoodM, hf]
  clear hf
  have q0 := run_equalIn_int w (d + 1) 3 .i64 .i64 r r' Tryz.underlying3
  have q1 := run_equalIn_int w (d + 1) 3 .i64 .i64 c c' Tryz.underlying3
  have q2 := run_eqA arrM36 z z' w d
  exact eqFields_stepG (d + 2) _ _ f0 _ w _ _ _ _ (by rw [n0]; simp) (by rw [t0, o0]; exact run_part_int w (mvals r c z).toArray 0 r (by simp [mvals])) (by rw [t0, o0]; exact run_part_int w (mvals r' c' z').toArray 0 r' (by simp [mvals])) (by rw [t0]; exact q0)
    (eqFields_stepG (d + 2) _ _ f1 _ w _ _ _ _ (by rw [n1]; simp) (by rw [t1, o1]; exact run_part_int w (mvals r c z).toArray 1 c (by simp [mvals])) (by rw [t1, o1]; exact run_part_int w (mvals r' c' z').toArray 1 c' (by simp [mvals])) (by rw [t1]; exact q1)
      (eqFields_stepG (d + 2) _ _ f2 _ w _ _ _ _ (by rw [n2]; simp) (by rw [t2, o2]; exact run_part_A w r c z) (by rw [t2, o2]; exact run_part_A w r' c' z') (by rw [t2]; exact q2) (eqFields_nil _ _ _ w)))
variable {ops : Array Oper} {rest : List Oper} {o : Oper} {a : Act} {w : World} {Q : Exit → Act → World → Prop}
theorem eqlM (x y : Operand) (u : TypeId) (ho : o.op = .binOp .eql 41 x y u)
    (r c : Int) (z : Nat → Int) (r' c' : Int) (z' : Nat → Int) (b : Bool) (hb : eqM r c z r' c' z' = b) (hx : a.eval x = .agg (mvals r c z).toArray) (hy : a.eval y = .agg (mvals r' c' z').toArray) (hw : Region.wanted o (yielded ops a.tmps) = true)
    (h : wpList Tryz.prog ops Q rest (a.put o.dst (.bool b)) w) : wpList Tryz.prog ops Q (o :: rest) a w :=
  wpList_wanted hw fun _ hK => by
    unfold Oper.wp execOp
    simp only [ho, hx, hy, Sem.run_bind, run_eqGuard_agg w _ _ x y _ _ guardM, Result.andThen_ok, run_eql_struct]
    rw [run_eqM r c z r' c' z' w 9997, hb]
    exact hK _ _ h
end Cm
end Go.Proofs.YtdgcnaijndocnaaGreatDoor
namespace Go.Proofs.YtdgcnaijndocnaaGreatDoor
open Go.RowKit Vc Mt St Cm
namespace Pd
def svals (X : Nat → Int) (r c : Int) (z : Nat → Int) : List Value := vals 6 X ++ mvals r c z
theorem svals_len (X : Nat → Int) (r c : Int) (z : Nat → Int) : (svals X r c z).length = 44 := by simp [svals, vals_len, mvals_len]
theorem svals_x {X : Nat → Int} {r c : Int} {z : Nat → Int} {k : Nat} (h : k < 6) : (svals X r c z)[k]? = some (.int .i64 (X k)) := by
  unfold svals
  rw [List.getElem?_append_left (by rw [vals_len]; exact h)]
  exact vals_at h
theorem svals_m (X : Nat → Int) (r c : Int) (z : Nat → Int) (k : Nat) : (svals X r c z)[k + 6]? = (mvals r c z)[k]? := by
  unfold svals
  rw [List.getElem?_append_right (by rw [vals_len]; omega), vals_len, Nat.add_sub_cancel]
theorem svals_setx {X : Nat → Int} {r c : Int} {z : Nat → Int} {j : Nat} (h : j < 6) (x : Int) : (svals X r c z).set j (.int .i64 x) = svals (fun k => if k = j then x else X k) r c z := by
  unfold svals
  rw [List.set_append_left _ _ (by rw [vals_len]; exact h), vals_set]
theorem svals_congr {X Y : Nat → Int} {r c : Int} {z z' : Nat → Int} (h : ∀ k, k < 6 → X k = Y k) (h' : ∀ k, k < 36 → z k = z' k) : svals X r c z = svals Y r c z' := by
  unfold svals; rw [vals_congr h, mvals_congr h']
theorem one_svals (X : Nat → Int) (r c : Int) (z : Nat → Int) : ∀ v ∈ svals X r c z, v.oneCell' = true := by
  intro v hv
  rcases List.mem_append.1 hv with hv | hv
  · obtain ⟨k, _, rfl⟩ := List.mem_map.1 hv
    rfl
  · exact one_mvals _ _ _ v hv
theorem isS : Is 43 44 := ⟨by kernel_rfl, ⟨_, Tryz.underlying43, rfl⟩⟩
theorem isMt : Is 41 38 := ⟨Tryz.sizeM, ⟨_, Tryz.underlying41, rfl⟩⟩
theorem isPt : Is 180 6 := ⟨by kernel_rfl, ⟨_, Tryz.underlying180, rfl⟩⟩
abbrev SRow (w : World) (g : Nat) (X : Nat → Int) (r c : Int) (z : Nat → Int) : Prop := CRow w g 43 (svals X r c z)
theorem SRow.x {w : World} {g : Nat} {X : Nat → Int} {r c : Int} {z : Nat → Int} (h : SRow w g X r c z) {k o : Nat} (hk : k < 6) (ho : o = k) : w.cell? ⟨g, o, none⟩ = some (.int .i64 (X k)) := h.cell (svals_x hk) ho
theorem SRow.setx {w : World} {g : Nat} {X : Nat → Int} {r c : Int} {z : Nat → Int} (h : SRow w g X r c z) {k o : Nat} (hk : k < 6) (ho : o = k) (x : Int) : SRow (w.setCell ⟨g, o, none⟩ (.int .i64 x)) g (fun i => if i = k then x else X i) r c z := by
  subst ho
  have h' := CRow.set h o (.int .i64 x)
  rwa [svals_setx hk] at h'
theorem SRow.congr {w : World} {g : Nat} {X Y : Nat → Int} {r c : Int} {z z' : Nat → Int} (h : SRow w g X r c z) (e : ∀ k, k < 6 → X k = Y k) (e' : ∀ k, k < 36 → z k = z' k) : SRow w g Y r c z' := by
  unfold SRow; rw [← svals_congr e e']; exact h
theorem SRow.sl {w : World} {g : Nat} {X : Nat → Int} {r c : Int} {z : Nat → Int} (h : SRow w g X r c z) : Sl w (some ⟨g, 0, none⟩) 6 6 X :=
  ⟨Nat.le_refl _, by omega, fun k hk => ⟨_, rfl, by rw [Addr.add_lit]; exact h.x hk (by omega)⟩⟩
theorem SRow.rm {w : World} {g : Nat} {X : Nat → Int} {r c : Int} {z : Nat → Int} (h : SRow w g X r c z) : w.rangeAt g 6 (mvals r c z) := CRow.mid h (o := 6) fun j v hv => by
  rw [Nat.add_comm, svals_m]; exact hv
theorem zeroS : (#[.int .i64 0, .int .i64 0, .int .i64 0, .int .i64 0, .int .i64 0, .int .i64 0, .int .i64 0, .int .i64 0, .int .i64 0, .int .i64 0, .int .i64 0, .int .i64 0, .int .i64 0, .int .i64 0, .int .i64 0, .int .i64 0, .int .i64 0, .int .i64 0, .int .i64 0, .int .i64 0, .int .i64 0, .int .i64 0, .int .i64 0, .int .i64 0, .int .i64 0, .int .i64 0, .int .i64 0, .int .i64 0, .int .i64 0, .int .i64 0, .int .i64 0, .int .i64 0, .int .i64 0, .int .i64 0, .int .i64 0, .int .i64 0, .int .i64 0, .int .i64 0, .int .i64 0, .int .i64 0, .int .i64 0, .int .i64 0, .int .i64 0, .int .i64 0] : Array Value) = (svals (fun _ => 0) 0 0 (fun _ => 0)).toArray := by kernel_rfl
theorem zero6 : (#[.int .i64 0, .int .i64 0, .int .i64 0, .int .i64 0, .int .i64 0, .int .i64 0] : Array Value) = (vals 6 (fun _ => 0)).toArray := by kernel_rfl
theorem list2 {α β : Type} {g : α → β} : ∀ {fs : List α} {a b : β}, fs.map g = [a, b] → ∃ x y, fs = [x, y] ∧ g x = a ∧ g y = b
  | [], a, b, h => by simp at h
  | [x], a, b, h => by simp at h
  | [x, y], a, b, h => by
    simp only [List.map_cons, List.map_nil, List.cons.injEq, and_true] at h
    exact ⟨x, y, rfl, h.1, h.2⟩
  | x :: y :: z :: r, a, b, h => by simp at h
section
variable {ops : Array Oper} {rest : List Oper} {o : Oper} {a : Act} {w : World} {Q : Exit → Act → World → Prop}
end
abbrev PRow (w : World) (g : Nat) (X : Nat → Int) : Prop := CRow w g 180 (vals 6 X)
theorem PRow.x {w : World} {g : Nat} {X : Nat → Int} (h : PRow w g X) {k o : Nat} (hk : k < 6) (ho : o = k) : w.cell? ⟨g, o, none⟩ = some (.int .i64 (X k)) := h.cell (vals_at hk) ho
theorem PRow.setx {w : World} {g : Nat} {X : Nat → Int} (h : PRow w g X) (j : Nat) (x : Int) {o : Nat} (ho : o = j) : PRow (w.setCell ⟨g, o, none⟩ (.int .i64 x)) g (fun k => if k = j then x else X k) := by
  subst ho
  have h' := CRow.set h o (.int .i64 x)
  rwa [vals_set] at h'
theorem PRow.congr {w : World} {g : Nat} {X Y : Nat → Int} (h : PRow w g X) (e : ∀ k, k < 6 → X k = Y k) : PRow w g Y := by
  unfold PRow; rw [← vals_congr e]; exact h
theorem PRow.sl {w : World} {g : Nat} {X : Nat → Int} (h : PRow w g X) : Sl w (some ⟨g, 0, none⟩) 6 6 X :=
  ⟨Nat.le_refl _, by omega, fun k hk => ⟨_, rfl, by rw [Addr.add_lit]; exact h.x hk (by omega)⟩⟩
end Pd
end Go.Proofs.YtdgcnaijndocnaaGreatDoor
namespace Go.Proofs.YtdgcnaijndocnaaGreatDoor
open Go.RowKit Mt
namespace Hk
variable {ops : Array Oper} {rest : List Oper} {o : Oper} {a : Act} {w : World} {Q : Exit → Act → World → Prop}
theorem loadM (x : Operand) (ho : o.op = .load 41 x) (b : Nat) (r c : Int) (z : Nat → Int) (hx : a.eval x = .pointer (some ⟨b, 0, none⟩)) (hr : MRow w b r c z) (hw : Region.wanted o (yielded ops a.tmps) = true)
    (h : wpList Tryz.prog ops Q rest (a.put o.dst (.agg (mvals r c z).toArray)) w) : wpList Tryz.prog ops Q (o :: rest) a w := wpList_loadM hw x ho b r c z hx hr h
end Hk
end Go.Proofs.YtdgcnaijndocnaaGreatDoor
namespace Go.Proofs.YtdgcnaijndocnaaGreatDoor
open Go.RowKit Vc St Mt Cm Pd Pr
attribute [local go_sem ↓] Go.wp_at_zero Go.wp_at_succ
namespace Pd
theorem hide {p : Prop} (h : p) : Hid p := h
def allIn (a b : Int) (z : Nat → Int) (n : Nat) : Prop := ∀ k, k < n → a ≤ z k ∧ z k ≤ b
theorem may66 (z : Nat → Int) : May 6 6 z := ⟨6, 6, rfl, rfl, by omega, by omega, by omega, by omega, fun k h1 h2 => by omega⟩
end Pd
set_option maxHeartbeats 400000 in
theorem pwithin_any (t : Bool) (a b : Int) (ao : Option Addr) (n ca : Nat) (z : Nat → Int) (w : World) (h : Sl w ao n ca z) (ht : t = true ↔ allIn a b z n) :
  Calls Tryz.prog 110 #[.int .i64 a, .int .i64 b, .slice ao n ca] w fun e w' => e = .returned (.bool t) ∧ w' = w := by
 have HN : Hid (∀ k, k < n → ¬ (a ≤ z k ∧ z k ≤ b) → t = false) := fun k hk q => by
  cases t with
  | false => rfl
  | true => exact absurd (ht.1 rfl k hk) q
 have HY : Hid ((∀ k, k < n → a ≤ z k ∧ z k ≤ b) → t = true) := fun q => ht.2 q
 obtain ⟨x, hx, hc⟩ := h.get
 have l1 := h.le
 have l2 := h.cap
 have HX := hide hx
 have HC := hide hc
 clear h hx hc ht
 go_enter Tryz.func110, Tryz.ntmps110
 go_wp2
 go_loopw [11] (fun i wr => ∃ k : Nat, k ≤ n ∧ i = .int .i64 (k : Int) ∧ wr = w ∧ Hid (∀ q, q < k → a ≤ z q ∧ z q ≤ b)) (fun i _ => n - (intOf i).toNat)
 case atStart => exact ⟨0, by omega, rfl, rfl, fun q hq => by omega⟩
 case round =>
  obtain ⟨k, hk, rfl, rfl, hok⟩ := hrel
  by_cases h : k < n
  ·obtain rfl := HX.out (by omega)
   have cc := HC.out k h
   obtain ⟨v, hv⟩ : ∃ v, v = z k := ⟨_, rfl⟩
   rw [← hv] at cc
   have HV := hide hv
   clear hv
   by_cases c1 : v < a
   ·have d1 : decide (v < a) = true := decide_eq_true c1
    go_wp2
    go_ret
    exact ⟨by rw [HN.out k h (fun q => by rw [← HV.out] at q; omega)]; rfl, rfl⟩
   ·have d1 : decide (v < a) = false := decide_eq_false c1
    by_cases c2 : b < v
    ·have d2 : decide (b < v) = true := decide_eq_true c2
     go_wp2
     go_ret
     exact ⟨by rw [HN.out k h (fun q => by rw [← HV.out] at q; omega)]; rfl, rfl⟩
    ·have d2 : decide (b < v) = false := decide_eq_false c2
     go_wp2
     go_roundw
     case rel => exact ⟨k + 1, by omega, by go_num, trivial, fun q hq => by
       rcases Nat.lt_or_ge q k with c | c
       ·exact hok.out q c
       ·obtain rfl : q = k := by omega
        rw [← HV.out]; omega⟩
     case measure => simp [intOf]; omega
  ·obtain rfl : k = n := by omega
   go_wp2
   go_ret
   exact ⟨by rw [HY.out hok.out]; rfl, rfl⟩
set_option maxHeartbeats 400000 in
theorem pbounded_any (t : Bool) (ao : Option Addr) (n ca : Nat) (z : Nat → Int) (w : World) (h : Sl w ao n ca z) (ht : t = true ↔ ∀ k, k < n → InV (z k)) :
    Calls Tryz.prog 53 #[.slice ao n ca] w fun e w' => e = .returned (.bool t) ∧ w' = w := by
  have H := hide (pwithin_any t (-4611686018427387903) 4611686018427387903 ao n ca z w h ht)
  clear h ht
  go_enter Tryz.func53, Tryz.ntmps53
  go_wp2_with fail
  refine H.out.mono ?_
  rintro e w1 ⟨rfl, rfl⟩
  go_wp2
  go_ret
  exact ⟨rfl, rfl⟩
set_option maxRecDepth 10000 in
set_option maxHeartbeats 400000 in
theorem pisSix_yes (z : Nat → Int) (w : World) :
    Calls Tryz.prog 50 #[.agg (mvals 6 6 z).toArray] w fun e w' => e = .returned (.bool true) ∧ Below w.heap.size w w' := by
  have r0 := mrow_new w 6 6 z
  have B0 := below_al (Below.refl _ w) (.cells (mvals 6 6 z).toArray 41)
  obtain ⟨W, hW⟩ : ∃ W, W = w.alloc (.cells (mvals 6 6 z).toArray 41) := ⟨_, rfl⟩
  rw [← hW] at r0 B0
  have HW := hide hW
  have H := hide (check_may W (may66 z))
  clear hW
  go_enter Tryz.func50, Tryz.ntmps50
  go_wp2_with (first
    | (rw [← HW.out]; refine Hk.loadM _ (by with_reducible rfl) _ _ _ _ (by rfl) (by with_reducible exact r0) (by kernel_rfl) ?_)
    | fail)
  refine H.out.mono ?_
  rintro e w1 ⟨rfl, k1⟩
  have c0 := (r0.keep k1).rows
  have c1 := (r0.keep k1).cols
  go_wp2
  go_ret
  exact ⟨rfl, below_tr B0 k1⟩
set_option maxRecDepth 10000 in
set_option maxHeartbeats 400000 in
theorem pisSix_no (r c : Int) (z : Nat → Int) (w : World) (h : ¬ (r = 6 ∧ c = 6)) :
  Calls Tryz.prog 50 #[.agg (mvals r c z).toArray] w fun e w' => e = .returned (.bool false) ∧ Below w.heap.size w w' := by
 have r0 := mrow_new w r c z
 have B0 := below_al (Below.refl _ w) (.cells (mvals r c z).toArray 41)
 obtain ⟨W, hW⟩ : ∃ W, W = w.alloc (.cells (mvals r c z).toArray 41) := ⟨_, rfl⟩
 rw [← hW] at r0 B0
 have HW := hide hW
 clear hW
 by_cases hm : May r c z
 ·have H := hide (check_may W hm)
  clear hm
  by_cases hr : r = 6
  ·subst hr
   have e1 : (c == 6) = false := beq_eq_false_iff_ne.2 (fun q => h ⟨rfl, q⟩)
   clear h
   go_enter Tryz.func50, Tryz.ntmps50
   go_wp2_with (first
    | (rw [← HW.out]; refine Hk.loadM _ (by with_reducible rfl) _ _ _ _ (by rfl) (by with_reducible exact r0) (by kernel_rfl) ?_)
    | fail)
   refine H.out.mono ?_
   rintro e w1 ⟨rfl, k1⟩
   have c0 := (r0.keep k1).rows
   have c1 := (r0.keep k1).cols
   go_wp2
   go_ret
   exact ⟨rfl, below_tr B0 k1⟩
  ·have e1 : (r == 6) = false := beq_eq_false_iff_ne.2 hr
   clear h
   go_enter Tryz.func50, Tryz.ntmps50
   go_wp2_with (first
    | (rw [← HW.out]; refine Hk.loadM _ (by with_reducible rfl) _ _ _ _ (by rfl) (by with_reducible exact r0) (by kernel_rfl) ?_)
    | fail)
   refine H.out.mono ?_
   rintro e w1 ⟨rfl, k1⟩
   have c0 := (r0.keep k1).rows
   have c1 := (r0.keep k1).cols
   go_wp2
   go_ret
   exact ⟨rfl, below_tr B0 k1⟩
 ·have H := hide (check_not W hm)
  clear hm h
  go_enter Tryz.func50, Tryz.ntmps50
  go_wp2_with (first
   | (rw [← HW.out]; refine Hk.loadM _ (by with_reducible rfl) _ _ _ _ (by rfl) (by with_reducible exact r0) (by kernel_rfl) ?_)
   | fail)
  refine H.out.mono ?_
  rintro e w1 ⟨rfl, k1⟩
  go_wp2
  go_ret
  exact ⟨rfl, below_tr B0 k1⟩
set_option maxRecDepth 10000 in
set_option maxHeartbeats 400000 in
theorem pturned_any (t : Bool) (F : Nat → Nat → Int) (w : World) (ht : t = true ↔ ∀ i j, i < 6 → j < 6 → F i j = F j i) :
  Calls Tryz.prog 51 #[.agg (mvals 6 6 (mz 6 6 F)).toArray] w fun e w' => e = .returned (.bool t) ∧ Below w.heap.size w w' := by
 have r0 := mrow_new w 6 6 (mz 6 6 F)
 have B0 := below_al (Below.refl _ w) (.cells (mvals 6 6 (mz 6 6 F)).toArray 41)
 obtain ⟨W, hW⟩ : ∃ W, W = w.alloc (.cells (mvals 6 6 (mz 6 6 F)).toArray 41) := ⟨_, rfl⟩
 rw [← hW] at r0 B0
 have H := hide (mturn_any 6 6 F W (by omega) (by omega) (by omega) (by omega))
 have HT : Hid (eqM 6 6 (mz 6 6 (fun i j => F j i)) 6 6 (mz 6 6 F) = t) := by
  have h1 : eqM 6 6 (mz 6 6 (fun i j => F j i)) 6 6 (mz 6 6 F) = true ↔ t = true := by
   rw [ht, eqM_iff]
   exact ⟨fun q i j hi hj => (mz_inj (by omega) q.2.2 hi hj).symm, fun q => ⟨rfl, rfl, fun k _ => mz_congr (fun i j hi hj => q j i hj hi) k⟩⟩
  cases t with
  | true => exact h1.2 rfl
  | false =>
   cases he : eqM 6 6 (mz 6 6 (fun i j => F j i)) 6 6 (mz 6 6 F) with
   | false => rfl
   | true => exact absurd (h1.1 he) (by decide)
 obtain ⟨z, hz⟩ : ∃ z, z = mz 6 6 F := ⟨_, rfl⟩
 obtain ⟨y, hy⟩ : ∃ y, y = mz 6 6 (fun i j => F j i) := ⟨_, rfl⟩
 rw [← hz] at r0 hW H HT ⊢
 rw [← hy] at H HT
 have HW := hide hW
 clear hW hz hy ht
 go_enter Tryz.func51, Tryz.ntmps51
 go_wp2_with (first
  | (rw [← HW.out]; refine Hk.loadM _ (by with_reducible rfl) _ _ _ _ (by rfl) (by with_reducible exact r0) (by kernel_rfl) ?_)
  | fail)
 refine H.out.mono ?_
 rintro e w1 ⟨rfl, k1⟩
 have r1 := r0.keep k1
 have B1 := below_tr B0 k1
 clear HW H r0 B0 k1
 go_wp2_with (first
  | (rw [zeroM]; refine Mt.wpList_storeNew rfl _ _ (by rfl) _ _ _ _ (by rfl) (by rfl) ?_; intro w2 n2 k2; have r2 := r1.keep k2; have B2 := below_tr B1 k2; clear r1 B1)
  | (refine Hk.loadM _ (by with_reducible rfl) _ _ _ _ (by rfl) (by with_reducible exact n2) (by kernel_rfl) ?_)
  | (refine Hk.loadM _ (by with_reducible rfl) _ _ _ _ (by rfl) (by with_reducible exact r2) (by kernel_rfl) ?_)
  | (refine Cm.eqlM _ _ _ (by with_reducible rfl) _ _ _ _ _ _ _ HT.out (by rfl) (by rfl) (by kernel_rfl) ?_)
  | fail)
 go_ret
 exact ⟨rfl, B2⟩
namespace Pd
def pt (X Y : Nat → Int) (k : Nat) : Nat → Int := fun i => if i < k then X i else Y i
theorem pt_zero (X Y : Nat → Int) (i : Nat) : Y i = pt X Y 0 i := rfl
theorem pt_step (X Y : Nat → Int) (k i : Nat) : (if i = k then X k else pt X Y k i) = pt X Y (k + 1) i := by
  unfold pt
  by_cases e : i = k
  · subst e; rw [if_pos rfl, if_pos (by omega)]
  · rw [if_neg e]
    by_cases h : i < k
    · rw [if_pos h, if_pos (by omega)]
    · rw [if_neg h, if_neg (by omega)]
theorem pt_end (X Y : Nat → Int) {n i : Nat} (h : i < n) : pt X Y n i = X i := if_pos h
def dg (z : Nat → Int) : Nat → Int := fun i => z (7 * i)
end Pd
set_option maxRecDepth 10000 in
set_option maxHeartbeats 1000000 in
theorem pdiag_any (z : Nat → Int) (w : World) :
  Calls Tryz.prog 109 #[.agg (mvals 6 6 z).toArray] w fun e w' => e = .returned (.agg (vals 6 (dg z)).toArray) ∧ Below w.heap.size w w' := by
 have r0 := ((mrow_new w 6 6 z).alloc (.cells (vals 6 (fun _ => 0)).toArray 180)).alloc (.cells (vals 6 (fun _ => 0)).toArray 180)
 have q0 := (crow_new1 w (.cells (mvals 6 6 z).toArray 41) 180 (vals 6 (fun _ => 0))).alloc (.cells (vals 6 (fun _ => 0)).toArray 180)
 have o0 := crow_new2 w (.cells (mvals 6 6 z).toArray 41) (.cells (vals 6 (fun _ => 0)).toArray 180) 180 (vals 6 (fun _ => 0))
 have B0 : Below w.heap.size w (((w.alloc (.cells (mvals 6 6 z).toArray 41)).alloc (.cells (vals 6 (fun _ => 0)).toArray 180)).alloc (.cells (vals 6 (fun _ => 0)).toArray 180)) := below_al (below_al (below_al (Below.refl _ _) _) _) _
 obtain ⟨W, hW⟩ : ∃ W, W = ((w.alloc (.cells (mvals 6 6 z).toArray 41)).alloc (.cells (vals 6 (fun _ => 0)).toArray 180)).alloc (.cells (vals 6 (fun _ => 0)).toArray 180) := ⟨_, rfl⟩
 rw [← hW] at r0 q0 o0 B0
 have HW := hide hW
 clear hW
 go_enter Tryz.func109, Tryz.ntmps109
 go_wp2_with (first | (rw [Pd.zero6, Pd.zero6, ← HW.out]) | (rw [Pd.zero6, ← HW.out]) | (rw [← HW.out]) | fail)
 go_loopw [5] (fun i wr => ∃ k : Nat, k ≤ 6 ∧ i = .int .i64 (k : Int) ∧ MRow wr w.heap.size 6 6 z ∧ PRow wr (w.heap.size + 1) (fun _ => 0) ∧ PRow wr (w.heap.size + 1 + 1) (pt (dg z) (fun _ => 0) k) ∧ Below w.heap.size w wr) (fun i _ => 6 - (intOf i).toNat)
 case atStart => exact ⟨0, by omega, rfl, r0, q0, PRow.congr o0 (fun i _ => pt_zero (dg z) (fun _ => 0) i), B0⟩
 case round =>
  obtain ⟨k, hk, rfl, r1, q1, o1, B1⟩ := hrel
  by_cases h : k < 6
  ·rcases (by omega : k = 0 ∨ k = 1 ∨ k = 2 ∨ k = 3 ∨ k = 4 ∨ k = 5) with rfl | rfl | rfl | rfl | rfl | rfl
   ·have cz := r1.cell (k := 0) (o := 2) (by omega) rfl
    have fz := CRow.free o1 0
    have co := PRow.x o1 (k := 0) (by omega) rfl
    go_wp2
    go_roundw
    case rel => exact ⟨1, by omega, rfl, r1.other _ (by show w.heap.size ≠ w.heap.size + 1 + 1; omega), CRow.other q1 _ (by show w.heap.size + 1 ≠ w.heap.size + 1 + 1; omega), PRow.congr (PRow.setx o1 0 _ rfl) (fun i _ => pt_step (dg z) _ 0 i), B1.trans (St.below_set B1.size (by show w.heap.size ≤ w.heap.size + 1 + 1; omega) _)⟩
    case measure => simp [intOf]
   ·have cz := r1.cell (k := 7) (o := 9) (by omega) rfl
    have fz := CRow.free o1 1
    have co := PRow.x o1 (k := 1) (by omega) rfl
    go_wp2
    go_roundw
    case rel => exact ⟨2, by omega, rfl, r1.other _ (by show w.heap.size ≠ w.heap.size + 1 + 1; omega), CRow.other q1 _ (by show w.heap.size + 1 ≠ w.heap.size + 1 + 1; omega), PRow.congr (PRow.setx o1 1 _ rfl) (fun i _ => pt_step (dg z) _ 1 i), B1.trans (St.below_set B1.size (by show w.heap.size ≤ w.heap.size + 1 + 1; omega) _)⟩
    case measure => simp [intOf]
   ·have cz := r1.cell (k := 14) (o := 16) (by omega) rfl
    have fz := CRow.free o1 2
    have co := PRow.x o1 (k := 2) (by omega) rfl
    go_wp2
    go_roundw
    case rel => exact ⟨3, by omega, rfl, r1.other _ (by show w.heap.size ≠ w.heap.size + 1 + 1; omega), CRow.other q1 _ (by show w.heap.size + 1 ≠ w.heap.size + 1 + 1; omega), PRow.congr (PRow.setx o1 2 _ rfl) (fun i _ => pt_step (dg z) _ 2 i), B1.trans (St.below_set B1.size (by show w.heap.size ≤ w.heap.size + 1 + 1; omega) _)⟩
    case measure => simp [intOf]
   ·have cz := r1.cell (k := 21) (o := 23) (by omega) rfl
    have fz := CRow.free o1 3
    have co := PRow.x o1 (k := 3) (by omega) rfl
    go_wp2
    go_roundw
    case rel => exact ⟨4, by omega, rfl, r1.other _ (by show w.heap.size ≠ w.heap.size + 1 + 1; omega), CRow.other q1 _ (by show w.heap.size + 1 ≠ w.heap.size + 1 + 1; omega), PRow.congr (PRow.setx o1 3 _ rfl) (fun i _ => pt_step (dg z) _ 3 i), B1.trans (St.below_set B1.size (by show w.heap.size ≤ w.heap.size + 1 + 1; omega) _)⟩
    case measure => simp [intOf]
   ·have cz := r1.cell (k := 28) (o := 30) (by omega) rfl
    have fz := CRow.free o1 4
    have co := PRow.x o1 (k := 4) (by omega) rfl
    go_wp2
    go_roundw
    case rel => exact ⟨5, by omega, rfl, r1.other _ (by show w.heap.size ≠ w.heap.size + 1 + 1; omega), CRow.other q1 _ (by show w.heap.size + 1 ≠ w.heap.size + 1 + 1; omega), PRow.congr (PRow.setx o1 4 _ rfl) (fun i _ => pt_step (dg z) _ 4 i), B1.trans (St.below_set B1.size (by show w.heap.size ≤ w.heap.size + 1 + 1; omega) _)⟩
    case measure => simp [intOf]
   ·have cz := r1.cell (k := 35) (o := 37) (by omega) rfl
    have fz := CRow.free o1 5
    have co := PRow.x o1 (k := 5) (by omega) rfl
    go_wp2
    go_roundw
    case rel => exact ⟨6, by omega, rfl, r1.other _ (by show w.heap.size ≠ w.heap.size + 1 + 1; omega), CRow.other q1 _ (by show w.heap.size + 1 ≠ w.heap.size + 1 + 1; omega), PRow.congr (PRow.setx o1 5 _ rfl) (fun i _ => pt_step (dg z) _ 5 i), B1.trans (St.below_set B1.size (by show w.heap.size ≤ w.heap.size + 1 + 1; omega) _)⟩
    case measure => simp [intOf]
  ·obtain rfl : k = 6 := by omega
   have o2 := PRow.congr o1 (fun i hi => pt_end (dg z) _ hi)
   clear o1
   go_wp2_with (first
    | (refine St.wpList_load isPt (by rfl) _ (by rfl) _ _ (by rfl) (by with_reducible exact o2) (vals_len _ _) ?_)
    | (refine St.wpList_store isPt rfl _ _ (by rfl) _ _ _ (by rfl) (by rfl) (by with_reducible exact q1) (vals_len _ _) (vals_len _ _) (one_vals _ _) ?_)
    | fail)
   exact bodyPost_ret (results_1 isPt Tryz.results109 _ _ (w.heap.size + 1) _ rfl (q1.row _) (vals_len _ _)) rfl ⟨rfl, St.below_row B1 (by omega) _⟩
end Go.Proofs.YtdgcnaijndocnaaGreatDoor
namespace Go.Proofs.YtdgcnaijndocnaaGreatDoor
open Go.RowKit Vc St Mt Cm Pd Pr
attribute [local go_sem ↓] Go.wp_at_zero Go.wp_at_succ
namespace Pd
theorem all36 (g : Nat) (w : World) : (Instr.sliceAt 30 (.pointer (some ⟨g, 2, none⟩)) none none none).run Tryz.prog w = .ok (.slice (some ⟨g, 2, none⟩) 36 36) w := by kernel_rfl
theorem allPt (g : Nat) (w : World) : (Instr.sliceAt 180 (.pointer (some ⟨g, 0, none⟩)) none none none).run Tryz.prog w = .ok (.slice (some ⟨g, 0, none⟩) 6 6) w := by kernel_rfl
theorem all6 (g : Nat) (w : World) : (Instr.sliceAt 31 (.pointer (some ⟨g, 0, none⟩)) none none none).run Tryz.prog w = .ok (.slice (some ⟨g, 0, none⟩) 6 6) w := by kernel_rfl
theorem dg_mz (F : Nat → Nat → Int) {i : Nat} (h : i < 6) : dg (mz 6 6 F) i = F i i := by
  have e := mz_at (F := F) h h
  unfold dg
  rw [show 7 * i = i * 6 + i by omega]; exact e
end Pd
namespace Pd
end Pd
namespace Pd
def SpreadV (F : Nat → Nat → Int) : Prop := ∀ i, i < 6 → 0 ≤ F i i ∧ ∀ j, j < 6 → InV (F i j)
theorem in36 {F : Nat → Nat → Int} : (∀ k, k < 36 → InV (mz 6 6 F k)) ↔ ∀ i j, i < 6 → j < 6 → InV (F i j) := by
  refine ⟨fun h i j hi hj => ?_, fun h k hk => ?_⟩
  · have e := mz_at (F := F) hi hj
    rw [← e]; exact h _ (by omega)
  · have e := mz_at (n := 6) (c := 6) (F := F) (i := k / 6) (j := k % 6) (by omega) (by omega)
    rw [show k / 6 * 6 + k % 6 = k by omega] at e
    rw [e]; exact h _ _ (by omega) (by omega)
theorem MRow.all {w : World} {g : Nat} {r c : Int} {z : Nat → Int} (h : MRow w g r c z) : Sl w (some ⟨g, 2, none⟩) 36 36 z := by
  have e := h.sl (p := 0) (n := 36) (ca := 36) (o := 2) (by omega) (by omega) (by omega) rfl
  exact e.congr (fun k _ => by rw [Nat.zero_add])
end Pd
set_option maxRecDepth 10000 in
set_option maxHeartbeats 1000000 in
theorem pspread_any (t : Bool) (F : Nat → Nat → Int) (w : World) (ht : t = true ↔ SpreadV F) :
  Calls Tryz.prog 52 #[.agg (mvals 6 6 (mz 6 6 F)).toArray] w fun e w' => e = .returned (.bool t) ∧ Below w.heap.size w w' := by
 have r0 := mrow_new w 6 6 (mz 6 6 F)
 have B0 := below_al (Below.refl _ w) (.cells (mvals 6 6 (mz 6 6 F)).toArray 41)
 obtain ⟨W, hW⟩ : ∃ W, W = w.alloc (.cells (mvals 6 6 (mz 6 6 F)).toArray 41) := ⟨_, rfl⟩
 rw [← hW] at r0 B0
 have H := hide (pdiag_any (mz 6 6 F) W)
 have hA := in36 (F := F)
 have hD : (∀ i, i < 6 → dg (mz 6 6 F) i = F i i) := fun i hi => dg_mz F hi
 obtain ⟨z, hz⟩ : ∃ z, z = mz 6 6 F := ⟨_, rfl⟩
 rw [← hz] at r0 hW H hA hD ⊢
 obtain ⟨d, hd⟩ : ∃ d, d = dg z := ⟨_, rfl⟩
 rw [← hd] at H hD
 have HW := hide hW
 have s1 := fun W => all36 w.heap.size W
 by_cases hb : ∀ k, k < 36 → InV (z k)
 ·have HB := hide (fun W (h : Sl W (some ⟨w.heap.size, 2, none⟩) 36 36 z) => pbounded_any true _ 36 36 z W h ⟨fun _ => hb, fun _ => rfl⟩)
  have hq : t = true ↔ allIn 0 4611686018427387903 d 6 := by
   rw [ht]
   refine ⟨fun q k hk => ?_, fun q i hi => ?_⟩
   ·rw [hD k hk]; exact ⟨(q k hk).1, ((q k hk).2 k hk).2⟩
   ·have e := q i hi
    rw [hD i hi] at e
    exact ⟨e.1, fun j hj => hA.1 hb i j hi hj⟩
  have HQ := hide (fun b W (h : Sl W (some ⟨b, 0, none⟩) 6 6 d) => pwithin_any t 0 4611686018427387903 _ 6 6 d W h hq)
  clear hW hz hd ht hb hA hD hq
  go_enter Tryz.func52, Tryz.ntmps52
  go_wp2_with (first
   | (rw [← HW.out]; refine Hk.loadM _ (by with_reducible rfl) _ _ _ _ (by rfl) (by with_reducible exact r0) (by kernel_rfl) ?_)
   | fail)
  refine H.out.mono ?_
  rintro e w1 ⟨rfl, k1⟩
  have r1 := r0.keep k1
  have B1 := below_tr B0 k1
  clear HW H r0 B0 k1
  go_wp2_with (first
   | (rw [Pd.zero6]; refine St.wpList_storeNew isPt rfl _ _ (by rfl) _ _ _ (by rfl) (by rfl) (vals_len _ _) (vals_len _ _) (one_vals _ _) ?_; intro w2 n2 k2; have r2 := r1.keep k2; have B2 := below_tr B1 k2; have s2 := fun W => allPt w1.heap.size W; clear r1 B1 k2)
   | fail)
  refine (HB.out _ (MRow.all r2)).mono ?_
  rintro e w3 ⟨rfl, rfl⟩
  go_wp2_with fail
  refine (HQ.out _ _ (PRow.sl n2)).mono ?_
  rintro e w4 ⟨rfl, rfl⟩
  go_wp2
  go_ret
  exact ⟨rfl, B2⟩
 ·have e : t = false := by
   cases t with
   | false => rfl
   | true => exact absurd (hA.2 fun i j hi hj => ((ht.1 rfl) i hi).2 j hj) hb
  subst e
  have HB := hide (fun W (h : Sl W (some ⟨w.heap.size, 2, none⟩) 36 36 z) => pbounded_any false _ 36 36 z W h ⟨fun q => (by cases q), fun q => absurd q hb⟩)
  clear hW hz hd ht hb hA hD
  go_enter Tryz.func52, Tryz.ntmps52
  go_wp2_with (first
   | (rw [← HW.out]; refine Hk.loadM _ (by with_reducible rfl) _ _ _ _ (by rfl) (by with_reducible exact r0) (by kernel_rfl) ?_)
   | fail)
  refine H.out.mono ?_
  rintro e w1 ⟨rfl, k1⟩
  have r1 := r0.keep k1
  have B1 := below_tr B0 k1
  clear HW H r0 B0 k1
  go_wp2_with (first
   | (rw [Pd.zero6]; refine St.wpList_storeNew isPt rfl _ _ (by rfl) _ _ _ (by rfl) (by rfl) (vals_len _ _) (vals_len _ _) (one_vals _ _) ?_; intro w2 n2 k2; have r2 := r1.keep k2; have B2 := below_tr B1 k2; clear r1 B1 k2)
   | fail)
  refine (HB.out _ (MRow.all r2)).mono ?_
  rintro e w3 ⟨rfl, rfl⟩
  go_wp2
  go_ret
  exact ⟨rfl, B2⟩
namespace Pd
def ckR (b : Bool) : Value := if b then .nilIface else .iface 70 (.int .i64 1)
end Pd
set_option maxRecDepth 10000 in
set_option maxHeartbeats 1000000 in
theorem pcheck_no (X : Nat → Int) (r c : Int) (z : Nat → Int) (w : World) (h : ¬ (r = 6 ∧ c = 6)) :
    Calls Tryz.prog 17 #[.agg (svals X r c z).toArray] w fun e w' => e = .returned (.iface 70 (.int .i64 1)) ∧ Below w.heap.size w w' := by
  have r0 := crow_new w 43 (svals X r c z)
  have B0 := below_al (Below.refl _ w) (.cells (svals X r c z).toArray 43)
  obtain ⟨W, hW⟩ : ∃ W, W = w.alloc (.cells (svals X r c z).toArray 43) := ⟨_, rfl⟩
  rw [← hW] at r0 B0
  have HW := hide hW
  have H := hide (fun W => pisSix_no r c z W h)
  have m0 := SRow.rm r0
  clear hW h
  go_enter Tryz.func17, Tryz.ntmps17
  go_wp2_with (first
    | (rw [← HW.out]; refine St.wpList_part isMt (by rfl) _ (by rfl) _ _ _ (by rfl) (by with_reducible exact m0) (mvals_len _ _ _) ?_)
    | fail)
  refine (H.out _).mono ?_
  rintro e w1 ⟨rfl, k1⟩
  go_wp2
  go_ret
  exact ⟨rfl, below_tr B0 k1⟩
set_option maxRecDepth 10000 in
set_option maxHeartbeats 2000000 in
theorem pcheck_six (X : Nat → Int) (F : Nat → Nat → Int) (b : Bool) (w : World) (hb : b = true ↔ MayV X F) :
  Calls Tryz.prog 17 #[.agg (svals X 6 6 (mz 6 6 F)).toArray] w fun e w' => e = .returned (ckR b) ∧ Below w.heap.size w w' := by
 have r0 := crow_new w 43 (svals X 6 6 (mz 6 6 F))
 have B0 := below_al (Below.refl _ w) (.cells (svals X 6 6 (mz 6 6 F)).toArray 43)
 obtain ⟨W, hW⟩ : ∃ W, W = w.alloc (.cells (svals X 6 6 (mz 6 6 F)).toArray 43) := ⟨_, rfl⟩
 rw [← hW] at r0 B0
 have H := hide (fun W => pisSix_yes (mz 6 6 F) W)
 have s1 := fun W => all6 w.heap.size W
 by_cases h1 : ∀ i j, i < 6 → j < 6 → F i j = F j i
 ·have H1 := hide (fun W => pturned_any true F W ⟨fun _ => h1, fun _ => rfl⟩)
  by_cases h2 : SpreadV F
  ·have H2 := hide (fun W => pspread_any true F W ⟨fun _ => h2, fun _ => rfl⟩)
   have h3 : b = true ↔ ∀ k, k < 6 → InV (X k) := by
    rw [hb]
    exact ⟨fun q k hk => (q k hk).1, fun q i hi => ⟨q i hi, (h2 i hi).1, fun j hj => ⟨(h2 i hi).2 j hj, h1 i j hi hj⟩⟩⟩
   have H3 := hide (fun W (h : Sl W (some ⟨w.heap.size, 0, none⟩) 6 6 X) => pbounded_any b _ 6 6 X W h h3)
   obtain ⟨z, hz⟩ : ∃ z, z = mz 6 6 F := ⟨_, rfl⟩
   rw [← hz] at r0 hW H H1 H2 ⊢
   have HW := hide hW
   clear hW hz h1 h2 h3 hb
   have m0 := SRow.rm r0
   go_enter Tryz.func17, Tryz.ntmps17
   go_wp2_with (first
    | (rw [← HW.out]; refine St.wpList_part isMt (by rfl) _ (by rfl) _ _ _ (by rfl) (by with_reducible exact m0) (mvals_len _ _ _) ?_)
    | fail)
   refine (H.out _).mono ?_
   rintro e w1 ⟨rfl, k1⟩
   have r1 := CRow.keep r0 k1
   have B1 := below_tr B0 k1
   have m1 := SRow.rm r1
   clear HW H r0 B0 k1 m0
   go_wp2_with (first
    | (refine St.wpList_part isMt (by rfl) _ (by rfl) _ _ _ (by rfl) (by with_reducible exact m1) (mvals_len _ _ _) ?_)
    | fail)
   refine (H1.out _).mono ?_
   rintro e w2 ⟨rfl, k2⟩
   have r2 := CRow.keep r1 k2
   have B2 := below_tr B1 k2
   have m2 := SRow.rm r2
   clear H1 r1 B1 k2 m1
   go_wp2_with (first
    | (refine St.wpList_part isMt (by rfl) _ (by rfl) _ _ _ (by rfl) (by with_reducible exact m2) (mvals_len _ _ _) ?_)
    | fail)
   refine (H2.out _).mono ?_
   rintro e w3 ⟨rfl, k3⟩
   have r3 := CRow.keep r2 k3
   have B3 := below_tr B2 k3
   clear H2 r2 B2 k3 m2
   go_wp2_with fail
   refine (H3.out _ (SRow.sl r3)).mono ?_
   rintro e w4 ⟨rfl, rfl⟩
   cases b with
   | true =>
    go_wp2
    go_ret
    exact ⟨rfl, B3⟩
   | false =>
    go_wp2
    go_ret
    exact ⟨rfl, B3⟩
  ·have H2 := hide (fun W => pspread_any false F W ⟨fun q => (by cases q), fun q => absurd q h2⟩)
   have e : b = false := by
    cases b with
    | false => rfl
    | true => exact absurd (fun i hi => ⟨(hb.1 rfl i hi).2.1, fun j hj => ((hb.1 rfl i hi).2.2 j hj).1⟩) h2
   subst e
   obtain ⟨z, hz⟩ : ∃ z, z = mz 6 6 F := ⟨_, rfl⟩
   rw [← hz] at r0 hW H H1 H2 ⊢
   have HW := hide hW
   clear hW hz h1 h2 hb
   have m0 := SRow.rm r0
   go_enter Tryz.func17, Tryz.ntmps17
   go_wp2_with (first
    | (rw [← HW.out]; refine St.wpList_part isMt (by rfl) _ (by rfl) _ _ _ (by rfl) (by with_reducible exact m0) (mvals_len _ _ _) ?_)
    | fail)
   refine (H.out _).mono ?_
   rintro e w1 ⟨rfl, k1⟩
   have r1 := CRow.keep r0 k1
   have B1 := below_tr B0 k1
   have m1 := SRow.rm r1
   clear HW H r0 B0 k1 m0
   go_wp2_with (first
    | (refine St.wpList_part isMt (by rfl) _ (by rfl) _ _ _ (by rfl) (by with_reducible exact m1) (mvals_len _ _ _) ?_)
    | fail)
   refine (H1.out _).mono ?_
   rintro e w2 ⟨rfl, k2⟩
   have r2 := CRow.keep r1 k2
   have B2 := below_tr B1 k2
   have m2 := SRow.rm r2
   clear H1 r1 B1 k2 m1
   go_wp2_with (first
    | (refine St.wpList_part isMt (by rfl) _ (by rfl) _ _ _ (by rfl) (by with_reducible exact m2) (mvals_len _ _ _) ?_)
    | fail)
   refine (H2.out _).mono ?_
   rintro e w3 ⟨rfl, k3⟩
   go_wp2
   go_ret
   exact ⟨rfl, below_tr B2 k3⟩
 ·have H1 := hide (fun W => pturned_any false F W ⟨fun q => (by cases q), fun q => absurd q h1⟩)
  have e : b = false := by
   cases b with
   | false => rfl
   | true => exact absurd (fun i j hi hj => ((hb.1 rfl i hi).2.2 j hj).2) h1
  subst e
  obtain ⟨z, hz⟩ : ∃ z, z = mz 6 6 F := ⟨_, rfl⟩
  rw [← hz] at r0 hW H H1 ⊢
  have HW := hide hW
  clear hW hz h1 hb
  have m0 := SRow.rm r0
  go_enter Tryz.func17, Tryz.ntmps17
  go_wp2_with (first
   | (rw [← HW.out]; refine St.wpList_part isMt (by rfl) _ (by rfl) _ _ _ (by rfl) (by with_reducible exact m0) (mvals_len _ _ _) ?_)
   | fail)
  refine (H.out _).mono ?_
  rintro e w1 ⟨rfl, k1⟩
  have r1 := CRow.keep r0 k1
  have B1 := below_tr B0 k1
  have m1 := SRow.rm r1
  clear HW H r0 B0 k1 m0
  go_wp2_with (first
   | (refine St.wpList_part isMt (by rfl) _ (by rfl) _ _ _ (by rfl) (by with_reducible exact m1) (mvals_len _ _ _) ?_)
   | fail)
  refine (H1.out _).mono ?_
  rintro e w2 ⟨rfl, k2⟩
  go_wp2
  go_ret
  exact ⟨rfl, below_tr B1 k2⟩
end Go.Proofs.YtdgcnaijndocnaaGreatDoor
