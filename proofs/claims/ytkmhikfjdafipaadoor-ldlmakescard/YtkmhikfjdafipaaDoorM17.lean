/-
  Matrices (mat): two that are the same compared; a matrix into a new variable; what must come whatever the input is (sure of the laws of layer 8).
-/
import Derived.Test.YtkmhikfjdafipaaDoorM14
import Derived.Test.YtkmhikfjdafipaaDoorMtI
import Derived.ChangeKeysEq
import Derived.Test.YtkmhikfjdafipaaDoorM2
set_option linter.unusedSimpArgs false
set_option linter.unusedVariables false
namespace Go.Proofs.YtkmhikfjdafipaaDoor
open Go.RowKit Vc Mt Qn Dt

namespace Mt
theorem fieldsM : (Tryd.prog.fieldsOf 34).toList.map (fun f => (f.name, f.type, f.offset)) = [("Rows", 3, 0), ("Cols", 3, 1), ("A", 25, 2)] := by kernel_rfl
theorem structM : Tryd.prog.underlying 34 = some (.struct (Tryd.prog.fieldsOf 34)) := by kernel_rfl
theorem stoodM : Tryd.prog.stoodInHeld 34 = false := by kernel_rfl
theorem guardM : Tryd.prog.eqGuardType Tryd.prog.depth 34 = false := by kernel_rfl
theorem arrM36 : Tryd.prog.underlying 25 = some (.array 36 2) := by kernel_rfl
theorem cellsI64 : Tryd.prog.cellsOf 2 = 1 := by kernel_rfl
theorem sizeA36 (w : World) : (sizeOf 25).run Tryd.prog w = .ok 36 w := by
  have h : (Tryd.prog.info? 25).map (·.size) = some 36 := by kernel_rfl
  cases hq : Tryd.prog.info? 25 with
  | none => rw [hq] at h; cases h
  | some i =>
    have hi : i.size = 36 := by rw [hq] at h; simpa using h
    simp [sizeOf, typeInfo, hq, hi]

theorem take_mvals (r c : Int) (z : Nat → Int) : List.take 36 (List.drop 2 (mvals r c z)) = vals 36 z := by
  have h : (vals 36 z).length = 36 := vals_len 36 z
  show List.take 36 (vals 36 z) = vals 36 z
  exact List.take_of_length_le (by omega)

theorem run_part_int (w : World) (xs : Array Value) (o : Nat) (v : Int) (h : xs[o]? = some (.int .i64 v)) : (Go.part 3 xs o).run Tryd.prog w = .ok (.int .i64 v) w := by
  simp [Go.part, isAgg, run_underlying Tryd.underlying3, h]
theorem run_part_i64 (w : World) (xs : Array Value) (o : Nat) (v : Int) (h : xs[o]? = some (.int .i64 v)) : (Go.part 2 xs o).run Tryd.prog w = .ok (.int .i64 v) w := by
  simp [Go.part, isAgg, run_underlying Tryd.underlying2, h]
theorem run_part_A (w : World) (r c : Int) (z : Nat → Int) : (Go.part 25 (mvals r c z).toArray 2).run Tryd.prog w = .ok (.agg (vals 36 z).toArray) w := by
  simp [Go.part, isAgg, run_underlying arrM36, sizeA36]
  exact take_mvals r c z

theorem run_items36 (z : Nat → Int) (w : World) (d : Nat) : ∀ is : List Nat, (∀ i ∈ is, i < 36) → (Op.eqItems (d + 1) 2 1 (vals 36 z).toArray (vals 36 z).toArray is).run Tryd.prog w = .ok true w
  | [], _ => by simp [Op.eqItems]
  | i :: is, h => by
    have hi : i < 36 := h i (by simp)
    have px := run_part_i64 w (vals 36 z).toArray (i * 1) (z i) (by rw [List.getElem?_toArray, Nat.mul_one]; exact vals_at hi)
    have pe : (Op.equalIn (d + 1) 2 (.int .i64 (z i)) (.int .i64 (z i))).run Tryd.prog w = .ok true w := by
      rw [run_equalIn_int w d 2 .i64 .i64 _ _ Tryd.underlying2]; simp
    simp only [Op.eqItems, Sem.run_bind, px, pe, Result.andThen_ok, Bool.not_true, Bool.false_eq_true, if_false]
    exact run_items36 z w d is fun j hj => h j (by simp [hj])

theorem list3 {α β : Type} {g : α → β} : ∀ {fs : List α} {a b c : β}, fs.map g = [a, b, c] → ∃ x y z, fs = [x, y, z] ∧ g x = a ∧ g y = b ∧ g z = c
  | [], a, b, c, h => by simp at h
  | [x], a, b, c, h => by simp at h
  | [x, y], a, b, c, h => by simp at h
  | [x, y, z], a, b, c, h => by simp at h; exact ⟨x, y, z, rfl, h.1, h.2.1, h.2.2⟩
  | x :: y :: z :: u :: r, a, b, c, h => by simp at h

theorem eqFields_step (d : Nat) (xs ys : Array Value) (f : Field) (fs : List Field) (w : World) (v u : Value) (hn : f.name ≠ "_") (p1 : (Go.part f.type xs f.offset).run Tryd.prog w = .ok v w) (p2 : (Go.part f.type ys f.offset).run Tryd.prog w = .ok u w) (pe : (Op.equalIn d f.type v u).run Tryd.prog w = .ok true w) :
    (Op.eqFields d xs ys (f :: fs)).run Tryd.prog w = (Op.eqFields d xs ys fs).run Tryd.prog w := by
  rw [Op.eqFields, if_pos hn]
  simp only [Sem.run_bind, p1, p2, pe, Result.andThen_ok, Bool.not_true, Bool.false_eq_true, if_false]

theorem eqFields_nil (d : Nat) (xs ys : Array Value) (w : World) : (Op.eqFields d xs ys []).run Tryd.prog w = .ok true w := by simp [Op.eqFields]

set_option maxRecDepth 20000 in
theorem run_same (r c : Int) (z : Nat → Int) (w : World) : (Op.equalIn 10000 34 (.agg (mvals r c z).toArray) (.agg (mvals r c z).toArray)).run Tryd.prog w = .ok true w := by
  obtain ⟨f0, f1, f2, hf, h0, h1, h2⟩ := list3 fieldsM
  injection h0 with n0 h0
  injection h0 with t0 o0
  injection h1 with n1 h1
  injection h1 with t1 o1
  injection h2 with n2 h2
  injection h2 with t2 o2
  rw [run_equalIn_struct w 9999 34 _ _ structM stoodM, hf]
  clear hf
  obtain ⟨i0, hi, _, _, _⟩ := info_parts infoI64
  have p0 := run_part_int w (mvals r c z).toArray 0 r (by simp [mvals])
  have p1 := run_part_int w (mvals r c z).toArray 1 c (by simp [mvals])
  have p2 := run_part_A w r c z
  have q0 : (Op.equalIn 9999 3 (.int .i64 r) (.int .i64 r)).run Tryd.prog w = .ok true w := by rw [run_equalIn_int w 9998 3 .i64 .i64 _ _ Tryd.underlying3]; simp
  have q1 : (Op.equalIn 9999 3 (.int .i64 c) (.int .i64 c)).run Tryd.prog w = .ok true w := by rw [run_equalIn_int w 9998 3 .i64 .i64 _ _ Tryd.underlying3]; simp
  have q2 : (Op.equalIn 9999 25 (.agg (vals 36 z).toArray) (.agg (vals 36 z).toArray)).run Tryd.prog w = .ok true w := by
    rw [run_equalIn_array w 9998 (vals 36 z).toArray (vals 36 z).toArray arrM36 hi, cellsI64]
    exact run_items36 z w 9997 _ (fun i hi => by simpa using hi)
  rw [eqFields_step 9999 _ _ f0 _ w _ _ (by rw [n0]; simp) (by rw [t0, o0]; exact p0) (by rw [t0, o0]; exact p0) (by rw [t0]; exact q0)]
  rw [eqFields_step 9999 _ _ f1 _ w _ _ (by rw [n1]; simp) (by rw [t1, o1]; exact p1) (by rw [t1, o1]; exact p1) (by rw [t1]; exact q1)]
  rw [eqFields_step 9999 _ _ f2 _ w _ _ (by rw [n2]; simp) (by rw [t2, o2]; exact p2) (by rw [t2, o2]; exact p2) (by rw [t2]; exact q2)]
  exact eqFields_nil _ _ _ w

/-- Two that are the same are compared. -/
theorem wpList_eqM {ops : Array Oper} {rest : List Oper} {o : Oper} {a : Act} {w : World} {Q : Exit → Act → World → Prop} (hw : Region.wanted o (yielded ops a.tmps) = true) (x y : Operand) (u : TypeId) (ho : o.op = .binOp .eql 34 x y u)
    (r c : Int) (z : Nat → Int) (hx : a.eval x = .agg (mvals r c z).toArray) (hy : a.eval y = .agg (mvals r c z).toArray)
    (h : wpList Tryd.prog ops Q rest (a.put o.dst (.bool true)) w) : wpList Tryd.prog ops Q (o :: rest) a w :=
  wpList_wanted hw fun _ hK => by
    unfold Oper.wp execOp
    simp only [ho, hx, hy, Sem.run_bind, run_eqGuard_agg w _ _ x y _ _ guardM, Result.andThen_ok, run_eql_struct, run_same]
    exact hK _ _ h
theorem wpList_neM {ops : Array Oper} {rest : List Oper} {o : Oper} {a : Act} {w : World} {Q : Exit → Act → World → Prop} (hw : Region.wanted o (yielded ops a.tmps) = true) (x y : Operand) (u : TypeId) (ho : o.op = .binOp .neq 34 x y u)
    (r c : Int) (z : Nat → Int) (hx : a.eval x = .agg (mvals r c z).toArray) (hy : a.eval y = .agg (mvals r c z).toArray)
    (h : wpList Tryd.prog ops Q rest (a.put o.dst (.bool false)) w) : wpList Tryd.prog ops Q (o :: rest) a w :=
  wpList_wanted hw fun _ hK => by
    unfold Oper.wp execOp
    simp only [ho, hx, hy, Sem.run_bind, run_eqGuard_agg w _ _ x y _ _ guardM, Result.andThen_ok, run_neq_struct, run_same]
    exact hK _ _ h

theorem wpList_build0g {ops : Array Oper} {rest : List Oper} {o : Oper} {a : Act} {w : World} {Q : Exit → Act → World → Prop} (hw : Region.wanted o (yielded ops a.tmps) = true) (ho : o.op = .build 34 #[])
    (h : wpList Tryd.prog ops Q rest (a.put o.dst (.agg (mvals 0 0 (fun _ => 0)).toArray)) w) : wpList Tryd.prog ops Q (o :: rest) a w :=
  wpList_wanted hw fun _ hK => by
    unfold Oper.wp execOp
    have em : ((#[] : Array (Nat × Operand)).map fun (i, x) => (i, a.eval x)).toList = [] := by simp
    simp only [ho, Sem.run_bind, run_build w 34 _ _ (by rw [em]; exact built0), Result.andThen_ok]
    exact hK _ _ h

/-- A matrix into a new variable. -/
theorem wpList_storeNew {ops : Array Oper} {rest : List Oper} {o : Oper} {a : Act} {Q : Exit → Act → World → Prop} (hgd : o.guard = none) (x y : Operand) (ho : o.op = .store 34 x y) (w2 : World)
    (r c : Int) (z : Nat → Int) (hx : a.eval x = .pointer (some ⟨w2.heap.size, 0, none⟩)) (hy : a.eval y = .agg (mvals r c z).toArray)
    (h : ∀ w3, MRow w3 w2.heap.size r c z → Below w2.heap.size w2 w3 → wpList Tryd.prog ops Q rest (a.put o.dst undef) w3) : wpList Tryd.prog ops Q (o :: rest) a (w2.alloc (.cells (mvals 0 0 (fun _ => 0)).toArray 34)) :=
  wpList_storeM hgd x y ho _ _ _ _ _ _ _ hx hy (mrow_new w2 0 0 (fun _ => 0)) (h _ ((mrow_new w2 0 0 (fun _ => 0)).row _ _ _) (below_row (below_al (Below.refl _ _) _) (Nat.le_refl _) _))

/-- The matrix of sure. -/
def sureF : Nat → Nat → Int := fun i j => if i = 0 then (if j = 0 then 1048576 else 2097152) else (if j = 0 then 3145728 else 4194304)
theorem sureF_bd : B2 sureF := by
  intro i j
  unfold sureF
  split <;> split <;> omega
theorem sl_du {w : World} {x : Addr} {a b : Int} (h : w.cell? x = some (.int .i64 a)) (h2 : w.cell? (x.add 1) = some (.int .i64 b)) : Sl w (some x) 2 2 (fun k => if k = 0 then a else b) :=
  ⟨Nat.le_refl _, by omega, fun k hk => ⟨x, rfl, by
    match k, hk with
    | 0, _ => exact h
    | 1, _ => exact h2⟩⟩
end Mt

theorem sure_of (w : World) (x y0 y1 : Addr) (c0 : w.cell? x = some (.slice (some y0) 2 2)) (c1 : w.cell? (x.add 1) = some (.slice (some y1) 2 2)) (d0 : w.cell? y0 = some (.int .i64 1048576)) (d1 : w.cell? (y0.add 1) = some (.int .i64 2097152)) (d2 : w.cell? y1 = some (.int .i64 3145728)) (d3 : w.cell? (y1.add 1) = some (.int .i64 4194304)) :
    Calls Tryd.prog 18 #[.slice (some x) 2 2] w fun e w' => e = .returned (.tuple #[.agg (mvals ((2 : Nat) : Int) ((2 : Nat) : Int) (mz 2 2 sureF)).toArray, .nilIface]) ∧ Below w.heap.size w w' := by
  refine mof_any 2 2 (some x) 2 (fun j => if j = 0 then some y0 else some y1) (fun _ => 2) sureF w (by omega) (by omega) (by omega) (by omega) ⟨Nat.le_refl _, by omega, fun j hj => ⟨x, rfl, ?_⟩⟩ (fun k hk => ?_)
  · match j, hj with
    | 0, _ => exact c0
    | 1, _ => exact c1
  · match k, hk with
    | 0, _ => exact (sl_du d0 d1).congr (fun j hj => by unfold sureF; simp)
    | 1, _ => exact (sl_du d2 d3).congr (fun j hj => by unfold sureF; simp)

end Go.Proofs.YtkmhikfjdafipaaDoor

/-
  Matrices and factors compared, whatever they are.
-/
set_option linter.unusedSimpArgs false
set_option linter.unusedVariables false
namespace Go.Proofs.YtkmhikfjdafipaaDoor
open Go.RowKit Vc Mt St Ld
namespace Ld

/-- The first n numbers are the same. -/
def eqz (n : Nat) (z y : Nat → Int) : Bool := (List.range n).all fun i => z i == y i
theorem eqz_iff {n : Nat} {z y : Nat → Int} : eqz n z y = true ↔ ∀ k, k < n → z k = y k := by
  unfold eqz; rw [List.all_eq_true]
  exact ⟨fun h k hk => by simpa using h k (List.mem_range.2 hk), fun h k hk => by simpa using h k (List.mem_range.1 hk)⟩

theorem run_itemsG (n : Nat) (z y : Nat → Int) (w : World) (d : Nat) : ∀ is : List Nat, (∀ i ∈ is, i < n) → (Op.eqItems (d + 1) 2 1 (vals n z).toArray (vals n y).toArray is).run Tryd.prog w = .ok (is.all fun i => z i == y i) w
  | [], _ => by simp [Op.eqItems]
  | i :: is, h => by
    have hi : i < n := h i (by simp)
    have px := run_part_i64 w (vals n z).toArray (i * 1) (z i) (by rw [List.getElem?_toArray, Nat.mul_one]; exact vals_at hi)
    have py := run_part_i64 w (vals n y).toArray (i * 1) (y i) (by rw [List.getElem?_toArray, Nat.mul_one]; exact vals_at hi)
    have pe := run_equalIn_int w d 2 .i64 .i64 (z i) (y i) Tryd.underlying2
    have ih := run_itemsG n z y w d is fun j hj => h j (by simp [hj])
    simp only [Op.eqItems, Sem.run_bind, px, py, pe, Result.andThen_ok]
    cases hb : (z i == y i) with
    | true => simp [ih, hb]
    | false => simp [hb]

theorem eqFields_stepG (d : Nat) (xs ys : Array Value) (f : Field) (fs : List Field) (w : World) (v u : Value) (b c : Bool) (hn : f.name ≠ "_") (p1 : (Go.part f.type xs f.offset).run Tryd.prog w = .ok v w) (p2 : (Go.part f.type ys f.offset).run Tryd.prog w = .ok u w) (pe : (Op.equalIn d f.type v u).run Tryd.prog w = .ok b w)
    (h : (Op.eqFields d xs ys fs).run Tryd.prog w = .ok c w) : (Op.eqFields d xs ys (f :: fs)).run Tryd.prog w = .ok (b && c) w := by
  rw [Op.eqFields, if_pos hn]
  simp only [Sem.run_bind, p1, p2, pe, Result.andThen_ok]
  cases b with
  | true => simpa using h
  | false => simp

/-- Are two matrices the same? -/
def eqM (r c : Int) (z : Nat → Int) (r' c' : Int) (z' : Nat → Int) : Bool := (r == r') && ((c == c') && (eqz 36 z z' && true))
theorem eqM_iff {r c r' c' : Int} {z z' : Nat → Int} : eqM r c z r' c' z' = true ↔ r = r' ∧ c = c' ∧ ∀ k, k < 36 → z k = z' k := by
  unfold eqM; simp [eqz_iff]

set_option maxRecDepth 20000 in
theorem run_eqM (r c : Int) (z : Nat → Int) (r' c' : Int) (z' : Nat → Int) (w : World) : (Op.equalIn 10000 34 (.agg (mvals r c z).toArray) (.agg (mvals r' c' z').toArray)).run Tryd.prog w = .ok (eqM r c z r' c' z') w := by
  obtain ⟨f0, f1, f2, hf, h0, h1, h2⟩ := list3 fieldsM
  injection h0 with n0 h0
  injection h0 with t0 o0
  injection h1 with n1 h1
  injection h1 with t1 o1
  injection h2 with n2 h2
  injection h2 with t2 o2
  rw [run_equalIn_struct w 9999 34 _ _ structM stoodM, hf]
  clear hf
  obtain ⟨i0, hi, _, _, _⟩ := info_parts infoI64
  have q0 := run_equalIn_int w 9998 3 .i64 .i64 r r' Tryd.underlying3
  have q1 := run_equalIn_int w 9998 3 .i64 .i64 c c' Tryd.underlying3
  have q2 : (Op.equalIn 9999 25 (.agg (vals 36 z).toArray) (.agg (vals 36 z').toArray)).run Tryd.prog w = .ok (eqz 36 z z') w := by
    rw [run_equalIn_array w 9998 (vals 36 z).toArray (vals 36 z').toArray arrM36 hi, cellsI64]
    exact run_itemsG 36 z z' w 9997 _ (fun i hi => by simpa using hi)
  exact eqFields_stepG 9999 _ _ f0 _ w _ _ _ _ (by rw [n0]; simp) (by rw [t0, o0]; exact run_part_int w (mvals r c z).toArray 0 r (by simp [mvals])) (by rw [t0, o0]; exact run_part_int w (mvals r' c' z').toArray 0 r' (by simp [mvals])) (by rw [t0]; exact q0)
    (eqFields_stepG 9999 _ _ f1 _ w _ _ _ _ (by rw [n1]; simp) (by rw [t1, o1]; exact run_part_int w (mvals r c z).toArray 1 c (by simp [mvals])) (by rw [t1, o1]; exact run_part_int w (mvals r' c' z').toArray 1 c' (by simp [mvals])) (by rw [t1]; exact q1)
      (eqFields_stepG 9999 _ _ f2 _ w _ _ _ _ (by rw [n2]; simp) (by rw [t2, o2]; exact run_part_A w r c z) (by rw [t2, o2]; exact run_part_A w r' c' z') (by rw [t2]; exact q2) (eqFields_nil _ _ _ w)))

theorem wpList_neG {ops : Array Oper} {rest : List Oper} {o : Oper} {a : Act} {w : World} {Q : Exit → Act → World → Prop} (hw : Region.wanted o (yielded ops a.tmps) = true) (x y : Operand) (u : TypeId) (ho : o.op = .binOp .neq 34 x y u)
    (r c : Int) (z : Nat → Int) (r' c' : Int) (z' : Nat → Int) (b : Bool) (hb : (!eqM r c z r' c' z') = b) (hx : a.eval x = .agg (mvals r c z).toArray) (hy : a.eval y = .agg (mvals r' c' z').toArray)
    (h : wpList Tryd.prog ops Q rest (a.put o.dst (.bool b)) w) : wpList Tryd.prog ops Q (o :: rest) a w :=
  wpList_wanted hw fun _ hK => by
    unfold Oper.wp execOp
    simp only [ho, hx, hy, Sem.run_bind, run_eqGuard_agg w _ _ x y _ _ guardM, Result.andThen_ok, run_neq_struct, run_eqM]
    rw [hb]
    exact hK _ _ h

theorem fieldsF : (Tryd.prog.fieldsOf 28).toList.map (fun f => (f.name, f.type, f.offset)) = [("N", 3, 0), ("L", 25, 1), ("D", 26, 37)] := by kernel_rfl
theorem structF : Tryd.prog.underlying 28 = some (.struct (Tryd.prog.fieldsOf 28)) := by kernel_rfl
theorem stoodF : Tryd.prog.stoodInHeld 28 = false := by kernel_rfl
theorem guardF : Tryd.prog.eqGuardType Tryd.prog.depth 28 = false := by kernel_rfl
theorem arr6 : Tryd.prog.underlying 26 = some (.array 6 2) := by kernel_rfl
theorem sizeA6 (w : World) : (sizeOf 26).run Tryd.prog w = .ok 6 w := by
  have h : (Tryd.prog.info? 26).map (·.size) = some 6 := by kernel_rfl
  cases hq : Tryd.prog.info? 26 with
  | none => rw [hq] at h; cases h
  | some i =>
    have hi : i.size = 6 := by rw [hq] at h; simpa using h
    simp [sizeOf, typeInfo, hq, hi]
theorem take_fz (n : Int) (z d : Nat → Int) : List.take 36 (List.drop 1 (fvals n z d)) = vals 36 z := by
  have h : (vals 36 z).length = 36 := vals_len 36 z
  show List.take 36 (vals 36 z ++ vals 6 d) = vals 36 z
  rw [List.take_append_of_le_length (by omega)]
  exact List.take_of_length_le (by omega)
theorem take_fd (n : Int) (z d : Nat → Int) : List.take 6 (List.drop 37 (fvals n z d)) = vals 6 d := by
  have h : (vals 36 z).length = 36 := vals_len 36 z
  have h' : (vals 6 d).length = 6 := vals_len 6 d
  show List.take 6 (List.drop 36 (vals 36 z ++ vals 6 d)) = vals 6 d
  rw [List.drop_append_of_le_length (by omega), List.drop_eq_nil_of_le (by omega), List.nil_append]
  exact List.take_of_length_le (by omega)
theorem run_part_FL (w : World) (n : Int) (z d : Nat → Int) : (Go.part 25 (fvals n z d).toArray 1).run Tryd.prog w = .ok (.agg (vals 36 z).toArray) w := by
  simp [Go.part, isAgg, run_underlying arrM36, sizeA36]
  exact take_fz n z d
theorem run_part_FD (w : World) (n : Int) (z d : Nat → Int) : (Go.part 26 (fvals n z d).toArray 37).run Tryd.prog w = .ok (.agg (vals 6 d).toArray) w := by
  simp [Go.part, isAgg, run_underlying arr6, sizeA6]
  exact take_fd n z d
/-- Are two factors the same? -/
def eqF (n : Int) (z d : Nat → Int) (n' : Int) (z' d' : Nat → Int) : Bool := (n == n') && (eqz 36 z z' && (eqz 6 d d' && true))
set_option maxRecDepth 20000 in
theorem run_eqF (n : Int) (z d : Nat → Int) (n' : Int) (z' d' : Nat → Int) (w : World) : (Op.equalIn 10000 28 (.agg (fvals n z d).toArray) (.agg (fvals n' z' d').toArray)).run Tryd.prog w = .ok (eqF n z d n' z' d') w := by
  obtain ⟨f0, f1, f2, hf, h0, h1, h2⟩ := list3 fieldsF
  injection h0 with n0 h0
  injection h0 with t0 o0
  injection h1 with n1 h1
  injection h1 with t1 o1
  injection h2 with n2 h2
  injection h2 with t2 o2
  rw [run_equalIn_struct w 9999 28 _ _ structF stoodF, hf]
  clear hf
  obtain ⟨i0, hi, _, _, _⟩ := info_parts infoI64
  have q0 := run_equalIn_int w 9998 3 .i64 .i64 n n' Tryd.underlying3
  have q1 : (Op.equalIn 9999 25 (.agg (vals 36 z).toArray) (.agg (vals 36 z').toArray)).run Tryd.prog w = .ok (eqz 36 z z') w := by
    rw [run_equalIn_array w 9998 (vals 36 z).toArray (vals 36 z').toArray arrM36 hi, cellsI64]
    exact run_itemsG 36 z z' w 9997 _ (fun i hi => by simpa using hi)
  have q2 : (Op.equalIn 9999 26 (.agg (vals 6 d).toArray) (.agg (vals 6 d').toArray)).run Tryd.prog w = .ok (eqz 6 d d') w := by
    rw [run_equalIn_array w 9998 (vals 6 d).toArray (vals 6 d').toArray arr6 hi, cellsI64]
    exact run_itemsG 6 d d' w 9997 _ (fun i hi => by simpa using hi)
  exact eqFields_stepG 9999 _ _ f0 _ w _ _ _ _ (by rw [n0]; simp) (by rw [t0, o0]; exact run_part_int w (fvals n z d).toArray 0 n (by simp [fvals])) (by rw [t0, o0]; exact run_part_int w (fvals n' z' d').toArray 0 n' (by simp [fvals])) (by rw [t0]; exact q0)
    (eqFields_stepG 9999 _ _ f1 _ w _ _ _ _ (by rw [n1]; simp) (by rw [t1, o1]; exact run_part_FL w n z d) (by rw [t1, o1]; exact run_part_FL w n' z' d') (by rw [t1]; exact q1)
      (eqFields_stepG 9999 _ _ f2 _ w _ _ _ _ (by rw [n2]; simp) (by rw [t2, o2]; exact run_part_FD w n z d) (by rw [t2, o2]; exact run_part_FD w n' z' d') (by rw [t2]; exact q2) (eqFields_nil _ _ _ w)))
theorem eqF_same (n : Int) (z d : Nat → Int) : eqF n z d n z d = true := by unfold eqF; simp [eqz_iff.2]

/-- Two factors that are the same: 'f != g'. -/
theorem wpList_neF {ops : Array Oper} {rest : List Oper} {o : Oper} {a : Act} {w : World} {Q : Exit → Act → World → Prop} (hw : Region.wanted o (yielded ops a.tmps) = true) (x y : Operand) (u : TypeId) (ho : o.op = .binOp .neq 28 x y u)
    (n : Int) (z d : Nat → Int) (hx : a.eval x = .agg (fvals n z d).toArray) (hy : a.eval y = .agg (fvals n z d).toArray)
    (h : wpList Tryd.prog ops Q rest (a.put o.dst (.bool false)) w) : wpList Tryd.prog ops Q (o :: rest) a w :=
  wpList_wanted hw fun _ hK => by
    unfold Oper.wp execOp
    simp only [ho, hx, hy, Sem.run_bind, run_eqGuard_agg w _ _ x y _ _ guardF, Result.andThen_ok, run_neq_struct, run_eqF, eqF_same]
    exact hK _ _ h

end Ld
end Go.Proofs.YtkmhikfjdafipaaDoor

/-
  Factors (ldl): Of.
-/
set_option linter.unusedSimpArgs false
set_option linter.unusedVariables false
namespace Go.Proofs.YtkmhikfjdafipaaDoor
open Go.RowKit Vc Mt St Qn Dt Ld

namespace Ld
/-- The cells of no factors. -/
abbrev f0 : List Value := fvals 0 (fun _ => 0) (fun _ => 0)
/-- A matrix is the same turned. -/
def Same (n : Nat) (F : Nat → Nat → Int) : Prop := ∀ i j, i < n → j < n → F i j = F j i
theorem eq_turned {n : Nat} {F : Nat → Nat → Int} (h : Same n F) : (!eqM n n (mz n n (fun i j => F j i)) n n (mz n n F)) = false := by
  rw [eqM_iff.2 ⟨rfl, rfl, fun k hk => mz_congr (fun i j hi hj => (h i j hi hj).symm) k⟩]; rfl
theorem ne_turned {n m : Nat} {F : Nat → Nat → Int} (h1 : n ≤ 6) (h2 : m ≤ 6) (h : ¬ (n = m ∧ Same n F)) : (!eqM m n (mz m n (fun i j => F j i)) n m (mz n m F)) = true := by
  rw [Bool.not_eq_true', Bool.eq_false_iff]
  intro e
  rw [eqM_iff] at e
  obtain ⟨e1, _, e3⟩ := e
  have e1 : m = n := by omega
  subst e1
  exact h ⟨rfl, fun i j hi hj => (mz_inj (size_le h2 h1) e3 hi hj).symm⟩
theorem st_next (F : Nat → Nat → Int) (i : Nat) : (st F (i + 1)).1 = rowIn (st F i).1 i (fun b => if b = i then 1073741824 else rowV (F i) (st F i).1 (st F i).2 i b) := rfl
end Ld

set_option maxRecDepth 10000 in
set_option maxHeartbeats 1000000 in
theorem lof_not (r c : Int) (z : Nat → Int) (w : World) (h : ¬ May r c z) :
    Calls Tryd.prog 5 #[.agg (mvals r c z).toArray] w fun e w' => e = .returned (.tuple #[.agg f0.toArray, .iface 51 (.int .i64 1)]) ∧ Below w.heap.size w w' := by
  have rM := (mrow_new w r c z).alloc (.cells f0.toArray 28)
  have rA := crow_new1 w (.cells (mvals r c z).toArray 34) 28 f0
  have hB := below_al (below_al (Below.refl _ w) (.cells (mvals r c z).toArray 34)) (.cells f0.toArray 28)
  obtain ⟨W, hW⟩ : ∃ W, W = (w.alloc (.cells (mvals r c z).toArray 34)).alloc (.cells f0.toArray 28) := ⟨_, rfl⟩
  rw [← hW] at rM rA hB
  have HT := Hid.mkV (mturn_not r c z W h)
  have HW := Hid.mkV hW
  clear hW h
  go_enter Tryd.func5, Tryd.ntmps5
  go_wp2_with (first
    | (rw [zeroF, ← HW.out]; refine wpList_loadM (by rfl) _ (by rfl) _ _ _ _ (by rfl) (by with_reducible exact rM) ?_)
    | fail)
  refine HT.out.mono ?_
  rintro e w1 ⟨rfl, k1⟩
  have A1 := CRow.keep rA k1
  have B1 := below_tr hB k1
  clear rM rA HT hB k1
  go_wp2_with (first
    | (rw [zeroM]; refine Mt.wpList_storeNew rfl _ _ (by rfl) _ _ _ _ (by rfl) (by rfl) ?_; intro w2 n2 k2; have A2 := CRow.keep A1 k2; have B2 := below_tr B1 k2; clear A1 B1 k2)
    | (refine wpList_buildF0 (by rfl) (by rfl) ?_)
    | (refine St.wpList_store isF rfl _ _ (by rfl) _ _ _ (by rfl) (by rfl) (by with_reducible exact A2) (fvals_len _ _ _) (fvals_len _ _ _) (one_fvals _ _ _) ?_)
    | fail)
  exact bodyPost_ret (St.results_2 isF Tryd.results5 _ _ (w.heap.size + 1) _ rfl (CRow.row A2 _) (fvals_len _ _ _)) rfl ⟨rfl, St.below_row B2 (by omega) _⟩

set_option maxRecDepth 10000 in
set_option maxHeartbeats 1000000 in
theorem lof_odd (n m : Nat) (F : Nat → Nat → Int) (w : World) (h1 : 1 ≤ n) (h2 : n ≤ 6) (h3 : 1 ≤ m) (h4 : m ≤ 6) (h : ¬ (n = m ∧ Same n F)) :
    Calls Tryd.prog 5 #[.agg (mvals n m (mz n m F)).toArray] w fun e w' => e = .returned (.tuple #[.agg f0.toArray, .iface 51 (.int .i64 1)]) ∧ Below w.heap.size w w' := by
  have rM := (mrow_new w n m (mz n m F)).alloc (.cells f0.toArray 28)
  have rA := crow_new1 w (.cells (mvals n m (mz n m F)).toArray 34) 28 f0
  have hB := below_al (below_al (Below.refl _ w) (.cells (mvals n m (mz n m F)).toArray 34)) (.cells f0.toArray 28)
  obtain ⟨W, hW⟩ : ∃ W, W = (w.alloc (.cells (mvals n m (mz n m F)).toArray 34)).alloc (.cells f0.toArray 28) := ⟨_, rfl⟩
  rw [← hW] at rM rA hB
  have HT := Hid.mkV (mturn_any n m F W h1 h2 h3 h4)
  have HE := Hid.mkV (ne_turned h2 h4 h)
  obtain ⟨z, hz⟩ : ∃ z, z = mz n m F := ⟨_, rfl⟩
  obtain ⟨z', hz'⟩ : ∃ z, z = mz m n (fun i j => F j i) := ⟨_, rfl⟩
  rw [← hz] at rM hW HT HE ⊢
  rw [← hz'] at HT HE
  have HW := Hid.mkV hW
  clear hW h hz hz'
  go_enter Tryd.func5, Tryd.ntmps5
  go_wp2_with (first
    | (rw [zeroF, ← HW.out]; refine wpList_loadM (by rfl) _ (by rfl) _ _ _ _ (by rfl) (by with_reducible exact rM) ?_)
    | fail)
  refine HT.out.mono ?_
  rintro e w1 ⟨rfl, k1⟩
  have M1 := rM.keep k1
  have A1 := CRow.keep rA k1
  have B1 := below_tr hB k1
  clear rM rA HT hB k1
  go_wp2_with (first
    | (rw [zeroM]; refine Mt.wpList_storeNew rfl _ _ (by rfl) _ _ _ _ (by rfl) (by rfl) ?_; intro w2 n2 k2; have M2 := M1.keep k2; have A2 := CRow.keep A1 k2; have B2 := below_tr B1 k2; clear M1 A1 B1 k2)
    | (refine wpList_loadM (by rfl) _ (by rfl) _ _ _ _ (by rfl) (by with_reducible exact n2) ?_)
    | (refine wpList_loadM (by rfl) _ (by rfl) _ _ _ _ (by rfl) (by with_reducible exact M2) ?_)
    | (refine wpList_neG (by rfl) _ _ _ (by rfl) _ _ _ _ _ _ _ HE.out (by rfl) (by rfl) ?_)
    | (refine wpList_buildF0 (by rfl) (by rfl) ?_)
    | (refine St.wpList_store isF rfl _ _ (by rfl) _ _ _ (by rfl) (by rfl) (by with_reducible exact A2) (fvals_len _ _ _) (fvals_len _ _ _) (one_fvals _ _ _) ?_)
    | fail)
  exact bodyPost_ret (St.results_2 isF Tryd.results5 _ _ (w.heap.size + 1) _ rfl (CRow.row A2 _) (fvals_len _ _ _)) rfl ⟨rfl, St.below_row B2 (by omega) _⟩

open Classical in
/-- What Of answers of a matrix that is the same turned. -/
noncomputable def Ld.ofV (n : Nat) (F : Nat → Nat → Int) : Value := if ∀ i, i < n → fine F i then .tuple #[.agg (fvals n (mz n n (st F n).1) (st F n).2).toArray, .nilIface] else .tuple #[.agg f0.toArray, .iface 51 (.int .i64 8)]

set_option maxRecDepth 10000 in
set_option maxHeartbeats 1000000 in
theorem lof_any (n : Nat) (F : Nat → Nat → Int) (w : World) (h1 : 1 ≤ n) (h2 : n ≤ 6) (h : Same n F) (hF : B2 F) :
    Calls Tryd.prog 5 #[.agg (mvals n n (mz n n F)).toArray] w fun e w' => e = .returned (ofV n F) ∧ Below w.heap.size w w' := by
  have rM := (mrow_new w n n (mz n n F)).alloc (.cells f0.toArray 28)
  have rA := crow_new1 w (.cells (mvals n n (mz n n F)).toArray 34) 28 f0
  have hB := below_al (below_al (Below.refl _ w) (.cells (mvals n n (mz n n F)).toArray 34)) (.cells f0.toArray 28)
  obtain ⟨W, hW⟩ : ∃ W, W = (w.alloc (.cells (mvals n n (mz n n F)).toArray 34)).alloc (.cells f0.toArray 28) := ⟨_, rfl⟩
  have hWs : w.heap.size + 2 = W.heap.size := by rw [hW]; simp
  rw [← hW] at rM rA hB
  have HT := Hid.mkV (mturn_any n n F W h1 h2 h1 h2)
  have HE := Hid.mkV (eq_turned h)
  have HR := Hid.mkV (fun i (hi : i < n) W' => mrow_any n n i F W' h1 h2 h1 h2 hi)
  have HY : Hid ((∀ i, i < n → fine F i) → ofV n F = .tuple #[.agg (fvals n (mz n n (st F n).1) (st F n).2).toArray, .nilIface]) := fun h => if_pos h
  have HN : Hid ((¬ ∀ i, i < n → fine F i) → ofV n F = .tuple #[.agg f0.toArray, .iface 51 (.int .i64 8)]) := fun h => if_neg h
  obtain ⟨V, hV⟩ : ∃ V, V = ofV n F := ⟨_, rfl⟩
  rw [← hV] at HY HN ⊢
  obtain ⟨z, hz⟩ : ∃ z, z = mz n n F := ⟨_, rfl⟩
  obtain ⟨z', hz'⟩ : ∃ z, z = mz n n (fun i j => F j i) := ⟨_, rfl⟩
  rw [← hz] at rM hW HT HE HR ⊢
  rw [← hz'] at HT HE
  have HW := Hid.mkV hW
  have HFill := Hid.mkV (fun (g s i : Nat) (mo : Option Addr) (mc : Nat) (o : Bool) (W : World) (h : FRow W g n (mz n n (st F i).1) (st F i).2) (hs : SRow W s o) (hgs : g ≠ s) (hm : Sl W mo n mc (F i)) (hmb : ∀ x, mo = some x → x.block ≠ s ∧ x.block ≠ g) (hi : i < n) (hf : ∀ k, k < i → fine F k) =>
    fillRow_any g s i n mo mc (F i) (st F i).1 (st F i).2 o W h hs hgs hm hmb (hF i) h2 hi (fun a => b64_of (st_bdL F i a)) (b64_of (st_bdD F i)) (fun k hk => by rw [st_D F hk]; have := (hf k hk).2; omega) (fun b => st_behindL F (Nat.le_refl _)))
  clear hW h hz hz' hV hF
  go_enter Tryd.func5, Tryd.ntmps5
  go_wp2_with (first
    | (rw [zeroF, ← HW.out]; refine wpList_loadM (by rfl) _ (by rfl) _ _ _ _ (by rfl) (by with_reducible exact rM) ?_)
    | fail)
  refine HT.out.mono ?_
  rintro e w1 ⟨rfl, k1⟩
  have M1 := rM.keep k1
  have A1 := CRow.keep rA k1
  have B1 := below_tr hB k1
  have z1 : w.heap.size + 2 ≤ w1.heap.size := by have := k1.size; omega
  clear rM rA HT hB k1
  go_wp2_with (first
    | (rw [zeroM]; refine Mt.wpList_storeNew rfl _ _ (by rfl) _ _ _ _ (by rfl) (by rfl) ?_; intro w2 n2 k2; have M2 := M1.keep k2; have A2 := CRow.keep A1 k2; have B2 := below_tr B1 k2; have z2 : w.heap.size + 2 ≤ w2.heap.size := (by have := k2.size; omega); clear M1 A1 B1 k2 z1)
    | (refine wpList_loadM (by rfl) _ (by rfl) _ _ _ _ (by rfl) (by with_reducible exact n2) ?_)
    | (refine wpList_loadM (by rfl) _ (by rfl) _ _ _ _ (by rfl) (by with_reducible exact M2) ?_)
    | (refine wpList_neG (by rfl) _ _ _ (by rfl) _ _ _ _ _ _ _ HE.out (by rfl) (by rfl) ?_)
    | (refine Mt.wpList_loadF (by rfl) _ (by rfl) _ _ _ (by rfl) (by with_reducible exact M2.rows) ?_)
    | (refine wpList_buildF1 (by rfl) _ (by rfl) _ (by rfl) ?_)
    | (rw [zeroF]; refine St.wpList_storeNew isF rfl _ _ (by rfl) _ _ _ (by rfl) (by rfl) (fvals_len _ _ _) (fvals_len _ _ _) (one_fvals _ _ _) ?_; intro w3 F3 k3; have M3 := M2.keep k3; have A3 := CRow.keep A2 k3; have B3 := below_tr B2 k3; have z3 : w.heap.size + 3 ≤ w3.heap.size := (by have := F3.lt; omega); clear M2 A2 B2 k3 n2)
    | (refine Mt.wpList_loadF (by rfl) _ (by rfl) _ _ _ (by rfl) (by with_reducible exact FRow.n (CRow.alloc F3 _)) ?_)
    | fail)
  have F4 := CRow.alloc F3 (.cells #[.bool false] 53)
  have S4 : SRow (w3.alloc (.cells #[.bool false] 53)) w3.heap.size false := crow_new w3 _ _
  have M4 := M3.alloc (.cells #[.bool false] 53)
  have A4 := CRow.alloc A3 (.cells #[.bool false] 53)
  have B4 := below_al B3 (.cells #[.bool false] 53)
  have z4 := F3.lt
  obtain ⟨w4, hw4⟩ : ∃ x, x = w3.alloc (.cells #[.bool false] 53) := ⟨_, rfl⟩
  obtain ⟨s, hs⟩ : ∃ x, x = w3.heap.size := ⟨_, rfl⟩
  obtain ⟨g, hg⟩ : ∃ x, x = w2.heap.size := ⟨_, rfl⟩
  rw [← hw4] at F4 S4 M4 A4 B4 ⊢
  rw [← hs] at S4 z3 z4 ⊢
  rw [← hg] at F4 z2 z4 ⊢
  have F4' : FRow w4 g n (mz n n (st F 0).1) (st F 0).2 := FRow.congr F4 (fun k hk => by
    unfold mz mpart
    split <;> rfl) (fun k hk => rfl)
  clear hw4 hs hg F3 M3 A3 B3 F4 HE
  go_loopw [30] (fun ix wr => ∃ i : Nat, i ≤ n ∧ ix = .int .i64 (i : Int) ∧ FRow wr g n (mz n n (st F i).1) (st F i).2 ∧ SRow wr s false ∧ MRow wr w.heap.size n n z ∧ CRow wr (w.heap.size + 1) 28 f0 ∧ Below w.heap.size w wr ∧ Hid (∀ k, k < i → fine F k)) (fun ix _ => n - (intOf ix).toNat)
  case atStart => exact ⟨0, by omega, rfl, F4', S4, M4, A4, B4, fun k hk => by omega⟩
  case round =>
    obtain ⟨i, hi, rfl, Fr, Sr, Mr, Ar, Br, hok⟩ := hrel
    by_cases hin : i < n
    · have HRi := Hid.mkV (HR.out i hin)
      go_wp2_with (first
        | (refine wpList_loadM (by rfl) _ (by rfl) _ _ _ _ (by rfl) (by with_reducible exact Mr) ?_)
        | fail)
      refine (HRi.out _).mono ?_
      rintro e w5 ⟨mo, mc, rfl, sl5, fr5, k5⟩
      have F5 := CRow.keep Fr k5
      have S5 := CRow.keep Sr k5
      have M5 := Mr.keep k5
      have A5 := CRow.keep Ar k5
      have B5 := below_tr Br k5
      have z5 : ∀ x, mo = some x → x.block ≠ s ∧ x.block ≠ g := fun x hx => by
        have h5 := fr5 x hx
        have h6 := Fr.lt
        have h7 := Sr.lt
        omega
      clear HRi
      go_wp2_with fail
      refine (HFill.out g s i mo mc false _ F5 S5 (by omega) sl5 z5 hin hok.out).mono ?_
      rintro e w6 ⟨rfl, F6, S6, k6⟩
      have M6 : MRow w6 w.heap.size n n z := by
        unfold MRow
        rw [k6.block _ M5.lt (by omega)]
        exact M5
      have A6 := crowBut A5 k6 (by omega)
      have B6 := k6.below B5 (by have := M5.lt; omega) (fun k hk => by rcases hk with hk | hk <;> omega)
      have e1 : Hid ((false || (rowO (F i) (st F i).1 (st F i).2 i || midO (F i) (rowV (F i) (st F i).1 (st F i).2 i) (st F i).2 i)) = stO F i) := rfl
      rw [e1.out] at S6
      have F6' : FRow w6 g n (mz n n (st F (i + 1)).1) (st F (i + 1)).2 := F6
      have cD := FRow.d F6' (k := i) (o := 37 + i) (by omega) (by omega)
      rw [st_D F (Nat.lt_succ_self i)] at cD
      have cO := SRow.o S6
      have hfine : Hid (fine F i ↔ stO F i = false ∧ 0 < stD F i) := Iff.rfl
      clear Fr Sr Mr Ar Br F5 S5 M5 A5 B5 F6
      obtain ⟨D, hD⟩ : ∃ D, D = stD F i := ⟨_, rfl⟩
      rw [← hD] at cD hfine
      clear hD
      cases hO : stO F i with
      | true =>
        rw [hO] at cO S6 hfine
        go_wp2_with (first
          | (refine wpList_buildF0 (by rfl) (by rfl) ?_)
          | (refine St.wpList_store isF rfl _ _ (by rfl) _ _ _ (by rfl) (by rfl) (by with_reducible exact A6) (fvals_len _ _ _) (fvals_len _ _ _) (one_fvals _ _ _) ?_)
          | fail)
        refine bodyPost_ret (St.results_2 isF Tryd.results5 _ _ (w.heap.size + 1) _ rfl (CRow.row A6 _) (fvals_len _ _ _)) rfl ⟨?_, St.below_row B6 (by omega) _⟩
        rw [HN.out (fun h => by have := hfine.out.1 (h i hin); exact absurd this.1 (by simp))]
        rfl
      | false =>
        rw [hO] at cO S6 hfine
        by_cases hD : D ≤ 0
        · have e3 : decide (D ≤ 0) = true := decide_eq_true hD
          go_wp2_with (first
            | (refine wpList_buildF0 (by rfl) (by rfl) ?_)
            | (refine St.wpList_store isF rfl _ _ (by rfl) _ _ _ (by rfl) (by rfl) (by with_reducible exact A6) (fvals_len _ _ _) (fvals_len _ _ _) (one_fvals _ _ _) ?_)
            | fail)
          refine bodyPost_ret (St.results_2 isF Tryd.results5 _ _ (w.heap.size + 1) _ rfl (CRow.row A6 _) (fvals_len _ _ _)) rfl ⟨?_, St.below_row B6 (by omega) _⟩
          rw [HN.out (fun h => by have := hfine.out.1 (h i hin); omega)]
          rfl
        · have e3 : decide (D ≤ 0) = false := decide_eq_false hD
          go_wp2
          go_roundw
          case rel =>
            exact ⟨i + 1, by omega, by go_num, F6', S6, M6, A6, B6, fun k hk => by
              rcases Nat.lt_or_ge k i with c | c
              · exact hok.out k c
              · obtain rfl : k = i := by omega
                exact hfine.out.2 ⟨by trivial, by omega⟩⟩
          case measure => simp [intOf]; omega
    · obtain rfl : i = n := by omega
      go_wp2_with (first
        | (refine St.wpList_load isF (by rfl) _ (by rfl) _ _ (by rfl) (by with_reducible exact Fr) (fvals_len _ _ _) ?_)
        | (refine St.wpList_store isF rfl _ _ (by rfl) _ _ _ (by rfl) (by rfl) (by with_reducible exact Ar) (fvals_len _ _ _) (fvals_len _ _ _) (one_fvals _ _ _) ?_)
        | fail)
      refine bodyPost_ret (St.results_2 isF Tryd.results5 _ _ (w.heap.size + 1) _ rfl (CRow.row Ar _) (fvals_len _ _ _)) rfl ⟨?_, St.below_row Br (by omega) _⟩
      rw [HY.out hok.out]
      rfl

end Go.Proofs.YtkmhikfjdafipaaDoor

/-
  Factors: what Of makes may be; what must come whatever the input is (sure of the laws of layer 9).
-/
set_option linter.unusedSimpArgs false
set_option linter.unusedVariables false
namespace Go.Proofs.YtkmhikfjdafipaaDoor
open Go.RowKit Vc Mt St Qn Dt Ld

namespace Ld
/-- What Of makes may be. -/
theorem may_st {n : Nat} {F : Nat → Nat → Int} (h1 : 1 ≤ n) (h2 : n ≤ 6) (hf : ∀ i, i < n → fine F i) : FMay n (mz n n (st F n).1) (st F n).2 := by
  refine ⟨by omega, by omega, fun k hk => ?_, fun k hk => ?_⟩
  · rw [Int.toNat_natCast]
    unfold okD
    by_cases e : n ≤ k
    · rw [if_pos e, st_behindD F e]; rfl
    · rw [if_neg e]
      have h3 := st_bdD F n k
      have h4 := (hf k (by omega)).2
      rw [st_D F (by omega)] at h3 ⊢
      rw [decide_eq_true (by omega), decide_eq_true (by omega)]; rfl
  · rw [Int.toNat_natCast]
    unfold okL
    by_cases e : n * n ≤ k
    · have e1 : n ≤ k / n := (Nat.le_div_iff_mul_le (by omega)).2 e
      rw [if_pos (Or.inl e1), mz_behind e]; rfl
    · have e1 : k / n < n := (Nat.div_lt_iff_lt_mul (by omega)).2 (by omega)
      have e2 : k % n < n := Nat.mod_lt _ (by omega)
      have e3 : k = k / n * n + k % n := by rw [Nat.mul_comm]; exact (Nat.div_add_mod k n).symm
      have e4 : mz n n (st F n).1 k = (st F n).1 (k / n) (k % n) := by
        have := mz_at (n := n) (c := n) (F := (st F n).1) e1 e2
        rwa [← e3] at this
      rw [e4]
      by_cases c1 : k / n < k % n
      · rw [if_pos (Or.inr c1), st_up F e1 c1]; rfl
      · rw [if_neg (by omega)]
        by_cases c2 : k % n = k / n
        · rw [if_pos c2, c2, st_one F e1]; rfl
        · rw [if_neg c2]
          have h3 := st_bdL F n (k / n) (k % n)
          rw [great_iff.2 h3]; rfl

theorem ofV_yes {n : Nat} {F : Nat → Nat → Int} (h : ∀ i, i < n → fine F i) : ofV n F = .tuple #[.agg (fvals n (mz n n (st F n).1) (st F n).2).toArray, .nilIface] := if_pos h
theorem ofV_no {n : Nat} {F : Nat → Nat → Int} (h : ¬ ∀ i, i < n → fine F i) : ofV n F = .tuple #[.agg f0.toArray, .iface 51 (.int .i64 8)] := if_neg h

/-- The matrix of sure. -/
def sF : Nat → Nat → Int := fun i j => if i = 0 then (if j = 0 then 4194304 else 2097152) else (if j = 0 then 2097152 else 3145728)
theorem sF_bd : B2 sF := by
  intro i j
  unfold sF
  split <;> split <;> omega
theorem sF_same : Same 2 sF := by
  intro i j hi hj
  match i, j, hi, hj with
  | 0, 0, _, _ => rfl
  | 0, 1, _, _ => rfl
  | 1, 0, _, _ => rfl
  | 1, 1, _, _ => rfl
theorem sF_fine : ∀ i, i < 2 → fine sF i := by
  intro i hi
  match i, hi with
  | 0, _ => exact ⟨by decide +kernel, by decide +kernel⟩
  | 1, _ => exact ⟨by decide +kernel, by decide +kernel⟩
def sV (a b : Int) : Nat → Int := fun k => if k = 0 then a else b
theorem sl_two {w : World} {x : Addr} {a b : Int} (h : w.cell? x = some (.int .i64 a)) (h2 : w.cell? (x.add 1) = some (.int .i64 b)) : Sl w (some x) 2 2 (sV a b) :=
  ⟨Nat.le_refl _, by omega, fun k hk => ⟨x, rfl, by
    match k, hk with
    | 0, _ => exact h
    | 1, _ => exact h2⟩⟩
theorem sV_bd {a b : Int} (h1 : -4611686018427387903 ≤ a ∧ a ≤ 4611686018427387903) (h2 : -4611686018427387903 ≤ b ∧ b ≤ 4611686018427387903) : B64 (sV a b) := by
  intro k
  unfold sV
  split <;> omega
end Ld

theorem lsure_matOf (w : World) (x y0 y1 : Addr) (c0 : w.cell? x = some (.slice (some y0) 2 2)) (c1 : w.cell? (x.add 1) = some (.slice (some y1) 2 2)) (d0 : w.cell? y0 = some (.int .i64 4194304)) (d1 : w.cell? (y0.add 1) = some (.int .i64 2097152)) (d2 : w.cell? y1 = some (.int .i64 2097152)) (d3 : w.cell? (y1.add 1) = some (.int .i64 3145728)) :
    Calls Tryd.prog 6 #[.slice (some x) 2 2] w fun e w' => e = .returned (.agg (mvals ((2 : Nat) : Int) ((2 : Nat) : Int) (mz 2 2 sF)).toArray) ∧ Below w.heap.size w w' := by
  refine matOf_by _ _ _ _ w fun W k => ?_
  refine mof_any 2 2 (some x) 2 (fun j => if j = 0 then some y0 else some y1) (fun _ => 2) sF W (by omega) (by omega) (by omega) (by omega) ⟨Nat.le_refl _, by omega, fun j hj => ⟨x, rfl, ?_⟩⟩ (fun q hq => ?_)
  · match j, hj with
    | 0, _ => exact keep_cell k c0
    | 1, _ => exact keep_cell k c1
  · match q, hq with
    | 0, _ => exact (sl_two (keep_cell k d0) (keep_cell k d1)).congr (fun j hj => by unfold sF sV; simp)
    | 1, _ => exact (sl_two (keep_cell k d2) (keep_cell k d3)).congr (fun j hj => by unfold sF sV; simp)

theorem lsure_of (w : World) : Calls Tryd.prog 5 #[.agg (mvals ((2 : Nat) : Int) ((2 : Nat) : Int) (mz 2 2 sF)).toArray] w fun e w' => e = .returned (.tuple #[.agg (fvals ((2 : Nat) : Int) (mz 2 2 (st sF 2).1) (st sF 2).2).toArray, .nilIface]) ∧ Below w.heap.size w w' := by
  have h := lof_any 2 sF w (by omega) (by omega) sF_same sF_bd
  rw [ofV_yes sF_fine] at h
  exact h

theorem lsure_solve (w : World) (vo : Option Addr) (hv : Sl w vo 2 2 (sV 4194304 2097152)) : Calls Tryd.prog 12 #[.agg (fvals ((2 : Nat) : Int) (mz 2 2 (st sF 2).1) (st sF 2).2).toArray, .slice vo 2 2] w fun e w' =>
    ∃ b, e = .returned (.tuple #[.slice (some ⟨b, 0, none⟩) 2 2, .bool false, .nilIface]) ∧ Sl w' (some ⟨b, 0, none⟩) 2 2 (sV 1048576 0) ∧ Below w.heap.size w w' := by
  refine (lsolve_any 2 vo 2 (sV 4194304 2097152) (st sF 2).1 (st sF 2).2 w (may_st (by omega) (by omega) sF_fine) hv (sV_bd (by omega) (by omega)) (fun a => b64_of (st_bdL sF 2 a))).mono ?_
  rintro e w1 ⟨b, rfl, _, hs, k⟩
  have e1 : solO 2 (st sF 2).1 (st sF 2).2 (sV 4194304 2097152) = false := by decide +kernel
  refine ⟨b, by rw [e1], hs.congr (fun j hj => ?_), k⟩
  match j, hj with
  | 0, _ => show solV 2 (st sF 2).1 (st sF 2).2 (sV 4194304 2097152) 0 = 1048576; decide +kernel
  | 1, _ => show solV 2 (st sF 2).1 (st sF 2).2 (sV 4194304 2097152) 1 = 0; decide +kernel

theorem lsure_far (w : World) (vo : Option Addr) (hv : Sl w vo 2 2 (sV 2097152 1048576)) : Calls Tryd.prog 11 #[.agg (fvals ((2 : Nat) : Int) (mz 2 2 (st sF 2).1) (st sF 2).2).toArray, .slice vo 2 2] w fun e w' =>
    e = .returned (.tuple #[.int .i64 1048576, .bool false, .nilIface]) ∧ Below w.heap.size w w' := by
  refine (lfar_any 2 vo 2 (sV 2097152 1048576) (st sF 2).1 (st sF 2).2 w (may_st (by omega) (by omega) sF_fine) hv (sV_bd (by omega) (by omega)) (fun a => b64_of (st_bdL sF 2 a))).mono ?_
  rintro e w1 ⟨rfl, k⟩
  have e1 : (downO (st sF 2).1 (sV 2097152 1048576) 2 || farO (downV (st sF 2).1 (sV 2097152 1048576) 2) (st sF 2).2 2) = false := by decide +kernel
  have e2 : farV (downV (st sF 2).1 (sV 2097152 1048576) 2) (st sF 2).2 2 = 1048576 := by decide +kernel
  exact ⟨by rw [e1, e2], k⟩

theorem lsure_log (w : World) : ∃ V : Int, Calls Tryd.prog 20 #[.agg (fvals ((2 : Nat) : Int) (mz 2 2 (st sF 2).1) (st sF 2).2).toArray] w fun e w' => e = .returned (.tuple #[.int .i64 V, .nilIface]) ∧ Below w.heap.size w w' :=
  ⟨_, llog_any 2 _ _ w (may_st (by omega) (by omega) sF_fine)⟩

set_option maxRecDepth 10000 in
set_option maxHeartbeats 1000000 in
theorem lsure_any (w : World) :
    Calls Tryd.prog 8 #[] w fun e w' => e = .returned (.bool true) ∧ Below w.heap.size w w' := by
  have M1 := Hid.mkV lsure_matOf
  have M2 := Hid.mkV lsure_of
  have M3 := Hid.mkV lsure_solve
  have M4 := Hid.mkV lsure_far
  have M5 := Hid.mkV lsure_log
  have eD0 : (st sF 2).2 0 = 4194304 := by decide +kernel
  have eD1 : (st sF 2).2 1 = 2097152 := by decide +kernel
  have eL2 : mz 2 2 (st sF 2).1 2 = 536870912 := by decide +kernel
  obtain ⟨z, hz⟩ : ∃ z, z = mz 2 2 sF := ⟨_, rfl⟩
  obtain ⟨l, hl⟩ : ∃ z, z = mz 2 2 (st sF 2).1 := ⟨_, rfl⟩
  obtain ⟨d, hd⟩ : ∃ z, z = (st sF 2).2 := ⟨_, rfl⟩
  rw [← hz] at M1 M2
  rw [← hl, ← hd] at M2 M3 M4 M5
  rw [← hd] at eD0 eD1
  rw [← hl] at eL2
  have E0 := Hid.mkV eD0
  have E1 := Hid.mkV eD1
  have E2 := Hid.mkV eL2
  clear hz hl hd eD0 eD1 eL2
  go_enter Tryd.func8, Tryd.ntmps8
  go_wp2_with fail
  refine (M1.out _ _ ⟨w.heap.size, 0, none⟩ ⟨w.heap.size + 1, 0, none⟩ (by go_simp) (by rw [Addr.add_lit]; go_simp) (by go_simp) (by rw [Addr.add_lit]; go_simp) (by go_simp) (by rw [Addr.add_lit]; go_simp)).mono ?_
  rintro e w1 ⟨rfl, k1⟩
  have K1 : Below w.heap.size w w1 := below_tr (below_al (below_al (below_al (Below.refl _ _) _) _) _) k1
  clear k1 M1
  go_wp2_with (first
    | (rw [zeroM]; refine Mt.wpList_storeNew rfl _ _ (by rfl) _ _ _ _ (by rfl) (by rfl) ?_; intro w2 m2 k2)
    | (refine wpList_loadM (by rfl) _ (by rfl) _ _ _ _ (by rfl) (by with_reducible exact m2) ?_)
    | fail)
  refine (M2.out _).mono ?_
  rintro e w3 ⟨rfl, k3⟩
  have K3 := below_tr (below_tr K1 k2) k3
  clear k2 k3 M2 m2 K1
  go_wp2_with (first
    | (rw [zeroF]; refine St.wpList_storeNew isF rfl _ _ (by rfl) _ _ _ (by rfl) (by rfl) (fvals_len _ _ _) (fvals_len _ _ _) (one_fvals _ _ _) ?_; intro w4 p4 k4)
    | (refine St.wpList_load isF (by rfl) _ (by rfl) _ _ (by rfl) (by with_reducible exact p4) (fvals_len _ _ _) ?_)
    | fail)
  refine (M3.out _ _ (sl_two (by go_simp) (by rw [Addr.add_lit]; go_simp))).mono ?_
  rintro e w5 ⟨b, rfl, s5, k5⟩
  have k5' : Below w4.heap.size w4 w5 := below_tr (below_al (Below.refl _ _) _) k5
  have p5 := CRow.keep p4 k5'
  have K5 := below_tr (below_tr K3 k4) k5'
  clear k4 k5 k5' M3 K3 p4
  go_wp2_with (first
    | (refine St.wpList_load isF (by rfl) _ (by rfl) _ _ (by rfl) (by with_reducible exact p5) (fvals_len _ _ _) ?_)
    | fail)
  refine (M4.out _ _ (sl_two (by go_simp) (by rw [Addr.add_lit]; go_simp))).mono ?_
  rintro e w6 ⟨rfl, k6⟩
  have k6' : Below w5.heap.size w5 w6 := below_tr (below_al (Below.refl _ _) _) k6
  have p6 := CRow.keep p5 k6'
  have s6 := s5.keep k6'
  have K6 := below_tr K5 k6'
  clear k6 k6' M4 K5 p5 s5
  go_wp2_with (first
    | (refine St.wpList_load isF (by rfl) _ (by rfl) _ _ (by rfl) (by with_reducible exact p6) (fvals_len _ _ _) ?_)
    | fail)
  obtain ⟨V, hV⟩ := M5.out w6
  refine hV.mono ?_
  rintro e w7 ⟨rfl, k7⟩
  have p7 := CRow.keep p6 k7
  have s7 := s6.keep k7
  have K7 := below_tr K6 k7
  have c0 := FRow.d p7 (k := 0) (o := 37) (by omega) rfl
  have c1 := FRow.d p7 (k := 1) (o := 38) (by omega) rfl
  have c2 := FRow.z p7 (k := 2) (o := 3) (by omega) rfl
  rw [E0.out] at c0
  rw [E1.out] at c1
  rw [E2.out] at c2
  clear k7 hV K6 p6 s6 M5
  go_wp2_with fail
  refine (nums_yes _ _ 2 _ 2 _ _ (s7.keep (below_al (Below.refl _ _) _)) (sl_two (by go_simp) (by rw [Addr.add_lit]; go_simp))).mono ?_
  rintro e w8 ⟨rfl, k8⟩
  have K8 := below_tr (below_al K7 _) k8
  go_wp2
  go_ret
  exact ⟨rfl, K8⟩

end Go.Proofs.YtkmhikfjdafipaaDoor
