/-
  Matrices (mat): two that are the same compared; a matrix into a new variable; what must come whatever the input is (sure of the laws of layer 8).
-/
import Derived.Test.YtfgjigkgfflofaaDoorRMtH
import Derived.Test.YtfgjigkgfflofaaDoorRMtI
import Derived.ChangeKeysEq
set_option linter.unusedSimpArgs false
set_option linter.unusedVariables false
namespace Go.Proofs.YtfgjigkgfflofaaDoorR
open Go.RowKit Vc Mt Qn Dt

namespace Mt
theorem fieldsM : (Tryd.prog.fieldsOf 57).toList.map (fun f => (f.name, f.type, f.offset)) = [("Rows", 3, 0), ("Cols", 3, 1), ("A", 23, 2)] := by kernel_rfl
theorem structM : Tryd.prog.underlying 57 = some (.struct (Tryd.prog.fieldsOf 57)) := by kernel_rfl
theorem stoodM : Tryd.prog.stoodInHeld 57 = false := by kernel_rfl
theorem guardM : Tryd.prog.eqGuardType Tryd.prog.depth 57 = false := by kernel_rfl
theorem arrM36 : Tryd.prog.underlying 23 = some (.array 36 2) := by kernel_rfl
theorem cellsI64 : Tryd.prog.cellsOf 2 = 1 := by kernel_rfl
theorem sizeA36 (w : World) : (sizeOf 23).run Tryd.prog w = .ok 36 w := by
  have h : (Tryd.prog.info? 23).map (·.size) = some 36 := by kernel_rfl
  cases hq : Tryd.prog.info? 23 with
  | none => rw [hq] at h; cases h
  | some i =>
    have hi : i.size = 36 := by rw [hq] at h; simpa using h
    simp [sizeOf, typeInfo, hq, hi]

theorem take_mvals (r c : Int) (z : Nat → Int) : List.take 36 (List.drop 2 (mvals r c z)) = vals 36 z := by
  have h : (vals 36 z).length = 36 := vals_len 36 z
  show List.take 36 (vals 36 z) = vals 36 z
  exact List.take_of_length_le (by omega)

theorem run_part_int (w : World) (xs : Array Value) (o : Nat) (v : Int) (h : xs[o]? = some (.int .i64 v)) : (Go.part 3 xs o).run Tryd.prog w = .ok (.int .i64 v) w := by
  simp [Go.part, isAgg, run_underlying Tryd.underlying3, h]
theorem run_part_i64 (w : World) (xs : Array Value) (o : Nat) (v : Int) (h : xs[o]? = some (.int .i64 v)) : (Go.part 2 xs o).run Tryd.prog w = .ok (.int .i64 v) w := by
  simp [Go.part, isAgg, run_underlying Tryd.underlying2, h]
theorem run_part_A (w : World) (r c : Int) (z : Nat → Int) : (Go.part 23 (mvals r c z).toArray 2).run Tryd.prog w = .ok (.agg (vals 36 z).toArray) w := by
  simp [Go.part, isAgg, run_underlying arrM36, sizeA36]
  exact take_mvals r c z

theorem run_items36 (z : Nat → Int) (w : World) (d : Nat) : ∀ is : List Nat, (∀ i ∈ is, i < 36) → (Op.eqItems (d + 1) 2 1 (vals 36 z).toArray (vals 36 z).toArray is).run Tryd.prog w = .ok true w
  | [], _ => by simp [Op.eqItems]
  | i :: is, h => by
    have hi : i < 36 := h i (by simp)
    have px := run_part_i64 w (vals 36 z).toArray (i * 1) (z i) (by rw [List.getElem?_toArray, Nat.mul_one]; exact vals_at hi)
    have pe : (Op.equalIn (d + 1) 2 (.int .i64 (z i)) (.int .i64 (z i))).run Tryd.prog w = .ok true w := by
      rw [run_equalIn_int w d 2 .i64 .i64 _ _ Tryd.underlying2]; simp
    simp only [Op.eqItems, Sem.run_bind, px, pe, Result.andThen_ok, Bool.not_true, Bool.false_eq_true, if_false]
    exact run_items36 z w d is fun j hj => h j (by simp [hj])

theorem list3 {α β : Type} {g : α → β} : ∀ {fs : List α} {a b c : β}, fs.map g = [a, b, c] → ∃ x y z, fs = [x, y, z] ∧ g x = a ∧ g y = b ∧ g z = c
  | [], a, b, c, h => by simp at h
  | [x], a, b, c, h => by simp at h
  | [x, y], a, b, c, h => by simp at h
  | [x, y, z], a, b, c, h => by simp at h; exact ⟨x, y, z, rfl, h.1, h.2.1, h.2.2⟩
  | x :: y :: z :: u :: r, a, b, c, h => by simp at h

theorem eqFields_step (d : Nat) (xs ys : Array Value) (f : Field) (fs : List Field) (w : World) (v u : Value) (hn : f.name ≠ "_") (p1 : (Go.part f.type xs f.offset).run Tryd.prog w = .ok v w) (p2 : (Go.part f.type ys f.offset).run Tryd.prog w = .ok u w) (pe : (Op.equalIn d f.type v u).run Tryd.prog w = .ok true w) :
    (Op.eqFields d xs ys (f :: fs)).run Tryd.prog w = (Op.eqFields d xs ys fs).run Tryd.prog w := by
  rw [Op.eqFields, if_pos hn]
  simp only [Sem.run_bind, p1, p2, pe, Result.andThen_ok, Bool.not_true, Bool.false_eq_true, if_false]

theorem eqFields_nil (d : Nat) (xs ys : Array Value) (w : World) : (Op.eqFields d xs ys []).run Tryd.prog w = .ok true w := by simp [Op.eqFields]

set_option maxRecDepth 20000 in
theorem run_same (r c : Int) (z : Nat → Int) (w : World) : (Op.equalIn 10000 57 (.agg (mvals r c z).toArray) (.agg (mvals r c z).toArray)).run Tryd.prog w = .ok true w := by
  obtain ⟨f0, f1, f2, hf, h0, h1, h2⟩ := list3 fieldsM
  injection h0 with n0 h0
  injection h0 with t0 o0
  injection h1 with n1 h1
  injection h1 with t1 o1
  injection h2 with n2 h2
  injection h2 with t2 o2
  rw [run_equalIn_struct w 9999 57 _ _ structM stoodM, hf]
  clear hf
  obtain ⟨i0, hi, _, _, _⟩ := info_parts infoI64
  have p0 := run_part_int w (mvals r c z).toArray 0 r (by simp [mvals])
  have p1 := run_part_int w (mvals r c z).toArray 1 c (by simp [mvals])
  have p2 := run_part_A w r c z
  have q0 : (Op.equalIn 9999 3 (.int .i64 r) (.int .i64 r)).run Tryd.prog w = .ok true w := by rw [run_equalIn_int w 9998 3 .i64 .i64 _ _ Tryd.underlying3]; simp
  have q1 : (Op.equalIn 9999 3 (.int .i64 c) (.int .i64 c)).run Tryd.prog w = .ok true w := by rw [run_equalIn_int w 9998 3 .i64 .i64 _ _ Tryd.underlying3]; simp
  have q2 : (Op.equalIn 9999 23 (.agg (vals 36 z).toArray) (.agg (vals 36 z).toArray)).run Tryd.prog w = .ok true w := by
    rw [run_equalIn_array w 9998 (vals 36 z).toArray (vals 36 z).toArray arrM36 hi, cellsI64]
    exact run_items36 z w 9997 _ (fun i hi => by simpa using hi)
  rw [eqFields_step 9999 _ _ f0 _ w _ _ (by rw [n0]; simp) (by rw [t0, o0]; exact p0) (by rw [t0, o0]; exact p0) (by rw [t0]; exact q0)]
  rw [eqFields_step 9999 _ _ f1 _ w _ _ (by rw [n1]; simp) (by rw [t1, o1]; exact p1) (by rw [t1, o1]; exact p1) (by rw [t1]; exact q1)]
  rw [eqFields_step 9999 _ _ f2 _ w _ _ (by rw [n2]; simp) (by rw [t2, o2]; exact p2) (by rw [t2, o2]; exact p2) (by rw [t2]; exact q2)]
  exact eqFields_nil _ _ _ w

/-- Two that are the same are compared. -/
theorem wpList_eqM {ops : Array Oper} {rest : List Oper} {o : Oper} {a : Act} {w : World} {Q : Exit → Act → World → Prop} (hw : Region.wanted o (yielded ops a.tmps) = true) (x y : Operand) (u : TypeId) (ho : o.op = .binOp .eql 57 x y u)
    (r c : Int) (z : Nat → Int) (hx : a.eval x = .agg (mvals r c z).toArray) (hy : a.eval y = .agg (mvals r c z).toArray)
    (h : wpList Tryd.prog ops Q rest (a.put o.dst (.bool true)) w) : wpList Tryd.prog ops Q (o :: rest) a w :=
  wpList_wanted hw fun _ hK => by
    unfold Oper.wp execOp
    simp only [ho, hx, hy, Sem.run_bind, run_eqGuard_agg w _ _ x y _ _ guardM, Result.andThen_ok, run_eql_struct, run_same]
    exact hK _ _ h
theorem wpList_neM {ops : Array Oper} {rest : List Oper} {o : Oper} {a : Act} {w : World} {Q : Exit → Act → World → Prop} (hw : Region.wanted o (yielded ops a.tmps) = true) (x y : Operand) (u : TypeId) (ho : o.op = .binOp .neq 57 x y u)
    (r c : Int) (z : Nat → Int) (hx : a.eval x = .agg (mvals r c z).toArray) (hy : a.eval y = .agg (mvals r c z).toArray)
    (h : wpList Tryd.prog ops Q rest (a.put o.dst (.bool false)) w) : wpList Tryd.prog ops Q (o :: rest) a w :=
  wpList_wanted hw fun _ hK => by
    unfold Oper.wp execOp
    simp only [ho, hx, hy, Sem.run_bind, run_eqGuard_agg w _ _ x y _ _ guardM, Result.andThen_ok, run_neq_struct, run_same]
    exact hK _ _ h

theorem wpList_build0g {ops : Array Oper} {rest : List Oper} {o : Oper} {a : Act} {w : World} {Q : Exit → Act → World → Prop} (hw : Region.wanted o (yielded ops a.tmps) = true) (ho : o.op = .build 57 #[])
    (h : wpList Tryd.prog ops Q rest (a.put o.dst (.agg (mvals 0 0 (fun _ => 0)).toArray)) w) : wpList Tryd.prog ops Q (o :: rest) a w :=
  wpList_wanted hw fun _ hK => by
    unfold Oper.wp execOp
    have em : ((#[] : Array (Nat × Operand)).map fun (i, x) => (i, a.eval x)).toList = [] := by simp
    simp only [ho, Sem.run_bind, run_build w 57 _ _ (by rw [em]; exact built0), Result.andThen_ok]
    exact hK _ _ h

/-- A matrix into a new variable. -/
theorem wpList_storeNew {ops : Array Oper} {rest : List Oper} {o : Oper} {a : Act} {Q : Exit → Act → World → Prop} (hgd : o.guard = none) (x y : Operand) (ho : o.op = .store 57 x y) (w2 : World)
    (r c : Int) (z : Nat → Int) (hx : a.eval x = .pointer (some ⟨w2.heap.size, 0, none⟩)) (hy : a.eval y = .agg (mvals r c z).toArray)
    (h : ∀ w3, MRow w3 w2.heap.size r c z → Below w2.heap.size w2 w3 → wpList Tryd.prog ops Q rest (a.put o.dst undef) w3) : wpList Tryd.prog ops Q (o :: rest) a (w2.alloc (.cells (mvals 0 0 (fun _ => 0)).toArray 57)) :=
  wpList_storeM hgd x y ho _ _ _ _ _ _ _ hx hy (mrow_new w2 0 0 (fun _ => 0)) (h _ ((mrow_new w2 0 0 (fun _ => 0)).row _ _ _) (below_row (below_al (Below.refl _ _) _) (Nat.le_refl _) _))

/-- The matrix of sure. -/
def sureF : Nat → Nat → Int := fun i j => if i = 0 then (if j = 0 then 1048576 else 2097152) else (if j = 0 then 3145728 else 4194304)
theorem sureF_bd : B2 sureF := by
  intro i j
  unfold sureF
  split <;> split <;> omega
theorem sl_du {w : World} {x : Addr} {a b : Int} (h : w.cell? x = some (.int .i64 a)) (h2 : w.cell? (x.add 1) = some (.int .i64 b)) : Sl w (some x) 2 2 (fun k => if k = 0 then a else b) :=
  ⟨Nat.le_refl _, by omega, fun k hk => ⟨x, rfl, by
    match k, hk with
    | 0, _ => exact h
    | 1, _ => exact h2⟩⟩
end Mt

theorem sure_of (w : World) (x y0 y1 : Addr) (c0 : w.cell? x = some (.slice (some y0) 2 2)) (c1 : w.cell? (x.add 1) = some (.slice (some y1) 2 2)) (d0 : w.cell? y0 = some (.int .i64 1048576)) (d1 : w.cell? (y0.add 1) = some (.int .i64 2097152)) (d2 : w.cell? y1 = some (.int .i64 3145728)) (d3 : w.cell? (y1.add 1) = some (.int .i64 4194304)) :
    Calls Tryd.prog 44 #[.slice (some x) 2 2] w fun e w' => e = .returned (.tuple #[.agg (mvals ((2 : Nat) : Int) ((2 : Nat) : Int) (mz 2 2 sureF)).toArray, .nilIface]) ∧ Below w.heap.size w w' := by
  refine mof_any 2 2 (some x) 2 (fun j => if j = 0 then some y0 else some y1) (fun _ => 2) sureF w (by omega) (by omega) (by omega) (by omega) ⟨Nat.le_refl _, by omega, fun j hj => ⟨x, rfl, ?_⟩⟩ (fun k hk => ?_)
  · match j, hj with
    | 0, _ => exact c0
    | 1, _ => exact c1
  · match k, hk with
    | 0, _ => exact (sl_du d0 d1).congr (fun j hj => by unfold sureF; simp)
    | 1, _ => exact (sl_du d2 d3).congr (fun j hj => by unfold sureF; simp)

end Go.Proofs.YtfgjigkgfflofaaDoorR
