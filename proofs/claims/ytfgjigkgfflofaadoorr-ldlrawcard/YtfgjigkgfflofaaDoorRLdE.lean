/-
  Matrices and factors compared, whatever they are.
-/
import Derived.Test.YtfgjigkgfflofaaDoorRLdA
import Derived.Test.YtfgjigkgfflofaaDoorRMtJ
set_option linter.unusedSimpArgs false
set_option linter.unusedVariables false
namespace Go.Proofs.YtfgjigkgfflofaaDoorR
open Go.RowKit Vc Mt St Ld
namespace Ld

/-- The first n numbers are the same. -/
def eqz (n : Nat) (z y : Nat → Int) : Bool := (List.range n).all fun i => z i == y i
theorem eqz_iff {n : Nat} {z y : Nat → Int} : eqz n z y = true ↔ ∀ k, k < n → z k = y k := by
  unfold eqz; rw [List.all_eq_true]
  exact ⟨fun h k hk => by simpa using h k (List.mem_range.2 hk), fun h k hk => by simpa using h k (List.mem_range.1 hk)⟩

theorem run_itemsG (n : Nat) (z y : Nat → Int) (w : World) (d : Nat) : ∀ is : List Nat, (∀ i ∈ is, i < n) → (Op.eqItems (d + 1) 2 1 (vals n z).toArray (vals n y).toArray is).run Tryd.prog w = .ok (is.all fun i => z i == y i) w
  | [], _ => by simp [Op.eqItems]
  | i :: is, h => by
    have hi : i < n := h i (by simp)
    have px := run_part_i64 w (vals n z).toArray (i * 1) (z i) (by rw [List.getElem?_toArray, Nat.mul_one]; exact vals_at hi)
    have py := run_part_i64 w (vals n y).toArray (i * 1) (y i) (by rw [List.getElem?_toArray, Nat.mul_one]; exact vals_at hi)
    have pe := run_equalIn_int w d 2 .i64 .i64 (z i) (y i) Tryd.underlying2
    have ih := run_itemsG n z y w d is fun j hj => h j (by simp [hj])
    simp only [Op.eqItems, Sem.run_bind, px, py, pe, Result.andThen_ok]
    cases hb : (z i == y i) with
    | true => simp [ih, hb]
    | false => simp [hb]

theorem eqFields_stepG (d : Nat) (xs ys : Array Value) (f : Field) (fs : List Field) (w : World) (v u : Value) (b c : Bool) (hn : f.name ≠ "_") (p1 : (Go.part f.type xs f.offset).run Tryd.prog w = .ok v w) (p2 : (Go.part f.type ys f.offset).run Tryd.prog w = .ok u w) (pe : (Op.equalIn d f.type v u).run Tryd.prog w = .ok b w)
    (h : (Op.eqFields d xs ys fs).run Tryd.prog w = .ok c w) : (Op.eqFields d xs ys (f :: fs)).run Tryd.prog w = .ok (b && c) w := by
  rw [Op.eqFields, if_pos hn]
  simp only [Sem.run_bind, p1, p2, pe, Result.andThen_ok]
  cases b with
  | true => simpa using h
  | false => simp

/-- Are two matrices the same? -/
def eqM (r c : Int) (z : Nat → Int) (r' c' : Int) (z' : Nat → Int) : Bool := (r == r') && ((c == c') && (eqz 36 z z' && true))
theorem eqM_iff {r c r' c' : Int} {z z' : Nat → Int} : eqM r c z r' c' z' = true ↔ r = r' ∧ c = c' ∧ ∀ k, k < 36 → z k = z' k := by
  unfold eqM; simp [eqz_iff]

set_option maxRecDepth 20000 in
theorem run_eqM (r c : Int) (z : Nat → Int) (r' c' : Int) (z' : Nat → Int) (w : World) : (Op.equalIn 10000 57 (.agg (mvals r c z).toArray) (.agg (mvals r' c' z').toArray)).run Tryd.prog w = .ok (eqM r c z r' c' z') w := by
  obtain ⟨f0, f1, f2, hf, h0, h1, h2⟩ := list3 fieldsM
  injection h0 with n0 h0
  injection h0 with t0 o0
  injection h1 with n1 h1
  injection h1 with t1 o1
  injection h2 with n2 h2
  injection h2 with t2 o2
  rw [run_equalIn_struct w 9999 57 _ _ structM stoodM, hf]
  clear hf
  obtain ⟨i0, hi, _, _, _⟩ := info_parts infoI64
  have q0 := run_equalIn_int w 9998 3 .i64 .i64 r r' Tryd.underlying3
  have q1 := run_equalIn_int w 9998 3 .i64 .i64 c c' Tryd.underlying3
  have q2 : (Op.equalIn 9999 23 (.agg (vals 36 z).toArray) (.agg (vals 36 z').toArray)).run Tryd.prog w = .ok (eqz 36 z z') w := by
    rw [run_equalIn_array w 9998 (vals 36 z).toArray (vals 36 z').toArray arrM36 hi, cellsI64]
    exact run_itemsG 36 z z' w 9997 _ (fun i hi => by simpa using hi)
  exact eqFields_stepG 9999 _ _ f0 _ w _ _ _ _ (by rw [n0]; simp) (by rw [t0, o0]; exact run_part_int w (mvals r c z).toArray 0 r (by simp [mvals])) (by rw [t0, o0]; exact run_part_int w (mvals r' c' z').toArray 0 r' (by simp [mvals])) (by rw [t0]; exact q0)
    (eqFields_stepG 9999 _ _ f1 _ w _ _ _ _ (by rw [n1]; simp) (by rw [t1, o1]; exact run_part_int w (mvals r c z).toArray 1 c (by simp [mvals])) (by rw [t1, o1]; exact run_part_int w (mvals r' c' z').toArray 1 c' (by simp [mvals])) (by rw [t1]; exact q1)
      (eqFields_stepG 9999 _ _ f2 _ w _ _ _ _ (by rw [n2]; simp) (by rw [t2, o2]; exact run_part_A w r c z) (by rw [t2, o2]; exact run_part_A w r' c' z') (by rw [t2]; exact q2) (eqFields_nil _ _ _ w)))

theorem wpList_neG {ops : Array Oper} {rest : List Oper} {o : Oper} {a : Act} {w : World} {Q : Exit → Act → World → Prop} (hw : Region.wanted o (yielded ops a.tmps) = true) (x y : Operand) (u : TypeId) (ho : o.op = .binOp .neq 57 x y u)
    (r c : Int) (z : Nat → Int) (r' c' : Int) (z' : Nat → Int) (b : Bool) (hb : (!eqM r c z r' c' z') = b) (hx : a.eval x = .agg (mvals r c z).toArray) (hy : a.eval y = .agg (mvals r' c' z').toArray)
    (h : wpList Tryd.prog ops Q rest (a.put o.dst (.bool b)) w) : wpList Tryd.prog ops Q (o :: rest) a w :=
  wpList_wanted hw fun _ hK => by
    unfold Oper.wp execOp
    simp only [ho, hx, hy, Sem.run_bind, run_eqGuard_agg w _ _ x y _ _ guardM, Result.andThen_ok, run_neq_struct, run_eqM]
    rw [hb]
    exact hK _ _ h

theorem fieldsF : (Tryd.prog.fieldsOf 26).toList.map (fun f => (f.name, f.type, f.offset)) = [("N", 3, 0), ("L", 23, 1), ("D", 24, 37)] := by kernel_rfl
theorem structF : Tryd.prog.underlying 26 = some (.struct (Tryd.prog.fieldsOf 26)) := by kernel_rfl
theorem stoodF : Tryd.prog.stoodInHeld 26 = false := by kernel_rfl
theorem guardF : Tryd.prog.eqGuardType Tryd.prog.depth 26 = false := by kernel_rfl
theorem arr6 : Tryd.prog.underlying 24 = some (.array 6 2) := by kernel_rfl
theorem sizeA6 (w : World) : (sizeOf 24).run Tryd.prog w = .ok 6 w := by
  have h : (Tryd.prog.info? 24).map (·.size) = some 6 := by kernel_rfl
  cases hq : Tryd.prog.info? 24 with
  | none => rw [hq] at h; cases h
  | some i =>
    have hi : i.size = 6 := by rw [hq] at h; simpa using h
    simp [sizeOf, typeInfo, hq, hi]
theorem take_fz (n : Int) (z d : Nat → Int) : List.take 36 (List.drop 1 (fvals n z d)) = vals 36 z := by
  have h : (vals 36 z).length = 36 := vals_len 36 z
  show List.take 36 (vals 36 z ++ vals 6 d) = vals 36 z
  rw [List.take_append_of_le_length (by omega)]
  exact List.take_of_length_le (by omega)
theorem take_fd (n : Int) (z d : Nat → Int) : List.take 6 (List.drop 37 (fvals n z d)) = vals 6 d := by
  have h : (vals 36 z).length = 36 := vals_len 36 z
  have h' : (vals 6 d).length = 6 := vals_len 6 d
  show List.take 6 (List.drop 36 (vals 36 z ++ vals 6 d)) = vals 6 d
  rw [List.drop_append_of_le_length (by omega), List.drop_eq_nil_of_le (by omega), List.nil_append]
  exact List.take_of_length_le (by omega)
theorem run_part_FL (w : World) (n : Int) (z d : Nat → Int) : (Go.part 23 (fvals n z d).toArray 1).run Tryd.prog w = .ok (.agg (vals 36 z).toArray) w := by
  simp [Go.part, isAgg, run_underlying arrM36, sizeA36]
  exact take_fz n z d
theorem run_part_FD (w : World) (n : Int) (z d : Nat → Int) : (Go.part 24 (fvals n z d).toArray 37).run Tryd.prog w = .ok (.agg (vals 6 d).toArray) w := by
  simp [Go.part, isAgg, run_underlying arr6, sizeA6]
  exact take_fd n z d
/-- Are two factors the same? -/
def eqF (n : Int) (z d : Nat → Int) (n' : Int) (z' d' : Nat → Int) : Bool := (n == n') && (eqz 36 z z' && (eqz 6 d d' && true))
set_option maxRecDepth 20000 in
theorem run_eqF (n : Int) (z d : Nat → Int) (n' : Int) (z' d' : Nat → Int) (w : World) : (Op.equalIn 10000 26 (.agg (fvals n z d).toArray) (.agg (fvals n' z' d').toArray)).run Tryd.prog w = .ok (eqF n z d n' z' d') w := by
  obtain ⟨f0, f1, f2, hf, h0, h1, h2⟩ := list3 fieldsF
  injection h0 with n0 h0
  injection h0 with t0 o0
  injection h1 with n1 h1
  injection h1 with t1 o1
  injection h2 with n2 h2
  injection h2 with t2 o2
  rw [run_equalIn_struct w 9999 26 _ _ structF stoodF, hf]
  clear hf
  obtain ⟨i0, hi, _, _, _⟩ := info_parts infoI64
  have q0 := run_equalIn_int w 9998 3 .i64 .i64 n n' Tryd.underlying3
  have q1 : (Op.equalIn 9999 23 (.agg (vals 36 z).toArray) (.agg (vals 36 z').toArray)).run Tryd.prog w = .ok (eqz 36 z z') w := by
    rw [run_equalIn_array w 9998 (vals 36 z).toArray (vals 36 z').toArray arrM36 hi, cellsI64]
    exact run_itemsG 36 z z' w 9997 _ (fun i hi => by simpa using hi)
  have q2 : (Op.equalIn 9999 24 (.agg (vals 6 d).toArray) (.agg (vals 6 d').toArray)).run Tryd.prog w = .ok (eqz 6 d d') w := by
    rw [run_equalIn_array w 9998 (vals 6 d).toArray (vals 6 d').toArray arr6 hi, cellsI64]
    exact run_itemsG 6 d d' w 9997 _ (fun i hi => by simpa using hi)
  exact eqFields_stepG 9999 _ _ f0 _ w _ _ _ _ (by rw [n0]; simp) (by rw [t0, o0]; exact run_part_int w (fvals n z d).toArray 0 n (by simp [fvals])) (by rw [t0, o0]; exact run_part_int w (fvals n' z' d').toArray 0 n' (by simp [fvals])) (by rw [t0]; exact q0)
    (eqFields_stepG 9999 _ _ f1 _ w _ _ _ _ (by rw [n1]; simp) (by rw [t1, o1]; exact run_part_FL w n z d) (by rw [t1, o1]; exact run_part_FL w n' z' d') (by rw [t1]; exact q1)
      (eqFields_stepG 9999 _ _ f2 _ w _ _ _ _ (by rw [n2]; simp) (by rw [t2, o2]; exact run_part_FD w n z d) (by rw [t2, o2]; exact run_part_FD w n' z' d') (by rw [t2]; exact q2) (eqFields_nil _ _ _ w)))
theorem eqF_same (n : Int) (z d : Nat → Int) : eqF n z d n z d = true := by unfold eqF; simp [eqz_iff.2]

/-- Two factors that are the same: 'f != g'. -/
theorem wpList_neF {ops : Array Oper} {rest : List Oper} {o : Oper} {a : Act} {w : World} {Q : Exit → Act → World → Prop} (hw : Region.wanted o (yielded ops a.tmps) = true) (x y : Operand) (u : TypeId) (ho : o.op = .binOp .neq 26 x y u)
    (n : Int) (z d : Nat → Int) (hx : a.eval x = .agg (fvals n z d).toArray) (hy : a.eval y = .agg (fvals n z d).toArray)
    (h : wpList Tryd.prog ops Q rest (a.put o.dst (.bool false)) w) : wpList Tryd.prog ops Q (o :: rest) a w :=
  wpList_wanted hw fun _ hK => by
    unfold Oper.wp execOp
    simp only [ho, hx, hy, Sem.run_bind, run_eqGuard_agg w _ _ x y _ _ guardF, Result.andThen_ok, run_neq_struct, run_eqF, eqF_same]
    exact hK _ _ h

end Ld
end Go.Proofs.YtfgjigkgfflofaaDoorR
