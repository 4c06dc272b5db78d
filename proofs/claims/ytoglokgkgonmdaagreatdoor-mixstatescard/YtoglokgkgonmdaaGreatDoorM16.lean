/-
  Matrices (mat): two that are the same compared; a matrix into a new variable; what must come whatever the input is (sure of the laws of layer 8).
-/
import Derived.Test.YtoglokgkgonmdaaGreatDoorM15
import Derived.Test.YtoglokgkgonmdaaGreatDoorM7
import Derived.ChangeKeysEq
import Derived.Test.YtoglokgkgonmdaaGreatDoorM3
import Derived.Test.YtoglokgkgonmdaaGreatDoorM2
set_option linter.unusedSimpArgs false
set_option linter.unusedVariables false
namespace Go.Proofs.YtoglokgkgonmdaaGreatDoor
open Go.RowKit Vc Mt Qn Dt
namespace Mt
theorem fieldsM : (Tryz.prog.fieldsOf 40).toList.map (fun f => (f.name, f.type, f.offset)) = [("Rows", 3, 0), ("Cols", 3, 1), ("A", 38, 2)] := by kernel_rfl
theorem structM : Tryz.prog.underlying 40 = some (.struct (Tryz.prog.fieldsOf 40)) := by kernel_rfl
theorem stoodM : Tryz.prog.stoodInHeld 40 = false := by kernel_rfl
theorem guardM : Tryz.prog.eqGuardType Tryz.prog.depth 40 = false := by kernel_rfl
theorem arrM36 : Tryz.prog.underlying 38 = some (.array 36 2) := by kernel_rfl
theorem cellsI64 : Tryz.prog.cellsOf 2 = 1 := by kernel_rfl
theorem sizeA36 (w : World) : (sizeOf 38).run Tryz.prog w = .ok 36 w := by
  have h : (Tryz.prog.info? 38).map (·.size) = some 36 := by kernel_rfl
  cases hq : Tryz.prog.info? 38 with
  | none => rw [hq] at h; cases h
  | some i =>
    have hi : i.size = 36 := by rw [hq] at h; simpa using h
    simp [sizeOf, typeInfo, hq, hi]
theorem take_mvals (r c : Int) (z : Nat → Int) : List.take 36 (List.drop 2 (mvals r c z)) = vals 36 z := by
  have h : (vals 36 z).length = 36 := vals_len 36 z
  show List.take 36 (vals 36 z) = vals 36 z
  exact List.take_of_length_le (by omega)
theorem run_part_int (w : World) (xs : Array Value) (o : Nat) (v : Int) (h : xs[o]? = some (.int .i64 v)) : (Go.part 3 xs o).run Tryz.prog w = .ok (.int .i64 v) w := by
  simp [Go.part, isAgg, run_underlying Tryz.underlying3, h]
theorem run_part_i64 (w : World) (xs : Array Value) (o : Nat) (v : Int) (h : xs[o]? = some (.int .i64 v)) : (Go.part 2 xs o).run Tryz.prog w = .ok (.int .i64 v) w := by
  simp [Go.part, isAgg, run_underlying Tryz.underlying2, h]
theorem run_part_A (w : World) (r c : Int) (z : Nat → Int) : (Go.part 38 (mvals r c z).toArray 2).run Tryz.prog w = .ok (.agg (vals 36 z).toArray) w := by
  simp [Go.part, isAgg, run_underlying arrM36, sizeA36]
  exact take_mvals r c z
theorem list3 {α β : Type} {g : α → β} : ∀ {fs : List α} {a b c : β}, fs.map g = [a, b, c] → ∃ x y z, fs = [x, y, z] ∧ g x = a ∧ g y = b ∧ g z = c
  | [], a, b, c, h => by simp at h
  | [x], a, b, c, h => by simp at h
  | [x, y], a, b, c, h => by simp at h
  | [x, y, z], a, b, c, h => by simp at h; exact ⟨x, y, z, rfl, h.1, h.2.1, h.2.2⟩
  | x :: y :: z :: u :: r, a, b, c, h => by simp at h
theorem eqFields_nil (d : Nat) (xs ys : Array Value) (w : World) : (Op.eqFields d xs ys []).run Tryz.prog w = .ok true w := by simp [Op.eqFields]
theorem wpList_storeNew {ops : Array Oper} {rest : List Oper} {o : Oper} {a : Act} {Q : Exit → Act → World → Prop} (hgd : o.guard = none) (x y : Operand) (ho : o.op = .store 40 x y) (w2 : World)
    (r c : Int) (z : Nat → Int) (hx : a.eval x = .pointer (some ⟨w2.heap.size, 0, none⟩)) (hy : a.eval y = .agg (mvals r c z).toArray)
    (h : ∀ w3, MRow w3 w2.heap.size r c z → Below w2.heap.size w2 w3 → wpList Tryz.prog ops Q rest (a.put o.dst undef) w3) : wpList Tryz.prog ops Q (o :: rest) a (w2.alloc (.cells (mvals 0 0 (fun _ => 0)).toArray 40)) :=
  wpList_storeM hgd x y ho _ _ _ _ _ _ _ hx hy (mrow_new w2 0 0 (fun _ => 0)) (h _ ((mrow_new w2 0 0 (fun _ => 0)).row _ _ _) (below_row (below_al (Below.refl _ _) _) (Nat.le_refl _) _))
end Mt
end Go.Proofs.YtoglokgkgonmdaaGreatDoor
namespace Go.Proofs.YtoglokgkgonmdaaGreatDoor
open Go.RowKit Vc Mt
namespace Cm
def eqz (n : Nat) (z y : Nat → Int) : Bool := (List.range n).all fun i => z i == y i
theorem eqz_iff {n : Nat} {z y : Nat → Int} : eqz n z y = true ↔ ∀ k, k < n → z k = y k := by
  unfold eqz; rw [List.all_eq_true]
  exact ⟨fun h k hk => by simpa using h k (List.mem_range.2 hk), fun h k hk => by simpa using h k (List.mem_range.1 hk)⟩
theorem run_itemsG (n : Nat) (z y : Nat → Int) (w : World) (d : Nat) : ∀ is : List Nat, (∀ i ∈ is, i < n) → (Op.eqItems (d + 1) 2 1 (vals n z).toArray (vals n y).toArray is).run Tryz.prog w = .ok (is.all fun i => z i == y i) w
  | [], _ => by simp [Op.eqItems]
  | i :: is, h => by
    have hi : i < n := h i (by simp)
    have px := run_part_i64 w (vals n z).toArray (i * 1) (z i) (by rw [List.getElem?_toArray, Nat.mul_one]; exact vals_at hi)
    have py := run_part_i64 w (vals n y).toArray (i * 1) (y i) (by rw [List.getElem?_toArray, Nat.mul_one]; exact vals_at hi)
    have pe := run_equalIn_int w d 2 .i64 .i64 (z i) (y i) Tryz.underlying2
    have ih := run_itemsG n z y w d is fun j hj => h j (by simp [hj])
    simp only [Op.eqItems, Sem.run_bind, px, py, pe, Result.andThen_ok]
    cases hb : (z i == y i) with
    | true => simp [ih, hb]
    | false => simp [hb]
theorem run_eqA {t : TypeId} {n : Nat} (ht : Tryz.prog.underlying t = some (.array n 2)) (z y : Nat → Int) (w : World) (d : Nat) : (Op.equalIn (d + 2) t (.agg (vals n z).toArray) (.agg (vals n y).toArray)).run Tryz.prog w = .ok (eqz n z y) w := by
  obtain ⟨i0, hi, _, _, _⟩ := info_parts infoI64
  rw [run_equalIn_array w (d + 1) (vals n z).toArray (vals n y).toArray ht hi, cellsI64]
  exact run_itemsG n z y w d _ (fun i hi => by simpa using hi)
theorem eqFields_stepG (d : Nat) (xs ys : Array Value) (f : Field) (fs : List Field) (w : World) (v u : Value) (b c : Bool) (hn : f.name ≠ "_") (p1 : (Go.part f.type xs f.offset).run Tryz.prog w = .ok v w) (p2 : (Go.part f.type ys f.offset).run Tryz.prog w = .ok u w) (pe : (Op.equalIn d f.type v u).run Tryz.prog w = .ok b w)
    (h : (Op.eqFields d xs ys fs).run Tryz.prog w = .ok c w) : (Op.eqFields d xs ys (f :: fs)).run Tryz.prog w = .ok (b && c) w := by
  rw [Op.eqFields, if_pos hn]
  simp only [Sem.run_bind, p1, p2, pe, Result.andThen_ok]
  cases b with
  | true => simpa using h
  | false => simp
def eqM (r c : Int) (z : Nat → Int) (r' c' : Int) (z' : Nat → Int) : Bool := (r == r') && ((c == c') && (eqz 36 z z' && true))
theorem eqM_iff {r c r' c' : Int} {z z' : Nat → Int} : eqM r c z r' c' z' = true ↔ r = r' ∧ c = c' ∧ ∀ k, k < 36 → z k = z' k := by
  unfold eqM; simp [eqz_iff]
set_option maxRecDepth 20000 in
theorem run_eqM (r c : Int) (z : Nat → Int) (r' c' : Int) (z' : Nat → Int) (w : World) (d : Nat) : (Op.equalIn (d + 3) 40 (.agg (mvals r c z).toArray) (.agg (mvals r' c' z').toArray)).run Tryz.prog w = .ok (eqM r c z r' c' z') w := by
  obtain ⟨f0, f1, f2, hf, h0, h1, h2⟩ := list3 fieldsM
  injection h0 with n0 h0
  injection h0 with t0 o0
  injection h1 with n1 h1
  injection h1 with t1 o1
  injection h2 with n2 h2
  injection h2 with t2 o2
  rw [run_equalIn_struct w (d + 2) 40 _ _ structM stoodM, hf]
  clear hf
  have q0 := run_equalIn_int w (d + 1) 3 .i64 .i64 r r' Tryz.underlying3
  have q1 := run_equalIn_int w (d + 1) 3 .i64 .i64 c c' Tryz.underlying3
  have q2 := run_eqA arrM36 z z' w d
  exact eqFields_stepG (d + 2) _ _ f0 _ w _ _ _ _ (by rw [n0]; simp) (by rw [t0, o0]; exact run_part_int w (mvals r c z).toArray 0 r (by simp [mvals])) (by rw [t0, o0]; exact run_part_int w (mvals r' c' z').toArray 0 r' (by simp [mvals])) (by rw [t0]; exact q0)
    (eqFields_stepG (d + 2) _ _ f1 _ w _ _ _ _ (by rw [n1]; simp) (by rw [t1, o1]; exact run_part_int w (mvals r c z).toArray 1 c (by simp [mvals])) (by rw [t1, o1]; exact run_part_int w (mvals r' c' z').toArray 1 c' (by simp [mvals])) (by rw [t1]; exact q1)
      (eqFields_stepG (d + 2) _ _ f2 _ w _ _ _ _ (by rw [n2]; simp) (by rw [t2, o2]; exact run_part_A w r c z) (by rw [t2, o2]; exact run_part_A w r' c' z') (by rw [t2]; exact q2) (eqFields_nil _ _ _ w)))
variable {ops : Array Oper} {rest : List Oper} {o : Oper} {a : Act} {w : World} {Q : Exit → Act → World → Prop}
theorem eqlM (x y : Operand) (u : TypeId) (ho : o.op = .binOp .eql 40 x y u)
    (r c : Int) (z : Nat → Int) (r' c' : Int) (z' : Nat → Int) (b : Bool) (hb : eqM r c z r' c' z' = b) (hx : a.eval x = .agg (mvals r c z).toArray) (hy : a.eval y = .agg (mvals r' c' z').toArray) (hw : Region.wanted o (yielded ops a.tmps) = true)
    (h : wpList Tryz.prog ops Q rest (a.put o.dst (.bool b)) w) : wpList Tryz.prog ops Q (o :: rest) a w :=
  wpList_wanted hw fun _ hK => by
    unfold Oper.wp execOp
    simp only [ho, hx, hy, Sem.run_bind, run_eqGuard_agg w _ _ x y _ _ guardM, Result.andThen_ok, run_eql_struct]
    rw [run_eqM r c z r' c' z' w 9997, hb]
    exact hK _ _ h
end Cm
end Go.Proofs.YtoglokgkgonmdaaGreatDoor
namespace Go.Proofs.YtoglokgkgonmdaaGreatDoor
open Go.RowKit Vc Mt St Cm
namespace Pd
def svals (X : Nat → Int) (r c : Int) (z : Nat → Int) : List Value := vals 6 X ++ mvals r c z
theorem svals_len (X : Nat → Int) (r c : Int) (z : Nat → Int) : (svals X r c z).length = 44 := by simp [svals, vals_len, mvals_len]
theorem svals_x {X : Nat → Int} {r c : Int} {z : Nat → Int} {k : Nat} (h : k < 6) : (svals X r c z)[k]? = some (.int .i64 (X k)) := by
  unfold svals
  rw [List.getElem?_append_left (by rw [vals_len]; exact h)]
  exact vals_at h
theorem svals_m (X : Nat → Int) (r c : Int) (z : Nat → Int) (k : Nat) : (svals X r c z)[k + 6]? = (mvals r c z)[k]? := by
  unfold svals
  rw [List.getElem?_append_right (by rw [vals_len]; omega), vals_len, Nat.add_sub_cancel]
theorem svals_z {X : Nat → Int} {r c : Int} {z : Nat → Int} {k : Nat} (h : k < 36) : (svals X r c z)[k + 8]? = some (.int .i64 (z k)) := by
  rw [svals_m X r c z (k + 2)]; exact mvals_at h
theorem svals_setx {X : Nat → Int} {r c : Int} {z : Nat → Int} {j : Nat} (h : j < 6) (x : Int) : (svals X r c z).set j (.int .i64 x) = svals (fun k => if k = j then x else X k) r c z := by
  unfold svals
  rw [List.set_append_left _ _ (by rw [vals_len]; exact h), vals_set]
theorem svals_congr {X Y : Nat → Int} {r c : Int} {z z' : Nat → Int} (h : ∀ k, k < 6 → X k = Y k) (h' : ∀ k, k < 36 → z k = z' k) : svals X r c z = svals Y r c z' := by
  unfold svals; rw [vals_congr h, mvals_congr h']
theorem one_svals (X : Nat → Int) (r c : Int) (z : Nat → Int) : ∀ v ∈ svals X r c z, v.oneCell' = true := by
  intro v hv
  rcases List.mem_append.1 hv with hv | hv
  · obtain ⟨k, _, rfl⟩ := List.mem_map.1 hv
    rfl
  · exact one_mvals _ _ _ v hv
theorem isS : Is 42 44 := ⟨by kernel_rfl, ⟨_, Tryz.underlying42, rfl⟩⟩
theorem is6 : Is 37 6 := ⟨by kernel_rfl, ⟨_, Tryz.underlying37, rfl⟩⟩
theorem isMt : Is 40 38 := ⟨Tryz.sizeM, ⟨_, Tryz.underlying40, rfl⟩⟩
theorem isPt : Is 110 6 := ⟨by kernel_rfl, ⟨_, Tryz.underlying110, rfl⟩⟩
abbrev SRow (w : World) (g : Nat) (X : Nat → Int) (r c : Int) (z : Nat → Int) : Prop := CRow w g 42 (svals X r c z)
theorem SRow.x {w : World} {g : Nat} {X : Nat → Int} {r c : Int} {z : Nat → Int} (h : SRow w g X r c z) {k o : Nat} (hk : k < 6) (ho : o = k) : w.cell? ⟨g, o, none⟩ = some (.int .i64 (X k)) := h.cell (svals_x hk) ho
theorem SRow.z {w : World} {g : Nat} {X : Nat → Int} {r c : Int} {z : Nat → Int} (h : SRow w g X r c z) {k o : Nat} (hk : k < 36) (ho : o = k + 8) : w.cell? ⟨g, o, none⟩ = some (.int .i64 (z k)) := h.cell (svals_z hk) ho
theorem SRow.setx {w : World} {g : Nat} {X : Nat → Int} {r c : Int} {z : Nat → Int} (h : SRow w g X r c z) {k o : Nat} (hk : k < 6) (ho : o = k) (x : Int) : SRow (w.setCell ⟨g, o, none⟩ (.int .i64 x)) g (fun i => if i = k then x else X i) r c z := by
  subst ho
  have h' := CRow.set h o (.int .i64 x)
  rwa [svals_setx hk] at h'
theorem SRow.congr {w : World} {g : Nat} {X Y : Nat → Int} {r c : Int} {z z' : Nat → Int} (h : SRow w g X r c z) (e : ∀ k, k < 6 → X k = Y k) (e' : ∀ k, k < 36 → z k = z' k) : SRow w g Y r c z' := by
  unfold SRow; rw [← svals_congr e e']; exact h
theorem SRow.sl {w : World} {g : Nat} {X : Nat → Int} {r c : Int} {z : Nat → Int} (h : SRow w g X r c z) : Sl w (some ⟨g, 0, none⟩) 6 6 X :=
  ⟨Nat.le_refl _, by omega, fun k hk => ⟨_, rfl, by rw [Addr.add_lit]; exact h.x hk (by omega)⟩⟩
theorem SRow.rm {w : World} {g : Nat} {X : Nat → Int} {r c : Int} {z : Nat → Int} (h : SRow w g X r c z) : w.rangeAt g 6 (mvals r c z) := CRow.mid h (o := 6) fun j v hv => by
  rw [Nat.add_comm, svals_m]; exact hv
theorem zeroS : (#[.int .i64 0, .int .i64 0, .int .i64 0, .int .i64 0, .int .i64 0, .int .i64 0, .int .i64 0, .int .i64 0, .int .i64 0, .int .i64 0, .int .i64 0, .int .i64 0, .int .i64 0, .int .i64 0, .int .i64 0, .int .i64 0, .int .i64 0, .int .i64 0, .int .i64 0, .int .i64 0, .int .i64 0, .int .i64 0, .int .i64 0, .int .i64 0, .int .i64 0, .int .i64 0, .int .i64 0, .int .i64 0, .int .i64 0, .int .i64 0, .int .i64 0, .int .i64 0, .int .i64 0, .int .i64 0, .int .i64 0, .int .i64 0, .int .i64 0, .int .i64 0, .int .i64 0, .int .i64 0, .int .i64 0, .int .i64 0, .int .i64 0, .int .i64 0] : Array Value) = (svals (fun _ => 0) 0 0 (fun _ => 0)).toArray := by kernel_rfl
theorem zero6 : (#[.int .i64 0, .int .i64 0, .int .i64 0, .int .i64 0, .int .i64 0, .int .i64 0] : Array Value) = (vals 6 (fun _ => 0)).toArray := by kernel_rfl
theorem fieldsS : (Tryz.prog.fieldsOf 42).toList.map (fun f => (f.name, f.type, f.offset)) = [("X", 37, 0), ("P", 40, 6)] := by kernel_rfl
theorem structS : Tryz.prog.underlying 42 = some (.struct (Tryz.prog.fieldsOf 42)) := by kernel_rfl
theorem stoodS : Tryz.prog.stoodInHeld 42 = false := by kernel_rfl
theorem guardS : Tryz.prog.eqGuardType Tryz.prog.depth 42 = false := by kernel_rfl
theorem arr6 : Tryz.prog.underlying 37 = some (.array 6 2) := by kernel_rfl
theorem list2 {α β : Type} {g : α → β} : ∀ {fs : List α} {a b : β}, fs.map g = [a, b] → ∃ x y, fs = [x, y] ∧ g x = a ∧ g y = b
  | [], a, b, h => by simp at h
  | [x], a, b, h => by simp at h
  | [x, y], a, b, h => by
    simp only [List.map_cons, List.map_nil, List.cons.injEq, and_true] at h
    exact ⟨x, y, rfl, h.1, h.2⟩
  | x :: y :: z :: r, a, b, h => by simp at h
theorem sizeOf_of {t : TypeId} {n : Nat} (h : (Tryz.prog.info? t).map (·.size) = some n) (w : World) : (sizeOf t).run Tryz.prog w = .ok n w := by
  cases hq : Tryz.prog.info? t with
  | none => rw [hq] at h; cases h
  | some i =>
    have hi : i.size = n := by rw [hq] at h; simpa using h
    simp [sizeOf, typeInfo, hq, hi]
theorem take_sx (X : Nat → Int) (r c : Int) (z : Nat → Int) : List.take 6 (svals X r c z) = vals 6 X := by
  unfold svals
  rw [List.take_append_of_le_length (by rw [vals_len]; omega)]
  exact List.take_of_length_le (by rw [vals_len]; omega)
theorem take_sm (X : Nat → Int) (r c : Int) (z : Nat → Int) : List.take 38 (List.drop 6 (svals X r c z)) = mvals r c z := by
  unfold svals
  rw [List.drop_append_of_le_length (by rw [vals_len]; omega), List.drop_eq_nil_of_le (by rw [vals_len]; omega), List.nil_append]
  exact List.take_of_length_le (by rw [mvals_len]; omega)
theorem run_part_X (w : World) (X : Nat → Int) (r c : Int) (z : Nat → Int) : (Go.part 37 (svals X r c z).toArray 0).run Tryz.prog w = .ok (.agg (vals 6 X).toArray) w := by
  simp [Go.part, isAgg, run_underlying arr6, sizeOf_of is6.size]
  exact take_sx X r c z
theorem run_part_P (w : World) (X : Nat → Int) (r c : Int) (z : Nat → Int) : (Go.part 40 (svals X r c z).toArray 6).run Tryz.prog w = .ok (.agg (mvals r c z).toArray) w := by
  simp [Go.part, isAgg, run_underlying structM, sizeOf_of Tryz.sizeM]
  exact take_sm X r c z
def eqS (X : Nat → Int) (r c : Int) (z : Nat → Int) (Y : Nat → Int) (r' c' : Int) (z' : Nat → Int) : Bool := eqz 6 X Y && (eqM r c z r' c' z' && true)
theorem eqS_iff {X Y : Nat → Int} {r c r' c' : Int} {z z' : Nat → Int} : eqS X r c z Y r' c' z' = true ↔ (∀ k, k < 6 → X k = Y k) ∧ r = r' ∧ c = c' ∧ ∀ k, k < 36 → z k = z' k := by
  unfold eqS; simp [eqz_iff, eqM_iff]
theorem eqS_same (X : Nat → Int) (r c : Int) (z : Nat → Int) : eqS X r c z X r c z = true := eqS_iff.2 ⟨fun _ _ => rfl, rfl, rfl, fun _ _ => rfl⟩
set_option maxRecDepth 20000 in
theorem run_eqS (X : Nat → Int) (r c : Int) (z : Nat → Int) (Y : Nat → Int) (r' c' : Int) (z' : Nat → Int) (w : World) (d : Nat) : (Op.equalIn (d + 4) 42 (.agg (svals X r c z).toArray) (.agg (svals Y r' c' z').toArray)).run Tryz.prog w = .ok (eqS X r c z Y r' c' z') w := by
  obtain ⟨f0, f1, hf, h0, h1⟩ := list2 fieldsS
  injection h0 with n0 h0
  injection h0 with t0 o0
  injection h1 with n1 h1
  injection h1 with t1 o1
  rw [run_equalIn_struct w (d + 3) 42 _ _ structS stoodS, hf]
  clear hf
  have q0 := run_eqA arr6 X Y w (d + 1)
  have q1 := run_eqM r c z r' c' z' w d
  exact eqFields_stepG (d + 3) _ _ f0 _ w _ _ _ _ (by rw [n0]; simp) (by rw [t0, o0]; exact run_part_X w X r c z) (by rw [t0, o0]; exact run_part_X w Y r' c' z') (by rw [t0]; exact q0)
    (eqFields_stepG (d + 3) _ _ f1 _ w _ _ _ _ (by rw [n1]; simp) (by rw [t1, o1]; exact run_part_P w X r c z) (by rw [t1, o1]; exact run_part_P w Y r' c' z') (by rw [t1]; exact q1) (eqFields_nil _ _ _ w))
section
variable {ops : Array Oper} {rest : List Oper} {o : Oper} {a : Act} {w : World} {Q : Exit → Act → World → Prop}
theorem eqlS (x y : Operand) (u : TypeId) (ho : o.op = .binOp .eql 42 x y u)
    (X : Nat → Int) (r c : Int) (z : Nat → Int) (Y : Nat → Int) (r' c' : Int) (z' : Nat → Int) (b : Bool) (hx : a.eval x = .agg (svals X r c z).toArray) (hy : a.eval y = .agg (svals Y r' c' z').toArray) (hb : eqS X r c z Y r' c' z' = b) (hw : Region.wanted o (yielded ops a.tmps) = true)
    (h : wpList Tryz.prog ops Q rest (a.put o.dst (.bool b)) w) : wpList Tryz.prog ops Q (o :: rest) a w :=
  wpList_want hw fun _ hK => by
    unfold Oper.wp execOp
    simp only [ho, hx, hy, Sem.run_bind, run_eqGuard_agg w _ _ x y _ _ guardS, Result.andThen_ok, run_eql_struct]
    rw [run_eqS X r c z Y r' c' z' w 9996, hb]
    exact hK _ _ h
end
abbrev PRow (w : World) (g : Nat) (X : Nat → Int) : Prop := CRow w g 110 (vals 6 X)
theorem PRow.x {w : World} {g : Nat} {X : Nat → Int} (h : PRow w g X) {k o : Nat} (hk : k < 6) (ho : o = k) : w.cell? ⟨g, o, none⟩ = some (.int .i64 (X k)) := h.cell (vals_at hk) ho
theorem PRow.setx {w : World} {g : Nat} {X : Nat → Int} (h : PRow w g X) (j : Nat) (x : Int) {o : Nat} (ho : o = j) : PRow (w.setCell ⟨g, o, none⟩ (.int .i64 x)) g (fun k => if k = j then x else X k) := by
  subst ho
  have h' := CRow.set h o (.int .i64 x)
  rwa [vals_set] at h'
theorem PRow.congr {w : World} {g : Nat} {X Y : Nat → Int} (h : PRow w g X) (e : ∀ k, k < 6 → X k = Y k) : PRow w g Y := by
  unfold PRow; rw [← vals_congr e]; exact h
theorem PRow.sl {w : World} {g : Nat} {X : Nat → Int} (h : PRow w g X) : Sl w (some ⟨g, 0, none⟩) 6 6 X :=
  ⟨Nat.le_refl _, by omega, fun k hk => ⟨_, rfl, by rw [Addr.add_lit]; exact h.x hk (by omega)⟩⟩
end Pd
end Go.Proofs.YtoglokgkgonmdaaGreatDoor
namespace Go.Proofs.YtoglokgkgonmdaaGreatDoor
open Go.RowKit Mt
namespace Hk
variable {ops : Array Oper} {rest : List Oper} {o : Oper} {a : Act} {w : World} {Q : Exit → Act → World → Prop}
theorem loadM (x : Operand) (ho : o.op = .load 40 x) (b : Nat) (r c : Int) (z : Nat → Int) (hx : a.eval x = .pointer (some ⟨b, 0, none⟩)) (hr : MRow w b r c z) (hw : Region.wanted o (yielded ops a.tmps) = true)
    (h : wpList Tryz.prog ops Q rest (a.put o.dst (.agg (mvals r c z).toArray)) w) : wpList Tryz.prog ops Q (o :: rest) a w := wpList_loadM hw x ho b r c z hx hr h
end Hk
end Go.Proofs.YtoglokgkgonmdaaGreatDoor
namespace Go.Proofs.YtoglokgkgonmdaaGreatDoor
open Go.RowKit Vc St Mt Cm Pd Pr
attribute [local go_sem ↓] Go.wp_at_zero Go.wp_at_succ
namespace Pd
theorem hide {p : Prop} (h : p) : Hid p := h
def allIn (a b : Int) (z : Nat → Int) (n : Nat) : Prop := ∀ k, k < n → a ≤ z k ∧ z k ≤ b
theorem may66 (z : Nat → Int) : May 6 6 z := ⟨6, 6, rfl, rfl, by omega, by omega, by omega, by omega, fun k h1 h2 => by omega⟩
end Pd
set_option maxHeartbeats 400000 in
theorem pwithin_any (t : Bool) (a b : Int) (ao : Option Addr) (n ca : Nat) (z : Nat → Int) (w : World) (h : Sl w ao n ca z) (ht : t = true ↔ allIn a b z n) :
  Calls Tryz.prog 55 #[.int .i64 a, .int .i64 b, .slice ao n ca] w fun e w' => e = .returned (.bool t) ∧ w' = w := by
 have HN : Hid (∀ k, k < n → ¬ (a ≤ z k ∧ z k ≤ b) → t = false) := fun k hk q => by
  cases t with
  | false => rfl
  | true => exact absurd (ht.1 rfl k hk) q
 have HY : Hid ((∀ k, k < n → a ≤ z k ∧ z k ≤ b) → t = true) := fun q => ht.2 q
 obtain ⟨x, hx, hc⟩ := h.get
 have l1 := h.le
 have l2 := h.cap
 have HX := hide hx
 have HC := hide hc
 clear h hx hc ht
 go_enter Tryz.func55, Tryz.ntmps55
 go_wp2
 go_loopw [11] (fun i wr => ∃ k : Nat, k ≤ n ∧ i = .int .i64 (k : Int) ∧ wr = w ∧ Hid (∀ q, q < k → a ≤ z q ∧ z q ≤ b)) (fun i _ => n - (intOf i).toNat)
 case atStart => exact ⟨0, by omega, rfl, rfl, fun q hq => by omega⟩
 case round =>
  obtain ⟨k, hk, rfl, rfl, hok⟩ := hrel
  by_cases h : k < n
  ·obtain rfl := HX.out (by omega)
   have cc := HC.out k h
   obtain ⟨v, hv⟩ : ∃ v, v = z k := ⟨_, rfl⟩
   rw [← hv] at cc
   have HV := hide hv
   clear hv
   by_cases c1 : v < a
   ·have d1 : decide (v < a) = true := decide_eq_true c1
    go_wp2
    go_ret
    exact ⟨by rw [HN.out k h (fun q => by rw [← HV.out] at q; omega)]; rfl, rfl⟩
   ·have d1 : decide (v < a) = false := decide_eq_false c1
    by_cases c2 : b < v
    ·have d2 : decide (b < v) = true := decide_eq_true c2
     go_wp2
     go_ret
     exact ⟨by rw [HN.out k h (fun q => by rw [← HV.out] at q; omega)]; rfl, rfl⟩
    ·have d2 : decide (b < v) = false := decide_eq_false c2
     go_wp2
     go_roundw
     case rel => exact ⟨k + 1, by omega, by go_num, trivial, fun q hq => by
       rcases Nat.lt_or_ge q k with c | c
       ·exact hok.out q c
       ·obtain rfl : q = k := by omega
        rw [← HV.out]; omega⟩
     case measure => simp [intOf]; omega
  ·obtain rfl : k = n := by omega
   go_wp2
   go_ret
   exact ⟨by rw [HY.out hok.out]; rfl, rfl⟩
set_option maxHeartbeats 400000 in
theorem pbounded_any (t : Bool) (ao : Option Addr) (n ca : Nat) (z : Nat → Int) (w : World) (h : Sl w ao n ca z) (ht : t = true ↔ ∀ k, k < n → InV (z k)) :
    Calls Tryz.prog 41 #[.slice ao n ca] w fun e w' => e = .returned (.bool t) ∧ w' = w := by
  have H := hide (pwithin_any t (-4611686018427387903) 4611686018427387903 ao n ca z w h ht)
  clear h ht
  go_enter Tryz.func41, Tryz.ntmps41
  go_wp2_with fail
  refine H.out.mono ?_
  rintro e w1 ⟨rfl, rfl⟩
  go_wp2
  go_ret
  exact ⟨rfl, rfl⟩
set_option maxRecDepth 10000 in
set_option maxHeartbeats 400000 in
theorem pisSix_yes (z : Nat → Int) (w : World) :
    Calls Tryz.prog 38 #[.agg (mvals 6 6 z).toArray] w fun e w' => e = .returned (.bool true) ∧ Below w.heap.size w w' := by
  have r0 := mrow_new w 6 6 z
  have B0 := below_al (Below.refl _ w) (.cells (mvals 6 6 z).toArray 40)
  obtain ⟨W, hW⟩ : ∃ W, W = w.alloc (.cells (mvals 6 6 z).toArray 40) := ⟨_, rfl⟩
  rw [← hW] at r0 B0
  have HW := hide hW
  have H := hide (check_may W (may66 z))
  clear hW
  go_enter Tryz.func38, Tryz.ntmps38
  go_wp2_with (first
    | (rw [← HW.out]; refine Hk.loadM _ (by with_reducible rfl) _ _ _ _ (by rfl) (by with_reducible exact r0) (by kernel_rfl) ?_)
    | fail)
  refine H.out.mono ?_
  rintro e w1 ⟨rfl, k1⟩
  have c0 := (r0.keep k1).rows
  have c1 := (r0.keep k1).cols
  go_wp2
  go_ret
  exact ⟨rfl, below_tr B0 k1⟩
set_option maxRecDepth 10000 in
set_option maxHeartbeats 400000 in
theorem pisSix_no (r c : Int) (z : Nat → Int) (w : World) (h : ¬ (r = 6 ∧ c = 6)) :
  Calls Tryz.prog 38 #[.agg (mvals r c z).toArray] w fun e w' => e = .returned (.bool false) ∧ Below w.heap.size w w' := by
 have r0 := mrow_new w r c z
 have B0 := below_al (Below.refl _ w) (.cells (mvals r c z).toArray 40)
 obtain ⟨W, hW⟩ : ∃ W, W = w.alloc (.cells (mvals r c z).toArray 40) := ⟨_, rfl⟩
 rw [← hW] at r0 B0
 have HW := hide hW
 clear hW
 by_cases hm : May r c z
 ·have H := hide (check_may W hm)
  clear hm
  by_cases hr : r = 6
  ·subst hr
   have e1 : (c == 6) = false := beq_eq_false_iff_ne.2 (fun q => h ⟨rfl, q⟩)
   clear h
   go_enter Tryz.func38, Tryz.ntmps38
   go_wp2_with (first
    | (rw [← HW.out]; refine Hk.loadM _ (by with_reducible rfl) _ _ _ _ (by rfl) (by with_reducible exact r0) (by kernel_rfl) ?_)
    | fail)
   refine H.out.mono ?_
   rintro e w1 ⟨rfl, k1⟩
   have c0 := (r0.keep k1).rows
   have c1 := (r0.keep k1).cols
   go_wp2
   go_ret
   exact ⟨rfl, below_tr B0 k1⟩
  ·have e1 : (r == 6) = false := beq_eq_false_iff_ne.2 hr
   clear h
   go_enter Tryz.func38, Tryz.ntmps38
   go_wp2_with (first
    | (rw [← HW.out]; refine Hk.loadM _ (by with_reducible rfl) _ _ _ _ (by rfl) (by with_reducible exact r0) (by kernel_rfl) ?_)
    | fail)
   refine H.out.mono ?_
   rintro e w1 ⟨rfl, k1⟩
   have c0 := (r0.keep k1).rows
   have c1 := (r0.keep k1).cols
   go_wp2
   go_ret
   exact ⟨rfl, below_tr B0 k1⟩
 ·have H := hide (check_not W hm)
  clear hm h
  go_enter Tryz.func38, Tryz.ntmps38
  go_wp2_with (first
   | (rw [← HW.out]; refine Hk.loadM _ (by with_reducible rfl) _ _ _ _ (by rfl) (by with_reducible exact r0) (by kernel_rfl) ?_)
   | fail)
  refine H.out.mono ?_
  rintro e w1 ⟨rfl, k1⟩
  go_wp2
  go_ret
  exact ⟨rfl, below_tr B0 k1⟩
set_option maxRecDepth 10000 in
set_option maxHeartbeats 400000 in
theorem pturned_any (t : Bool) (F : Nat → Nat → Int) (w : World) (ht : t = true ↔ ∀ i j, i < 6 → j < 6 → F i j = F j i) :
  Calls Tryz.prog 39 #[.agg (mvals 6 6 (mz 6 6 F)).toArray] w fun e w' => e = .returned (.bool t) ∧ Below w.heap.size w w' := by
 have r0 := mrow_new w 6 6 (mz 6 6 F)
 have B0 := below_al (Below.refl _ w) (.cells (mvals 6 6 (mz 6 6 F)).toArray 40)
 obtain ⟨W, hW⟩ : ∃ W, W = w.alloc (.cells (mvals 6 6 (mz 6 6 F)).toArray 40) := ⟨_, rfl⟩
 rw [← hW] at r0 B0
 have H := hide (mturn_any 6 6 F W (by omega) (by omega) (by omega) (by omega))
 have HT : Hid (eqM 6 6 (mz 6 6 (fun i j => F j i)) 6 6 (mz 6 6 F) = t) := by
  have h1 : eqM 6 6 (mz 6 6 (fun i j => F j i)) 6 6 (mz 6 6 F) = true ↔ t = true := by
   rw [ht, eqM_iff]
   exact ⟨fun q i j hi hj => (mz_inj (by omega) q.2.2 hi hj).symm, fun q => ⟨rfl, rfl, fun k _ => mz_congr (fun i j hi hj => q j i hj hi) k⟩⟩
  cases t with
  | true => exact h1.2 rfl
  | false =>
   cases he : eqM 6 6 (mz 6 6 (fun i j => F j i)) 6 6 (mz 6 6 F) with
   | false => rfl
   | true => exact absurd (h1.1 he) (by decide)
 obtain ⟨z, hz⟩ : ∃ z, z = mz 6 6 F := ⟨_, rfl⟩
 obtain ⟨y, hy⟩ : ∃ y, y = mz 6 6 (fun i j => F j i) := ⟨_, rfl⟩
 rw [← hz] at r0 hW H HT ⊢
 rw [← hy] at H HT
 have HW := hide hW
 clear hW hz hy ht
 go_enter Tryz.func39, Tryz.ntmps39
 go_wp2_with (first
  | (rw [← HW.out]; refine Hk.loadM _ (by with_reducible rfl) _ _ _ _ (by rfl) (by with_reducible exact r0) (by kernel_rfl) ?_)
  | fail)
 refine H.out.mono ?_
 rintro e w1 ⟨rfl, k1⟩
 have r1 := r0.keep k1
 have B1 := below_tr B0 k1
 clear HW H r0 B0 k1
 go_wp2_with (first
  | (rw [zeroM]; refine Mt.wpList_storeNew rfl _ _ (by rfl) _ _ _ _ (by rfl) (by rfl) ?_; intro w2 n2 k2; have r2 := r1.keep k2; have B2 := below_tr B1 k2; clear r1 B1)
  | (refine Hk.loadM _ (by with_reducible rfl) _ _ _ _ (by rfl) (by with_reducible exact n2) (by kernel_rfl) ?_)
  | (refine Hk.loadM _ (by with_reducible rfl) _ _ _ _ (by rfl) (by with_reducible exact r2) (by kernel_rfl) ?_)
  | (refine Cm.eqlM _ _ _ (by with_reducible rfl) _ _ _ _ _ _ _ HT.out (by rfl) (by rfl) (by kernel_rfl) ?_)
  | fail)
 go_ret
 exact ⟨rfl, B2⟩
namespace Pd
theorem run_idx6 (X : Nat → Int) (w : World) : ∀ {k : Nat}, k < 6 → (Instr.index 110 (.agg (vals 6 X).toArray) (.int .i64 (k : Int))).run Tryz.prog w = .ok (.int .i64 (X k)) w
  | 0, _ => by kernel_rfl
  | 1, _ => by kernel_rfl
  | 2, _ => by kernel_rfl
  | 3, _ => by kernel_rfl
  | 4, _ => by kernel_rfl
  | 5, _ => by kernel_rfl
def pt (X Y : Nat → Int) (k : Nat) : Nat → Int := fun i => if i < k then X i else Y i
theorem pt_zero (X Y : Nat → Int) (i : Nat) : Y i = pt X Y 0 i := rfl
theorem pt_step (X Y : Nat → Int) (k i : Nat) : (if i = k then X k else pt X Y k i) = pt X Y (k + 1) i := by
  unfold pt
  by_cases e : i = k
  · subst e; rw [if_pos rfl, if_pos (by omega)]
  · rw [if_neg e]
    by_cases h : i < k
    · rw [if_pos h, if_pos (by omega)]
    · rw [if_neg h, if_neg (by omega)]
theorem pt_end (X Y : Nat → Int) {n i : Nat} (h : i < n) : pt X Y n i = X i := if_pos h
def dg (z : Nat → Int) : Nat → Int := fun i => z (7 * i)
end Pd
set_option maxRecDepth 10000 in
set_option maxHeartbeats 1000000 in
theorem pdiag_any (z : Nat → Int) (w : World) :
  Calls Tryz.prog 71 #[.agg (mvals 6 6 z).toArray] w fun e w' => e = .returned (.agg (vals 6 (dg z)).toArray) ∧ Below w.heap.size w w' := by
 have r0 := ((mrow_new w 6 6 z).alloc (.cells (vals 6 (fun _ => 0)).toArray 110)).alloc (.cells (vals 6 (fun _ => 0)).toArray 110)
 have q0 := (crow_new1 w (.cells (mvals 6 6 z).toArray 40) 110 (vals 6 (fun _ => 0))).alloc (.cells (vals 6 (fun _ => 0)).toArray 110)
 have o0 := crow_new2 w (.cells (mvals 6 6 z).toArray 40) (.cells (vals 6 (fun _ => 0)).toArray 110) 110 (vals 6 (fun _ => 0))
 have B0 : Below w.heap.size w (((w.alloc (.cells (mvals 6 6 z).toArray 40)).alloc (.cells (vals 6 (fun _ => 0)).toArray 110)).alloc (.cells (vals 6 (fun _ => 0)).toArray 110)) := below_al (below_al (below_al (Below.refl _ _) _) _) _
 obtain ⟨W, hW⟩ : ∃ W, W = ((w.alloc (.cells (mvals 6 6 z).toArray 40)).alloc (.cells (vals 6 (fun _ => 0)).toArray 110)).alloc (.cells (vals 6 (fun _ => 0)).toArray 110) := ⟨_, rfl⟩
 rw [← hW] at r0 q0 o0 B0
 have HW := hide hW
 clear hW
 go_enter Tryz.func71, Tryz.ntmps71
 go_wp2_with (first | (rw [Pd.zero6, Pd.zero6, ← HW.out]) | (rw [Pd.zero6, ← HW.out]) | (rw [← HW.out]) | fail)
 go_loopw [5] (fun i wr => ∃ k : Nat, k ≤ 6 ∧ i = .int .i64 (k : Int) ∧ MRow wr w.heap.size 6 6 z ∧ PRow wr (w.heap.size + 1) (fun _ => 0) ∧ PRow wr (w.heap.size + 1 + 1) (pt (dg z) (fun _ => 0) k) ∧ Below w.heap.size w wr) (fun i _ => 6 - (intOf i).toNat)
 case atStart => exact ⟨0, by omega, rfl, r0, q0, PRow.congr o0 (fun i _ => pt_zero (dg z) (fun _ => 0) i), B0⟩
 case round =>
  obtain ⟨k, hk, rfl, r1, q1, o1, B1⟩ := hrel
  by_cases h : k < 6
  ·rcases (by omega : k = 0 ∨ k = 1 ∨ k = 2 ∨ k = 3 ∨ k = 4 ∨ k = 5) with rfl | rfl | rfl | rfl | rfl | rfl
   ·have cz := r1.cell (k := 0) (o := 2) (by omega) rfl
    have fz := CRow.free o1 0
    have co := PRow.x o1 (k := 0) (by omega) rfl
    go_wp2
    go_roundw
    case rel => exact ⟨1, by omega, rfl, r1.other _ (by show w.heap.size ≠ w.heap.size + 1 + 1; omega), CRow.other q1 _ (by show w.heap.size + 1 ≠ w.heap.size + 1 + 1; omega), PRow.congr (PRow.setx o1 0 _ rfl) (fun i _ => pt_step (dg z) _ 0 i), B1.trans (St.below_set B1.size (by show w.heap.size ≤ w.heap.size + 1 + 1; omega) _)⟩
    case measure => simp [intOf]
   ·have cz := r1.cell (k := 7) (o := 9) (by omega) rfl
    have fz := CRow.free o1 1
    have co := PRow.x o1 (k := 1) (by omega) rfl
    go_wp2
    go_roundw
    case rel => exact ⟨2, by omega, rfl, r1.other _ (by show w.heap.size ≠ w.heap.size + 1 + 1; omega), CRow.other q1 _ (by show w.heap.size + 1 ≠ w.heap.size + 1 + 1; omega), PRow.congr (PRow.setx o1 1 _ rfl) (fun i _ => pt_step (dg z) _ 1 i), B1.trans (St.below_set B1.size (by show w.heap.size ≤ w.heap.size + 1 + 1; omega) _)⟩
    case measure => simp [intOf]
   ·have cz := r1.cell (k := 14) (o := 16) (by omega) rfl
    have fz := CRow.free o1 2
    have co := PRow.x o1 (k := 2) (by omega) rfl
    go_wp2
    go_roundw
    case rel => exact ⟨3, by omega, rfl, r1.other _ (by show w.heap.size ≠ w.heap.size + 1 + 1; omega), CRow.other q1 _ (by show w.heap.size + 1 ≠ w.heap.size + 1 + 1; omega), PRow.congr (PRow.setx o1 2 _ rfl) (fun i _ => pt_step (dg z) _ 2 i), B1.trans (St.below_set B1.size (by show w.heap.size ≤ w.heap.size + 1 + 1; omega) _)⟩
    case measure => simp [intOf]
   ·have cz := r1.cell (k := 21) (o := 23) (by omega) rfl
    have fz := CRow.free o1 3
    have co := PRow.x o1 (k := 3) (by omega) rfl
    go_wp2
    go_roundw
    case rel => exact ⟨4, by omega, rfl, r1.other _ (by show w.heap.size ≠ w.heap.size + 1 + 1; omega), CRow.other q1 _ (by show w.heap.size + 1 ≠ w.heap.size + 1 + 1; omega), PRow.congr (PRow.setx o1 3 _ rfl) (fun i _ => pt_step (dg z) _ 3 i), B1.trans (St.below_set B1.size (by show w.heap.size ≤ w.heap.size + 1 + 1; omega) _)⟩
    case measure => simp [intOf]
   ·have cz := r1.cell (k := 28) (o := 30) (by omega) rfl
    have fz := CRow.free o1 4
    have co := PRow.x o1 (k := 4) (by omega) rfl
    go_wp2
    go_roundw
    case rel => exact ⟨5, by omega, rfl, r1.other _ (by show w.heap.size ≠ w.heap.size + 1 + 1; omega), CRow.other q1 _ (by show w.heap.size + 1 ≠ w.heap.size + 1 + 1; omega), PRow.congr (PRow.setx o1 4 _ rfl) (fun i _ => pt_step (dg z) _ 4 i), B1.trans (St.below_set B1.size (by show w.heap.size ≤ w.heap.size + 1 + 1; omega) _)⟩
    case measure => simp [intOf]
   ·have cz := r1.cell (k := 35) (o := 37) (by omega) rfl
    have fz := CRow.free o1 5
    have co := PRow.x o1 (k := 5) (by omega) rfl
    go_wp2
    go_roundw
    case rel => exact ⟨6, by omega, rfl, r1.other _ (by show w.heap.size ≠ w.heap.size + 1 + 1; omega), CRow.other q1 _ (by show w.heap.size + 1 ≠ w.heap.size + 1 + 1; omega), PRow.congr (PRow.setx o1 5 _ rfl) (fun i _ => pt_step (dg z) _ 5 i), B1.trans (St.below_set B1.size (by show w.heap.size ≤ w.heap.size + 1 + 1; omega) _)⟩
    case measure => simp [intOf]
  ·obtain rfl : k = 6 := by omega
   have o2 := PRow.congr o1 (fun i hi => pt_end (dg z) _ hi)
   clear o1
   go_wp2_with (first
    | (refine St.wpList_load isPt (by rfl) _ (by rfl) _ _ (by rfl) (by with_reducible exact o2) (vals_len _ _) ?_)
    | (refine St.wpList_store isPt rfl _ _ (by rfl) _ _ _ (by rfl) (by rfl) (by with_reducible exact q1) (vals_len _ _) (vals_len _ _) (one_vals _ _) ?_)
    | fail)
   exact bodyPost_ret (results_1 isPt Tryz.results71 _ _ (w.heap.size + 1) _ rfl (q1.row _) (vals_len _ _)) rfl ⟨rfl, St.below_row B1 (by omega) _⟩
end Go.Proofs.YtoglokgkgonmdaaGreatDoor
namespace Go.Proofs.YtoglokgkgonmdaaGreatDoor
open Go.RowKit Vc St Mt Cm Pd Pr
attribute [local go_sem ↓] Go.wp_at_zero Go.wp_at_succ
namespace Pd
theorem all36 (g : Nat) (w : World) : (Instr.sliceAt 38 (.pointer (some ⟨g, 2, none⟩)) none none none).run Tryz.prog w = .ok (.slice (some ⟨g, 2, none⟩) 36 36) w := by kernel_rfl
theorem allPt (g : Nat) (w : World) : (Instr.sliceAt 110 (.pointer (some ⟨g, 0, none⟩)) none none none).run Tryz.prog w = .ok (.slice (some ⟨g, 0, none⟩) 6 6) w := by kernel_rfl
theorem all6 (g : Nat) (w : World) : (Instr.sliceAt 37 (.pointer (some ⟨g, 0, none⟩)) none none none).run Tryz.prog w = .ok (.slice (some ⟨g, 0, none⟩) 6 6) w := by kernel_rfl
def wdk (z X : Nat → Int) (k : Nat) : Nat → Int := fun q => if q % 7 = 0 ∧ q / 7 < k then X (q / 7) else z q
theorem wdk_zero (z X : Nat → Int) (q : Nat) : z q = wdk z X 0 q := by unfold wdk; rw [if_neg (by omega)]
theorem wdk_step (z X : Nat → Int) (k q : Nat) : (if q = 7 * k then X k else wdk z X k q) = wdk z X (k + 1) q := by
  unfold wdk
  by_cases e : q = 7 * k
  · subst e
    rw [if_pos rfl, if_pos ⟨by omega, by omega⟩, show 7 * k / 7 = k by omega]
  · rw [if_neg e]
    by_cases h : q % 7 = 0 ∧ q / 7 < k
    · rw [if_pos h, if_pos ⟨h.1, by omega⟩]
    · rw [if_neg h, if_neg (fun c => h ⟨c.1, by omega⟩)]
def wd (F : Nat → Nat → Int) (X : Nat → Int) : Nat → Nat → Int := fun i j => if i = j then X i else F i j
theorem wdk_mz (F : Nat → Nat → Int) (X : Nat → Int) (k : Nat) (hk : k < 36) : wdk (mz 6 6 F) X 6 k = mz 6 6 (wd F X) k := by
  unfold wdk mz mpart wd
  rw [if_pos (by omega : k < 6 * 6), if_pos (by omega : k < 6 * 6)]
  by_cases h : k / 6 = k % 6
  · have e : k / 7 = k / 6 := by omega
    rw [if_pos ⟨by omega, by omega⟩, if_pos h, e]
  · rw [if_neg h, if_neg (by omega)]
theorem dg_mz (F : Nat → Nat → Int) {i : Nat} (h : i < 6) : dg (mz 6 6 F) i = F i i := by
  have e := mz_at (F := F) h h
  unfold dg
  rw [show 7 * i = i * 6 + i by omega]; exact e
end Pd
set_option maxRecDepth 10000 in
set_option maxHeartbeats 1000000 in
theorem pwd_any (z X : Nat → Int) (w : World) :
  Calls Tryz.prog 56 #[.agg (mvals 6 6 z).toArray, .agg (vals 6 X).toArray] w fun e w' => e = .returned (.agg (mvals 6 6 (wdk z X 6)).toArray) ∧ Below w.heap.size w w' := by
 have r0 := ((mrow_new w 6 6 z).alloc (.cells (vals 6 X).toArray 110)).alloc (.cells (mvals 0 0 (fun _ => 0)).toArray 40)
 have q0 := (crow_new1 w (.cells (mvals 6 6 z).toArray 40) 110 (vals 6 X)).alloc (.cells (mvals 0 0 (fun _ => 0)).toArray 40)
 have o0 := mrow_new2 w (.cells (mvals 6 6 z).toArray 40) (.cells (vals 6 X).toArray 110) 0 0 (fun _ => 0)
 have B0 : Below w.heap.size w (((w.alloc (.cells (mvals 6 6 z).toArray 40)).alloc (.cells (vals 6 X).toArray 110)).alloc (.cells (mvals 0 0 (fun _ => 0)).toArray 40)) := below_al (below_al (below_al (Below.refl _ _) _) _) _
 obtain ⟨W, hW⟩ : ∃ W, W = ((w.alloc (.cells (mvals 6 6 z).toArray 40)).alloc (.cells (vals 6 X).toArray 110)).alloc (.cells (mvals 0 0 (fun _ => 0)).toArray 40) := ⟨_, rfl⟩
 rw [← hW] at r0 q0 o0 B0
 have HW := hide hW
 have HI := hide (fun k (hk : k < 6) W => run_idx6 X W hk)
 obtain ⟨V, hV⟩ : ∃ V, V = (vals 6 X).toArray := ⟨_, rfl⟩
 have HV := hide hV
 rw [← hV] at HI HW
 rw [← hV]
 clear hW hV
 go_enter Tryz.func56, Tryz.ntmps56
 go_wp2_with (first
  | (rw [zeroM, ← HW.out]; refine St.wpList_load isPt (by rfl) _ (by rfl) _ _ (by rfl) (by with_reducible exact q0) (vals_len _ _) ?_; rw [← HV.out])
  | fail)
 go_loopw [8] (fun i wr => ∃ k : Nat, k ≤ 6 ∧ i = .int .i64 (k : Int) ∧ MRow wr w.heap.size 6 6 (wdk z X k) ∧ MRow wr (w.heap.size + 1 + 1) 0 0 (fun _ => 0) ∧ Below w.heap.size w wr) (fun i _ => 6 - (intOf i).toNat)
 case atStart => exact ⟨0, by omega, rfl, r0.congr (fun i _ => wdk_zero z X i), o0, B0⟩
 case round =>
  obtain ⟨k, hk, rfl, r1, o1, B1⟩ := hrel
  by_cases h : k < 6
  ·rcases (by omega : k = 0 ∨ k = 1 ∨ k = 2 ∨ k = 3 ∨ k = 4 ∨ k = 5) with rfl | rfl | rfl | rfl | rfl | rfl
   ·have cz := r1.cell (k := 0) (o := 2) (by omega) rfl
    have fz := r1.free 2
    have hi : ∀ W, (Instr.index 110 (.agg V) (.int .i64 0)).run Tryz.prog W = .ok (.int .i64 (X 0)) W := fun W => HI.out 0 h W
    go_wp2
    go_roundw
    case rel => exact ⟨1, by omega, rfl, (MRow.set r1 0 _ rfl).congr (fun i _ => wdk_step z X 0 i), o1.other _ (by show w.heap.size + 1 + 1 ≠ w.heap.size; omega), B1.trans (St.below_set B1.size (Nat.le_refl _) _)⟩
    case measure => simp [intOf]
   ·have cz := r1.cell (k := 7) (o := 9) (by omega) rfl
    have fz := r1.free 9
    have hi : ∀ W, (Instr.index 110 (.agg V) (.int .i64 1)).run Tryz.prog W = .ok (.int .i64 (X 1)) W := fun W => HI.out 1 h W
    go_wp2
    go_roundw
    case rel => exact ⟨2, by omega, rfl, (MRow.set r1 7 _ rfl).congr (fun i _ => wdk_step z X 1 i), o1.other _ (by show w.heap.size + 1 + 1 ≠ w.heap.size; omega), B1.trans (St.below_set B1.size (Nat.le_refl _) _)⟩
    case measure => simp [intOf]
   ·have cz := r1.cell (k := 14) (o := 16) (by omega) rfl
    have fz := r1.free 16
    have hi : ∀ W, (Instr.index 110 (.agg V) (.int .i64 2)).run Tryz.prog W = .ok (.int .i64 (X 2)) W := fun W => HI.out 2 h W
    go_wp2
    go_roundw
    case rel => exact ⟨3, by omega, rfl, (MRow.set r1 14 _ rfl).congr (fun i _ => wdk_step z X 2 i), o1.other _ (by show w.heap.size + 1 + 1 ≠ w.heap.size; omega), B1.trans (St.below_set B1.size (Nat.le_refl _) _)⟩
    case measure => simp [intOf]
   ·have cz := r1.cell (k := 21) (o := 23) (by omega) rfl
    have fz := r1.free 23
    have hi : ∀ W, (Instr.index 110 (.agg V) (.int .i64 3)).run Tryz.prog W = .ok (.int .i64 (X 3)) W := fun W => HI.out 3 h W
    go_wp2
    go_roundw
    case rel => exact ⟨4, by omega, rfl, (MRow.set r1 21 _ rfl).congr (fun i _ => wdk_step z X 3 i), o1.other _ (by show w.heap.size + 1 + 1 ≠ w.heap.size; omega), B1.trans (St.below_set B1.size (Nat.le_refl _) _)⟩
    case measure => simp [intOf]
   ·have cz := r1.cell (k := 28) (o := 30) (by omega) rfl
    have fz := r1.free 30
    have hi : ∀ W, (Instr.index 110 (.agg V) (.int .i64 4)).run Tryz.prog W = .ok (.int .i64 (X 4)) W := fun W => HI.out 4 h W
    go_wp2
    go_roundw
    case rel => exact ⟨5, by omega, rfl, (MRow.set r1 28 _ rfl).congr (fun i _ => wdk_step z X 4 i), o1.other _ (by show w.heap.size + 1 + 1 ≠ w.heap.size; omega), B1.trans (St.below_set B1.size (Nat.le_refl _) _)⟩
    case measure => simp [intOf]
   ·have cz := r1.cell (k := 35) (o := 37) (by omega) rfl
    have fz := r1.free 37
    have hi : ∀ W, (Instr.index 110 (.agg V) (.int .i64 5)).run Tryz.prog W = .ok (.int .i64 (X 5)) W := fun W => HI.out 5 h W
    go_wp2
    go_roundw
    case rel => exact ⟨6, by omega, rfl, (MRow.set r1 35 _ rfl).congr (fun i _ => wdk_step z X 5 i), o1.other _ (by show w.heap.size + 1 + 1 ≠ w.heap.size; omega), B1.trans (St.below_set B1.size (Nat.le_refl _) _)⟩
    case measure => simp [intOf]
  ·obtain rfl : k = 6 := by omega
   clear h
   go_wp2_with (first
    | (refine Hk.loadM _ (by with_reducible rfl) _ _ _ _ (by rfl) (by with_reducible exact r1) (by kernel_rfl) ?_)
    | (refine wpList_storeM rfl _ _ (by rfl) _ _ _ _ _ _ _ (by rfl) (by rfl) (by with_reducible exact o1) ?_)
    | fail)
   exact bodyPost_ret (results_M1 Tryz.results56 _ _ (w.heap.size + 1 + 1) _ _ _ rfl (o1.row _ _ _)) rfl ⟨rfl, Mt.below_row B1 (by omega) _⟩
namespace Pd
def nn (X : Nat → Int) : Nat → Int := fun i => max (X i) 0
end Pd
namespace Pd
def SpreadV (F : Nat → Nat → Int) : Prop := ∀ i, i < 6 → 0 ≤ F i i ∧ ∀ j, j < 6 → InV (F i j)
theorem in36 {F : Nat → Nat → Int} : (∀ k, k < 36 → InV (mz 6 6 F k)) ↔ ∀ i j, i < 6 → j < 6 → InV (F i j) := by
  refine ⟨fun h i j hi hj => ?_, fun h k hk => ?_⟩
  · have e := mz_at (F := F) hi hj
    rw [← e]; exact h _ (by omega)
  · have e := mz_at (n := 6) (c := 6) (F := F) (i := k / 6) (j := k % 6) (by omega) (by omega)
    rw [show k / 6 * 6 + k % 6 = k by omega] at e
    rw [e]; exact h _ _ (by omega) (by omega)
theorem MRow.all {w : World} {g : Nat} {r c : Int} {z : Nat → Int} (h : MRow w g r c z) : Sl w (some ⟨g, 2, none⟩) 36 36 z := by
  have e := h.sl (p := 0) (n := 36) (ca := 36) (o := 2) (by omega) (by omega) (by omega) rfl
  exact e.congr (fun k _ => by rw [Nat.zero_add])
end Pd
set_option maxRecDepth 10000 in
set_option maxHeartbeats 1000000 in
theorem pspread_any (t : Bool) (F : Nat → Nat → Int) (w : World) (ht : t = true ↔ SpreadV F) :
  Calls Tryz.prog 40 #[.agg (mvals 6 6 (mz 6 6 F)).toArray] w fun e w' => e = .returned (.bool t) ∧ Below w.heap.size w w' := by
 have r0 := mrow_new w 6 6 (mz 6 6 F)
 have B0 := below_al (Below.refl _ w) (.cells (mvals 6 6 (mz 6 6 F)).toArray 40)
 obtain ⟨W, hW⟩ : ∃ W, W = w.alloc (.cells (mvals 6 6 (mz 6 6 F)).toArray 40) := ⟨_, rfl⟩
 rw [← hW] at r0 B0
 have H := hide (pdiag_any (mz 6 6 F) W)
 have hA := in36 (F := F)
 have hD : (∀ i, i < 6 → dg (mz 6 6 F) i = F i i) := fun i hi => dg_mz F hi
 obtain ⟨z, hz⟩ : ∃ z, z = mz 6 6 F := ⟨_, rfl⟩
 rw [← hz] at r0 hW H hA hD ⊢
 obtain ⟨d, hd⟩ : ∃ d, d = dg z := ⟨_, rfl⟩
 rw [← hd] at H hD
 have HW := hide hW
 have s1 := fun W => all36 w.heap.size W
 by_cases hb : ∀ k, k < 36 → InV (z k)
 ·have HB := hide (fun W (h : Sl W (some ⟨w.heap.size, 2, none⟩) 36 36 z) => pbounded_any true _ 36 36 z W h ⟨fun _ => hb, fun _ => rfl⟩)
  have hq : t = true ↔ allIn 0 4611686018427387903 d 6 := by
   rw [ht]
   refine ⟨fun q k hk => ?_, fun q i hi => ?_⟩
   ·rw [hD k hk]; exact ⟨(q k hk).1, ((q k hk).2 k hk).2⟩
   ·have e := q i hi
    rw [hD i hi] at e
    exact ⟨e.1, fun j hj => hA.1 hb i j hi hj⟩
  have HQ := hide (fun b W (h : Sl W (some ⟨b, 0, none⟩) 6 6 d) => pwithin_any t 0 4611686018427387903 _ 6 6 d W h hq)
  clear hW hz hd ht hb hA hD hq
  go_enter Tryz.func40, Tryz.ntmps40
  go_wp2_with (first
   | (rw [← HW.out]; refine Hk.loadM _ (by with_reducible rfl) _ _ _ _ (by rfl) (by with_reducible exact r0) (by kernel_rfl) ?_)
   | fail)
  refine H.out.mono ?_
  rintro e w1 ⟨rfl, k1⟩
  have r1 := r0.keep k1
  have B1 := below_tr B0 k1
  clear HW H r0 B0 k1
  go_wp2_with (first
   | (rw [Pd.zero6]; refine St.wpList_storeNew isPt rfl _ _ (by rfl) _ _ _ (by rfl) (by rfl) (vals_len _ _) (vals_len _ _) (one_vals _ _) ?_; intro w2 n2 k2; have r2 := r1.keep k2; have B2 := below_tr B1 k2; have s2 := fun W => allPt w1.heap.size W; clear r1 B1 k2)
   | fail)
  refine (HB.out _ (MRow.all r2)).mono ?_
  rintro e w3 ⟨rfl, rfl⟩
  go_wp2_with fail
  refine (HQ.out _ _ (PRow.sl n2)).mono ?_
  rintro e w4 ⟨rfl, rfl⟩
  go_wp2
  go_ret
  exact ⟨rfl, B2⟩
 ·have e : t = false := by
   cases t with
   | false => rfl
   | true => exact absurd (hA.2 fun i j hi hj => ((ht.1 rfl) i hi).2 j hj) hb
  subst e
  have HB := hide (fun W (h : Sl W (some ⟨w.heap.size, 2, none⟩) 36 36 z) => pbounded_any false _ 36 36 z W h ⟨fun q => (by cases q), fun q => absurd q hb⟩)
  clear hW hz hd ht hb hA hD
  go_enter Tryz.func40, Tryz.ntmps40
  go_wp2_with (first
   | (rw [← HW.out]; refine Hk.loadM _ (by with_reducible rfl) _ _ _ _ (by rfl) (by with_reducible exact r0) (by kernel_rfl) ?_)
   | fail)
  refine H.out.mono ?_
  rintro e w1 ⟨rfl, k1⟩
  have r1 := r0.keep k1
  have B1 := below_tr B0 k1
  clear HW H r0 B0 k1
  go_wp2_with (first
   | (rw [Pd.zero6]; refine St.wpList_storeNew isPt rfl _ _ (by rfl) _ _ _ (by rfl) (by rfl) (vals_len _ _) (vals_len _ _) (one_vals _ _) ?_; intro w2 n2 k2; have r2 := r1.keep k2; have B2 := below_tr B1 k2; clear r1 B1 k2)
   | fail)
  refine (HB.out _ (MRow.all r2)).mono ?_
  rintro e w3 ⟨rfl, rfl⟩
  go_wp2
  go_ret
  exact ⟨rfl, B2⟩
namespace Pd
def ckR (b : Bool) : Value := if b then .nilIface else .iface 61 (.int .i64 1)
end Pd
set_option maxRecDepth 10000 in
set_option maxHeartbeats 1000000 in
theorem pcheck_no (X : Nat → Int) (r c : Int) (z : Nat → Int) (w : World) (h : ¬ (r = 6 ∧ c = 6)) :
    Calls Tryz.prog 20 #[.agg (svals X r c z).toArray] w fun e w' => e = .returned (.iface 61 (.int .i64 1)) ∧ Below w.heap.size w w' := by
  have r0 := crow_new w 42 (svals X r c z)
  have B0 := below_al (Below.refl _ w) (.cells (svals X r c z).toArray 42)
  obtain ⟨W, hW⟩ : ∃ W, W = w.alloc (.cells (svals X r c z).toArray 42) := ⟨_, rfl⟩
  rw [← hW] at r0 B0
  have HW := hide hW
  have H := hide (fun W => pisSix_no r c z W h)
  have m0 := SRow.rm r0
  clear hW h
  go_enter Tryz.func20, Tryz.ntmps20
  go_wp2_with (first
    | (rw [← HW.out]; refine St.wpList_part isMt (by rfl) _ (by rfl) _ _ _ (by rfl) (by with_reducible exact m0) (mvals_len _ _ _) ?_)
    | fail)
  refine (H.out _).mono ?_
  rintro e w1 ⟨rfl, k1⟩
  go_wp2
  go_ret
  exact ⟨rfl, below_tr B0 k1⟩
set_option maxRecDepth 10000 in
set_option maxHeartbeats 2000000 in
theorem pcheck_six (X : Nat → Int) (F : Nat → Nat → Int) (b : Bool) (w : World) (hb : b = true ↔ MayV X F) :
  Calls Tryz.prog 20 #[.agg (svals X 6 6 (mz 6 6 F)).toArray] w fun e w' => e = .returned (ckR b) ∧ Below w.heap.size w w' := by
 have r0 := crow_new w 42 (svals X 6 6 (mz 6 6 F))
 have B0 := below_al (Below.refl _ w) (.cells (svals X 6 6 (mz 6 6 F)).toArray 42)
 obtain ⟨W, hW⟩ : ∃ W, W = w.alloc (.cells (svals X 6 6 (mz 6 6 F)).toArray 42) := ⟨_, rfl⟩
 rw [← hW] at r0 B0
 have H := hide (fun W => pisSix_yes (mz 6 6 F) W)
 have s1 := fun W => all6 w.heap.size W
 by_cases h1 : ∀ i j, i < 6 → j < 6 → F i j = F j i
 ·have H1 := hide (fun W => pturned_any true F W ⟨fun _ => h1, fun _ => rfl⟩)
  by_cases h2 : SpreadV F
  ·have H2 := hide (fun W => pspread_any true F W ⟨fun _ => h2, fun _ => rfl⟩)
   have h3 : b = true ↔ ∀ k, k < 6 → InV (X k) := by
    rw [hb]
    exact ⟨fun q k hk => (q k hk).1, fun q i hi => ⟨q i hi, (h2 i hi).1, fun j hj => ⟨(h2 i hi).2 j hj, h1 i j hi hj⟩⟩⟩
   have H3 := hide (fun W (h : Sl W (some ⟨w.heap.size, 0, none⟩) 6 6 X) => pbounded_any b _ 6 6 X W h h3)
   obtain ⟨z, hz⟩ : ∃ z, z = mz 6 6 F := ⟨_, rfl⟩
   rw [← hz] at r0 hW H H1 H2 ⊢
   have HW := hide hW
   clear hW hz h1 h2 h3 hb
   have m0 := SRow.rm r0
   go_enter Tryz.func20, Tryz.ntmps20
   go_wp2_with (first
    | (rw [← HW.out]; refine St.wpList_part isMt (by rfl) _ (by rfl) _ _ _ (by rfl) (by with_reducible exact m0) (mvals_len _ _ _) ?_)
    | fail)
   refine (H.out _).mono ?_
   rintro e w1 ⟨rfl, k1⟩
   have r1 := CRow.keep r0 k1
   have B1 := below_tr B0 k1
   have m1 := SRow.rm r1
   clear HW H r0 B0 k1 m0
   go_wp2_with (first
    | (refine St.wpList_part isMt (by rfl) _ (by rfl) _ _ _ (by rfl) (by with_reducible exact m1) (mvals_len _ _ _) ?_)
    | fail)
   refine (H1.out _).mono ?_
   rintro e w2 ⟨rfl, k2⟩
   have r2 := CRow.keep r1 k2
   have B2 := below_tr B1 k2
   have m2 := SRow.rm r2
   clear H1 r1 B1 k2 m1
   go_wp2_with (first
    | (refine St.wpList_part isMt (by rfl) _ (by rfl) _ _ _ (by rfl) (by with_reducible exact m2) (mvals_len _ _ _) ?_)
    | fail)
   refine (H2.out _).mono ?_
   rintro e w3 ⟨rfl, k3⟩
   have r3 := CRow.keep r2 k3
   have B3 := below_tr B2 k3
   clear H2 r2 B2 k3 m2
   go_wp2_with fail
   refine (H3.out _ (SRow.sl r3)).mono ?_
   rintro e w4 ⟨rfl, rfl⟩
   cases b with
   | true =>
    go_wp2
    go_ret
    exact ⟨rfl, B3⟩
   | false =>
    go_wp2
    go_ret
    exact ⟨rfl, B3⟩
  ·have H2 := hide (fun W => pspread_any false F W ⟨fun q => (by cases q), fun q => absurd q h2⟩)
   have e : b = false := by
    cases b with
    | false => rfl
    | true => exact absurd (fun i hi => ⟨(hb.1 rfl i hi).2.1, fun j hj => ((hb.1 rfl i hi).2.2 j hj).1⟩) h2
   subst e
   obtain ⟨z, hz⟩ : ∃ z, z = mz 6 6 F := ⟨_, rfl⟩
   rw [← hz] at r0 hW H H1 H2 ⊢
   have HW := hide hW
   clear hW hz h1 h2 hb
   have m0 := SRow.rm r0
   go_enter Tryz.func20, Tryz.ntmps20
   go_wp2_with (first
    | (rw [← HW.out]; refine St.wpList_part isMt (by rfl) _ (by rfl) _ _ _ (by rfl) (by with_reducible exact m0) (mvals_len _ _ _) ?_)
    | fail)
   refine (H.out _).mono ?_
   rintro e w1 ⟨rfl, k1⟩
   have r1 := CRow.keep r0 k1
   have B1 := below_tr B0 k1
   have m1 := SRow.rm r1
   clear HW H r0 B0 k1 m0
   go_wp2_with (first
    | (refine St.wpList_part isMt (by rfl) _ (by rfl) _ _ _ (by rfl) (by with_reducible exact m1) (mvals_len _ _ _) ?_)
    | fail)
   refine (H1.out _).mono ?_
   rintro e w2 ⟨rfl, k2⟩
   have r2 := CRow.keep r1 k2
   have B2 := below_tr B1 k2
   have m2 := SRow.rm r2
   clear H1 r1 B1 k2 m1
   go_wp2_with (first
    | (refine St.wpList_part isMt (by rfl) _ (by rfl) _ _ _ (by rfl) (by with_reducible exact m2) (mvals_len _ _ _) ?_)
    | fail)
   refine (H2.out _).mono ?_
   rintro e w3 ⟨rfl, k3⟩
   go_wp2
   go_ret
   exact ⟨rfl, below_tr B2 k3⟩
 ·have H1 := hide (fun W => pturned_any false F W ⟨fun q => (by cases q), fun q => absurd q h1⟩)
  have e : b = false := by
   cases b with
   | false => rfl
   | true => exact absurd (fun i j hi hj => ((hb.1 rfl i hi).2.2 j hj).2) h1
  subst e
  obtain ⟨z, hz⟩ : ∃ z, z = mz 6 6 F := ⟨_, rfl⟩
  rw [← hz] at r0 hW H H1 ⊢
  have HW := hide hW
  clear hW hz h1 hb
  have m0 := SRow.rm r0
  go_enter Tryz.func20, Tryz.ntmps20
  go_wp2_with (first
   | (rw [← HW.out]; refine St.wpList_part isMt (by rfl) _ (by rfl) _ _ _ (by rfl) (by with_reducible exact m0) (mvals_len _ _ _) ?_)
   | fail)
  refine (H.out _).mono ?_
  rintro e w1 ⟨rfl, k1⟩
  have r1 := CRow.keep r0 k1
  have B1 := below_tr B0 k1
  have m1 := SRow.rm r1
  clear HW H r0 B0 k1 m0
  go_wp2_with (first
   | (refine St.wpList_part isMt (by rfl) _ (by rfl) _ _ _ (by rfl) (by with_reducible exact m1) (mvals_len _ _ _) ?_)
   | fail)
  refine (H1.out _).mono ?_
  rintro e w2 ⟨rfl, k2⟩
  go_wp2
  go_ret
  exact ⟨rfl, below_tr B1 k2⟩
end Go.Proofs.YtoglokgkgonmdaaGreatDoor
