/-
  Matrices (mat): two that are the same compared; a matrix into a new variable; what must come whatever the input is (sure of the laws of layer 8).
-/
import Derived.Test.YtdgcnaijndocnaaDoorM22
import Derived.Test.YtdgcnaijndocnaaDoorM10
import Derived.ChangeKeysEq
import Derived.Test.YtdgcnaijndocnaaDoorM5
import Derived.Test.YtdgcnaijndocnaaDoorM2
set_option linter.unusedSimpArgs false
set_option linter.unusedVariables false
namespace Go.Proofs.YtdgcnaijndocnaaDoor
open Go.RowKit Vc Mt Qn Dt

namespace Mt
theorem arrM36 : Tryd.prog.underlying 44 = some (.array 36 2) := by kernel_rfl
theorem cellsI64 : Tryd.prog.cellsOf 2 = 1 := by kernel_rfl
theorem sizeA36 (w : World) : (sizeOf 44).run Tryd.prog w = .ok 36 w := by
  have h : (Tryd.prog.info? 44).map (·.size) = some 36 := by kernel_rfl
  cases hq : Tryd.prog.info? 44 with
  | none => rw [hq] at h; cases h
  | some i =>
    have hi : i.size = 36 := by rw [hq] at h; simpa using h
    simp [sizeOf, typeInfo, hq, hi]

theorem take_mvals (r c : Int) (z : Nat → Int) : List.take 36 (List.drop 2 (mvals r c z)) = vals 36 z := by
  have h : (vals 36 z).length = 36 := vals_len 36 z
  show List.take 36 (vals 36 z) = vals 36 z
  exact List.take_of_length_le (by omega)

theorem run_part_int (w : World) (xs : Array Value) (o : Nat) (v : Int) (h : xs[o]? = some (.int .i64 v)) : (Go.part 3 xs o).run Tryd.prog w = .ok (.int .i64 v) w := by
  simp [Go.part, isAgg, run_underlying Tryd.underlying3, h]
theorem run_part_i64 (w : World) (xs : Array Value) (o : Nat) (v : Int) (h : xs[o]? = some (.int .i64 v)) : (Go.part 2 xs o).run Tryd.prog w = .ok (.int .i64 v) w := by
  simp [Go.part, isAgg, run_underlying Tryd.underlying2, h]
theorem run_part_A (w : World) (r c : Int) (z : Nat → Int) : (Go.part 44 (mvals r c z).toArray 2).run Tryd.prog w = .ok (.agg (vals 36 z).toArray) w := by
  simp [Go.part, isAgg, run_underlying arrM36, sizeA36]
  exact take_mvals r c z

theorem run_items36 (z : Nat → Int) (w : World) (d : Nat) : ∀ is : List Nat, (∀ i ∈ is, i < 36) → (Op.eqItems (d + 1) 2 1 (vals 36 z).toArray (vals 36 z).toArray is).run Tryd.prog w = .ok true w
  | [], _ => by simp [Op.eqItems]
  | i :: is, h => by
    have hi : i < 36 := h i (by simp)
    have px := run_part_i64 w (vals 36 z).toArray (i * 1) (z i) (by rw [List.getElem?_toArray, Nat.mul_one]; exact vals_at hi)
    have pe : (Op.equalIn (d + 1) 2 (.int .i64 (z i)) (.int .i64 (z i))).run Tryd.prog w = .ok true w := by
      rw [run_equalIn_int w d 2 .i64 .i64 _ _ Tryd.underlying2]; simp
    simp only [Op.eqItems, Sem.run_bind, px, pe, Result.andThen_ok, Bool.not_true, Bool.false_eq_true, if_false]
    exact run_items36 z w d is fun j hj => h j (by simp [hj])

theorem list3 {α β : Type} {g : α → β} : ∀ {fs : List α} {a b c : β}, fs.map g = [a, b, c] → ∃ x y z, fs = [x, y, z] ∧ g x = a ∧ g y = b ∧ g z = c
  | [], a, b, c, h => by simp at h
  | [x], a, b, c, h => by simp at h
  | [x, y], a, b, c, h => by simp at h
  | [x, y, z], a, b, c, h => by simp at h; exact ⟨x, y, z, rfl, h.1, h.2.1, h.2.2⟩
  | x :: y :: z :: u :: r, a, b, c, h => by simp at h

theorem eqFields_step (d : Nat) (xs ys : Array Value) (f : Field) (fs : List Field) (w : World) (v u : Value) (hn : f.name ≠ "_") (p1 : (Go.part f.type xs f.offset).run Tryd.prog w = .ok v w) (p2 : (Go.part f.type ys f.offset).run Tryd.prog w = .ok u w) (pe : (Op.equalIn d f.type v u).run Tryd.prog w = .ok true w) :
    (Op.eqFields d xs ys (f :: fs)).run Tryd.prog w = (Op.eqFields d xs ys fs).run Tryd.prog w := by
  rw [Op.eqFields, if_pos hn]
  simp only [Sem.run_bind, p1, p2, pe, Result.andThen_ok, Bool.not_true, Bool.false_eq_true, if_false]

theorem eqFields_nil (d : Nat) (xs ys : Array Value) (w : World) : (Op.eqFields d xs ys []).run Tryd.prog w = .ok true w := by simp [Op.eqFields]

/-- The matrix of sure. -/
def sureF : Nat → Nat → Int := fun i j => if i = 0 then (if j = 0 then 1048576 else 2097152) else (if j = 0 then 3145728 else 4194304)
theorem sureF_bd : B2 sureF := by
  intro i j
  unfold sureF
  split <;> split <;> omega
theorem sl_du {w : World} {x : Addr} {a b : Int} (h : w.cell? x = some (.int .i64 a)) (h2 : w.cell? (x.add 1) = some (.int .i64 b)) : Sl w (some x) 2 2 (fun k => if k = 0 then a else b) :=
  ⟨Nat.le_refl _, by omega, fun k hk => ⟨x, rfl, by
    match k, hk with
    | 0, _ => exact h
    | 1, _ => exact h2⟩⟩
end Mt

end Go.Proofs.YtdgcnaijndocnaaDoor

/-
  Matrices and factors compared, whatever they are.
-/
set_option linter.unusedSimpArgs false
set_option linter.unusedVariables false
namespace Go.Proofs.YtdgcnaijndocnaaDoor
open Go.RowKit Vc Mt St Ld
namespace Ld

/-- The first n numbers are the same. -/
def eqz (n : Nat) (z y : Nat → Int) : Bool := (List.range n).all fun i => z i == y i
theorem eqz_iff {n : Nat} {z y : Nat → Int} : eqz n z y = true ↔ ∀ k, k < n → z k = y k := by
  unfold eqz; rw [List.all_eq_true]
  exact ⟨fun h k hk => by simpa using h k (List.mem_range.2 hk), fun h k hk => by simpa using h k (List.mem_range.1 hk)⟩

theorem run_itemsG (n : Nat) (z y : Nat → Int) (w : World) (d : Nat) : ∀ is : List Nat, (∀ i ∈ is, i < n) → (Op.eqItems (d + 1) 2 1 (vals n z).toArray (vals n y).toArray is).run Tryd.prog w = .ok (is.all fun i => z i == y i) w
  | [], _ => by simp [Op.eqItems]
  | i :: is, h => by
    have hi : i < n := h i (by simp)
    have px := run_part_i64 w (vals n z).toArray (i * 1) (z i) (by rw [List.getElem?_toArray, Nat.mul_one]; exact vals_at hi)
    have py := run_part_i64 w (vals n y).toArray (i * 1) (y i) (by rw [List.getElem?_toArray, Nat.mul_one]; exact vals_at hi)
    have pe := run_equalIn_int w d 2 .i64 .i64 (z i) (y i) Tryd.underlying2
    have ih := run_itemsG n z y w d is fun j hj => h j (by simp [hj])
    simp only [Op.eqItems, Sem.run_bind, px, py, pe, Result.andThen_ok]
    cases hb : (z i == y i) with
    | true => simp [ih, hb]
    | false => simp [hb]

theorem eqFields_stepG (d : Nat) (xs ys : Array Value) (f : Field) (fs : List Field) (w : World) (v u : Value) (b c : Bool) (hn : f.name ≠ "_") (p1 : (Go.part f.type xs f.offset).run Tryd.prog w = .ok v w) (p2 : (Go.part f.type ys f.offset).run Tryd.prog w = .ok u w) (pe : (Op.equalIn d f.type v u).run Tryd.prog w = .ok b w)
    (h : (Op.eqFields d xs ys fs).run Tryd.prog w = .ok c w) : (Op.eqFields d xs ys (f :: fs)).run Tryd.prog w = .ok (b && c) w := by
  rw [Op.eqFields, if_pos hn]
  simp only [Sem.run_bind, p1, p2, pe, Result.andThen_ok]
  cases b with
  | true => simpa using h
  | false => simp

/-- Are two matrices the same? -/
def eqM (r c : Int) (z : Nat → Int) (r' c' : Int) (z' : Nat → Int) : Bool := (r == r') && ((c == c') && (eqz 36 z z' && true))
theorem eqM_iff {r c r' c' : Int} {z z' : Nat → Int} : eqM r c z r' c' z' = true ↔ r = r' ∧ c = c' ∧ ∀ k, k < 36 → z k = z' k := by
  unfold eqM; simp [eqz_iff]

theorem fieldsF : (Tryd.prog.fieldsOf 47).toList.map (fun f => (f.name, f.type, f.offset)) = [("N", 3, 0), ("L", 44, 1), ("D", 45, 37)] := by kernel_rfl
theorem structF : Tryd.prog.underlying 47 = some (.struct (Tryd.prog.fieldsOf 47)) := by kernel_rfl
theorem stoodF : Tryd.prog.stoodInHeld 47 = false := by kernel_rfl
theorem guardF : Tryd.prog.eqGuardType Tryd.prog.depth 47 = false := by kernel_rfl
theorem arr6 : Tryd.prog.underlying 45 = some (.array 6 2) := by kernel_rfl
theorem sizeA6 (w : World) : (sizeOf 45).run Tryd.prog w = .ok 6 w := by
  have h : (Tryd.prog.info? 45).map (·.size) = some 6 := by kernel_rfl
  cases hq : Tryd.prog.info? 45 with
  | none => rw [hq] at h; cases h
  | some i =>
    have hi : i.size = 6 := by rw [hq] at h; simpa using h
    simp [sizeOf, typeInfo, hq, hi]
theorem take_fz (n : Int) (z d : Nat → Int) : List.take 36 (List.drop 1 (fvals n z d)) = vals 36 z := by
  have h : (vals 36 z).length = 36 := vals_len 36 z
  show List.take 36 (vals 36 z ++ vals 6 d) = vals 36 z
  rw [List.take_append_of_le_length (by omega)]
  exact List.take_of_length_le (by omega)
theorem take_fd (n : Int) (z d : Nat → Int) : List.take 6 (List.drop 37 (fvals n z d)) = vals 6 d := by
  have h : (vals 36 z).length = 36 := vals_len 36 z
  have h' : (vals 6 d).length = 6 := vals_len 6 d
  show List.take 6 (List.drop 36 (vals 36 z ++ vals 6 d)) = vals 6 d
  rw [List.drop_append_of_le_length (by omega), List.drop_eq_nil_of_le (by omega), List.nil_append]
  exact List.take_of_length_le (by omega)
theorem run_part_FL (w : World) (n : Int) (z d : Nat → Int) : (Go.part 44 (fvals n z d).toArray 1).run Tryd.prog w = .ok (.agg (vals 36 z).toArray) w := by
  simp [Go.part, isAgg, run_underlying arrM36, sizeA36]
  exact take_fz n z d
theorem run_part_FD (w : World) (n : Int) (z d : Nat → Int) : (Go.part 45 (fvals n z d).toArray 37).run Tryd.prog w = .ok (.agg (vals 6 d).toArray) w := by
  simp [Go.part, isAgg, run_underlying arr6, sizeA6]
  exact take_fd n z d
/-- Are two factors the same? -/
def eqF (n : Int) (z d : Nat → Int) (n' : Int) (z' d' : Nat → Int) : Bool := (n == n') && (eqz 36 z z' && (eqz 6 d d' && true))
set_option maxRecDepth 20000 in
theorem run_eqF (n : Int) (z d : Nat → Int) (n' : Int) (z' d' : Nat → Int) (w : World) : (Op.equalIn 10000 47 (.agg (fvals n z d).toArray) (.agg (fvals n' z' d').toArray)).run Tryd.prog w = .ok (eqF n z d n' z' d') w := by
  obtain ⟨f0, f1, f2, hf, h0, h1, h2⟩ := list3 fieldsF
  injection h0 with n0 h0
  injection h0 with t0 o0
  injection h1 with n1 h1
  injection h1 with t1 o1
  injection h2 with n2 h2
  injection h2 with t2 o2
  rw [run_equalIn_struct w 9999 47 _ _ structF stoodF, hf]
  clear hf
  obtain ⟨i0, hi, _, _, _⟩ := info_parts infoI64
  have q0 := run_equalIn_int w 9998 3 .i64 .i64 n n' Tryd.underlying3
  have q1 : (Op.equalIn 9999 44 (.agg (vals 36 z).toArray) (.agg (vals 36 z').toArray)).run Tryd.prog w = .ok (eqz 36 z z') w := by
    rw [run_equalIn_array w 9998 (vals 36 z).toArray (vals 36 z').toArray arrM36 hi, cellsI64]
    exact run_itemsG 36 z z' w 9997 _ (fun i hi => by simpa using hi)
  have q2 : (Op.equalIn 9999 45 (.agg (vals 6 d).toArray) (.agg (vals 6 d').toArray)).run Tryd.prog w = .ok (eqz 6 d d') w := by
    rw [run_equalIn_array w 9998 (vals 6 d).toArray (vals 6 d').toArray arr6 hi, cellsI64]
    exact run_itemsG 6 d d' w 9997 _ (fun i hi => by simpa using hi)
  exact eqFields_stepG 9999 _ _ f0 _ w _ _ _ _ (by rw [n0]; simp) (by rw [t0, o0]; exact run_part_int w (fvals n z d).toArray 0 n (by simp [fvals])) (by rw [t0, o0]; exact run_part_int w (fvals n' z' d').toArray 0 n' (by simp [fvals])) (by rw [t0]; exact q0)
    (eqFields_stepG 9999 _ _ f1 _ w _ _ _ _ (by rw [n1]; simp) (by rw [t1, o1]; exact run_part_FL w n z d) (by rw [t1, o1]; exact run_part_FL w n' z' d') (by rw [t1]; exact q1)
      (eqFields_stepG 9999 _ _ f2 _ w _ _ _ _ (by rw [n2]; simp) (by rw [t2, o2]; exact run_part_FD w n z d) (by rw [t2, o2]; exact run_part_FD w n' z' d') (by rw [t2]; exact q2) (eqFields_nil _ _ _ w)))
theorem eqF_same (n : Int) (z d : Nat → Int) : eqF n z d n z d = true := by unfold eqF; simp [eqz_iff.2]

/-- Two factors that are the same: 'f != g'. -/
theorem wpList_neF {ops : Array Oper} {rest : List Oper} {o : Oper} {a : Act} {w : World} {Q : Exit → Act → World → Prop} (hw : Region.wanted o (yielded ops a.tmps) = true) (x y : Operand) (u : TypeId) (ho : o.op = .binOp .neq 47 x y u)
    (n : Int) (z d : Nat → Int) (hx : a.eval x = .agg (fvals n z d).toArray) (hy : a.eval y = .agg (fvals n z d).toArray)
    (h : wpList Tryd.prog ops Q rest (a.put o.dst (.bool false)) w) : wpList Tryd.prog ops Q (o :: rest) a w :=
  wpList_wanted hw fun _ hK => by
    unfold Oper.wp execOp
    simp only [ho, hx, hy, Sem.run_bind, run_eqGuard_agg w _ _ x y _ _ guardF, Result.andThen_ok, run_neq_struct, run_eqF, eqF_same]
    exact hK _ _ h

end Ld
end Go.Proofs.YtdgcnaijndocnaaDoor

/-
  Factors (ldl): Of.
-/
set_option linter.unusedSimpArgs false
set_option linter.unusedVariables false
namespace Go.Proofs.YtdgcnaijndocnaaDoor
open Go.RowKit Vc Mt St Qn Dt Ld

namespace Ld
/-- The cells of no factors. -/
abbrev f0 : List Value := fvals 0 (fun _ => 0) (fun _ => 0)
/-- A matrix is the same turned. -/
def Same (n : Nat) (F : Nat → Nat → Int) : Prop := ∀ i j, i < n → j < n → F i j = F j i
theorem eq_turned {n : Nat} {F : Nat → Nat → Int} (h : Same n F) : (!eqM n n (mz n n (fun i j => F j i)) n n (mz n n F)) = false := by
  rw [eqM_iff.2 ⟨rfl, rfl, fun k hk => mz_congr (fun i j hi hj => (h i j hi hj).symm) k⟩]; rfl
theorem ne_turned {n m : Nat} {F : Nat → Nat → Int} (h1 : n ≤ 6) (h2 : m ≤ 6) (h : ¬ (n = m ∧ Same n F)) : (!eqM m n (mz m n (fun i j => F j i)) n m (mz n m F)) = true := by
  rw [Bool.not_eq_true', Bool.eq_false_iff]
  intro e
  rw [eqM_iff] at e
  obtain ⟨e1, _, e3⟩ := e
  have e1 : m = n := by omega
  subst e1
  exact h ⟨rfl, fun i j hi hj => (mz_inj (size_le h2 h1) e3 hi hj).symm⟩
theorem st_next (F : Nat → Nat → Int) (i : Nat) : (st F (i + 1)).1 = rowIn (st F i).1 i (fun b => if b = i then 1073741824 else rowV (F i) (st F i).1 (st F i).2 i b) := rfl
end Ld

open Classical in
/-- What Of answers of a matrix that is the same turned. -/
noncomputable def Ld.ofV (n : Nat) (F : Nat → Nat → Int) : Value := if ∀ i, i < n → fine F i then .tuple #[.agg (fvals n (mz n n (st F n).1) (st F n).2).toArray, .nilIface] else .tuple #[.agg f0.toArray, .iface 32 (.int .i64 8)]

end Go.Proofs.YtdgcnaijndocnaaDoor

/-
  Factors: what Of makes may be; what must come whatever the input is (sure of the laws of layer 9).
-/
set_option linter.unusedSimpArgs false
set_option linter.unusedVariables false
namespace Go.Proofs.YtdgcnaijndocnaaDoor
open Go.RowKit Vc Mt St Qn Dt Ld

namespace Ld
/-- What Of makes may be. -/
theorem may_st {n : Nat} {F : Nat → Nat → Int} (h1 : 1 ≤ n) (h2 : n ≤ 6) (hf : ∀ i, i < n → fine F i) : FMay n (mz n n (st F n).1) (st F n).2 := by
  refine ⟨by omega, by omega, fun k hk => ?_, fun k hk => ?_⟩
  · rw [Int.toNat_natCast]
    unfold okD
    by_cases e : n ≤ k
    · rw [if_pos e, st_behindD F e]; rfl
    · rw [if_neg e]
      have h3 := st_bdD F n k
      have h4 := (hf k (by omega)).2
      rw [st_D F (by omega)] at h3 ⊢
      rw [decide_eq_true (by omega), decide_eq_true (by omega)]; rfl
  · rw [Int.toNat_natCast]
    unfold okL
    by_cases e : n * n ≤ k
    · have e1 : n ≤ k / n := (Nat.le_div_iff_mul_le (by omega)).2 e
      rw [if_pos (Or.inl e1), mz_behind e]; rfl
    · have e1 : k / n < n := (Nat.div_lt_iff_lt_mul (by omega)).2 (by omega)
      have e2 : k % n < n := Nat.mod_lt _ (by omega)
      have e3 : k = k / n * n + k % n := by rw [Nat.mul_comm]; exact (Nat.div_add_mod k n).symm
      have e4 : mz n n (st F n).1 k = (st F n).1 (k / n) (k % n) := by
        have := mz_at (n := n) (c := n) (F := (st F n).1) e1 e2
        rwa [← e3] at this
      rw [e4]
      by_cases c1 : k / n < k % n
      · rw [if_pos (Or.inr c1), st_up F e1 c1]; rfl
      · rw [if_neg (by omega)]
        by_cases c2 : k % n = k / n
        · rw [if_pos c2, c2, st_one F e1]; rfl
        · rw [if_neg c2]
          have h3 := st_bdL F n (k / n) (k % n)
          rw [great_iff.2 h3]; rfl

theorem ofV_yes {n : Nat} {F : Nat → Nat → Int} (h : ∀ i, i < n → fine F i) : ofV n F = .tuple #[.agg (fvals n (mz n n (st F n).1) (st F n).2).toArray, .nilIface] := if_pos h
theorem ofV_no {n : Nat} {F : Nat → Nat → Int} (h : ¬ ∀ i, i < n → fine F i) : ofV n F = .tuple #[.agg f0.toArray, .iface 32 (.int .i64 8)] := if_neg h

/-- The matrix of sure. -/
def sF : Nat → Nat → Int := fun i j => if i = 0 then (if j = 0 then 4194304 else 2097152) else (if j = 0 then 2097152 else 3145728)
theorem sF_bd : B2 sF := by
  intro i j
  unfold sF
  split <;> split <;> omega
theorem sF_same : Same 2 sF := by
  intro i j hi hj
  match i, j, hi, hj with
  | 0, 0, _, _ => rfl
  | 0, 1, _, _ => rfl
  | 1, 0, _, _ => rfl
  | 1, 1, _, _ => rfl
theorem sF_fine : ∀ i, i < 2 → fine sF i := by
  intro i hi
  match i, hi with
  | 0, _ => exact ⟨by decide +kernel, by decide +kernel⟩
  | 1, _ => exact ⟨by decide +kernel, by decide +kernel⟩
def sV (a b : Int) : Nat → Int := fun k => if k = 0 then a else b
theorem sl_two {w : World} {x : Addr} {a b : Int} (h : w.cell? x = some (.int .i64 a)) (h2 : w.cell? (x.add 1) = some (.int .i64 b)) : Sl w (some x) 2 2 (sV a b) :=
  ⟨Nat.le_refl _, by omega, fun k hk => ⟨x, rfl, by
    match k, hk with
    | 0, _ => exact h
    | 1, _ => exact h2⟩⟩
theorem sV_bd {a b : Int} (h1 : -4611686018427387903 ≤ a ∧ a ≤ 4611686018427387903) (h2 : -4611686018427387903 ≤ b ∧ b ≤ 4611686018427387903) : B64 (sV a b) := by
  intro k
  unfold sV
  split <;> omega
end Ld

theorem lsure_far (w : World) (vo : Option Addr) (hv : Sl w vo 2 2 (sV 2097152 1048576)) : Calls Tryd.prog 49 #[.agg (fvals ((2 : Nat) : Int) (mz 2 2 (st sF 2).1) (st sF 2).2).toArray, .slice vo 2 2] w fun e w' =>
    e = .returned (.tuple #[.int .i64 1048576, .bool false, .nilIface]) ∧ Below w.heap.size w w' := by
  refine (lfar_any 2 vo 2 (sV 2097152 1048576) (st sF 2).1 (st sF 2).2 w (may_st (by omega) (by omega) sF_fine) hv (sV_bd (by omega) (by omega)) (fun a => b64_of (st_bdL sF 2 a))).mono ?_
  rintro e w1 ⟨rfl, k⟩
  have e1 : (downO (st sF 2).1 (sV 2097152 1048576) 2 || farO (downV (st sF 2).1 (sV 2097152 1048576) 2) (st sF 2).2 2) = false := by decide +kernel
  have e2 : farV (downV (st sF 2).1 (sV 2097152 1048576) 2) (st sF 2).2 2 = 1048576 := by decide +kernel
  exact ⟨by rw [e1, e2], k⟩

theorem lsure_log (w : World) : ∃ V : Int, Calls Tryd.prog 32 #[.agg (fvals ((2 : Nat) : Int) (mz 2 2 (st sF 2).1) (st sF 2).2).toArray] w fun e w' => e = .returned (.tuple #[.int .i64 V, .nilIface]) ∧ Below w.heap.size w w' :=
  ⟨_, llog_any 2 _ _ w (may_st (by omega) (by omega) sF_fine)⟩

end Go.Proofs.YtdgcnaijndocnaaDoor

/-
  Layer 13: the numbers of the gap, of K, of ones less K, of the state that has seen a place: plain; what lies in blocks of known cells.
-/
set_option linter.unusedSimpArgs false
set_option linter.unusedVariables false
namespace Go.Proofs.YtdgcnaijndocnaaDoor
open Go.RowKit Vc St Mt Dt Pr
namespace Ud
theorem hide {p : Prop} (h : p) : Hid p := h
/-- A place that may be. -/
def MayN (x y a b c : Int) : Prop := InV x ∧ InV y ∧ InV a ∧ InV b ∧ InV c ∧ 0 ≤ a ∧ 0 ≤ b
instance (x y a b c : Int) : Decidable (MayN x y a b c) := by unfold MayN; infer_instance
/-- A place's numbers. -/
abbrev pv (x y a b c : Int) : List Value := [.int .i64 x, .int .i64 y, .int .i64 a, .int .i64 b, .int .i64 c]
/-- A matrix between another one, and that turned: n by m, m by m. -/
def arX (m : Nat) (A M : Nat → Nat → Int) : Nat → Nat → Int := fun i j => Qn.clamp (Qn.rne (dk (fun k => M k j) (A i) m) (2 ^ 20))
def arV (m : Nat) (A M : Nat → Nat → Int) : Nat → Nat → Int := fun i j => Qn.clamp (Qn.rne (dk (fun k => A j k) (arX m A M i) m) (2 ^ 20))
def arO1 (n m : Nat) (A M : Nat → Nat → Int) : Bool := any2 (fun i j => Qn.great (Qn.rne (dk (fun k => M k j) (A i) m) (2 ^ 20))) n m
def arO2 (n m : Nat) (A M : Nat → Nat → Int) : Bool := any2 (fun i j => Qn.great (Qn.rne (dk (fun k => A j k) (arX m A M i) m) (2 ^ 20))) n n
theorem cl_bd (R : Nat → Nat → Int) : B2 (fun i j => Qn.clamp (R i j)) := fun i j => by show _ ≤ Qn.clamp (R i j) ∧ Qn.clamp (R i j) ≤ _; unfold Qn.clamp; constructor <;> (repeat' split) <;> omega
/-- Two by two. -/
def g2 (a b c : Int) : Nat → Nat → Int := fun i j => if i = 0 then (if j = 0 then a else b) else (if j = 0 then b else c)
def v2 (x y : Int) : Nat → Int := fun k => if k = 0 then x else y
theorem g2_same (a b c : Int) : Ld.Same 2 (g2 a b c) := by
  intro i j hi hj
  unfold g2
  by_cases h : i = 0 <;> by_cases h' : j = 0 <;> simp [h, h']
theorem v2_vals (x y : Int) : vals 2 (v2 x y) = [.int .i64 x, .int .i64 y] := rfl
theorem v2_b {x y : Int} (hx : -9223372036854775808 ≤ x ∧ x ≤ 9223372036854775807) (hy : -9223372036854775808 ≤ y ∧ y ≤ 9223372036854775807) : B64 (v2 x y) := fun k => by
  show _ ≤ (if k = 0 then x else y) ∧ (if k = 0 then x else y) ≤ _
  split <;> assumption
theorem crow_sl {w : World} {g : Nat} {t : TypeId} {n : Nat} {z : Nat → Int} (h : CRow w g t (vals n z)) (hn : n ≤ 9223372036854775807) : Sl w (some ⟨g, 0, none⟩) n n z :=
  ⟨Nat.le_refl _, hn, fun k hk => ⟨_, rfl, by rw [Addr.add_lit]; exact h.cell (vals_at hk) (by omega)⟩⟩
/-- Two rows of two, in a list. -/
theorem grid2 {w : World} {gl g0 g1 : Nat} {x0 y0 x1 y1 : Int} (h : CRow w gl 22 [.slice (some ⟨g0, 0, none⟩) 2 2, .slice (some ⟨g1, 0, none⟩) 2 2]) (h0 : CRow w g0 2 (vals 2 (v2 x0 y0))) (h1 : CRow w g1 2 (vals 2 (v2 x1 y1))) :
    Grid w (some ⟨gl, 0, none⟩) 2 2 2 (fun i => if i = 0 then v2 x0 y0 else v2 x1 y1) :=
  ⟨fun i => if i = 0 then some ⟨g0, 0, none⟩ else some ⟨g1, 0, none⟩, fun _ => 2, ⟨Nat.le_refl _, by omega, fun k hk => ⟨_, rfl, by
      rw [Addr.add_lit]
      match k, hk with
      | 0, _ => exact h.cell (k := 0) rfl rfl
      | 1, _ => exact h.cell (k := 1) rfl rfl⟩⟩, fun k hk => by
      match k, hk with
      | 0, _ => exact crow_sl h0 (by omega)
      | 1, _ => exact crow_sl h1 (by omega)⟩
theorem yieldsI {ops : Array Oper} {S : World → Prop} {o : Oper} {a : Act} (hw : Region.wanted o (yielded ops a.tmps) = true) (x : Operand) (ho : o.op = .load 2 x) (ad : Addr) (v : Int) (hx : a.eval x = .pointer (some ad)) (hS : ∀ w, S w → w.cell? ad = some (.int .i64 v)) : YieldsIf Tryd.prog ops S o (.int .i64 v) a :=
  .inl ⟨hw, fun w h => by
    unfold execOp
    have hL : (loadVar 2 ad).run Tryd.prog w = .ok (.int .i64 v) w := by
      simp [loadVar, isAgg, underlying, Tryd.underlying2, hS w h, Result.andThen]
    simp only [ho, hx, Instr.loadAt, Instr.sureAddr, Sem.run_bind, Sem.run_pure, Result.andThen_ok, hL]⟩
theorem yieldsL {ops : Array Oper} {S : World → Prop} {o : Oper} {a : Act} (hw : Region.wanted o (yielded ops a.tmps) = true) (x : Operand) (ho : o.op = .load 22 x) (ad : Addr) (v : Value) (hx : a.eval x = .pointer (some ad)) (hS : ∀ w, S w → w.cell? ad = some v) : YieldsIf Tryd.prog ops S o v a :=
  .inl ⟨hw, fun w h => by
    unfold execOp
    have hL : (loadVar 22 ad).run Tryd.prog w = .ok v w := by
      simp [loadVar, isAgg, underlying, Tryd.underlying22, hS w h, Result.andThen]
    simp only [ho, hx, Instr.loadAt, Instr.sureAddr, Sem.run_bind, Sem.run_pure, Result.andThen_ok, hL]⟩
/-- What lies in a block of known cells is one of them. -/
theorem in_row {w : World} {g : Nat} {t : TypeId} {cs : List Value} (h : CRow w g t cs) {a : Addr} {v : Value} (hc : w.cell? a = some v) (e : a.block = g) : v ∈ cs := by
  unfold World.cell? at hc
  unfold CRow at h
  rw [e, h] at hc
  simp only at hc
  split at hc
  · cases hc
  · rw [List.getElem?_toArray] at hc
    exact List.mem_of_getElem? hc
theorem sl_keep {a b : World} {g : Nat} {t : TypeId} {cs : List Value} (h : CRow a g t cs) (hc : ∀ z, Value.int .i64 z ∉ cs) {ao : Option Addr} {n ca : Nat} {z : Nat → Int} (s : Sl a ao n ca z) (hn : 0 < n) (k : Ld.But (· = g) a b) : Sl b ao n ca z :=
  Ld.slBut s k fun x hx e => by
    obtain ⟨y, hy, c⟩ := s.at' 0 hn
    rw [hx] at hy
    cases hy
    exact hc _ (in_row h c (by rw [Ld.addr_block]; exact e))
theorem grid_keep {a b : World} {g : Nat} {t : TypeId} {cs : List Value} (h : CRow a g t cs) (hc : ∀ z, Value.int .i64 z ∉ cs) {lo : Option Addr} {n cm m : Nat} {F : Nat → Nat → Int} (hl : ∀ q c, Value.slice q m c ∉ cs) (gr : Grid a lo n cm m F) (hm : 0 < m) (k : Ld.But (· = g) a b) : Grid b lo n cm m F := by
  obtain ⟨A, C, h1, h2⟩ := gr
  refine ⟨A, C, ⟨h1.le, h1.cap, fun j hj => ?_⟩, fun j hj => sl_keep h hc (h2 j hj) hm k⟩
  obtain ⟨x, hx, c⟩ := h1.at' j hj
  exact ⟨x, hx, k.cell c fun e => hl _ _ (in_row h c e)⟩
theorem but_row (w : World) (g : Nat) (cs : Array Value) : Ld.But (· = g) w (w.setRow g cs) := ⟨rfl, rfl, rfl, by simp, fun k hk hn => setRow_other w g k cs hn⟩
theorem g2_rows (a b c : Int) (i j : Nat) (hi : i < 2) (hj : j < 2) : (if i = 0 then v2 a b else v2 b c) j = g2 a b c i j := by
  unfold g2 v2
  by_cases h : i = 0 <;> by_cases h' : j = 0 <;> simp [h, h']
/-- The gap's numbers. -/
def oa (P : Nat → Nat → Int) (a : Int) : Int := Qn.clamp (P 0 0 + a)
def ob (P : Nat → Nat → Int) (c : Int) : Int := Qn.clamp (P 0 3 + c)
def oc (P : Nat → Nat → Int) (b : Int) : Int := Qn.clamp (P 3 3 + b)
def ox (X : Nat → Int) (x : Int) : Int := Qn.clamp (x - X 0)
def oy (X : Nat → Int) (y : Int) : Int := Qn.clamp (y - X 3)
def og (X : Nat → Int) (P : Nat → Nat → Int) (x y a b c : Int) : Bool := Qn.great (P 0 0 + a) || Qn.great (P 0 3 + c) || Qn.great (P 3 3 + b) || Qn.great (x - X 0) || Qn.great (y - X 3)
def oM (P : Nat → Nat → Int) (a b c : Int) : Nat → Nat → Int := g2 (oa P a) (ob P c) (oc P b)
theorem cl64 (z : Int) : -9223372036854775808 ≤ Qn.clamp z ∧ Qn.clamp z ≤ 9223372036854775807 := by unfold Qn.clamp; constructor <;> (repeat' split) <;> omega
theorem g2_b {a b c : Int} (ha : -9223372036854775808 ≤ a ∧ a ≤ 9223372036854775807) (hb : -9223372036854775808 ≤ b ∧ b ≤ 9223372036854775807) (hc : -9223372036854775808 ≤ c ∧ c ≤ 9223372036854775807) : B2 (g2 a b c) := fun i j => by
  show _ ≤ (if i = 0 then (if j = 0 then a else b) else (if j = 0 then b else c)) ∧ (if i = 0 then (if j = 0 then a else b) else (if j = 0 then b else c)) ≤ _
  split <;> split <;> assumption
/-- The factors' rows and numbers. -/
def fL (P : Nat → Nat → Int) (a b c : Int) : Nat → Nat → Int := (Ld.st (oM P a b c) 2).1
def fD (P : Nat → Nat → Int) (a b c : Int) : Nat → Int := (Ld.st (oM P a b c) 2).2
/-- K, row by row; ones less K. -/
def kr (P : Nat → Nat → Int) (a b c : Int) : Nat → Nat → Int := fun i => Ld.solV 2 (fL P a b c) (fD P a b c) (v2 (P i 0) (P i 3))
def ko (P : Nat → Nat → Int) (a b c : Int) (i : Nat) : Bool := Ld.solO 2 (fL P a b c) (fD P a b c) (v2 (P i 0) (P i 3))
/-- What is added; the new numbers. -/
def dV (X : Nat → Int) (P : Nat → Nat → Int) (x y a b c : Int) : Nat → Int := fun i => Qn.clamp (Qn.rne (dk (kr P a b c i) (v2 (ox X x) (oy X y)) 2) (2 ^ 20))
def dO (X : Nat → Int) (P : Nat → Nat → Int) (x y a b c : Int) : Bool := anyb (fun i => Qn.great (Qn.rne (dk (kr P a b c i) (v2 (ox X x) (oy X y)) 2) (2 ^ 20))) 6
def xN (X : Nat → Int) (P : Nat → Nat → Int) (x y a b c : Int) : Nat → Int := fun i => Qn.clamp (X i + dV X P x y a b c i)
def nB (q : Bool) (X : Nat → Int) (P : Nat → Nat → Int) (x y a b c : Int) : Nat → Bool
  | 0 => q
  | k + 1 => nB q X P x y a b c k || Qn.great (X k + dV X P x y a b c k)
theorem yieldsPart {ops : Array Oper} {S : World → Prop} {o : Oper} {a : Act} {t : TypeId} {n : Nat} (I : Is t n) (hw : Region.wanted o (yielded ops a.tmps) = true) (x : Operand) (ho : o.op = .load t x)
    (b p : Nat) (cs : List Value) (hx : a.eval x = .pointer (some ⟨b, p, none⟩)) (hS : ∀ w, S w → w.rangeAt b p cs) (hl : cs.length = n) : YieldsIf Tryd.prog ops S o (.agg cs.toArray) a := by
  obtain ⟨d, hd, hr⟩ := I.row
  exact yieldsIf_load_mid hw _ x ho b p hx cs d hS hd hr (by rw [I.size, hl])
theorem loadC {ops : Array Oper} {rest : List Oper} {o : Oper} {a : Act} {w : World} {Q : Exit → Act → World → Prop} {t : TypeId} {n : Nat} (I : Is t n) (x : Operand) (ho : o.op = .load t x) (b : Nat) (cs : List Value) (hx : a.eval x = .pointer (some ⟨b, 0, none⟩)) (hr : CRow w b t cs) (hl : cs.length = n) (hw : Region.wanted o (yielded ops a.tmps) = true)
    (h : wpList Tryd.prog ops Q rest (a.put o.dst (.agg cs.toArray)) w) : wpList Tryd.prog ops Q (o :: rest) a w := St.wpList_load I hw x ho b cs hx hr hl h
theorem storeC {ops : Array Oper} {rest : List Oper} {o : Oper} {a : Act} {w : World} {Q : Exit → Act → World → Prop} {t : TypeId} {n : Nat} (I : Is t n) (x y : Operand) (ho : o.op = .store t x y) (b : Nat) (cs ds : List Value) (hx : a.eval x = .pointer (some ⟨b, 0, none⟩)) (hy : a.eval y = .agg ds.toArray) (hr : CRow w b t cs) (hl : cs.length = n) (hd : ds.length = n) (h1 : ∀ v ∈ ds, v.oneCell' = true) (hgd : o.guard = none)
    (h : wpList Tryd.prog ops Q rest (a.put o.dst undef) (w.setRow b ds.toArray)) : wpList Tryd.prog ops Q (o :: rest) a w := St.wpList_store I hgd x y ho b cs ds hx hy hr hl hd h1 h
theorem kr_b (P : Nat → Nat → Int) (a b c : Int) : B2 (kr P a b c) := fun i => Ld.b64_of (Ld.upV_bd _ (Ld.byV_bd _ _) 2 2)
theorem fD_b {P : Nat → Nat → Int} {a b c : Int} (h : ∀ i, i < 2 → Ld.fine (oM P a b c) i) : ∀ k, k < 2 → 1 ≤ fD P a b c k ∧ fD P a b c k ≤ 4611686018427387903 := fun k hk => by
  have h3 := Ld.st_bdD (oM P a b c) 2 k
  have h4 := (h k hk).2
  rw [← Ld.st_D (oM P a b c) hk] at h4
  unfold fD
  omega
theorem fL_b (P : Nat → Nat → Int) (a b c : Int) : ∀ i, B64 (fL P a b c i) := fun i => Ld.b64_of (Ld.st_bdL (oM P a b c) 2 i)
end Ud
end Go.Proofs.YtdgcnaijndocnaaDoor

/-
  Matrices and arrays of numbers compared, whatever they are.
-/
set_option linter.unusedSimpArgs false
set_option linter.unusedVariables false
namespace Go.Proofs.YtdgcnaijndocnaaDoor
open Go.RowKit Vc Mt
namespace Cm

/-- The first n numbers are the same. -/
def eqz (n : Nat) (z y : Nat → Int) : Bool := (List.range n).all fun i => z i == y i
theorem eqz_iff {n : Nat} {z y : Nat → Int} : eqz n z y = true ↔ ∀ k, k < n → z k = y k := by
  unfold eqz; rw [List.all_eq_true]
  exact ⟨fun h k hk => by simpa using h k (List.mem_range.2 hk), fun h k hk => by simpa using h k (List.mem_range.1 hk)⟩
theorem eqz_same (n : Nat) (z : Nat → Int) : eqz n z z = true := eqz_iff.2 fun _ _ => rfl

theorem run_itemsG (n : Nat) (z y : Nat → Int) (w : World) (d : Nat) : ∀ is : List Nat, (∀ i ∈ is, i < n) → (Op.eqItems (d + 1) 2 1 (vals n z).toArray (vals n y).toArray is).run Tryd.prog w = .ok (is.all fun i => z i == y i) w
  | [], _ => by simp [Op.eqItems]
  | i :: is, h => by
    have hi : i < n := h i (by simp)
    have px := run_part_i64 w (vals n z).toArray (i * 1) (z i) (by rw [List.getElem?_toArray, Nat.mul_one]; exact vals_at hi)
    have py := run_part_i64 w (vals n y).toArray (i * 1) (y i) (by rw [List.getElem?_toArray, Nat.mul_one]; exact vals_at hi)
    have pe := run_equalIn_int w d 2 .i64 .i64 (z i) (y i) Tryd.underlying2
    have ih := run_itemsG n z y w d is fun j hj => h j (by simp [hj])
    simp only [Op.eqItems, Sem.run_bind, px, py, pe, Result.andThen_ok]
    cases hb : (z i == y i) with
    | true => simp [ih, hb]
    | false => simp [hb]

/-- Arrays of n numbers. -/
theorem run_eqA {t : TypeId} {n : Nat} (ht : Tryd.prog.underlying t = some (.array n 2)) (z y : Nat → Int) (w : World) (d : Nat) : (Op.equalIn (d + 2) t (.agg (vals n z).toArray) (.agg (vals n y).toArray)).run Tryd.prog w = .ok (eqz n z y) w := by
  obtain ⟨i0, hi, _, _, _⟩ := info_parts infoI64
  rw [run_equalIn_array w (d + 1) (vals n z).toArray (vals n y).toArray ht hi, cellsI64]
  exact run_itemsG n z y w d _ (fun i hi => by simpa using hi)

theorem eqFields_stepG (d : Nat) (xs ys : Array Value) (f : Field) (fs : List Field) (w : World) (v u : Value) (b c : Bool) (hn : f.name ≠ "_") (p1 : (Go.part f.type xs f.offset).run Tryd.prog w = .ok v w) (p2 : (Go.part f.type ys f.offset).run Tryd.prog w = .ok u w) (pe : (Op.equalIn d f.type v u).run Tryd.prog w = .ok b w)
    (h : (Op.eqFields d xs ys fs).run Tryd.prog w = .ok c w) : (Op.eqFields d xs ys (f :: fs)).run Tryd.prog w = .ok (b && c) w := by
  rw [Op.eqFields, if_pos hn]
  simp only [Sem.run_bind, p1, p2, pe, Result.andThen_ok]
  cases b with
  | true => simpa using h
  | false => simp

/-- Are two matrices the same? -/
def eqM (r c : Int) (z : Nat → Int) (r' c' : Int) (z' : Nat → Int) : Bool := (r == r') && ((c == c') && (eqz 36 z z' && true))
theorem eqM_iff {r c r' c' : Int} {z z' : Nat → Int} : eqM r c z r' c' z' = true ↔ r = r' ∧ c = c' ∧ ∀ k, k < 36 → z k = z' k := by
  unfold eqM; simp [eqz_iff]
theorem eqM_same (r c : Int) (z : Nat → Int) : eqM r c z r c z = true := eqM_iff.2 ⟨rfl, rfl, fun _ _ => rfl⟩

end Cm
end Go.Proofs.YtdgcnaijndocnaaDoor

/-
  States of package predict as a value (six numbers, and a matrix), the steps' bool; compared, whatever they are.
-/
set_option linter.unusedSimpArgs false
set_option linter.unusedVariables false
namespace Go.Proofs.YtdgcnaijndocnaaDoor
open Go.RowKit Vc Mt St Cm
namespace Pd

/-- Six numbers and a matrix. -/
def svals (X : Nat → Int) (r c : Int) (z : Nat → Int) : List Value := vals 6 X ++ mvals r c z
theorem svals_len (X : Nat → Int) (r c : Int) (z : Nat → Int) : (svals X r c z).length = 44 := by simp [svals, vals_len, mvals_len]
theorem svals_x {X : Nat → Int} {r c : Int} {z : Nat → Int} {k : Nat} (h : k < 6) : (svals X r c z)[k]? = some (.int .i64 (X k)) := by
  unfold svals
  rw [List.getElem?_append_left (by rw [vals_len]; exact h)]
  exact vals_at h
theorem svals_m (X : Nat → Int) (r c : Int) (z : Nat → Int) (k : Nat) : (svals X r c z)[k + 6]? = (mvals r c z)[k]? := by
  unfold svals
  rw [List.getElem?_append_right (by rw [vals_len]; omega), vals_len, Nat.add_sub_cancel]
theorem svals_r (X : Nat → Int) (r c : Int) (z : Nat → Int) : (svals X r c z)[6]? = some (.int .i64 r) := by rw [svals_m X r c z 0]; rfl
theorem svals_c (X : Nat → Int) (r c : Int) (z : Nat → Int) : (svals X r c z)[7]? = some (.int .i64 c) := by rw [svals_m X r c z 1]; rfl
theorem svals_z {X : Nat → Int} {r c : Int} {z : Nat → Int} {k : Nat} (h : k < 36) : (svals X r c z)[k + 8]? = some (.int .i64 (z k)) := by
  rw [svals_m X r c z (k + 2)]; exact mvals_at h
theorem svals_setx {X : Nat → Int} {r c : Int} {z : Nat → Int} {j : Nat} (h : j < 6) (x : Int) : (svals X r c z).set j (.int .i64 x) = svals (fun k => if k = j then x else X k) r c z := by
  unfold svals
  rw [List.set_append_left _ _ (by rw [vals_len]; exact h), vals_set]
theorem svals_congr {X Y : Nat → Int} {r c : Int} {z z' : Nat → Int} (h : ∀ k, k < 6 → X k = Y k) (h' : ∀ k, k < 36 → z k = z' k) : svals X r c z = svals Y r c z' := by
  unfold svals; rw [vals_congr h, mvals_congr h']
theorem one_svals (X : Nat → Int) (r c : Int) (z : Nat → Int) : ∀ v ∈ svals X r c z, v.oneCell' = true := by
  intro v hv
  rcases List.mem_append.1 hv with hv | hv
  · obtain ⟨k, _, rfl⟩ := List.mem_map.1 hv
    rfl
  · exact one_mvals _ _ _ v hv
theorem is6 : Is 45 6 := ⟨by kernel_rfl, ⟨_, Tryd.underlying45, rfl⟩⟩
theorem zeroS : (#[.int .i64 0, .int .i64 0, .int .i64 0, .int .i64 0, .int .i64 0, .int .i64 0, .int .i64 0, .int .i64 0, .int .i64 0, .int .i64 0, .int .i64 0, .int .i64 0, .int .i64 0, .int .i64 0, .int .i64 0, .int .i64 0, .int .i64 0, .int .i64 0, .int .i64 0, .int .i64 0, .int .i64 0, .int .i64 0, .int .i64 0, .int .i64 0, .int .i64 0, .int .i64 0, .int .i64 0, .int .i64 0, .int .i64 0, .int .i64 0, .int .i64 0, .int .i64 0, .int .i64 0, .int .i64 0, .int .i64 0, .int .i64 0, .int .i64 0, .int .i64 0, .int .i64 0, .int .i64 0, .int .i64 0, .int .i64 0, .int .i64 0, .int .i64 0] : Array Value) = (svals (fun _ => 0) 0 0 (fun _ => 0)).toArray := by kernel_rfl
theorem zero6 : (#[.int .i64 0, .int .i64 0, .int .i64 0, .int .i64 0, .int .i64 0, .int .i64 0] : Array Value) = (vals 6 (fun _ => 0)).toArray := by kernel_rfl

theorem guard6 : Tryd.prog.eqGuardType Tryd.prog.depth 45 = false := by kernel_rfl
theorem arr6 : Tryd.prog.underlying 45 = some (.array 6 2) := by kernel_rfl
theorem list2 {α β : Type} {g : α → β} : ∀ {fs : List α} {a b : β}, fs.map g = [a, b] → ∃ x y, fs = [x, y] ∧ g x = a ∧ g y = b
  | [], a, b, h => by simp at h
  | [x], a, b, h => by simp at h
  | [x, y], a, b, h => by
    simp only [List.map_cons, List.map_nil, List.cons.injEq, and_true] at h
    exact ⟨x, y, rfl, h.1, h.2⟩
  | x :: y :: z :: r, a, b, h => by simp at h
theorem sizeOf_of {t : TypeId} {n : Nat} (h : (Tryd.prog.info? t).map (·.size) = some n) (w : World) : (sizeOf t).run Tryd.prog w = .ok n w := by
  cases hq : Tryd.prog.info? t with
  | none => rw [hq] at h; cases h
  | some i =>
    have hi : i.size = n := by rw [hq] at h; simpa using h
    simp [sizeOf, typeInfo, hq, hi]
theorem take_sx (X : Nat → Int) (r c : Int) (z : Nat → Int) : List.take 6 (svals X r c z) = vals 6 X := by
  unfold svals
  rw [List.take_append_of_le_length (by rw [vals_len]; omega)]
  exact List.take_of_length_le (by rw [vals_len]; omega)
theorem take_sm (X : Nat → Int) (r c : Int) (z : Nat → Int) : List.take 38 (List.drop 6 (svals X r c z)) = mvals r c z := by
  unfold svals
  rw [List.drop_append_of_le_length (by rw [vals_len]; omega), List.drop_eq_nil_of_le (by rw [vals_len]; omega), List.nil_append]
  exact List.take_of_length_le (by rw [mvals_len]; omega)
theorem run_part_X (w : World) (X : Nat → Int) (r c : Int) (z : Nat → Int) : (Go.part 45 (svals X r c z).toArray 0).run Tryd.prog w = .ok (.agg (vals 6 X).toArray) w := by
  simp [Go.part, isAgg, run_underlying arr6, sizeOf_of is6.size]
  exact take_sx X r c z
/-- Are two states the same? -/
def eqS (X : Nat → Int) (r c : Int) (z : Nat → Int) (Y : Nat → Int) (r' c' : Int) (z' : Nat → Int) : Bool := eqz 6 X Y && (eqM r c z r' c' z' && true)
theorem eqS_iff {X Y : Nat → Int} {r c r' c' : Int} {z z' : Nat → Int} : eqS X r c z Y r' c' z' = true ↔ (∀ k, k < 6 → X k = Y k) ∧ r = r' ∧ c = c' ∧ ∀ k, k < 36 → z k = z' k := by
  unfold eqS; simp [eqz_iff, eqM_iff]
theorem eqS_same (X : Nat → Int) (r c : Int) (z : Nat → Int) : eqS X r c z X r c z = true := eqS_iff.2 ⟨fun _ _ => rfl, rfl, rfl, fun _ _ => rfl⟩
section
variable {ops : Array Oper} {rest : List Oper} {o : Oper} {a : Act} {w : World} {Q : Exit → Act → World → Prop}
/-- 'x != y', of six numbers. -/
theorem neq6 (x y : Operand) (u : TypeId) (ho : o.op = .binOp .neq 45 x y u)
    (X Y : Nat → Int) (b : Bool) (hx : a.eval x = .agg (vals 6 X).toArray) (hy : a.eval y = .agg (vals 6 Y).toArray) (hb : (!eqz 6 X Y) = b) (hw : Region.wanted o (yielded ops a.tmps) = true)
    (h : wpList Tryd.prog ops Q rest (a.put o.dst (.bool b)) w) : wpList Tryd.prog ops Q (o :: rest) a w :=
  wpList_want hw fun _ hK => by
    unfold Oper.wp execOp
    simp only [ho, hx, hy, Sem.run_bind, run_eqGuard_agg w _ _ x y _ _ guard6, Result.andThen_ok, run_neq_struct]
    rw [run_eqA arr6 X Y w 9998, Result.andThen_ok, hb]
    exact hK _ _ h
end

end Pd
end Go.Proofs.YtdgcnaijndocnaaDoor

/-
  The walk's laws of whole loads, stores and comparisons, their cheap conditions first (an operation of another kind is left at once).
-/
set_option linter.unusedSimpArgs false
set_option linter.unusedVariables false
namespace Go.Proofs.YtdgcnaijndocnaaDoor
open Go.RowKit Mt
namespace Hk
variable {ops : Array Oper} {rest : List Oper} {o : Oper} {a : Act} {w : World} {Q : Exit → Act → World → Prop}
end Hk
end Go.Proofs.YtdgcnaijndocnaaDoor

/-
  States of package predict: what lies within, six rows and columns, the same turned, the diagonal, Check, Same.
-/
set_option linter.unusedSimpArgs false
set_option linter.unusedVariables false
namespace Go.Proofs.YtdgcnaijndocnaaDoor
open Go.RowKit Vc St Mt Cm Pd Pr
attribute [local go_sem ↓] Go.wp_at_zero Go.wp_at_succ

namespace Pd
theorem hide {p : Prop} (h : p) : Hid p := h
/-- The first n numbers lie from a to b. -/
def allIn (a b : Int) (z : Nat → Int) (n : Nat) : Prop := ∀ k, k < n → a ≤ z k ∧ z k ≤ b
theorem may66 (z : Nat → Int) : May 6 6 z := ⟨6, 6, rfl, rfl, by omega, by omega, by omega, by omega, fun k h1 h2 => by omega⟩
end Pd

namespace Pd
/-- The first k of the numbers X, else those of Y. -/
def pt (X Y : Nat → Int) (k : Nat) : Nat → Int := fun i => if i < k then X i else Y i
theorem pt_zero (X Y : Nat → Int) (i : Nat) : Y i = pt X Y 0 i := rfl
theorem pt_step (X Y : Nat → Int) (k i : Nat) : (if i = k then X k else pt X Y k i) = pt X Y (k + 1) i := by
  unfold pt
  by_cases e : i = k
  · subst e; rw [if_pos rfl, if_pos (by omega)]
  · rw [if_neg e]
    by_cases h : i < k
    · rw [if_pos h, if_pos (by omega)]
    · rw [if_neg h, if_neg (by omega)]
theorem pt_end (X Y : Nat → Int) {n i : Nat} (h : i < n) : pt X Y n i = X i := if_pos h
/-- The diagonal of 36 numbers. -/
def dg (z : Nat → Int) : Nat → Int := fun i => z (7 * i)
end Pd

end Go.Proofs.YtdgcnaijndocnaaDoor

/-
  States of package predict: another diagonal, spreads, Check, Same.
-/
set_option linter.unusedSimpArgs false
set_option linter.unusedVariables false
namespace Go.Proofs.YtdgcnaijndocnaaDoor
open Go.RowKit Vc St Mt Cm Pd Pr
attribute [local go_sem ↓] Go.wp_at_zero Go.wp_at_succ

namespace Pd
theorem all36 (g : Nat) (w : World) : (Instr.sliceAt 44 (.pointer (some ⟨g, 2, none⟩)) none none none).run Tryd.prog w = .ok (.slice (some ⟨g, 2, none⟩) 36 36) w := by kernel_rfl
theorem all6 (g : Nat) (w : World) : (Instr.sliceAt 45 (.pointer (some ⟨g, 0, none⟩)) none none none).run Tryd.prog w = .ok (.slice (some ⟨g, 0, none⟩) 6 6) w := by kernel_rfl
/-- 36 numbers whose diagonal's first k are those of X. -/
def wdk (z X : Nat → Int) (k : Nat) : Nat → Int := fun q => if q % 7 = 0 ∧ q / 7 < k then X (q / 7) else z q
theorem wdk_zero (z X : Nat → Int) (q : Nat) : z q = wdk z X 0 q := by unfold wdk; rw [if_neg (by omega)]
theorem wdk_step (z X : Nat → Int) (k q : Nat) : (if q = 7 * k then X k else wdk z X k q) = wdk z X (k + 1) q := by
  unfold wdk
  by_cases e : q = 7 * k
  · subst e
    rw [if_pos rfl, if_pos ⟨by omega, by omega⟩, show 7 * k / 7 = k by omega]
  · rw [if_neg e]
    by_cases h : q % 7 = 0 ∧ q / 7 < k
    · rw [if_pos h, if_pos ⟨h.1, by omega⟩]
    · rw [if_neg h, if_neg (fun c => h ⟨c.1, by omega⟩)]
/-- Rows with another diagonal. -/
def wd (F : Nat → Nat → Int) (X : Nat → Int) : Nat → Nat → Int := fun i j => if i = j then X i else F i j
theorem wdk_mz (F : Nat → Nat → Int) (X : Nat → Int) (k : Nat) (hk : k < 36) : wdk (mz 6 6 F) X 6 k = mz 6 6 (wd F X) k := by
  unfold wdk mz mpart wd
  rw [if_pos (by omega : k < 6 * 6), if_pos (by omega : k < 6 * 6)]
  by_cases h : k / 6 = k % 6
  · have e : k / 7 = k / 6 := by omega
    rw [if_pos ⟨by omega, by omega⟩, if_pos h, e]
  · rw [if_neg h, if_neg (by omega)]
theorem dg_mz (F : Nat → Nat → Int) {i : Nat} (h : i < 6) : dg (mz 6 6 F) i = F i i := by
  have e := mz_at (F := F) h h
  unfold dg
  rw [show 7 * i = i * 6 + i by omega]; exact e
end Pd

namespace Pd
/-- Not below 0. -/
def nn (X : Nat → Int) : Nat → Int := fun i => max (X i) 0
end Pd

namespace Pd
/-- The numbers of a spread: none too great, none below 0 on the diagonal. -/
def SpreadV (F : Nat → Nat → Int) : Prop := ∀ i, i < 6 → 0 ≤ F i i ∧ ∀ j, j < 6 → InV (F i j)
theorem in36 {F : Nat → Nat → Int} : (∀ k, k < 36 → InV (mz 6 6 F k)) ↔ ∀ i j, i < 6 → j < 6 → InV (F i j) := by
  refine ⟨fun h i j hi hj => ?_, fun h k hk => ?_⟩
  · have e := mz_at (F := F) hi hj
    rw [← e]; exact h _ (by omega)
  · have e := mz_at (n := 6) (c := 6) (F := F) (i := k / 6) (j := k % 6) (by omega) (by omega)
    rw [show k / 6 * 6 + k % 6 = k by omega] at e
    rw [e]; exact h _ _ (by omega) (by omega)
theorem bool_eq {a b : Bool} (h : a = true ↔ b = true) : a = b := by cases a <;> cases b <;> simp_all
end Pd

namespace Pd
/-- What Check answers. -/
def ckR (b : Bool) : Value := if b then .nilIface else .iface 32 (.int .i64 1)
end Pd

end Go.Proofs.YtdgcnaijndocnaaDoor
