/-
  Matrices of package mat as values (rows, columns and 36 numbers), the numbers a function of the place.
-/
import Derived.Test.YtlomfjacgomhdaaDoorVcA
import Derived.Deep.MidRow
import Derived.Deep.RegionHeld3
import Derived.Deep.RegionWith
import Derived.Laws.CopyOwn
import Derived.Laws.ResultCell
import Derived.Laws.Rows
set_option linter.unusedSimpArgs false
set_option linter.unusedVariables false
namespace Go.Proofs.YtlomfjacgomhdaaDoor
open Go.RowKit Vc
namespace Mt

/-- Rows, columns and numbers as values. -/
def mvals (r c : Int) (z : Nat → Int) : List Value := .int .i64 r :: .int .i64 c :: vals 36 z

theorem mvals_len (r c : Int) (z : Nat → Int) : (mvals r c z).length = 38 := by simp [mvals, vals_len]
theorem mvals_at {r c : Int} {z : Nat → Int} {k : Nat} (h : k < 36) : (mvals r c z)[k + 2]? = some (.int .i64 (z k)) := by
  show (vals 36 z)[k]? = _
  exact vals_at h
theorem mvals_set (r c : Int) (z : Nat → Int) (j : Nat) (x : Int) : (mvals r c z).set (j + 2) (.int .i64 x) = mvals r c (fun k => if k = j then x else z k) := by
  show Value.int .i64 r :: Value.int .i64 c :: (vals 36 z).set j (.int .i64 x) = _
  rw [vals_set]; rfl
theorem mvals_congr {r c : Int} {z z' : Nat → Int} (h : ∀ k, k < 36 → z k = z' k) : mvals r c z = mvals r c z' := by unfold mvals; rw [vals_congr h]
theorem mvals_inj {r c r' c' : Int} {z z' : Nat → Int} : mvals r c z = mvals r' c' z' ↔ r = r' ∧ c = c' ∧ ∀ k, k < 36 → z k = z' k := by
  constructor
  · intro h
    unfold mvals at h
    injection h with h1 h2
    injection h2 with h2 h3
    injection h1 with _ h1
    injection h2 with _ h2
    refine ⟨h1, h2, fun k hk => ?_⟩
    have e := vals_at (z := z) hk
    rw [h3, vals_at hk] at e
    injection e with e
    injection e with _ e
    exact e.symm
  · rintro ⟨rfl, rfl, h⟩
    exact mvals_congr h
theorem one_mvals (r c : Int) (z : Nat → Int) : ∀ v ∈ mvals r c z, v.oneCell' = true := by
  intro v hv
  rcases List.mem_cons.1 hv with rfl | hv
  · rfl
  rcases List.mem_cons.1 hv with rfl | hv
  · rfl
  · simp only [vals, List.mem_map] at hv
    obtain ⟨d, _, rfl⟩ := hv
    rfl
theorem size_mvals (r c : Int) (z : Nat → Int) : (mvals r c z).toArray.size = 38 := by rw [List.size_toArray, mvals_len]

theorem zeroM : (#[.int .i64 0, .int .i64 0, .int .i64 0, .int .i64 0, .int .i64 0, .int .i64 0, .int .i64 0, .int .i64 0, .int .i64 0, .int .i64 0, .int .i64 0, .int .i64 0, .int .i64 0, .int .i64 0, .int .i64 0, .int .i64 0, .int .i64 0, .int .i64 0, .int .i64 0, .int .i64 0, .int .i64 0, .int .i64 0, .int .i64 0, .int .i64 0, .int .i64 0, .int .i64 0, .int .i64 0, .int .i64 0, .int .i64 0, .int .i64 0, .int .i64 0, .int .i64 0, .int .i64 0, .int .i64 0, .int .i64 0, .int .i64 0, .int .i64 0, .int .i64 0] : Array Value) = (mvals 0 0 (fun _ => 0)).toArray := by kernel_rfl
theorem wpList_wanted {ops : Array Oper} {rest : List Oper} {o : Oper} {a : Act} {w : World} {Q : Exit → Act → World → Prop} (hw : Region.wanted o (yielded ops a.tmps) = true)
    (h : ∀ K : Act → World → Prop, (∀ a w, wpList Tryd.prog ops Q rest a w → K a w) → o.wp Tryd.prog a w K Q) : wpList Tryd.prog ops Q (o :: rest) a w :=
  wpList_step fun K hK => by rw [if_pos hw]; exact h K hK

/-- A number is loaded. -/
theorem wpList_loadF {ops : Array Oper} {rest : List Oper} {o : Oper} {a : Act} {w : World} {Q : Exit → Act → World → Prop} (hw : Region.wanted o (yielded ops a.tmps) = true) (x : Operand) (ho : o.op = .load 3 x)
    (b f : Nat) (v : Int) (hx : a.eval x = .pointer (some ⟨b, f, none⟩)) (hc : w.cell? ⟨b, f, none⟩ = some (.int .i64 v))
    (h : wpList Tryd.prog ops Q rest (a.put o.dst (.int .i64 v)) w) : wpList Tryd.prog ops Q (o :: rest) a w :=
  wpList_wanted hw fun _ hK => by
    unfold Oper.wp execOp
    have hL : (loadVar 3 ⟨b, f, none⟩).run Tryd.prog w = .ok (.int .i64 v) w := by
      simp [loadVar, isAgg, underlying, Tryd.underlying3, hc, Result.andThen]
    simp only [ho, hx, Instr.loadAt, Instr.sureAddr, Sem.run_bind, Sem.run_pure, Result.andThen_ok, hL]
    exact hK _ _ h

theorem below_row {B g : Nat} {w0 w : World} (hb : Below B w0 w) (hBg : B ≤ g) (cs : Array Value) : Below B w0 (w.setRow g cs) :=
  hb.trans ⟨rfl, rfl, rfl, by simp, fun k hk => setRow_other w g k cs (by omega)⟩

theorem below_setM {B : Nat} {w : World} {x : Addr} (hB : B ≤ w.heap.size) (hx : B ≤ x.block) (v : Value) : Below B w (w.setCell x v) :=
  ⟨rfl, rfl, rfl, by simp, fun k hk => heap_setCell_other w x k v (by omega)⟩

/-- The numbers F of rows of c each, one row behind the other, the first t of them; noughts behind. -/
def mpart (c : Nat) (F : Nat → Nat → Int) (t : Nat) : Nat → Int := fun k => if k < t then F (k / c) (k % c) else 0
/-- Those of n rows. -/
def mz (n c : Nat) (F : Nat → Nat → Int) : Nat → Int := mpart c F (n * c)

theorem place_div {c i j : Nat} (hj : j < c) : (i * c + j) / c = i := by rw [Nat.mul_comm i c, Nat.mul_add_div (by omega), Nat.div_eq_of_lt hj, Nat.add_zero]
theorem place_mod {c i j : Nat} (hj : j < c) : (i * c + j) % c = j := by rw [Nat.mul_comm i c, Nat.mul_add_mod, Nat.mod_eq_of_lt hj]
theorem place_lt {n c i j : Nat} (hi : i < n) (hj : j < c) : i * c + j < n * c := by
  have h : (i + 1) * c ≤ n * c := Nat.mul_le_mul_right c hi
  rw [Nat.succ_mul] at h
  omega
theorem place_le {n c i : Nat} (hi : i < n) : i * c + c ≤ n * c := by
  have h : (i + 1) * c ≤ n * c := Nat.mul_le_mul_right c hi
  rw [Nat.succ_mul] at h
  exact h
theorem size_le {n c : Nat} (hn : n ≤ 6) (hc : c ≤ 6) : n * c ≤ 36 := Nat.mul_le_mul hn hc
theorem mz_at {n c i j : Nat} {F : Nat → Nat → Int} (hi : i < n) (hj : j < c) : mz n c F (i * c + j) = F i j := by
  unfold mz mpart
  rw [if_pos (place_lt hi hj), place_div hj, place_mod hj]
theorem mz_behind {n c k : Nat} {F : Nat → Nat → Int} (h : n * c ≤ k) : mz n c F k = 0 := by
  unfold mz mpart
  rw [if_neg (by omega)]
theorem mpart_zero (c : Nat) (F : Nat → Nat → Int) (k : Nat) : mpart c F 0 k = 0 := by unfold mpart; rw [if_neg (by omega)]
theorem mpart_step {c i j : Nat} {F : Nat → Nat → Int} (hj : j < c) (k : Nat) : (if k = i * c + j then F i j else mpart c F (i * c + j) k) = mpart c F (i * c + (j + 1)) k := by
  unfold mpart
  by_cases e : k = i * c + j
  · subst e; rw [if_pos rfl, if_pos (by omega), place_div hj, place_mod hj]
  · rw [if_neg e]
    by_cases h : k < i * c + j
    · rw [if_pos h, if_pos (by omega)]
    · rw [if_neg h, if_neg (by omega)]
theorem mz_congr {n c : Nat} {F G : Nat → Nat → Int} (h : ∀ i j, i < n → j < c → F i j = G i j) (k : Nat) : mz n c F k = mz n c G k := by
  unfold mz mpart
  by_cases e : k < n * c
  · rw [if_pos e, if_pos e]
    have hc : 0 < c := by
      rcases Nat.eq_zero_or_pos c with h0 | h0
      · subst h0; simp at e
      · exact h0
    exact h _ _ (Nat.div_lt_of_lt_mul (by rw [Nat.mul_comm]; exact e)) (Nat.mod_lt _ hc)
  · rw [if_neg e, if_neg e]
theorem mz_inj {n c : Nat} {F G : Nat → Nat → Int} (h36 : n * c ≤ 36) (h : ∀ k, k < 36 → mz n c F k = mz n c G k) {i j : Nat} (hi : i < n) (hj : j < c) : F i j = G i j := by
  have e := h (i * c + j) (by have := place_lt hi hj; omega)
  rwa [mz_at hi hj, mz_at hi hj] at e

/-- May it be a matrix? -/
def May (r c : Int) (z : Nat → Int) : Prop := ∃ n m : Nat, r = n ∧ c = m ∧ 1 ≤ n ∧ n ≤ 6 ∧ 1 ≤ m ∧ m ≤ 6 ∧ ∀ k, n * m ≤ k → k < 36 → z k = 0

/-- Numbers of 64 bits. -/
def B2 (F : Nat → Nat → Int) : Prop := ∀ i, B64 (F i)

end Mt
end Go.Proofs.YtlomfjacgomhdaaDoor
