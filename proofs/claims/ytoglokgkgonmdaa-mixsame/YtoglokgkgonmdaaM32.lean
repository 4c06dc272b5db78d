/-
  Lists of numbers of any size: read, and of the call's own, appended to.
-/
import Derived.Test.YtoglokgkgonmdaaM4
import Derived.Test.YtoglokgkgonmdaaM2
import Derived.Test.YtoglokgkgonmdaaM3
import Derived.Test.YtoglokgkgonmdaaRegU
import Derived.Deep.AppendLies
import Derived.Test.YtoglokgkgonmdaaM7
import Derived.Deep.MidRow
set_option linter.unusedSimpArgs false
set_option linter.unusedVariables false
namespace Go.Proofs.Ytoglokgkgonmdaa
open Go.RowKit Dec Nv Vc St Ld
namespace Nu

/-- The cells of n numbers: each its sign and its digits. -/
def ncells (a : Nat → Int) (S : Nat → Value) : Nat → List Value
  | 0 => []
  | k + 1 => ncells a S k ++ [.bool (decide (a k < 0)), S k]
theorem ncells_len (a : Nat → Int) (S : Nat → Value) : ∀ n, (ncells a S n).length = n * 2
  | 0 => rfl
  | n + 1 => by show (ncells a S n ++ [_, _]).length = _; rw [List.length_append, ncells_len a S n]; show n * 2 + 2 = (n + 1) * 2; omega
theorem ncells_0 {a : Nat → Int} {S : Nat → Value} : ∀ {n k : Nat}, k < n → (ncells a S n)[k * 2]? = some (.bool (decide (a k < 0)))
  | n + 1, k, h => by
    show (ncells a S n ++ [_, _])[k * 2]? = _
    by_cases e : k = n
    · subst e
      rw [List.getElem?_append_right (by rw [ncells_len]; omega), ncells_len, Nat.sub_self]; rfl
    · rw [List.getElem?_append_left (by rw [ncells_len]; omega)]; exact ncells_0 (by omega)
theorem ncells_1 {a : Nat → Int} {S : Nat → Value} : ∀ {n k : Nat}, k < n → (ncells a S n)[k * 2 + 1]? = some (S k)
  | n + 1, k, h => by
    show (ncells a S n ++ [_, _])[k * 2 + 1]? = _
    by_cases e : k = n
    · subst e
      rw [List.getElem?_append_right (by rw [ncells_len]; omega), ncells_len, Nat.add_sub_cancel_left]; rfl
    · rw [List.getElem?_append_left (by rw [ncells_len]; omega)]; exact ncells_1 (by omega)
theorem ncells_congr {a b : Nat → Int} {S T : Nat → Value} : ∀ {n : Nat}, (∀ k, k < n → a k = b k) → (∀ k, k < n → S k = T k) → ncells a S n = ncells b T n
  | 0, _, _ => rfl
  | n + 1, h, h' => by
    show ncells a S n ++ [.bool (decide (a n < 0)), S n] = ncells b T n ++ [.bool (decide (b n < 0)), T n]
    rw [ncells_congr (fun k hk => h k (by omega)) (fun k hk => h' k (by omega)), h n (by omega), h' n (by omega)]
/-- Where blocks that are no blocks of integers turn, numbers stay. -/
theorem num_but {Q : Nat → Prop} {w w' : World} {v : Value} {z : Int} (h : IsNum w v z) (k : But Q w w') (hQ : ∀ b, Q b → ¬ Tg w b) : IsNum w' v z := by
  obtain ⟨d, hv, hd⟩ := h
  refine ⟨d, hv, ?_⟩
  rcases hd with hd | ⟨b, off, cap, e1, e2, e3, e4⟩
  · exact Or.inl hd
  · have hb : ¬ Q b := fun q => hQ b q e3
    obtain ⟨cs, fz, e5⟩ := e3
    refine Or.inr ⟨b, off, cap, e1, e2, ⟨cs, fz, (k.block b (Tg.lt ⟨cs, fz, e5⟩) hb).trans e5⟩, fun t ht => k.cell (e4 t ht) hb⟩
theorem tg_not {w : World} {b : Nat} {cs : Array Value} {t : TypeId} {fz : Nat × Nat} (h : w.heap[b]? = some (.cells cs t fz)) (ht : t ≠ 3) : ¬ Tg w b := fun ⟨cs', fz', e⟩ => by
  rw [h] at e
  injection e with e
  injection e with _ e _
  exact ht e

/-- A list that is read: n numbers from the head of block g on. -/
structure At (w : World) (g n cap : Nat) (a : Nat → Int) : Prop where
  le : n ≤ cap
  cap : cap ≤ 9223372036854775807
  num : ∀ k, k < n → ∃ p l c, w.cell? ⟨g, k * 2, none⟩ = some (.bool (decide (a k < 0))) ∧ w.cell? ⟨g, k * 2 + 1, none⟩ = some (.slice p l c) ∧ IsNum w (.agg #[.bool (decide (a k < 0)), .slice p l c]) (a k)
theorem At.keep {w w' : World} {g n cap : Nat} {a : Nat → Int} (h : At w g n cap a) (b : Below w.heap.size w w') : At w' g n cap a :=
  ⟨h.le, h.cap, fun k hk => by
    obtain ⟨p, l, c, h1, h2, h3⟩ := h.num k hk
    exact ⟨p, l, c, keep_cell b h1, keep_cell b h2, h3.below b⟩⟩

end Nu
end Go.Proofs.Ytoglokgkgonmdaa

/-
  Numbers of any size: variables, lists, in drawn regions: loads, stores, appends.
-/
set_option linter.unusedSimpArgs false
set_option linter.unusedVariables false
namespace Go.Proofs.Ytoglokgkgonmdaa
open Go.RowKit Dec Nv Vc St Ld
namespace Nu

/-- Two cells in a row. -/
theorem range2 {w : World} {b o : Nat} {x y : Value} (h0 : w.cell? ⟨b, o, none⟩ = some x) (h1 : w.cell? ⟨b, o + 1, none⟩ = some y) : w.rangeAt b o [x, y] := fun j v hv => by
  match j, hv with
  | 0, hv => injection hv with hv; subst hv; exact h0
  | 1, hv => injection hv with hv; subst hv; exact h1
  | _ + 2, hv => simp at hv
theorem one2 (s : Bool) (p : Option Addr) (l c : Nat) : ∀ v ∈ [Value.bool s, .slice p l c], v.oneCell' = true := by
  intro v hv; simp only [List.mem_cons, List.not_mem_nil, or_false] at hv; rcases hv with rfl | rfl <;> rfl
theorem zero_is (w : World) : IsNum w (.agg #[.bool (decide ((0 : Int) < 0)), .slice none 0 0]) 0 := ⟨.slice none 0 0, rfl, Or.inl ⟨rfl, rfl⟩⟩
/-- A block that is neither list's. -/
structure Off (vx vy : Value) (b : Nat) : Prop where
  x : vx.ownBlock ≠ some b
  y : vy.ownBlock ≠ some b
theorem ncells_set {a : Nat → Int} {S : Nat → Value} (z : Int) (u : Value) : ∀ {n j : Nat}, j < n → ((ncells a S n).set (j * 2) (.bool (decide (z < 0)))).set (j * 2 + 1) u = ncells (fun k => if k = j then z else a k) (fun k => if k = j then u else S k) n
  | n + 1, j, h => by
    show ((ncells a S n ++ [.bool (decide (a n < 0)), S n]).set (j * 2) _).set (j * 2 + 1) u = ncells (fun k => if k = j then z else a k) (fun k => if k = j then u else S k) n ++ [.bool (decide ((if n = j then z else a n) < 0)), (if n = j then u else S n)]
    by_cases e : n = j
    · subst e
      rw [List.set_append_right _ _ (by rw [ncells_len]; omega), List.set_append_right _ _ (by rw [ncells_len]; omega), ncells_len, Nat.sub_self, Nat.add_sub_cancel_left, if_pos rfl, if_pos rfl]
      congr 1
      exact ncells_congr (fun k hk => by show a k = if k = n then z else a k; rw [if_neg (by omega)]) (fun k hk => by show S k = if k = n then u else S k; rw [if_neg (by omega)])
    · rw [List.set_append_left _ _ (by rw [ncells_len]; omega), List.set_append_left _ _ (by rw [List.length_set, ncells_len]; omega), ncells_set z u (by omega), if_neg e, if_neg e]
end Nu
end Go.Proofs.Ytoglokgkgonmdaa

/-
  Lists of numbers of any size: appended to in a plain region; made.
-/
set_option linter.unusedSimpArgs false
set_option linter.unusedVariables false
namespace Go.Proofs.Ytoglokgkgonmdaa
open Go.RowKit Dec Nv Vc St Ld
namespace Nu
theorem ncells_zero (n : Nat) : (madeCells #[Value.bool false, .slice none 0 0] (n * 2)).toList = ncells (fun _ => 0) (fun _ => .slice none 0 0) n := by
  apply List.ext_getElem?
  intro j
  by_cases hj : j < n * 2
  · rcases (by omega : j % 2 = 0 ∨ j % 2 = 1) with e | e
    · have e2 : j = j / 2 * 2 := by omega
      rw [show (ncells (fun _ => 0) (fun _ => .slice none 0 0) n)[j]? = some (Value.bool false) by rw [e2]; exact ncells_0 (a := fun _ => 0) (by omega)]
      simp [madeCells, hj, e]
    · have e2 : j = j / 2 * 2 + 1 := by omega
      rw [show (ncells (fun _ => 0) (fun _ => .slice none 0 0) n)[j]? = some (Value.slice none 0 0) by rw [e2]; exact ncells_1 (S := fun _ => .slice none 0 0) (by omega)]
      simp [madeCells, hj, e]
  · rw [List.getElem?_eq_none (by simp [madeCells]; omega), List.getElem?_eq_none (by rw [ncells_len]; omega)]
end Nu
end Go.Proofs.Ytoglokgkgonmdaa
