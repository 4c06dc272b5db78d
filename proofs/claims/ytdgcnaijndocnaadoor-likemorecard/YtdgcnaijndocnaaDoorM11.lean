/-
  Numbers of any size: variables, lists, in drawn regions: loads, stores, appends.
-/
import Derived.Test.YtdgcnaijndocnaaDoorNumL
import Derived.Test.YtdgcnaijndocnaaDoorM10
import Derived.Deep.MidRow
set_option linter.unusedSimpArgs false
set_option linter.unusedVariables false
namespace Go.Proofs.YtdgcnaijndocnaaDoor
open Go.RowKit Dec Nv Vc St Ld
namespace Nu

/-- Two cells in a row. -/
theorem range2 {w : World} {b o : Nat} {x y : Value} (h0 : w.cell? ⟨b, o, none⟩ = some x) (h1 : w.cell? ⟨b, o + 1, none⟩ = some y) : w.rangeAt b o [x, y] := fun j v hv => by
  match j, hv with
  | 0, hv => injection hv with hv; subst hv; exact h0
  | 1, hv => injection hv with hv; subst hv; exact h1
  | _ + 2, hv => simp at hv
theorem one2 (s : Bool) (p : Option Addr) (l c : Nat) : ∀ v ∈ [Value.bool s, .slice p l c], v.oneCell' = true := by
  intro v hv; simp only [List.mem_cons, List.not_mem_nil, or_false] at hv; rcases hv with rfl | rfl <;> rfl
theorem zero_is (w : World) : IsNum w (.agg #[.bool (decide ((0 : Int) < 0)), .slice none 0 0]) 0 := ⟨.slice none 0 0, rfl, Or.inl ⟨rfl, rfl⟩⟩
/-- A block that is neither list's. -/
structure Off (vx vy : Value) (b : Nat) : Prop where
  x : vx.ownBlock ≠ some b
  y : vy.ownBlock ≠ some b
theorem ncells_set {a : Nat → Int} {S : Nat → Value} (z : Int) (u : Value) : ∀ {n j : Nat}, j < n → ((ncells a S n).set (j * 2) (.bool (decide (z < 0)))).set (j * 2 + 1) u = ncells (fun k => if k = j then z else a k) (fun k => if k = j then u else S k) n
  | n + 1, j, h => by
    show ((ncells a S n ++ [.bool (decide (a n < 0)), S n]).set (j * 2) _).set (j * 2 + 1) u = ncells (fun k => if k = j then z else a k) (fun k => if k = j then u else S k) n ++ [.bool (decide ((if n = j then z else a n) < 0)), (if n = j then u else S n)]
    by_cases e : n = j
    · subst e
      rw [List.set_append_right _ _ (by rw [ncells_len]; omega), List.set_append_right _ _ (by rw [ncells_len]; omega), ncells_len, Nat.sub_self, Nat.add_sub_cancel_left, if_pos rfl, if_pos rfl]
      congr 1
      exact ncells_congr (fun k hk => by show a k = if k = n then z else a k; rw [if_neg (by omega)]) (fun k hk => by show S k = if k = n then u else S k; rw [if_neg (by omega)])
    · rw [List.set_append_left _ _ (by rw [ncells_len]; omega), List.set_append_left _ _ (by rw [List.length_set, ncells_len]; omega), ncells_set z u (by omega), if_neg e, if_neg e]
end Nu
end Go.Proofs.YtdgcnaijndocnaaDoor

/-
  Lists of numbers of any size: appended to in a plain region; made.
-/
set_option linter.unusedSimpArgs false
set_option linter.unusedVariables false
namespace Go.Proofs.YtdgcnaijndocnaaDoor
open Go.RowKit Dec Nv Vc St Ld
namespace Nu
theorem ncells_zero (n : Nat) : (madeCells #[Value.bool false, .slice none 0 0] (n * 2)).toList = ncells (fun _ => 0) (fun _ => .slice none 0 0) n := by
  apply List.ext_getElem?
  intro j
  by_cases hj : j < n * 2
  · rcases (by omega : j % 2 = 0 ∨ j % 2 = 1) with e | e
    · have e2 : j = j / 2 * 2 := by omega
      rw [show (ncells (fun _ => 0) (fun _ => .slice none 0 0) n)[j]? = some (Value.bool false) by rw [e2]; exact ncells_0 (a := fun _ => 0) (by omega)]
      simp [madeCells, hj, e]
    · have e2 : j = j / 2 * 2 + 1 := by omega
      rw [show (ncells (fun _ => 0) (fun _ => .slice none 0 0) n)[j]? = some (Value.slice none 0 0) by rw [e2]; exact ncells_1 (S := fun _ => .slice none 0 0) (by omega)]
      simp [madeCells, hj, e]
  · rw [List.getElem?_eq_none (by simp [madeCells]; omega), List.getElem?_eq_none (by rw [ncells_len]; omega)]
end Nu
end Go.Proofs.YtdgcnaijndocnaaDoor
