/-
  Lists of rows: appended to, handed on, held against each other (rowsOf, sameRows, matOf of the laws of layer 8).
-/
import Derived.Test.YtoglokgkgonmdaaGreatDoorM3
import Derived.Test.YtoglokgkgonmdaaGreatDoorM6
import Derived.Deep.AppendLies
import Derived.Deep.RegionHeld3
import Derived.Test.YtoglokgkgonmdaaGreatDoorM2
set_option linter.unusedSimpArgs false
set_option linter.unusedVariables false
namespace Go.Proofs.YtoglokgkgonmdaaGreatDoor
open Go.RowKit Vc Mt

namespace Mt
theorem infoSl : (Tryz.prog.info? 22).map (fun i => (i.zero, i.size, i.bytes)) = some (some (.slice none 0 0), 1, 24) := by kernel_rfl

def svals (n : Nat) (S : Nat → Value) : List Value := (List.range n).map S
theorem svals_len (n : Nat) (S : Nat → Value) : (svals n S).length = n := by simp [svals]
theorem svals_at {n k : Nat} {S : Nat → Value} (h : k < n) : (svals n S)[k]? = some (S k) := by simp [svals, h]
/-- n rows of m numbers each, F. -/
def Grid (w : World) (lo : Option Addr) (n cm m : Nat) (F : Nat → Nat → Int) : Prop := ∃ A C, Sls w lo n cm A (fun _ => m) C ∧ ∀ k, k < n → Sl w (A k) m (C k) (F k)
end Mt

end Go.Proofs.YtoglokgkgonmdaaGreatDoor

/-
  Lists of rows of the call's own, each row apart from all others: appended to, stored into, rows put in place of others.
-/
set_option linter.unusedSimpArgs false
set_option linter.unusedVariables false
namespace Go.Proofs.YtoglokgkgonmdaaGreatDoor
open Go.RowKit Vc Mt

namespace Mt
variable {B : Nat} {w0 w w' : World} {L cm n m : Nat} {G : Nat → Nat} {F : Nat → Nat → Int}
end Mt
end Go.Proofs.YtoglokgkgonmdaaGreatDoor

/-
  Lists of rows of the call's own that were appended to, number by number: each row apart from all others, with whatever room behind it; stored into.
-/
set_option linter.unusedSimpArgs false
set_option linter.unusedVariables false
namespace Go.Proofs.YtoglokgkgonmdaaGreatDoor
open Go.RowKit Vc Mt

namespace Mt
section
variable {B : Nat} {w0 w w' : World} {L cm n m : Nat} {G C : Nat → Nat} {F : Nat → Nat → Int}
end
end Mt
end Go.Proofs.YtoglokgkgonmdaaGreatDoor

/-
  Lists of the call's own, of whatever elements, so many cells each: appended to, read; what is known of an element stays known, whatever becomes of the list's own block.
-/
set_option linter.unusedSimpArgs false
set_option linter.unusedVariables false
namespace Go.Proofs.YtoglokgkgonmdaaGreatDoor
open Go.RowKit Vc
namespace El

/-- The cells of n elements, one after another. -/
def ecells (S : Nat → List Value) : Nat → List Value
  | 0 => []
  | k + 1 => ecells S k ++ S k
theorem ecells_len {S : Nat → List Value} {s : Nat} : ∀ {n : Nat}, (∀ k, k < n → (S k).length = s) → (ecells S n).length = n * s
  | 0, _ => by show (0 : Nat) = 0 * s; rw [Nat.zero_mul]
  | n + 1, h => by
    show (ecells S n ++ S n).length = _
    rw [List.length_append, ecells_len (fun k hk => h k (by omega)), h n (by omega), Nat.succ_mul]
theorem ecells_at {S : Nat → List Value} {s : Nat} : ∀ {n : Nat}, (∀ k, k < n → (S k).length = s) → ∀ {k j : Nat}, k < n → j < s → (ecells S n)[k * s + j]? = (S k)[j]?
  | n + 1, h, k, j, hk, hj => by
    show (ecells S n ++ S n)[k * s + j]? = _
    have hl : (ecells S n).length = n * s := ecells_len fun k hk => h k (by omega)
    by_cases e : k = n
    · subst e
      rw [List.getElem?_append_right (by rw [hl]; omega), hl, Nat.add_sub_cancel_left]
    · have h1 : k * s + s ≤ n * s := by rw [← Nat.succ_mul]; exact Nat.mul_le_mul_right s (by omega)
      rw [List.getElem?_append_left (by rw [hl]; omega)]
      exact ecells_at (fun k hk => h k (by omega)) (by omega) hj
section
variable {t : TypeId} {s B : Nat} {w0 w w' : World} {v : Value} {n : Nat} {R : Nat → List Value → World → Prop}
end

end El
end Go.Proofs.YtoglokgkgonmdaaGreatDoor

/-
  Blocks of n elements, so many cells each: read, stored into by whole elements; what is one block's is no other's.
-/
set_option linter.unusedSimpArgs false
set_option linter.unusedVariables false
namespace Go.Proofs.YtoglokgkgonmdaaGreatDoor
open Go.RowKit Vc Ld
namespace El

/-- A cell of a block that is known lies among its cells. -/
theorem in_row {w : World} {g : Nat} {t : TypeId} {cs : Array Value} (h : w.heap[g]? = some (.cells cs t (0, 0))) {a : Addr} {v : Value} (hc : w.cell? a = some v) (e : a.block = g) : ∃ k : Nat, cs[k]? = some v := by
  subst e
  cases hs : a.spot with
  | none =>
    rw [show a = (⟨a.block, a.off, none⟩ : Addr) from by cases a; simp_all] at hc
    rw [World.cell?] at hc
    simp only [h] at hc
    exact ⟨a.off, hc⟩
  | some q =>
    exfalso
    unfold World.cell? at hc
    simp [h, hs] at hc
/-- Numbers lie in no block that holds none. -/
theorem sl_off {w : World} {g : Nat} {t : TypeId} {cs : Array Value} (h : w.heap[g]? = some (.cells cs t (0, 0))) (hn : ∀ (k : Nat) (z : Int), cs[k]? ≠ some (.int .i64 z)) {ao : Option Addr} {n ca : Nat} {z : Nat → Int} (s : Sl w ao n ca z) (h0 : 0 < n) : ∀ x, ao = some x → x.block ≠ g := by
  intro x hx e
  obtain ⟨y, hy, hc⟩ := s.at' 0 h0
  rw [hx] at hy
  cases hy
  obtain ⟨k, hk⟩ := in_row h hc (by rw [addr_block]; exact e)
  exact hn k _ hk

/-- Block g holds n elements of type t, s cells each: S. -/
structure ERow (w : World) (g : Nat) (t : TypeId) (s n : Nat) (S : Nat → List Value) : Prop where
  ex : ∃ cs : Array Value, w.heap[g]? = some (.cells cs t (0, 0)) ∧ cs.size = n * s
  at' : ∀ k, k < n → (S k).length = s ∧ w.rangeAt g (k * s) (S k)
section
variable {w w' : World} {g : Nat} {t : TypeId} {s n : Nat} {S : Nat → List Value}
theorem ERow.lt (h : ERow w g t s n S) : g < w.heap.size := by
  obtain ⟨cs, h1, _⟩ := h.ex
  rcases Nat.lt_or_ge g w.heap.size with k | k
  · exact k
  · rw [Array.getElem?_eq_none k] at h1; cases h1
theorem ERow.of (h : ERow w g t s n S) (e : w'.heap[g]? = w.heap[g]?) : ERow w' g t s n S := by
  obtain ⟨cs, h1, h2⟩ := h.ex
  refine ⟨⟨cs, e.trans h1, h2⟩, fun k hk => ⟨(h.at' k hk).1, fun j v hv => ?_⟩⟩
  have hc := (h.at' k hk).2 j v hv
  rw [World.cell?_of_block (show w'.heap[(⟨g, k * s + j, none⟩ : Addr).block]? = _ from e)]
  exact hc
theorem ERow.keep (h : ERow w g t s n S) (b : Below w.heap.size w w') : ERow w' g t s n S := h.of (b.block g h.lt)
theorem ERow.but {P : Nat → Prop} (h : ERow w g t s n S) (b : But P w w') (hn : ¬ P g) : ERow w' g t s n S := h.of (b.block g h.lt hn)
theorem ERow.congr {S' : Nat → List Value} (h : ERow w g t s n S) (e : ∀ k, k < n → S k = S' k) : ERow w g t s n S' := ⟨h.ex, fun k hk => by rw [← e k hk]; exact h.at' k hk⟩
theorem ERow.there (h : ERow w g t s n S) {k : Nat} (hk : k < n) : w.there g (k * s) s := by
  obtain ⟨cs, h1, h2⟩ := h.ex
  intro j hj
  have hlt : k * s + j < cs.size := by
    rw [h2]
    have h3 : k * s + s ≤ n * s := by rw [← Nat.succ_mul]; exact Nat.mul_le_mul_right s hk
    omega
  refine ⟨?_, frozen_of_row w g _ _ _ h1⟩
  rw [World.cell?]
  simp [h1, Array.getElem?_eq_getElem hlt]
theorem erow_new (w : World) (t : TypeId) (s n : Nat) (S : Nat → List Value) (h : ∀ k, k < n → (S k).length = s) : ERow (w.alloc (.cells (ecells S n).toArray t)) w.heap.size t s n S := by
  have hc := St.crow_new w t (ecells S n)
  refine ⟨⟨_, hc, by rw [List.size_toArray, ecells_len h]⟩, fun k hk => ⟨h k hk, fun j v hv => ?_⟩⟩
  have hj : j < s := by
    rcases Nat.lt_or_ge j s with q | q
    · exact q
    · rw [List.getElem?_eq_none (by rw [h k hk]; exact q)] at hv; cases hv
  exact hc.cell (k := k * s + j) (by rw [ecells_at h hk hj]; exact hv) rfl
theorem heap_setCells (g : Nat) (t : TypeId) : ∀ (vs : List Value) (o : Nat) (w : World) (cs : Array Value), w.heap[g]? = some (.cells cs t (0, 0)) → ∃ cs' : Array Value, (w.setCells g o vs).heap[g]? = some (.cells cs' t (0, 0)) ∧ cs'.size = cs.size
  | [], _, _, cs, h => ⟨cs, h, rfl⟩
  | v :: vs, o, w, cs, h => by
    obtain ⟨cs', h1, h2⟩ := heap_setCells g t vs (o + 1) (w.setCell ⟨g, o, none⟩ v) _ (heap_setCell_same w g o _ _ _ h)
    exact ⟨cs', h1, by rw [h2]; simp⟩
theorem but_setCells (g : Nat) : ∀ (vs : List Value) (o : Nat) (w : World), But (· = g) w (w.setCells g o vs)
  | [], _, w => But.refl _ _
  | v :: vs, o, w => ((But.refl (· = g) w).set (p := ⟨g, o, none⟩) v rfl).trans (but_setCells g vs (o + 1) _)
theorem ERow.set (h : ERow w g t s n S) {k : Nat} (hk : k < n) {vs : List Value} (hl : vs.length = s) : ERow (w.setCells g (k * s) vs) g t s n (fun j => if j = k then vs else S j) := by
  obtain ⟨cs, h1, h2⟩ := h.ex
  obtain ⟨cs', h3, h4⟩ := heap_setCells g t vs (k * s) w cs h1
  refine ⟨⟨cs', h3, h4.trans h2⟩, fun j hj => ?_⟩
  by_cases e : j = k
  · subst e
    simp only [if_pos]
    exact ⟨hl, World.rangeAt_setCells_same w g (j * s) vs (by rw [hl]; exact h.there hj)⟩
  · simp only [if_neg e]
    refine ⟨(h.at' j hj).1, World.rangeAt_setCells_apart (h.at' j hj).2 g (k * s) vs (Or.inr ?_)⟩
    rw [(h.at' j hj).1, hl]
    rcases Nat.lt_or_ge j k with c | c
    · left; rw [← Nat.succ_mul]; exact Nat.mul_le_mul_right s c
    · right; rw [← Nat.succ_mul]; exact Nat.mul_le_mul_right s (by omega)
end

/-- An element is stored: the world behind it is a letter. -/
theorem wpList_storeE {ops : Array Oper} {rest : List Oper} {o : Oper} {a : Act} {w : World} {Q : Exit → Act → World → Prop} {g s n k : Nat} {S : Nat → List Value} (t : TypeId) (hgd : o.guard = none) (x y : Operand) (ho : o.op = .store t x y) (vs : List Value)
    (hx : a.eval x = .pointer (some ⟨g, k * s, none⟩)) (hy : a.eval y = .agg vs.toArray) (hr : ERow w g t s n S) (hk : k < n) (hl : vs.length = s) (hi : (Tryz.prog.info? t).map (·.size) = some s) (h1 : ∀ v ∈ vs, v.oneCell' = true)
    (h : ∀ w', ERow w' g t s n (fun j => if j = k then vs else S j) → But (· = g) w w' → wpList Tryz.prog ops Q rest (a.put o.dst undef) w') : wpList Tryz.prog ops Q (o :: rest) a w :=
  wpList_store_mid hgd t x y ho g (k * s) vs.toArray hx hy (by rw [List.size_toArray, hl]; exact hr.there hk) (by rw [List.size_toArray, hl]; exact hi) (all_oneCell_toArray h1) (h _ (hr.set hk hl) (but_setCells g _ _ _))
end El
end Go.Proofs.YtoglokgkgonmdaaGreatDoor

/-
  A list of numbers and a list of rows that a struct holds, appended to one by one, the struct stored into: they and the rows lie from block o on, the struct ahead of it.
-/
set_option linter.unusedSimpArgs false
set_option linter.unusedVariables false
namespace Go.Proofs.YtoglokgkgonmdaaGreatDoor
open Go.RowKit Vc Mt St Ld
namespace Ls

theorem rowBut {P : Nat → Prop} {a b : World} {B : Nat} {t : TypeId} {s : Nat} {v : Value} {n : Nat} {xs : List Value} (h : a.ownsRow B t s v n xs) (k : But P a b) (hx : ∀ g, v.ownBlock = some g → ¬ P g) : b.ownsRow B t s v n xs := by
  obtain ⟨h1, h2⟩ := h
  refine ⟨h1, ?_⟩
  rcases h2 with h2 | ⟨g, cap, cur, rfl, hb, hg, hn, hc, hs, ht⟩
  · exact Or.inl h2
  · refine Or.inr ⟨g, cap, cur, rfl, hb, ?_, hn, hc, hs, ht⟩
    have hlt : g < a.heap.size := by
      rcases Nat.lt_or_ge g a.heap.size with q | q
      · exact q
      · rw [Array.getElem?_eq_none q] at hg; cases hg
    exact (k.block g hlt (hx g rfl)).trans hg
section
variable {ops : Array Oper} {rest : List Oper} {op : Oper} {ac : Act} {Q : Exit → Act → World → Prop} {wr : World}
end
end Ls
end Go.Proofs.YtoglokgkgonmdaaGreatDoor
