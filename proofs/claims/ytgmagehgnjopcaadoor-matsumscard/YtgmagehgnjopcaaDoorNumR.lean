/-
  A number of the document's (radomeref01) as a block of two cells.
-/
import Derived.Test.YtgmagehgnjopcaaDoorRefC
set_option linter.unusedSimpArgs false
set_option linter.unusedVariables false
namespace Go.Proofs.YtgmagehgnjopcaaDoor
open Go.RowKit Dec
namespace Dec

/-- Block g holds a number's two cells. -/
def Row2 (w : World) (g : Nat) (x y : Value) : Prop := w.heap[g]? = some (.cells #[x, y] 108 (0, 0))
theorem Row2.lt {w : World} {g : Nat} {x y : Value} (h : Row2 w g x y) : g < w.heap.size := by
  rcases Nat.lt_or_ge g w.heap.size with k | k
  · exact k
  · unfold Row2 at h; rw [Array.getElem?_eq_none k] at h; cases h
theorem row2_new (w : World) (x y : Value) : Row2 (w.alloc (.cells #[x, y] 108)) w.heap.size x y := heap_alloc_new w _
theorem row2_at (w : World) {g : Nat} (hg : g = w.heap.size) (x y : Value) : Row2 (w.alloc (.cells #[x, y] 108)) g x y := by rw [hg]; exact row2_new w x y
theorem Row2.alloc {w : World} {g : Nat} {x y : Value} (h : Row2 w g x y) (o : Obj) : Row2 (w.alloc o) g x y := by
  unfold Row2; rw [Below.heap_alloc w o g h.lt]; exact h
theorem Row2.keep {w w' : World} {g : Nat} {x y : Value} (h : Row2 w g x y) (hb : Below w.heap.size w w') : Row2 w' g x y := by
  unfold Row2; rw [hb.block g h.lt]; exact h
theorem Row2.drew {w : World} {g : Nat} {x y : Value} (h : Row2 w g x y) : Row2 w.drew g x y := h
theorem Row2.drewN {w : World} {g : Nat} {x y : Value} (h : Row2 w g x y) (n : Nat) : Row2 (w.drewN n) g x y := h
theorem Row2.set2 {w : World} {g : Nat} {x y : Value} (h : Row2 w g x y) (u v : Value) : Row2 ((w.setCell ⟨g, 0, none⟩ u).setCell ⟨g, 1, none⟩ v) g u v := by
  have h1 : (w.setCell ⟨g, 0, none⟩ u).heap[g]? = some (.cells #[u, y] 108 (0, 0)) := heap_setCell_same w g 0 _ _ _ h
  exact heap_setCell_same _ g 1 _ _ _ h1
theorem Row2.other {w : World} {g : Nat} {x y : Value} (h : Row2 w g x y) {p : Addr} (u : Value) (hne : g ≠ p.block) : Row2 (w.setCell p u) g x y := by
  unfold Row2; rw [heap_setCell_other w p g u hne]; exact h
theorem Row2.other2 {w : World} {g g0 : Nat} {x y : Value} (h : Row2 w g x y) (hne : g ≠ g0) (u0 u1 : Value) : Row2 ((w.setCell ⟨g0, 0, none⟩ u0).setCell ⟨g0, 1, none⟩ u1) g x y := (h.other u0 hne).other u1 hne
theorem row2_after2 (w : World) (g0 : Nat) (u0 u1 x y : Value) : Row2 (((w.setCell ⟨g0, 0, none⟩ u0).setCell ⟨g0, 1, none⟩ u1).alloc (.cells #[x, y] 108)) w.heap.size x y := by
  have h := row2_new ((w.setCell ⟨g0, 0, none⟩ u0).setCell ⟨g0, 1, none⟩ u1) x y
  simpa [World.setCell] using h
theorem Row2.c0 {w : World} {g : Nat} {x y : Value} (h : Row2 w g x y) : w.cell? ⟨g, 0, none⟩ = some x := by rw [cell_of_row w g 0 _ _ (0, 0) h]; rfl
theorem Row2.c1 {w : World} {g : Nat} {x y : Value} (h : Row2 w g x y) : w.cell? ⟨g, 1, none⟩ = some y := by rw [cell_of_row w g 1 _ _ (0, 0) h]; rfl
theorem Row2.free {w : World} {g : Nat} {x y : Value} (h : Row2 w g x y) (j : Nat) : w.frozen? ⟨g, j, none⟩ = false := frozen_of_row w g j _ _ h

/-- Stores into a number's block leave all digits as they are. -/
theorem Rd.row2 {w : World} {v : Value} {l : List Nat} (h : Rd w v l) {g : Nat} {p : Bool} {ao : Option Addr} {n c : Nat} (hr : Row2 w g (.bool p) (.slice ao n c)) (u0 u1 : Value) :
    Rd ((w.setCell ⟨g, 0, none⟩ u0).setCell ⟨g, 1, none⟩ u1) v l := by
  refine (h.set u0 (by intro z; rw [hr.c0]; simp)).set u1 ?_
  intro z
  have e : (⟨g, 0, none⟩ : Addr) ≠ ⟨g, 1, none⟩ := by simp
  rw [World.cell?_setCell_other w _ _ _ e, hr.c1]
  simp

theorem IsNum.row2 {w : World} {v : Value} {z : Int} (h : IsNum w v z) {g : Nat} {p : Bool} {ao : Option Addr} {n c : Nat} (hr : Row2 w g (.bool p) (.slice ao n c)) (u0 u1 : Value) :
    IsNum ((w.setCell ⟨g, 0, none⟩ u0).setCell ⟨g, 1, none⟩ u1) v z := by
  obtain ⟨d, hv, hd⟩ := h
  exact ⟨d, hv, hd.row2 hr u0 u1⟩
theorem IsNum.form {w : World} {v : Value} {z : Int} (h : IsNum w v z) : ∃ a L c, v = .agg #[.bool (decide (z < 0)), .slice a L c] := by
  obtain ⟨d, hv, hd⟩ := h
  obtain ⟨a, c, rfl⟩ := hd.lt
  exact ⟨a, _, c, hv⟩
theorem IsNum.form0 {w : World} {v : Value} {n : Nat} (h : IsNum w v (n : Int)) : ∃ a L c, v = .agg #[.bool false, .slice a L c] := by
  obtain ⟨a, L, c, hv⟩ := h.form
  rw [decide_eq_false (Int.not_lt.2 (Int.natCast_nonneg n))] at hv
  exact ⟨a, L, c, hv⟩
theorem len_nat (n : Nat) : (digs (n : Int).natAbs).length = (digs n).length := by rw [Int.natAbs_natCast]

theorem below_set2 {B g : Nat} {w0 w : World} (h : Below B w0 w) (hg : B ≤ g) (u0 u1 : Value) : Below B w0 ((w.setCell ⟨g, 0, none⟩ u0).setCell ⟨g, 1, none⟩ u1) :=
  (h.setCell (p := ⟨g, 0, none⟩) hg u0).setCell (p := ⟨g, 1, none⟩) hg u1

theorem keep_drew {w : World} {a : Addr} {v : Value} (h : w.cell? a = some v) : w.drew.cell? a = some v := h
theorem keep_alloc {w : World} {a : Addr} {v : Value} (o : Obj) (h : w.cell? a = some v) : (w.alloc o).cell? a = some v := keep_cell (below_al (Below.refl _ _) o) h
theorem IsNum.drew {w : World} {v : Value} {z : Int} (h : IsNum w v z) : IsNum w.drew v z := h.below (Below.refl _ _).drew
theorem IsNum.alloc {w : World} {v : Value} {z : Int} (h : IsNum w v z) (o : Obj) : IsNum (w.alloc o) v z := h.below (below_al (Below.refl _ _) o)
end Dec
end Go.Proofs.YtgmagehgnjopcaaDoor
