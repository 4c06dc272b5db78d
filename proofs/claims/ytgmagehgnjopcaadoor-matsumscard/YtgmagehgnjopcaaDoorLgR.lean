/-
  A number of the document's answer of layer 3 (a sign and eight words) as a block of nine cells: loads, stores, results.
-/
import Derived.Test.YtgmagehgnjopcaaDoorLgA
import Derived.Laws.Rows
import Derived.Laws.Tables
import Derived.Laws.ResultCell
set_option linter.unusedSimpArgs false
set_option linter.unusedVariables false
namespace Go.Proofs.YtgmagehgnjopcaaDoor
open Go.RowKit Lg Dec
namespace Lg
/-- Block b holds a sign and eight words. -/
def Row9 (w : World) (b : Nat) (s : Bool) (x0 x1 x2 x3 x4 x5 x6 x7 : Int) : Prop := w.heap[b]? = some (.cells #[.bool s, .int .u64 x0, .int .u64 x1, .int .u64 x2, .int .u64 x3, .int .u64 x4, .int .u64 x5, .int .u64 x6, .int .u64 x7] 101 (0, 0))
section
theorem Row9.lt {w : World} {b : Nat} {s : Bool} {x0 x1 x2 x3 x4 x5 x6 x7 : Int} (h : Row9 w b s x0 x1 x2 x3 x4 x5 x6 x7) : b < w.heap.size := by
  rcases Nat.lt_or_ge b w.heap.size with k | k
  · exact k
  · unfold Row9 at h; rw [Array.getElem?_eq_none k] at h; cases h
theorem row9_new (w : World) (s : Bool) (x0 x1 x2 x3 x4 x5 x6 x7 : Int) : Row9 (w.alloc (.cells #[.bool s, .int .u64 x0, .int .u64 x1, .int .u64 x2, .int .u64 x3, .int .u64 x4, .int .u64 x5, .int .u64 x6, .int .u64 x7] 101)) w.heap.size s x0 x1 x2 x3 x4 x5 x6 x7 := heap_alloc_new w _
theorem row9_new1 (w : World) (A : Obj) (s : Bool) (x0 x1 x2 x3 x4 x5 x6 x7 : Int) : Row9 ((w.alloc A).alloc (.cells #[.bool s, .int .u64 x0, .int .u64 x1, .int .u64 x2, .int .u64 x3, .int .u64 x4, .int .u64 x5, .int .u64 x6, .int .u64 x7] 101)) (w.heap.size + 1) s x0 x1 x2 x3 x4 x5 x6 x7 := by
  have h := row9_new (w.alloc A) s x0 x1 x2 x3 x4 x5 x6 x7
  rwa [show (w.alloc A).heap.size = w.heap.size + 1 by simp] at h
theorem row9_new2 (w : World) (A B : Obj) (s : Bool) (x0 x1 x2 x3 x4 x5 x6 x7 : Int) : Row9 (((w.alloc A).alloc B).alloc (.cells #[.bool s, .int .u64 x0, .int .u64 x1, .int .u64 x2, .int .u64 x3, .int .u64 x4, .int .u64 x5, .int .u64 x6, .int .u64 x7] 101)) (w.heap.size + 1 + 1) s x0 x1 x2 x3 x4 x5 x6 x7 := by
  have h := row9_new ((w.alloc A).alloc B) s x0 x1 x2 x3 x4 x5 x6 x7
  rwa [show ((w.alloc A).alloc B).heap.size = w.heap.size + 1 + 1 by simp] at h
theorem Row9.alloc {w : World} {b : Nat} {s : Bool} {x0 x1 x2 x3 x4 x5 x6 x7 : Int} (h : Row9 w b s x0 x1 x2 x3 x4 x5 x6 x7) (o : Obj) : Row9 (w.alloc o) b s x0 x1 x2 x3 x4 x5 x6 x7 := by
  unfold Row9; rw [Below.heap_alloc w o b h.lt]; exact h
theorem Row9.keep {w w' : World} {b : Nat} {s : Bool} {x0 x1 x2 x3 x4 x5 x6 x7 : Int} (h : Row9 w b s x0 x1 x2 x3 x4 x5 x6 x7) (hb : Below w.heap.size w w') : Row9 w' b s x0 x1 x2 x3 x4 x5 x6 x7 := by
  unfold Row9; rw [hb.block b h.lt]; exact h
theorem Row9.drewN {w : World} {b : Nat} {s : Bool} {x0 x1 x2 x3 x4 x5 x6 x7 : Int} (h : Row9 w b s x0 x1 x2 x3 x4 x5 x6 x7) (n : Nat) : Row9 (w.drewN n) b s x0 x1 x2 x3 x4 x5 x6 x7 := h
theorem Row9.drew {w : World} {b : Nat} {s : Bool} {x0 x1 x2 x3 x4 x5 x6 x7 : Int} (h : Row9 w b s x0 x1 x2 x3 x4 x5 x6 x7) : Row9 w.drew b s x0 x1 x2 x3 x4 x5 x6 x7 := h
theorem Row9.set0 {w : World} {b : Nat} {s : Bool} {x0 x1 x2 x3 x4 x5 x6 x7 : Int} (h : Row9 w b s x0 x1 x2 x3 x4 x5 x6 x7) (v : Int) : Row9 (w.setCell ⟨b, 1, none⟩ (.int .u64 v)) b s v x1 x2 x3 x4 x5 x6 x7 := heap_setCell_same w b 1 _ _ _ h
theorem Row9.c0 {w : World} {b : Nat} {s : Bool} {x0 x1 x2 x3 x4 x5 x6 x7 : Int} (h : Row9 w b s x0 x1 x2 x3 x4 x5 x6 x7) : w.cell? ⟨b, 1, none⟩ = some (.int .u64 x0) := by rw [cell_of_row w b 1 _ _ (0, 0) h]; rfl
theorem Row9.set1 {w : World} {b : Nat} {s : Bool} {x0 x1 x2 x3 x4 x5 x6 x7 : Int} (h : Row9 w b s x0 x1 x2 x3 x4 x5 x6 x7) (v : Int) : Row9 (w.setCell ⟨b, 2, none⟩ (.int .u64 v)) b s x0 v x2 x3 x4 x5 x6 x7 := heap_setCell_same w b 2 _ _ _ h
theorem Row9.c1 {w : World} {b : Nat} {s : Bool} {x0 x1 x2 x3 x4 x5 x6 x7 : Int} (h : Row9 w b s x0 x1 x2 x3 x4 x5 x6 x7) : w.cell? ⟨b, 2, none⟩ = some (.int .u64 x1) := by rw [cell_of_row w b 2 _ _ (0, 0) h]; rfl
theorem Row9.set2 {w : World} {b : Nat} {s : Bool} {x0 x1 x2 x3 x4 x5 x6 x7 : Int} (h : Row9 w b s x0 x1 x2 x3 x4 x5 x6 x7) (v : Int) : Row9 (w.setCell ⟨b, 3, none⟩ (.int .u64 v)) b s x0 x1 v x3 x4 x5 x6 x7 := heap_setCell_same w b 3 _ _ _ h
theorem Row9.c2 {w : World} {b : Nat} {s : Bool} {x0 x1 x2 x3 x4 x5 x6 x7 : Int} (h : Row9 w b s x0 x1 x2 x3 x4 x5 x6 x7) : w.cell? ⟨b, 3, none⟩ = some (.int .u64 x2) := by rw [cell_of_row w b 3 _ _ (0, 0) h]; rfl
theorem Row9.set3 {w : World} {b : Nat} {s : Bool} {x0 x1 x2 x3 x4 x5 x6 x7 : Int} (h : Row9 w b s x0 x1 x2 x3 x4 x5 x6 x7) (v : Int) : Row9 (w.setCell ⟨b, 4, none⟩ (.int .u64 v)) b s x0 x1 x2 v x4 x5 x6 x7 := heap_setCell_same w b 4 _ _ _ h
theorem Row9.c3 {w : World} {b : Nat} {s : Bool} {x0 x1 x2 x3 x4 x5 x6 x7 : Int} (h : Row9 w b s x0 x1 x2 x3 x4 x5 x6 x7) : w.cell? ⟨b, 4, none⟩ = some (.int .u64 x3) := by rw [cell_of_row w b 4 _ _ (0, 0) h]; rfl
theorem Row9.set4 {w : World} {b : Nat} {s : Bool} {x0 x1 x2 x3 x4 x5 x6 x7 : Int} (h : Row9 w b s x0 x1 x2 x3 x4 x5 x6 x7) (v : Int) : Row9 (w.setCell ⟨b, 5, none⟩ (.int .u64 v)) b s x0 x1 x2 x3 v x5 x6 x7 := heap_setCell_same w b 5 _ _ _ h
theorem Row9.c4 {w : World} {b : Nat} {s : Bool} {x0 x1 x2 x3 x4 x5 x6 x7 : Int} (h : Row9 w b s x0 x1 x2 x3 x4 x5 x6 x7) : w.cell? ⟨b, 5, none⟩ = some (.int .u64 x4) := by rw [cell_of_row w b 5 _ _ (0, 0) h]; rfl
theorem Row9.set5 {w : World} {b : Nat} {s : Bool} {x0 x1 x2 x3 x4 x5 x6 x7 : Int} (h : Row9 w b s x0 x1 x2 x3 x4 x5 x6 x7) (v : Int) : Row9 (w.setCell ⟨b, 6, none⟩ (.int .u64 v)) b s x0 x1 x2 x3 x4 v x6 x7 := heap_setCell_same w b 6 _ _ _ h
theorem Row9.c5 {w : World} {b : Nat} {s : Bool} {x0 x1 x2 x3 x4 x5 x6 x7 : Int} (h : Row9 w b s x0 x1 x2 x3 x4 x5 x6 x7) : w.cell? ⟨b, 6, none⟩ = some (.int .u64 x5) := by rw [cell_of_row w b 6 _ _ (0, 0) h]; rfl
theorem Row9.set6 {w : World} {b : Nat} {s : Bool} {x0 x1 x2 x3 x4 x5 x6 x7 : Int} (h : Row9 w b s x0 x1 x2 x3 x4 x5 x6 x7) (v : Int) : Row9 (w.setCell ⟨b, 7, none⟩ (.int .u64 v)) b s x0 x1 x2 x3 x4 x5 v x7 := heap_setCell_same w b 7 _ _ _ h
theorem Row9.c6 {w : World} {b : Nat} {s : Bool} {x0 x1 x2 x3 x4 x5 x6 x7 : Int} (h : Row9 w b s x0 x1 x2 x3 x4 x5 x6 x7) : w.cell? ⟨b, 7, none⟩ = some (.int .u64 x6) := by rw [cell_of_row w b 7 _ _ (0, 0) h]; rfl
theorem Row9.set7 {w : World} {b : Nat} {s : Bool} {x0 x1 x2 x3 x4 x5 x6 x7 : Int} (h : Row9 w b s x0 x1 x2 x3 x4 x5 x6 x7) (v : Int) : Row9 (w.setCell ⟨b, 8, none⟩ (.int .u64 v)) b s x0 x1 x2 x3 x4 x5 x6 v := heap_setCell_same w b 8 _ _ _ h
theorem Row9.c7 {w : World} {b : Nat} {s : Bool} {x0 x1 x2 x3 x4 x5 x6 x7 : Int} (h : Row9 w b s x0 x1 x2 x3 x4 x5 x6 x7) : w.cell? ⟨b, 8, none⟩ = some (.int .u64 x7) := by rw [cell_of_row w b 8 _ _ (0, 0) h]; rfl
theorem Row9.cs {w : World} {b : Nat} {s : Bool} {x0 x1 x2 x3 x4 x5 x6 x7 : Int} (h : Row9 w b s x0 x1 x2 x3 x4 x5 x6 x7) : w.cell? ⟨b, 0, none⟩ = some (.bool s) := by rw [cell_of_row w b 0 _ _ (0, 0) h]; rfl
theorem Row9.free {w : World} {b : Nat} {s : Bool} {x0 x1 x2 x3 x4 x5 x6 x7 : Int} (h : Row9 w b s x0 x1 x2 x3 x4 x5 x6 x7) (j : Nat) : w.frozen? ⟨b, j, none⟩ = false := frozen_of_row w b j _ _ h
theorem Row9.other {w : World} {b : Nat} {s : Bool} {x0 x1 x2 x3 x4 x5 x6 x7 : Int} (h : Row9 w b s x0 x1 x2 x3 x4 x5 x6 x7) {p : Addr} (u : Value) (hne : b ≠ p.block) : Row9 (w.setCell p u) b s x0 x1 x2 x3 x4 x5 x6 x7 := by
  unfold Row9; rw [heap_setCell_other w p b u hne]; exact h
theorem Row9.row {w : World} {b : Nat} {s : Bool} {x0 x1 x2 x3 x4 x5 x6 x7 : Int} (h : Row9 w b s x0 x1 x2 x3 x4 x5 x6 x7) (s' : Bool) (y0 y1 y2 y3 y4 y5 y6 y7 : Int) : Row9 (w.setRow b #[.bool s', .int .u64 y0, .int .u64 y1, .int .u64 y2, .int .u64 y3, .int .u64 y4, .int .u64 y5, .int .u64 y6, .int .u64 y7]) b s' y0 y1 y2 y3 y4 y5 y6 y7 := setRow_heap w b _ _ _ (0, 0) h
theorem Row9.rowOther {w : World} {b : Nat} {s : Bool} {x0 x1 x2 x3 x4 x5 x6 x7 : Int} (h : Row9 w b s x0 x1 x2 x3 x4 x5 x6 x7) {g : Nat} (hne : b ≠ g) (cs : Array Value) : Row9 (w.setRow g cs) b s x0 x1 x2 x3 x4 x5 x6 x7 := by
  unfold Row9; rw [setRow_other w g b cs hne]; exact h
end
theorem below_setRow {B g : Nat} {w0 w : World} (hb : Below B w0 w) (hBg : B ≤ g) (cs : Array Value) : Below B w0 (w.setRow g cs) :=
  hb.trans ⟨rfl, rfl, rfl, by simp, fun k hk => setRow_other w g k cs (by omega)⟩
theorem size_long : (Tryd.prog.info? 101).map (·.size) = some 9 := by kernel_rfl
theorem wpList_load9 {ops : Array Oper} {rest : List Oper} {o : Oper} {a : Act} {w : World} {Q : Exit → Act → World → Prop} (hgd : o.guard = none) (x : Operand) (ho : o.op = .load 101 x)
    (b : Nat) (s : Bool) (x0 x1 x2 x3 x4 x5 x6 x7 : Int) (hx : a.eval x = .pointer (some ⟨b, 0, none⟩)) (hr : Row9 w b s x0 x1 x2 x3 x4 x5 x6 x7)
    (h : wpList Tryd.prog ops Q rest (a.put o.dst (.agg #[.bool s, .int .u64 x0, .int .u64 x1, .int .u64 x2, .int .u64 x3, .int .u64 x4, .int .u64 x5, .int .u64 x6, .int .u64 x7])) w) : wpList Tryd.prog ops Q (o :: rest) a w :=
  wpList_load_row hgd _ x ho b hx _ _ _ _ hr Tryd.underlying101 rfl size_long h
theorem wpList_store9 {ops : Array Oper} {rest : List Oper} {o : Oper} {a : Act} {w : World} {Q : Exit → Act → World → Prop} (hgd : o.guard = none) (x y : Operand) (ho : o.op = .store 101 x y)
    (b : Nat) (s s' : Bool) (x0 x1 x2 x3 x4 x5 x6 x7 y0 y1 y2 y3 y4 y5 y6 y7 : Int) (hx : a.eval x = .pointer (some ⟨b, 0, none⟩)) (hy : a.eval y = .agg #[.bool s, .int .u64 x0, .int .u64 x1, .int .u64 x2, .int .u64 x3, .int .u64 x4, .int .u64 x5, .int .u64 x6, .int .u64 x7]) (hr : Row9 w b s' y0 y1 y2 y3 y4 y5 y6 y7)
    (h : wpList Tryd.prog ops Q rest (a.put o.dst undef) (w.setRow b #[.bool s, .int .u64 x0, .int .u64 x1, .int .u64 x2, .int .u64 x3, .int .u64 x4, .int .u64 x5, .int .u64 x6, .int .u64 x7])) : wpList Tryd.prog ops Q (o :: rest) a w :=
  wpList_store_row hgd _ x y ho b _ hx hy _ _ hr size_long rfl (by kernel_rfl) h
theorem results_9 {fn : Func} {p : Tmp} (h : fn.results = #[.cell p 101]) (tmps : Array Value) (w : World) (b : Nat) (s : Bool) (x0 x1 x2 x3 x4 x5 x6 x7 : Int) (hp : tmps.getD p undef = .pointer (some ⟨b, 0, none⟩))
    (hr : Row9 w b s x0 x1 x2 x3 x4 x5 x6 x7) : (results fn tmps).run Tryd.prog w = .ok (.agg #[.bool s, .int .u64 x0, .int .u64 x1, .int .u64 x2, .int .u64 x3, .int .u64 x4, .int .u64 x5, .int .u64 x6, .int .u64 x7]) w :=
  results_cell_row h tmps w b _ _ _ _ hp hr Tryd.underlying101 rfl size_long
end Lg
end Go.Proofs.YtgmagehgnjopcaaDoor
