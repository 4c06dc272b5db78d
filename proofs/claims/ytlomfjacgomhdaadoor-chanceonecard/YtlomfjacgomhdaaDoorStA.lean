/-
  Any struct or array in a block of its own, its cells a list: loads, stores, results.
-/
import Derived.Test.YtlomfjacgomhdaaDoorBase
import Derived.Deep.MidRow
import Derived.Deep.RegionHeld3
import Derived.Deep.RegionWith
import Derived.Laws.CopyOwn
import Derived.Laws.ResultCell
import Derived.Laws.Rows
set_option linter.unusedSimpArgs false
set_option linter.unusedVariables false
namespace Go.Proofs.YtlomfjacgomhdaaDoor
open Go.RowKit
namespace St

/-- The cells cs are all that block b holds. -/
def CRow (w : World) (b : Nat) (t : TypeId) (cs : List Value) : Prop := w.heap[b]? = some (.cells cs.toArray t (0, 0))

theorem CRow.lt {w : World} {b : Nat} {t : TypeId} {cs : List Value} (h : CRow w b t cs) : b < w.heap.size := by
  rcases Nat.lt_or_ge b w.heap.size with k | k
  · exact k
  · unfold CRow at h; rw [Array.getElem?_eq_none k] at h; cases h
theorem CRow.cell {w : World} {b : Nat} {t : TypeId} {cs : List Value} (h : CRow w b t cs) {k : Nat} {v : Value} (hv : cs[k]? = some v) {o : Nat} (ho : o = k) : w.cell? ⟨b, o, none⟩ = some v := by
  subst ho
  rw [cell_of_row w b o _ _ (0, 0) h, List.getElem?_toArray]
  exact hv
theorem CRow.free {w : World} {b : Nat} {t : TypeId} {cs : List Value} (h : CRow w b t cs) (j : Nat) : w.frozen? ⟨b, j, none⟩ = false := frozen_of_row w b j _ _ h
theorem CRow.range {w : World} {b : Nat} {t : TypeId} {cs : List Value} (h : CRow w b t cs) : w.rangeAt b 0 cs := by
  intro j v hv
  rw [cell_of_row w b (0 + j) _ _ (0, 0) h, Nat.zero_add, List.getElem?_toArray]
  exact hv
/-- A piece of it, from place o on. -/
theorem CRow.mid {w : World} {b : Nat} {t : TypeId} {cs ds : List Value} (h : CRow w b t cs) {o : Nat} (hd : ∀ j v, ds[j]? = some v → cs[o + j]? = some v) : w.rangeAt b o ds := by
  intro j v hv
  rw [cell_of_row w b (o + j) _ _ (0, 0) h, List.getElem?_toArray]
  exact hd j v hv
theorem CRow.keep {w w' : World} {b : Nat} {t : TypeId} {cs : List Value} (h : CRow w b t cs) (hb : Below w.heap.size w w') : CRow w' b t cs := by
  unfold CRow; rw [hb.block b h.lt]; exact h
theorem CRow.alloc {w : World} {b : Nat} {t : TypeId} {cs : List Value} (h : CRow w b t cs) (o : Obj) : CRow (w.alloc o) b t cs := by
  unfold CRow; rw [Below.heap_alloc w o b h.lt]; exact h
theorem CRow.drew {w : World} {b : Nat} {t : TypeId} {cs : List Value} (h : CRow w b t cs) : CRow w.drew b t cs := h
theorem CRow.drewN {w : World} {b : Nat} {t : TypeId} {cs : List Value} (h : CRow w b t cs) (n : Nat) : CRow (w.drewN n) b t cs := h
theorem CRow.set {w : World} {b : Nat} {t : TypeId} {cs : List Value} (h : CRow w b t cs) (j : Nat) (v : Value) : CRow (w.setCell ⟨b, j, none⟩ v) b t (cs.set j v) := by
  have e : (cs.set j v).toArray = cs.toArray.setIfInBounds j v := by simp
  unfold CRow
  rw [e]
  exact heap_setCell_same w b j _ _ _ h
theorem CRow.other {w : World} {b : Nat} {t : TypeId} {cs : List Value} (h : CRow w b t cs) {p : Addr} (u : Value) (hne : b ≠ p.block) : CRow (w.setCell p u) b t cs := by
  unfold CRow; rw [heap_setCell_other w p b u hne]; exact h
theorem CRow.row {w : World} {b : Nat} {t : TypeId} {cs : List Value} (h : CRow w b t cs) (ds : List Value) : CRow (w.setRow b ds.toArray) b t ds := setRow_heap w b _ _ _ (0, 0) h
theorem CRow.rowOther {w : World} {b g : Nat} {t : TypeId} {cs : List Value} (h : CRow w b t cs) (hne : b ≠ g) (ds : Array Value) : CRow (w.setRow g ds) b t cs := by
  unfold CRow; rw [setRow_other w g b ds hne]; exact h
theorem crow_new (w : World) (t : TypeId) (cs : List Value) : CRow (w.alloc (.cells cs.toArray t)) w.heap.size t cs := heap_alloc_new w _
theorem crow_new1 (w : World) (A : Obj) (t : TypeId) (cs : List Value) : CRow ((w.alloc A).alloc (.cells cs.toArray t)) (w.heap.size + 1) t cs := by
  have h := crow_new (w.alloc A) t cs
  rwa [show (w.alloc A).heap.size = w.heap.size + 1 by simp] at h
theorem crow_new2 (w : World) (A B : Obj) (t : TypeId) (cs : List Value) : CRow (((w.alloc A).alloc B).alloc (.cells cs.toArray t)) (w.heap.size + 1 + 1) t cs := by
  have h := crow_new ((w.alloc A).alloc B) t cs
  rwa [show ((w.alloc A).alloc B).heap.size = w.heap.size + 1 + 1 by simp] at h
theorem crow_new3 (w : World) (A B C : Obj) (t : TypeId) (cs : List Value) : CRow ((((w.alloc A).alloc B).alloc C).alloc (.cells cs.toArray t)) (w.heap.size + 1 + 1 + 1) t cs := by
  have h := crow_new (((w.alloc A).alloc B).alloc C) t cs
  rwa [show (((w.alloc A).alloc B).alloc C).heap.size = w.heap.size + 1 + 1 + 1 by simp] at h

/-- The type t is a struct or an array of n cells. -/
structure Is (t : TypeId) (n : Nat) : Prop where
  size : (Tryd.prog.info? t).map (·.size) = some n
  row : ∃ d, Tryd.prog.underlying t = some d ∧ d.isRow = true

theorem wpList_want {ops : Array Oper} {rest : List Oper} {o : Oper} {a : Act} {w : World} {Q : Exit → Act → World → Prop} (hw : Region.wanted o (yielded ops a.tmps) = true)
    (h : ∀ K : Act → World → Prop, (∀ a w, wpList Tryd.prog ops Q rest a w → K a w) → o.wp Tryd.prog a w K Q) : wpList Tryd.prog ops Q (o :: rest) a w :=
  wpList_step fun K hK => by rw [if_pos hw]; exact h K hK

/-- It is loaded, guarded or not. -/
theorem wpList_load {ops : Array Oper} {rest : List Oper} {o : Oper} {a : Act} {w : World} {Q : Exit → Act → World → Prop} {t : TypeId} {n : Nat} (S : Is t n) (hw : Region.wanted o (yielded ops a.tmps) = true) (x : Operand) (ho : o.op = .load t x)
    (b : Nat) (cs : List Value) (hx : a.eval x = .pointer (some ⟨b, 0, none⟩)) (hr : CRow w b t cs) (hl : cs.length = n)
    (h : wpList Tryd.prog ops Q rest (a.put o.dst (.agg cs.toArray)) w) : wpList Tryd.prog ops Q (o :: rest) a w := by
  obtain ⟨d, hu, hd⟩ := S.row
  exact wpList_want hw fun _ hK => wp_load_mid _ x ho b 0 hx cs d hr.range hu hd (by rw [S.size, hl]) (hK _ _ h)
/-- A part of it is loaded that is a struct or an array itself. -/
theorem wpList_part {ops : Array Oper} {rest : List Oper} {o : Oper} {a : Act} {w : World} {Q : Exit → Act → World → Prop} {t : TypeId} {n : Nat} (S : Is t n) (hw : Region.wanted o (yielded ops a.tmps) = true) (x : Operand) (ho : o.op = .load t x)
    (b p : Nat) (ds : List Value) (hx : a.eval x = .pointer (some ⟨b, p, none⟩)) (hr : w.rangeAt b p ds) (hl : ds.length = n)
    (h : wpList Tryd.prog ops Q rest (a.put o.dst (.agg ds.toArray)) w) : wpList Tryd.prog ops Q (o :: rest) a w := by
  obtain ⟨d, hu, hd⟩ := S.row
  exact wpList_want hw fun _ hK => wp_load_mid _ x ho b p hx ds d hr hu hd (by rw [S.size, hl]) (hK _ _ h)

theorem wpList_store {ops : Array Oper} {rest : List Oper} {o : Oper} {a : Act} {w : World} {Q : Exit → Act → World → Prop} {t : TypeId} {n : Nat} (S : Is t n) (hgd : o.guard = none) (x y : Operand) (ho : o.op = .store t x y)
    (b : Nat) (cs ds : List Value) (hx : a.eval x = .pointer (some ⟨b, 0, none⟩)) (hy : a.eval y = .agg ds.toArray) (hr : CRow w b t cs) (hl : cs.length = n) (hd : ds.length = n) (h1 : ∀ v ∈ ds, v.oneCell' = true)
    (h : wpList Tryd.prog ops Q rest (a.put o.dst undef) (w.setRow b ds.toArray)) : wpList Tryd.prog ops Q (o :: rest) a w :=
  wpList_store_row hgd _ x y ho b _ hx hy _ _ hr (by rw [S.size, List.size_toArray, hd]) (by rw [List.size_toArray, List.size_toArray, hl, hd]) (all_oneCell_toArray h1) h

theorem below_row {B g : Nat} {w0 w : World} (hb : Below B w0 w) (hBg : B ≤ g) (cs : Array Value) : Below B w0 (w.setRow g cs) :=
  hb.trans ⟨rfl, rfl, rfl, by simp, fun k hk => setRow_other w g k cs (by omega)⟩
theorem below_set {B : Nat} {w : World} {x : Addr} (hB : B ≤ w.heap.size) (hx : B ≤ x.block) (v : Value) : Below B w (w.setCell x v) :=
  ⟨rfl, rfl, rfl, by simp, fun k hk => heap_setCell_other w x k v (by omega)⟩

/-- Into a new variable: the world behind it is a letter. -/
theorem wpList_storeNew {ops : Array Oper} {rest : List Oper} {o : Oper} {a : Act} {Q : Exit → Act → World → Prop} {t : TypeId} {n : Nat} (S : Is t n) (hgd : o.guard = none) (x y : Operand) (ho : o.op = .store t x y) (w2 : World)
    (cs ds : List Value) (hx : a.eval x = .pointer (some ⟨w2.heap.size, 0, none⟩)) (hy : a.eval y = .agg ds.toArray) (hl : cs.length = n) (hd : ds.length = n) (h1 : ∀ v ∈ ds, v.oneCell' = true)
    (h : ∀ w3, CRow w3 w2.heap.size t ds → Below w2.heap.size w2 w3 → wpList Tryd.prog ops Q rest (a.put o.dst undef) w3) : wpList Tryd.prog ops Q (o :: rest) a (w2.alloc (.cells cs.toArray t)) :=
  wpList_store S hgd x y ho _ cs ds hx hy (crow_new w2 t cs) hl hd h1 (h _ ((crow_new w2 t cs).row _) (below_row (below_al (Below.refl _ _) _) (Nat.le_refl _) _))

theorem results_1 {fn : Func} {p : Tmp} {t : TypeId} {n : Nat} (S : Is t n) (h : fn.results = #[.cell p t]) (tmps : Array Value) (w : World) (b : Nat) (cs : List Value) (hp : tmps.getD p undef = .pointer (some ⟨b, 0, none⟩))
    (hr : CRow w b t cs) (hl : cs.length = n) : (results fn tmps).run Tryd.prog w = .ok (.agg cs.toArray) w := by
  obtain ⟨d, hu, hd⟩ := S.row
  have hp' : tmps[p]?.getD undef = .pointer (some ⟨b, 0, none⟩) := by simpa using hp
  have hL := run_loadVar_mid w b 0 t cs d hr.range hu hd (by rw [S.size, hl])
  simp [results, h, hp', asAddr, hL]
theorem results_2 {fn : Func} {p u : Tmp} {t : TypeId} {n : Nat} (S : Is t n) (h : fn.results = #[.cell p t, .tmp u]) (tmps : Array Value) (w : World) (b : Nat) (cs : List Value) (hp : tmps.getD p undef = .pointer (some ⟨b, 0, none⟩))
    (hr : CRow w b t cs) (hl : cs.length = n) : (results fn tmps).run Tryd.prog w = .ok (.tuple #[.agg cs.toArray, tmps.getD u undef]) w := by
  obtain ⟨d, hu, hd⟩ := S.row
  have hp' : tmps[p]?.getD undef = .pointer (some ⟨b, 0, none⟩) := by simpa using hp
  have hL := run_loadVar_mid w b 0 t cs d hr.range hu hd (by rw [S.size, hl])
  simp [results, h, hp', asAddr, hL]
theorem results_3 {fn : Func} {p u v : Tmp} {t : TypeId} {n : Nat} (S : Is t n) (h : fn.results = #[.cell p t, .tmp u, .tmp v]) (tmps : Array Value) (w : World) (b : Nat) (cs : List Value) (hp : tmps.getD p undef = .pointer (some ⟨b, 0, none⟩))
    (hr : CRow w b t cs) (hl : cs.length = n) : (results fn tmps).run Tryd.prog w = .ok (.tuple #[.agg cs.toArray, tmps.getD u undef, tmps.getD v undef]) w := by
  obtain ⟨d, hu, hd⟩ := S.row
  have hp' : tmps[p]?.getD undef = .pointer (some ⟨b, 0, none⟩) := by simpa using hp
  have hL := run_loadVar_mid w b 0 t cs d hr.range hu hd (by rw [S.size, hl])
  simp [results, h, hp', asAddr, hL]

end St
end Go.Proofs.YtlomfjacgomhdaaDoor
