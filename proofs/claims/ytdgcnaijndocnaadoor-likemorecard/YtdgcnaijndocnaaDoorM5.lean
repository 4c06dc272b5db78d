/-
  Any struct or array in a block of its own, its cells a list: loads, stores, results.
-/
import Derived.Test.YtdgcnaijndocnaaDoorM2
import Derived.Deep.MidRow
import Derived.Deep.RegionHeld3
import Derived.Deep.RegionWith
import Derived.Laws.CopyOwn
import Derived.Laws.ResultCell
import Derived.Laws.Rows
import Derived.Deep.DeepMust
set_option linter.unusedSimpArgs false
set_option linter.unusedVariables false
namespace Go.Proofs.YtdgcnaijndocnaaDoor
open Go.RowKit
namespace St

/-- The cells cs are all that block b holds. -/
def CRow (w : World) (b : Nat) (t : TypeId) (cs : List Value) : Prop := w.heap[b]? = some (.cells cs.toArray t (0, 0))

theorem CRow.lt {w : World} {b : Nat} {t : TypeId} {cs : List Value} (h : CRow w b t cs) : b < w.heap.size := by
  rcases Nat.lt_or_ge b w.heap.size with k | k
  · exact k
  · unfold CRow at h; rw [Array.getElem?_eq_none k] at h; cases h
theorem CRow.cell {w : World} {b : Nat} {t : TypeId} {cs : List Value} (h : CRow w b t cs) {k : Nat} {v : Value} (hv : cs[k]? = some v) {o : Nat} (ho : o = k) : w.cell? ⟨b, o, none⟩ = some v := by
  subst ho
  rw [cell_of_row w b o _ _ (0, 0) h, List.getElem?_toArray]
  exact hv
theorem CRow.free {w : World} {b : Nat} {t : TypeId} {cs : List Value} (h : CRow w b t cs) (j : Nat) : w.frozen? ⟨b, j, none⟩ = false := frozen_of_row w b j _ _ h
theorem CRow.range {w : World} {b : Nat} {t : TypeId} {cs : List Value} (h : CRow w b t cs) : w.rangeAt b 0 cs := by
  intro j v hv
  rw [cell_of_row w b (0 + j) _ _ (0, 0) h, Nat.zero_add, List.getElem?_toArray]
  exact hv
/-- A piece of it, from place o on. -/
theorem CRow.mid {w : World} {b : Nat} {t : TypeId} {cs ds : List Value} (h : CRow w b t cs) {o : Nat} (hd : ∀ j v, ds[j]? = some v → cs[o + j]? = some v) : w.rangeAt b o ds := by
  intro j v hv
  rw [cell_of_row w b (o + j) _ _ (0, 0) h, List.getElem?_toArray]
  exact hd j v hv
theorem CRow.keep {w w' : World} {b : Nat} {t : TypeId} {cs : List Value} (h : CRow w b t cs) (hb : Below w.heap.size w w') : CRow w' b t cs := by
  unfold CRow; rw [hb.block b h.lt]; exact h
theorem CRow.alloc {w : World} {b : Nat} {t : TypeId} {cs : List Value} (h : CRow w b t cs) (o : Obj) : CRow (w.alloc o) b t cs := by
  unfold CRow; rw [Below.heap_alloc w o b h.lt]; exact h
theorem CRow.drew {w : World} {b : Nat} {t : TypeId} {cs : List Value} (h : CRow w b t cs) : CRow w.drew b t cs := h
theorem CRow.drewN {w : World} {b : Nat} {t : TypeId} {cs : List Value} (h : CRow w b t cs) (n : Nat) : CRow (w.drewN n) b t cs := h
theorem CRow.set {w : World} {b : Nat} {t : TypeId} {cs : List Value} (h : CRow w b t cs) (j : Nat) (v : Value) : CRow (w.setCell ⟨b, j, none⟩ v) b t (cs.set j v) := by
  have e : (cs.set j v).toArray = cs.toArray.setIfInBounds j v := by simp
  unfold CRow
  rw [e]
  exact heap_setCell_same w b j _ _ _ h
theorem CRow.other {w : World} {b : Nat} {t : TypeId} {cs : List Value} (h : CRow w b t cs) {p : Addr} (u : Value) (hne : b ≠ p.block) : CRow (w.setCell p u) b t cs := by
  unfold CRow; rw [heap_setCell_other w p b u hne]; exact h
theorem CRow.row {w : World} {b : Nat} {t : TypeId} {cs : List Value} (h : CRow w b t cs) (ds : List Value) : CRow (w.setRow b ds.toArray) b t ds := setRow_heap w b _ _ _ (0, 0) h
theorem CRow.rowOther {w : World} {b g : Nat} {t : TypeId} {cs : List Value} (h : CRow w b t cs) (hne : b ≠ g) (ds : Array Value) : CRow (w.setRow g ds) b t cs := by
  unfold CRow; rw [setRow_other w g b ds hne]; exact h
theorem crow_new (w : World) (t : TypeId) (cs : List Value) : CRow (w.alloc (.cells cs.toArray t)) w.heap.size t cs := heap_alloc_new w _
theorem crow_new1 (w : World) (A : Obj) (t : TypeId) (cs : List Value) : CRow ((w.alloc A).alloc (.cells cs.toArray t)) (w.heap.size + 1) t cs := by
  have h := crow_new (w.alloc A) t cs
  rwa [show (w.alloc A).heap.size = w.heap.size + 1 by simp] at h
theorem crow_new2 (w : World) (A B : Obj) (t : TypeId) (cs : List Value) : CRow (((w.alloc A).alloc B).alloc (.cells cs.toArray t)) (w.heap.size + 1 + 1) t cs := by
  have h := crow_new ((w.alloc A).alloc B) t cs
  rwa [show ((w.alloc A).alloc B).heap.size = w.heap.size + 1 + 1 by simp] at h
theorem crow_new3 (w : World) (A B C : Obj) (t : TypeId) (cs : List Value) : CRow ((((w.alloc A).alloc B).alloc C).alloc (.cells cs.toArray t)) (w.heap.size + 1 + 1 + 1) t cs := by
  have h := crow_new (((w.alloc A).alloc B).alloc C) t cs
  rwa [show (((w.alloc A).alloc B).alloc C).heap.size = w.heap.size + 1 + 1 + 1 by simp] at h

/-- The type t is a struct or an array of n cells. -/
structure Is (t : TypeId) (n : Nat) : Prop where
  size : (Tryd.prog.info? t).map (·.size) = some n
  row : ∃ d, Tryd.prog.underlying t = some d ∧ d.isRow = true

theorem wpList_want {ops : Array Oper} {rest : List Oper} {o : Oper} {a : Act} {w : World} {Q : Exit → Act → World → Prop} (hw : Region.wanted o (yielded ops a.tmps) = true)
    (h : ∀ K : Act → World → Prop, (∀ a w, wpList Tryd.prog ops Q rest a w → K a w) → o.wp Tryd.prog a w K Q) : wpList Tryd.prog ops Q (o :: rest) a w :=
  wpList_step fun K hK => by rw [if_pos hw]; exact h K hK

/-- It is loaded, guarded or not. -/
theorem wpList_load {ops : Array Oper} {rest : List Oper} {o : Oper} {a : Act} {w : World} {Q : Exit → Act → World → Prop} {t : TypeId} {n : Nat} (S : Is t n) (hw : Region.wanted o (yielded ops a.tmps) = true) (x : Operand) (ho : o.op = .load t x)
    (b : Nat) (cs : List Value) (hx : a.eval x = .pointer (some ⟨b, 0, none⟩)) (hr : CRow w b t cs) (hl : cs.length = n)
    (h : wpList Tryd.prog ops Q rest (a.put o.dst (.agg cs.toArray)) w) : wpList Tryd.prog ops Q (o :: rest) a w := by
  obtain ⟨d, hu, hd⟩ := S.row
  exact wpList_want hw fun _ hK => wp_load_mid _ x ho b 0 hx cs d hr.range hu hd (by rw [S.size, hl]) (hK _ _ h)
/-- A part of it is loaded that is a struct or an array itself. -/
theorem wpList_part {ops : Array Oper} {rest : List Oper} {o : Oper} {a : Act} {w : World} {Q : Exit → Act → World → Prop} {t : TypeId} {n : Nat} (S : Is t n) (hw : Region.wanted o (yielded ops a.tmps) = true) (x : Operand) (ho : o.op = .load t x)
    (b p : Nat) (ds : List Value) (hx : a.eval x = .pointer (some ⟨b, p, none⟩)) (hr : w.rangeAt b p ds) (hl : ds.length = n)
    (h : wpList Tryd.prog ops Q rest (a.put o.dst (.agg ds.toArray)) w) : wpList Tryd.prog ops Q (o :: rest) a w := by
  obtain ⟨d, hu, hd⟩ := S.row
  exact wpList_want hw fun _ hK => wp_load_mid _ x ho b p hx ds d hr hu hd (by rw [S.size, hl]) (hK _ _ h)

theorem wpList_store {ops : Array Oper} {rest : List Oper} {o : Oper} {a : Act} {w : World} {Q : Exit → Act → World → Prop} {t : TypeId} {n : Nat} (S : Is t n) (hgd : o.guard = none) (x y : Operand) (ho : o.op = .store t x y)
    (b : Nat) (cs ds : List Value) (hx : a.eval x = .pointer (some ⟨b, 0, none⟩)) (hy : a.eval y = .agg ds.toArray) (hr : CRow w b t cs) (hl : cs.length = n) (hd : ds.length = n) (h1 : ∀ v ∈ ds, v.oneCell' = true)
    (h : wpList Tryd.prog ops Q rest (a.put o.dst undef) (w.setRow b ds.toArray)) : wpList Tryd.prog ops Q (o :: rest) a w :=
  wpList_store_row hgd _ x y ho b _ hx hy _ _ hr (by rw [S.size, List.size_toArray, hd]) (by rw [List.size_toArray, List.size_toArray, hl, hd]) (all_oneCell_toArray h1) h

theorem below_row {B g : Nat} {w0 w : World} (hb : Below B w0 w) (hBg : B ≤ g) (cs : Array Value) : Below B w0 (w.setRow g cs) :=
  hb.trans ⟨rfl, rfl, rfl, by simp, fun k hk => setRow_other w g k cs (by omega)⟩
theorem below_set {B : Nat} {w : World} {x : Addr} (hB : B ≤ w.heap.size) (hx : B ≤ x.block) (v : Value) : Below B w (w.setCell x v) :=
  ⟨rfl, rfl, rfl, by simp, fun k hk => heap_setCell_other w x k v (by omega)⟩

/-- Into a new variable: the world behind it is a letter. -/
theorem wpList_storeNew {ops : Array Oper} {rest : List Oper} {o : Oper} {a : Act} {Q : Exit → Act → World → Prop} {t : TypeId} {n : Nat} (S : Is t n) (hgd : o.guard = none) (x y : Operand) (ho : o.op = .store t x y) (w2 : World)
    (cs ds : List Value) (hx : a.eval x = .pointer (some ⟨w2.heap.size, 0, none⟩)) (hy : a.eval y = .agg ds.toArray) (hl : cs.length = n) (hd : ds.length = n) (h1 : ∀ v ∈ ds, v.oneCell' = true)
    (h : ∀ w3, CRow w3 w2.heap.size t ds → Below w2.heap.size w2 w3 → wpList Tryd.prog ops Q rest (a.put o.dst undef) w3) : wpList Tryd.prog ops Q (o :: rest) a (w2.alloc (.cells cs.toArray t)) :=
  wpList_store S hgd x y ho _ cs ds hx hy (crow_new w2 t cs) hl hd h1 (h _ ((crow_new w2 t cs).row _) (below_row (below_al (Below.refl _ _) _) (Nat.le_refl _) _))

theorem results_1 {fn : Func} {p : Tmp} {t : TypeId} {n : Nat} (S : Is t n) (h : fn.results = #[.cell p t]) (tmps : Array Value) (w : World) (b : Nat) (cs : List Value) (hp : tmps.getD p undef = .pointer (some ⟨b, 0, none⟩))
    (hr : CRow w b t cs) (hl : cs.length = n) : (results fn tmps).run Tryd.prog w = .ok (.agg cs.toArray) w := by
  obtain ⟨d, hu, hd⟩ := S.row
  have hp' : tmps[p]?.getD undef = .pointer (some ⟨b, 0, none⟩) := by simpa using hp
  have hL := run_loadVar_mid w b 0 t cs d hr.range hu hd (by rw [S.size, hl])
  simp [results, h, hp', asAddr, hL]
theorem results_2 {fn : Func} {p u : Tmp} {t : TypeId} {n : Nat} (S : Is t n) (h : fn.results = #[.cell p t, .tmp u]) (tmps : Array Value) (w : World) (b : Nat) (cs : List Value) (hp : tmps.getD p undef = .pointer (some ⟨b, 0, none⟩))
    (hr : CRow w b t cs) (hl : cs.length = n) : (results fn tmps).run Tryd.prog w = .ok (.tuple #[.agg cs.toArray, tmps.getD u undef]) w := by
  obtain ⟨d, hu, hd⟩ := S.row
  have hp' : tmps[p]?.getD undef = .pointer (some ⟨b, 0, none⟩) := by simpa using hp
  have hL := run_loadVar_mid w b 0 t cs d hr.range hu hd (by rw [S.size, hl])
  simp [results, h, hp', asAddr, hL]
theorem results_3 {fn : Func} {p u v : Tmp} {t : TypeId} {n : Nat} (S : Is t n) (h : fn.results = #[.cell p t, .tmp u, .tmp v]) (tmps : Array Value) (w : World) (b : Nat) (cs : List Value) (hp : tmps.getD p undef = .pointer (some ⟨b, 0, none⟩))
    (hr : CRow w b t cs) (hl : cs.length = n) : (results fn tmps).run Tryd.prog w = .ok (.tuple #[.agg cs.toArray, tmps.getD u undef, tmps.getD v undef]) w := by
  obtain ⟨d, hu, hd⟩ := S.row
  have hp' : tmps[p]?.getD undef = .pointer (some ⟨b, 0, none⟩) := by simpa using hp
  have hL := run_loadVar_mid w b 0 t cs d hr.range hu hd (by rw [S.size, hl])
  simp [results, h, hp', asAddr, hL]

end St
end Go.Proofs.YtdgcnaijndocnaaDoor

/-
  Worlds that are the same but for some blocks.
-/
set_option linter.unusedSimpArgs false
set_option linter.unusedVariables false
namespace Go.Proofs.YtdgcnaijndocnaaDoor
open Go.RowKit Vc St
namespace Ld

/-- Nothing has turned but blocks that are P. -/
structure But (P : Nat → Prop) (w w' : World) : Prop where
  os : w'.os = w.os
  tape : w'.tape = w.tape
  output : w'.output = w.output
  size : w.heap.size ≤ w'.heap.size
  block : ∀ k, k < w.heap.size → ¬ P k → w'.heap[k]? = w.heap[k]?

theorem But.refl (P : Nat → Prop) (w : World) : But P w w := ⟨rfl, rfl, rfl, Nat.le_refl _, fun _ _ _ => rfl⟩
theorem But.trans {P : Nat → Prop} {a b c : World} (h : But P a b) (k : But P b c) : But P a c :=
  ⟨k.os.trans h.os, k.tape.trans h.tape, k.output.trans h.output, Nat.le_trans h.size k.size, fun i hi hp => (k.block i (Nat.lt_of_lt_of_le hi h.size) hp).trans (h.block i hi hp)⟩
theorem but_of {P : Nat → Prop} {a b : World} (h : Below a.heap.size a b) : But P a b := ⟨h.os, h.tape, h.output, h.size, fun i hi _ => h.block i hi⟩
theorem But.then {P : Nat → Prop} {a b c : World} (h : But P a b) (k : Below b.heap.size b c) : But P a c := h.trans (but_of k)
theorem But.mono {P Q : Nat → Prop} {a b : World} (h : But P a b) (e : ∀ k, P k → Q k) : But Q a b := ⟨h.os, h.tape, h.output, h.size, fun i hi hp => h.block i hi fun q => hp (e i q)⟩
theorem But.al {P : Nat → Prop} {a b : World} (h : But P a b) (o : Obj) : But P a (b.alloc o) := h.then (below_al (Below.refl _ _) o)
theorem But.drew {P : Nat → Prop} {a b : World} (h : But P a b) : But P a b.drew := ⟨h.os, h.tape, h.output, h.size, h.block⟩
theorem But.drewN {P : Nat → Prop} {a b : World} (h : But P a b) (n : Nat) : But P a (b.drewN n) := ⟨h.os, h.tape, h.output, h.size, h.block⟩
theorem But.set {P : Nat → Prop} {a b : World} (h : But P a b) {p : Addr} (v : Value) (hp : P p.block) : But P a (b.setCell p v) :=
  h.trans ⟨rfl, rfl, rfl, by simp, fun k hk hn => heap_setCell_other b p k v (fun e => hn (e ▸ hp))⟩
/-- A cell of a block that is new. -/
theorem But.setNew {P : Nat → Prop} {a b : World} (h : But P a b) {p : Addr} (v : Value) (hp : a.heap.size ≤ p.block) : But P a (b.setCell p v) :=
  ⟨h.os, h.tape, h.output, by simp [h.size], fun k hk hn => (heap_setCell_other b p k v (by omega)).trans (h.block k hk hn)⟩
theorem But.rowNew {P : Nat → Prop} {a b : World} (h : But P a b) {g : Nat} (cs : Array Value) (hp : a.heap.size ≤ g) : But P a (b.setRow g cs) :=
  ⟨h.os, h.tape, h.output, by simp [h.size], fun k hk hn => (setRow_other b g k cs (by omega)).trans (h.block k hk hn)⟩
/-- All that turned lies from B on. -/
theorem But.below {P : Nat → Prop} {B : Nat} {w0 a b : World} (h : But P a b) (h0 : Below B w0 a) (hB : B ≤ a.heap.size) (hP : ∀ k, P k → B ≤ k) : Below B w0 b :=
  h0.trans ⟨h.os, h.tape, h.output, h.size, fun k hk => h.block k (by omega) (fun q => by have := hP k q; omega)⟩
theorem But.cell {P : Nat → Prop} {a b : World} (h : But P a b) {x : Addr} {v : Value} (hc : a.cell? x = some v) (hx : ¬ P x.block) : b.cell? x = some v := by
  have hlt := World.block_lt_of_cell? a _ hc
  rw [World.cell?_of_block (h.block x.block hlt hx)]
  exact hc
theorem addr_block (x : Addr) (k : Nat) : (x.add k).block = x.block := by unfold Addr.add; split <;> rfl
theorem slBut {P : Nat → Prop} {a b : World} {ao : Option Addr} {n ca : Nat} {z : Nat → Int} (h : Sl a ao n ca z) (k : But P a b) (hx : ∀ x, ao = some x → ¬ P x.block) : Sl b ao n ca z :=
  ⟨h.le, h.cap, fun j hj => by
    obtain ⟨x, e, hc⟩ := h.at' j hj
    exact ⟨x, e, k.cell hc (by rw [addr_block]; exact hx x e)⟩⟩
theorem crowBut {P : Nat → Prop} {a b : World} {g : Nat} {t : TypeId} {cs : List Value} (h : CRow a g t cs) (k : But P a b) (hx : ¬ P g) : CRow b g t cs := by
  unfold CRow; rw [k.block g h.lt hx]; exact h
theorem ownBut {P : Nat → Prop} {B : Nat} {w0 a b : World} {v : Value} {n : Nat} {z : Nat → Int} (h : Own B w0 a v n z) (k : But P a b) (hB : ∀ q, P q → B ≤ q) (hx : ∀ g, v.ownBlock = some g → ¬ P g) : Own B w0 b v n z := by
  refine ⟨?_, k.below h.below h.base hB, Nat.le_trans h.base k.size⟩
  obtain ⟨h1, h2⟩ := h.row
  refine ⟨h1, ?_⟩
  rcases h2 with h2 | ⟨g, cap, cur, rfl, hb, hg, hn, hc, hs, ht⟩
  · exact Or.inl h2
  · refine Or.inr ⟨g, cap, cur, rfl, hb, ?_, hn, hc, hs, ht⟩
    have hlt : g < a.heap.size := by
      rcases Nat.lt_or_ge g a.heap.size with q | q
      · exact q
      · rw [Array.getElem?_eq_none q] at hg; cases hg
    exact (k.block g hlt (hx g rfl)).trans hg
end Ld
end Go.Proofs.YtdgcnaijndocnaaDoor

/-
  Matrices of package mat as values (rows, columns and 36 numbers), the numbers a function of the place.
-/
set_option linter.unusedSimpArgs false
set_option linter.unusedVariables false
namespace Go.Proofs.YtdgcnaijndocnaaDoor
open Go.RowKit Vc
namespace Mt

/-- Rows, columns and numbers as values. -/
def mvals (r c : Int) (z : Nat → Int) : List Value := .int .i64 r :: .int .i64 c :: vals 36 z

theorem mvals_len (r c : Int) (z : Nat → Int) : (mvals r c z).length = 38 := by simp [mvals, vals_len]
theorem mvals_at {r c : Int} {z : Nat → Int} {k : Nat} (h : k < 36) : (mvals r c z)[k + 2]? = some (.int .i64 (z k)) := by
  show (vals 36 z)[k]? = _
  exact vals_at h
theorem mvals_set (r c : Int) (z : Nat → Int) (j : Nat) (x : Int) : (mvals r c z).set (j + 2) (.int .i64 x) = mvals r c (fun k => if k = j then x else z k) := by
  show Value.int .i64 r :: Value.int .i64 c :: (vals 36 z).set j (.int .i64 x) = _
  rw [vals_set]; rfl
theorem mvals_congr {r c : Int} {z z' : Nat → Int} (h : ∀ k, k < 36 → z k = z' k) : mvals r c z = mvals r c z' := by unfold mvals; rw [vals_congr h]
theorem mvals_inj {r c r' c' : Int} {z z' : Nat → Int} : mvals r c z = mvals r' c' z' ↔ r = r' ∧ c = c' ∧ ∀ k, k < 36 → z k = z' k := by
  constructor
  · intro h
    unfold mvals at h
    injection h with h1 h2
    injection h2 with h2 h3
    injection h1 with _ h1
    injection h2 with _ h2
    refine ⟨h1, h2, fun k hk => ?_⟩
    have e := vals_at (z := z) hk
    rw [h3, vals_at hk] at e
    injection e with e
    injection e with _ e
    exact e.symm
  · rintro ⟨rfl, rfl, h⟩
    exact mvals_congr h
theorem one_mvals (r c : Int) (z : Nat → Int) : ∀ v ∈ mvals r c z, v.oneCell' = true := by
  intro v hv
  rcases List.mem_cons.1 hv with rfl | hv
  · rfl
  rcases List.mem_cons.1 hv with rfl | hv
  · rfl
  · simp only [vals, List.mem_map] at hv
    obtain ⟨d, _, rfl⟩ := hv
    rfl
theorem size_mvals (r c : Int) (z : Nat → Int) : (mvals r c z).toArray.size = 38 := by rw [List.size_toArray, mvals_len]

theorem zeroM : (#[.int .i64 0, .int .i64 0, .int .i64 0, .int .i64 0, .int .i64 0, .int .i64 0, .int .i64 0, .int .i64 0, .int .i64 0, .int .i64 0, .int .i64 0, .int .i64 0, .int .i64 0, .int .i64 0, .int .i64 0, .int .i64 0, .int .i64 0, .int .i64 0, .int .i64 0, .int .i64 0, .int .i64 0, .int .i64 0, .int .i64 0, .int .i64 0, .int .i64 0, .int .i64 0, .int .i64 0, .int .i64 0, .int .i64 0, .int .i64 0, .int .i64 0, .int .i64 0, .int .i64 0, .int .i64 0, .int .i64 0, .int .i64 0, .int .i64 0, .int .i64 0] : Array Value) = (mvals 0 0 (fun _ => 0)).toArray := by kernel_rfl
theorem wpList_wanted {ops : Array Oper} {rest : List Oper} {o : Oper} {a : Act} {w : World} {Q : Exit → Act → World → Prop} (hw : Region.wanted o (yielded ops a.tmps) = true)
    (h : ∀ K : Act → World → Prop, (∀ a w, wpList Tryd.prog ops Q rest a w → K a w) → o.wp Tryd.prog a w K Q) : wpList Tryd.prog ops Q (o :: rest) a w :=
  wpList_step fun K hK => by rw [if_pos hw]; exact h K hK

/-- A number is loaded. -/
theorem wpList_loadF {ops : Array Oper} {rest : List Oper} {o : Oper} {a : Act} {w : World} {Q : Exit → Act → World → Prop} (hw : Region.wanted o (yielded ops a.tmps) = true) (x : Operand) (ho : o.op = .load 3 x)
    (b f : Nat) (v : Int) (hx : a.eval x = .pointer (some ⟨b, f, none⟩)) (hc : w.cell? ⟨b, f, none⟩ = some (.int .i64 v))
    (h : wpList Tryd.prog ops Q rest (a.put o.dst (.int .i64 v)) w) : wpList Tryd.prog ops Q (o :: rest) a w :=
  wpList_wanted hw fun _ hK => by
    unfold Oper.wp execOp
    have hL : (loadVar 3 ⟨b, f, none⟩).run Tryd.prog w = .ok (.int .i64 v) w := by
      simp [loadVar, isAgg, underlying, Tryd.underlying3, hc, Result.andThen]
    simp only [ho, hx, Instr.loadAt, Instr.sureAddr, Sem.run_bind, Sem.run_pure, Result.andThen_ok, hL]
    exact hK _ _ h

theorem below_row {B g : Nat} {w0 w : World} (hb : Below B w0 w) (hBg : B ≤ g) (cs : Array Value) : Below B w0 (w.setRow g cs) :=
  hb.trans ⟨rfl, rfl, rfl, by simp, fun k hk => setRow_other w g k cs (by omega)⟩

theorem below_setM {B : Nat} {w : World} {x : Addr} (hB : B ≤ w.heap.size) (hx : B ≤ x.block) (v : Value) : Below B w (w.setCell x v) :=
  ⟨rfl, rfl, rfl, by simp, fun k hk => heap_setCell_other w x k v (by omega)⟩

/-- The numbers F of rows of c each, one row behind the other, the first t of them; noughts behind. -/
def mpart (c : Nat) (F : Nat → Nat → Int) (t : Nat) : Nat → Int := fun k => if k < t then F (k / c) (k % c) else 0
/-- Those of n rows. -/
def mz (n c : Nat) (F : Nat → Nat → Int) : Nat → Int := mpart c F (n * c)

theorem place_div {c i j : Nat} (hj : j < c) : (i * c + j) / c = i := by rw [Nat.mul_comm i c, Nat.mul_add_div (by omega), Nat.div_eq_of_lt hj, Nat.add_zero]
theorem place_mod {c i j : Nat} (hj : j < c) : (i * c + j) % c = j := by rw [Nat.mul_comm i c, Nat.mul_add_mod, Nat.mod_eq_of_lt hj]
theorem place_lt {n c i j : Nat} (hi : i < n) (hj : j < c) : i * c + j < n * c := by
  have h : (i + 1) * c ≤ n * c := Nat.mul_le_mul_right c hi
  rw [Nat.succ_mul] at h
  omega
theorem place_le {n c i : Nat} (hi : i < n) : i * c + c ≤ n * c := by
  have h : (i + 1) * c ≤ n * c := Nat.mul_le_mul_right c hi
  rw [Nat.succ_mul] at h
  exact h
theorem size_le {n c : Nat} (hn : n ≤ 6) (hc : c ≤ 6) : n * c ≤ 36 := Nat.mul_le_mul hn hc
theorem mz_at {n c i j : Nat} {F : Nat → Nat → Int} (hi : i < n) (hj : j < c) : mz n c F (i * c + j) = F i j := by
  unfold mz mpart
  rw [if_pos (place_lt hi hj), place_div hj, place_mod hj]
theorem mz_behind {n c k : Nat} {F : Nat → Nat → Int} (h : n * c ≤ k) : mz n c F k = 0 := by
  unfold mz mpart
  rw [if_neg (by omega)]
theorem mpart_zero (c : Nat) (F : Nat → Nat → Int) (k : Nat) : mpart c F 0 k = 0 := by unfold mpart; rw [if_neg (by omega)]
theorem mpart_step {c i j : Nat} {F : Nat → Nat → Int} (hj : j < c) (k : Nat) : (if k = i * c + j then F i j else mpart c F (i * c + j) k) = mpart c F (i * c + (j + 1)) k := by
  unfold mpart
  by_cases e : k = i * c + j
  · subst e; rw [if_pos rfl, if_pos (by omega), place_div hj, place_mod hj]
  · rw [if_neg e]
    by_cases h : k < i * c + j
    · rw [if_pos h, if_pos (by omega)]
    · rw [if_neg h, if_neg (by omega)]
theorem mz_congr {n c : Nat} {F G : Nat → Nat → Int} (h : ∀ i j, i < n → j < c → F i j = G i j) (k : Nat) : mz n c F k = mz n c G k := by
  unfold mz mpart
  by_cases e : k < n * c
  · rw [if_pos e, if_pos e]
    have hc : 0 < c := by
      rcases Nat.eq_zero_or_pos c with h0 | h0
      · subst h0; simp at e
      · exact h0
    exact h _ _ (Nat.div_lt_of_lt_mul (by rw [Nat.mul_comm]; exact e)) (Nat.mod_lt _ hc)
  · rw [if_neg e, if_neg e]
theorem mz_inj {n c : Nat} {F G : Nat → Nat → Int} (h36 : n * c ≤ 36) (h : ∀ k, k < 36 → mz n c F k = mz n c G k) {i j : Nat} (hi : i < n) (hj : j < c) : F i j = G i j := by
  have e := h (i * c + j) (by have := place_lt hi hj; omega)
  rwa [mz_at hi hj, mz_at hi hj] at e

/-- May it be a matrix? -/
def May (r c : Int) (z : Nat → Int) : Prop := ∃ n m : Nat, r = n ∧ c = m ∧ 1 ≤ n ∧ n ≤ 6 ∧ 1 ≤ m ∧ m ≤ 6 ∧ ∀ k, n * m ≤ k → k < 36 → z k = 0

/-- Numbers of 64 bits. -/
def B2 (F : Nat → Nat → Int) : Prop := ∀ i, B64 (F i)

end Mt
end Go.Proofs.YtdgcnaijndocnaaDoor

/-
  Matrices (mat): which sizes may be, a row, a copy, Check.
-/
set_option linter.unusedSimpArgs false
set_option linter.unusedVariables false
namespace Go.Proofs.YtdgcnaijndocnaaDoor
open Go.RowKit Vc Mt

namespace Mt
theorem Tryd.arrM : Tryd.prog.underlying 44 = some (.array (Tryd.prog.arrayLen 44) (Tryd.prog.elem 44)) := by kernel_rfl
theorem Tryd.lenM : Tryd.prog.arrayLen 44 = 36 := by kernel_rfl
theorem Tryd.elemM : Tryd.prog.elem 44 = 2 := by kernel_rfl
theorem run_size8 (w : World) : (sizeOf 2).run Tryd.prog w = .ok 1 w := by
  obtain ⟨i0, hi, hz0, hz1, hz2⟩ := info_parts infoI64
  simp [sizeOf, typeInfo, hi, hz1]
/-- A piece of the numbers. -/
theorem run_piece (b p q : Nat) (w : World) (h1 : p < 36) (h2 : p ≤ q) (h3 : q ≤ 36) :
    (Instr.sliceAt 44 (.pointer (some ⟨b, 2, none⟩)) (some (.int .i64 (p : Int))) (some (.int .i64 (q : Int))) none).run Tryd.prog w = .ok (.slice (some ⟨b, p + 2, none⟩) (q - p) (36 - p)) w := by
  rw [run_sliceAt_array_lh w 44 _ Tryd.arrM .i64 .i64 _ _ (by omega) (by omega) (by rw [Tryd.lenM]; omega), Tryd.elemM, run_size8, Tryd.lenM]
  simp only [Result.andThen_ok, slicedAt, Int.toNat_natCast, Nat.mul_one]
  rw [if_neg (by omega), Addr.add_lit, Nat.add_comm 2 p]
end Mt

end Go.Proofs.YtdgcnaijndocnaaDoor

/-
  Matrices (mat): a copy of numbers, Check.
-/
set_option linter.unusedSimpArgs false
set_option linter.unusedVariables false
namespace Go.Proofs.YtdgcnaijndocnaaDoor
open Go.RowKit Vc Mt

namespace Mt
/-- It lies from block B on. -/
def Fresh (B : Nat) (ao : Option Addr) : Prop := ∀ x, ao = some x → B ≤ x.block

theorem own_fresh {B : Nat} {w0 w : World} {v : Value} {n : Nat} {z : Nat → Int} (h : Own B w0 w v n z) : ∃ ao ca, v = .slice ao n ca ∧ Sl w ao n ca z ∧ Fresh B ao := by
  obtain ⟨ao, ca, rfl, hs⟩ := h.sl
  refine ⟨ao, ca, rfl, hs, fun x hx => ?_⟩
  subst hx
  exact (h.row.lt _ rfl).1

theorem own_whole {B : Nat} {w0 w : World} {g n : Nat} {z : Nat → Int} (h : Own B w0 w (.slice (some ⟨g, 0, none⟩) n n) n z) : w.heap[g]? = some (.cells (vals n z).toArray 2 (0, 0)) := by
  obtain ⟨h1, h2⟩ := h.row
  rcases h2 with ⟨e, _⟩ | ⟨g', cap, cur, e, hb, hg, hn, hc, hs, ht⟩
  · cases e
  · injection e with e1 e2 e3
    injection e1 with e1
    injection e1 with e1
    subst e1 e3
    have e4 : cur.toList = vals n z := by
      rw [← ht, List.take_of_length_le (by simp; omega)]
    rw [hg, ← e4]

theorem own_of_whole {B : Nat} {w0 w : World} {g n : Nat} {z : Nat → Int} (h : w.heap[g]? = some (.cells (vals n z).toArray 2 (0, 0))) (hb : Below B w0 w) (hg : B ≤ g) (hn : n ≤ maxLen) : Own B w0 w (.slice (some ⟨g, 0, none⟩) n n) n z := by
  have hlt : g < w.heap.size := by
    rcases Nat.lt_or_ge g w.heap.size with k | k
    · exact k
    · rw [Array.getElem?_eq_none k] at h; cases h
  refine ⟨⟨by simp [vals_len], Or.inr ⟨g, n, _, rfl, hg, h, Nat.le_refl _, hn, by simp [vals_len], ?_⟩⟩, hb, by omega⟩
  exact List.take_of_length_le (by simp [vals_len])

theorem splice_all (n : Nat) (z y : Nat → Int) : splice (vals n z) 0 (vals n y) = vals n y := by
  unfold splice
  rw [List.take_zero, List.nil_append, Nat.zero_add, vals_len, List.drop_eq_nil_of_le (by rw [vals_len]; exact Nat.le_refl _), List.append_nil]
theorem one_vals (n : Nat) (z : Nat → Int) : ∀ v ∈ vals n z, v.oneCell' = true := by
  intro v hv
  simp only [vals, List.mem_map] at hv
  obtain ⟨d, _, rfl⟩ := hv
  rfl
theorem Sl.src {w : World} {ao : Option Addr} {n ca : Nat} {z : Nat → Int} (h : Sl w ao n ca z) (h0 : 0 < n) : ∃ ad, ao = some ad ∧ ∀ j v, (vals n z)[j]? = some v → w.cell? (ad.add j) = some v := by
  obtain ⟨x, hx, hc⟩ := h.get
  refine ⟨x, hx h0, fun j v hv => ?_⟩
  have hj : j < n := by
    rcases Nat.lt_or_ge j n with k | k
    · exact k
    · rw [List.getElem?_eq_none (by rw [vals_len]; exact k)] at hv; cases hv
  rw [vals_at hj] at hv
  rw [hc j hj]
  exact hv
theorem sizeI64 : (Tryd.prog.info? 2).map (·.size) = some 1 := by kernel_rfl
end Mt

namespace Mt
theorem run_tail (b p : Nat) (h : p ≤ 36) : ∃ o, (p < 36 → o = p + 2) ∧ ∀ w : World, (Instr.sliceAt 44 (.pointer (some ⟨b, 2, none⟩)) (some (.int .i64 (p : Int))) none none).run Tryd.prog w = .ok (.slice (some ⟨b, o, none⟩) (36 - p) (36 - p)) w := by
  by_cases e : p = 36
  · refine ⟨2, fun h => by omega, fun w => ?_⟩
    rw [run_sliceAt_array_l w 44 _ Tryd.arrM .i64 _ (by omega) (by rw [Tryd.lenM]; omega), Tryd.elemM, run_size8, Tryd.lenM]
    simp only [Result.andThen_ok, slicedAt, Int.toNat_natCast, Nat.mul_one]
    rw [if_pos (by omega)]
  · refine ⟨p + 2, fun _ => rfl, fun w => ?_⟩
    rw [run_sliceAt_array_l w 44 _ Tryd.arrM .i64 _ (by omega) (by rw [Tryd.lenM]; omega), Tryd.elemM, run_size8, Tryd.lenM]
    simp only [Result.andThen_ok, slicedAt, Int.toNat_natCast, Nat.mul_one]
    rw [if_neg (by omega), Addr.add_lit, Nat.add_comm 2 p]
end Mt

namespace Mt
theorem first_nz (z : Nat → Int) (p : Nat) : ∀ t, (∀ k, p ≤ k → k < t → z k = 0) ∨ ∃ q, p ≤ q ∧ q < t ∧ z q ≠ 0 ∧ ∀ k, p ≤ k → k < q → z k = 0
  | 0 => Or.inl fun k _ hk => by omega
  | t + 1 => by
    rcases first_nz z p t with h | ⟨q, h1, h2, h3, h4⟩
    · by_cases c : p ≤ t ∧ z t ≠ 0
      · exact Or.inr ⟨t, c.1, by omega, c.2, h⟩
      · refine Or.inl fun k hp hk => ?_
        rcases Nat.lt_or_ge k t with d | d
        · exact h k hp d
        · obtain rfl : k = t := by omega
          exact Classical.byContradiction fun e => c ⟨hp, e⟩
    · exact Or.inr ⟨q, h1, by omega, h3, h4⟩
end Mt

end Go.Proofs.YtdgcnaijndocnaaDoor

/-
  Matrices (mat): number by number, each told by a closure; one theorem a closure. (By py/MtD.py.)
-/
set_option linter.unusedSimpArgs false
set_option linter.unusedVariables false
namespace Go.Proofs.YtdgcnaijndocnaaDoor
open Go.RowKit Vc Mt

namespace Mt
/-- Whether one of n rows of m is so. -/
def any2 (G : Nat → Nat → Bool) (n m : Nat) : Bool := anyb (fun i => anyb (G i) m) n
theorem any2_zero (G : Nat → Nat → Bool) (m : Nat) : any2 G 0 m = false := rfl
theorem any2_row (G : Nat → Nat → Bool) (k m : Nat) : (any2 G k m || anyb (G k) m) = any2 G (k + 1) m := rfl
theorem any2_col (G : Nat → Nat → Bool) (k j m : Nat) : (any2 G k m || anyb (G k) (j + 1)) = ((any2 G k m || anyb (G k) j) || G k j) := by
  show (any2 G k m || (anyb (G k) j || G k j)) = _
  rw [Bool.or_assoc]
theorem any2_congr {G H : Nat → Nat → Bool} {n m : Nat} (h : ∀ i j, i < n → j < m → G i j = H i j) : any2 G n m = any2 H n m := anyb_congr fun i hi => anyb_congr fun j hj => h i j hi hj
theorem any2_false {G : Nat → Nat → Bool} {n m : Nat} : any2 G n m = false ↔ ∀ i j, i < n → j < m → G i j = false := by
  unfold any2
  rw [anyb_false]
  exact ⟨fun h i j hi hj => anyb_false.1 (h i hi) j hj, fun h i hi => anyb_false.2 fun j hj => h i j hi hj⟩
end Mt

end Go.Proofs.YtdgcnaijndocnaaDoor

/-
  Matrices (mat): At, Row, Eye, Turn, or their errors.
-/
set_option linter.unusedSimpArgs false
set_option linter.unusedVariables false
namespace Go.Proofs.YtdgcnaijndocnaaDoor
open Go.RowKit Vc Mt

namespace Mt
theorem any2_no (n m : Nat) : any2 (fun _ _ => false) n m = false := any2_false.2 fun _ _ _ _ => rfl
theorem may_mz {n m : Nat} {F : Nat → Nat → Int} (h1 : 1 ≤ n) (h2 : n ≤ 6) (h3 : 1 ≤ m) (h4 : m ≤ 6) : May n m (mz n m F) := ⟨n, m, rfl, rfl, h1, h2, h3, h4, fun k hk _ => mz_behind hk⟩
end Mt




end Go.Proofs.YtdgcnaijndocnaaDoor

/-
  Matrices (mat): Of, Turn, or their errors.
-/
set_option linter.unusedSimpArgs false
set_option linter.unusedVariables false
namespace Go.Proofs.YtdgcnaijndocnaaDoor
open Go.RowKit Vc Mt

namespace Mt
theorem splice_mvals (r c : Int) (z y : Nat → Int) (p m : Nat) (h : p + m ≤ 36) : splice (mvals r c z) (p + 2) (vals m y) = mvals r c (fun k => if p ≤ k ∧ k < p + m then y (k - p) else z k) := by
  apply List.ext_getElem?
  intro i
  unfold splice
  rw [vals_len]
  have hl : (mvals r c z).length = 38 := mvals_len r c z
  match i with
  | 0 => simp [mvals, List.getElem?_append]
  | 1 => simp [mvals, List.getElem?_append]
  | i + 2 =>
    by_cases h1 : i < p
    · rw [List.getElem?_append_left (by rw [List.length_take, hl]; omega), List.getElem?_take, if_pos (by omega), mvals_at (by omega), mvals_at (by omega), if_neg (by omega)]
    · rw [List.getElem?_append_right (by rw [List.length_take, hl]; omega), List.length_take, hl]
      by_cases h2 : i < p + m
      · rw [List.getElem?_append_left (by rw [vals_len]; omega), show i + 2 - min (p + 2) 38 = i - p by omega, vals_at (by omega), mvals_at (by omega), if_pos ⟨by omega, h2⟩]
      · rw [List.getElem?_append_right (by rw [vals_len]; omega), vals_len, List.getElem?_drop, show p + 2 + m + (i + 2 - min (p + 2) 38 - m) = i + 2 by omega]
        by_cases h3 : i < 36
        · rw [mvals_at h3, mvals_at h3, if_neg (by omega)]
        · rw [List.getElem?_eq_none (by rw [mvals_len]; omega), List.getElem?_eq_none (by rw [mvals_len]; omega)]

theorem mpart_row {c i : Nat} {F : Nat → Nat → Int} (k : Nat) : (if i * c ≤ k ∧ k < i * c + c then F i (k - i * c) else mpart c F (i * c) k) = mpart c F ((i + 1) * c) k := by
  unfold mpart
  rw [Nat.succ_mul]
  by_cases h1 : k < i * c
  · rw [if_neg (by omega), if_pos h1, if_pos (by omega)]
  · by_cases h2 : k < i * c + c
    · rw [if_pos ⟨by omega, h2⟩, if_pos h2]
      have e : k = i * c + (k - i * c) := by omega
      rw [show F (k / c) (k % c) = F ((i * c + (k - i * c)) / c) ((i * c + (k - i * c)) % c) by rw [← e], place_div (by omega), place_mod (by omega)]
    · rw [if_neg (by omega), if_neg h1, if_neg h2]
end Mt

end Go.Proofs.YtdgcnaijndocnaaDoor

/-
  Factors of package ldl as a value (how many, 36 numbers of L, 6 of D), the steps' bool, and worlds that are the same but for some blocks.
-/
set_option linter.unusedSimpArgs false
set_option linter.unusedVariables false
namespace Go.Proofs.YtdgcnaijndocnaaDoor
open Go.RowKit Vc Mt St
namespace Ld

/-- How many, L and D as values. -/
def fvals (n : Int) (z d : Nat → Int) : List Value := .int .i64 n :: (vals 36 z ++ vals 6 d)
theorem fvals_len (n : Int) (z d : Nat → Int) : (fvals n z d).length = 43 := by simp [fvals, vals_len]
theorem fvals_n (n : Int) (z d : Nat → Int) : (fvals n z d)[0]? = some (.int .i64 n) := rfl
theorem fvals_z {n : Int} {z d : Nat → Int} {k : Nat} (h : k < 36) : (fvals n z d)[k + 1]? = some (.int .i64 (z k)) := by
  show (vals 36 z ++ vals 6 d)[k]? = _
  rw [List.getElem?_append_left (by rw [vals_len]; exact h)]
  exact vals_at h
theorem fvals_d {n : Int} {z d : Nat → Int} {k : Nat} (h : k < 6) : (fvals n z d)[k + 37]? = some (.int .i64 (d k)) := by
  show (vals 36 z ++ vals 6 d)[k + 36]? = _
  rw [List.getElem?_append_right (by rw [vals_len]; omega), vals_len, Nat.add_sub_cancel]
  exact vals_at h
theorem fvals_setz {n : Int} {z d : Nat → Int} {j : Nat} (h : j < 36) (x : Int) : (fvals n z d).set (j + 1) (.int .i64 x) = fvals n (fun k => if k = j then x else z k) d := by
  show Value.int .i64 n :: (vals 36 z ++ vals 6 d).set j (.int .i64 x) = _
  rw [List.set_append_left _ _ (by rw [vals_len]; exact h), vals_set]; rfl
theorem fvals_setd {n : Int} {z d : Nat → Int} (j : Nat) (x : Int) : (fvals n z d).set (j + 37) (.int .i64 x) = fvals n z (fun k => if k = j then x else d k) := by
  show Value.int .i64 n :: (vals 36 z ++ vals 6 d).set (j + 36) (.int .i64 x) = _
  rw [List.set_append_right _ _ (by rw [vals_len]; omega), vals_len, Nat.add_sub_cancel, vals_set]; rfl
theorem fvals_congr {n : Int} {z d z' d' : Nat → Int} (h : ∀ k, k < 36 → z k = z' k) (h' : ∀ k, k < 6 → d k = d' k) : fvals n z d = fvals n z' d' := by
  unfold fvals; rw [vals_congr h, vals_congr h']
theorem one_fvals (n : Int) (z d : Nat → Int) : ∀ v ∈ fvals n z d, v.oneCell' = true := by
  intro v hv
  rcases List.mem_cons.1 hv with rfl | hv
  · rfl
  rcases List.mem_append.1 hv with hv | hv
  · exact one_vals _ _ v hv
  · exact one_vals _ _ v hv
theorem isF : Is 47 43 := ⟨by kernel_rfl, ⟨_, Tryd.underlying47, rfl⟩⟩

/-- They are all that block g holds. -/
abbrev FRow (w : World) (g : Nat) (n : Int) (z d : Nat → Int) : Prop := CRow w g 47 (fvals n z d)
theorem FRow.n {w : World} {g : Nat} {n : Int} {z d : Nat → Int} (h : FRow w g n z d) : w.cell? ⟨g, 0, none⟩ = some (.int .i64 n) := h.cell (fvals_n n z d) rfl
theorem FRow.z {w : World} {g : Nat} {n : Int} {z d : Nat → Int} (h : FRow w g n z d) {k o : Nat} (hk : k < 36) (ho : o = k + 1) : w.cell? ⟨g, o, none⟩ = some (.int .i64 (z k)) := h.cell (fvals_z hk) ho
theorem FRow.d {w : World} {g : Nat} {n : Int} {z d : Nat → Int} (h : FRow w g n z d) {k o : Nat} (hk : k < 6) (ho : o = k + 37) : w.cell? ⟨g, o, none⟩ = some (.int .i64 (d k)) := h.cell (fvals_d hk) ho
theorem FRow.setz {w : World} {g : Nat} {n : Int} {z d : Nat → Int} (h : FRow w g n z d) {k o : Nat} (hk : k < 36) (ho : o = k + 1) (x : Int) : FRow (w.setCell ⟨g, o, none⟩ (.int .i64 x)) g n (fun i => if i = k then x else z i) d := by
  subst ho
  have h' := CRow.set h (k + 1) (.int .i64 x)
  rwa [fvals_setz hk] at h'
theorem FRow.setd {w : World} {g : Nat} {n : Int} {z d : Nat → Int} (h : FRow w g n z d) {k o : Nat} (ho : o = k + 37) (x : Int) : FRow (w.setCell ⟨g, o, none⟩ (.int .i64 x)) g n z (fun i => if i = k then x else d i) := by
  subst ho
  have h' := CRow.set h (k + 37) (.int .i64 x)
  rwa [fvals_setd] at h'
theorem FRow.congr {w : World} {g : Nat} {n : Int} {z d z' d' : Nat → Int} (h : FRow w g n z d) (e : ∀ k, k < 36 → z k = z' k) (e' : ∀ k, k < 6 → d k = d' k) : FRow w g n z' d' := by
  unfold FRow; rw [← fvals_congr e e']; exact h
/-- A piece of L. -/
theorem FRow.sl {w : World} {g : Nat} {n : Int} {z d : Nat → Int} (h : FRow w g n z d) {p m ca o : Nat} (hp : p + m ≤ 36) (hc : m ≤ ca) (hc2 : ca ≤ 9223372036854775807) (ho : o = p + 1) : Sl w (some ⟨g, o, none⟩) m ca (fun j => z (p + j)) :=
  ⟨hc, hc2, fun k hk => ⟨_, rfl, by rw [Addr.add_lit]; exact h.z (by omega) (by omega)⟩⟩

theorem zeroF : (#[.int .i64 0, .int .i64 0, .int .i64 0, .int .i64 0, .int .i64 0, .int .i64 0, .int .i64 0, .int .i64 0, .int .i64 0, .int .i64 0, .int .i64 0, .int .i64 0, .int .i64 0, .int .i64 0, .int .i64 0, .int .i64 0, .int .i64 0, .int .i64 0, .int .i64 0, .int .i64 0, .int .i64 0, .int .i64 0, .int .i64 0, .int .i64 0, .int .i64 0, .int .i64 0, .int .i64 0, .int .i64 0, .int .i64 0, .int .i64 0, .int .i64 0, .int .i64 0, .int .i64 0, .int .i64 0, .int .i64 0, .int .i64 0, .int .i64 0, .int .i64 0, .int .i64 0, .int .i64 0, .int .i64 0, .int .i64 0, .int .i64 0] : Array Value) = (fvals 0 (fun _ => 0) (fun _ => 0)).toArray := by kernel_rfl
theorem builtF0 : Tryd.prog.built 47 [] = some (fvals 0 (fun _ => 0) (fun _ => 0)).toArray := by kernel_rfl
theorem builtF1 (n : Int) : Tryd.prog.built 47 [(0, .int .i64 n)] = some (fvals n (fun _ => 0) (fun _ => 0)).toArray := by kernel_rfl
theorem wpList_buildF0 {ops : Array Oper} {rest : List Oper} {o : Oper} {a : Act} {w : World} {Q : Exit → Act → World → Prop} (hw : Region.wanted o (yielded ops a.tmps) = true) (ho : o.op = .build 47 #[])
    (h : wpList Tryd.prog ops Q rest (a.put o.dst (.agg (fvals 0 (fun _ => 0) (fun _ => 0)).toArray)) w) : wpList Tryd.prog ops Q (o :: rest) a w :=
  wpList_want hw fun _ hK => by
    unfold Oper.wp execOp
    have em : ((#[] : Array (Nat × Operand)).map fun (i, x) => (i, a.eval x)).toList = [] := by simp
    simp only [ho, Sem.run_bind, run_build w 47 _ _ (by rw [em]; exact builtF0), Result.andThen_ok]
    exact hK _ _ h
theorem wpList_buildF1 {ops : Array Oper} {rest : List Oper} {o : Oper} {a : Act} {w : World} {Q : Exit → Act → World → Prop} (hw : Region.wanted o (yielded ops a.tmps) = true) (x : Operand) (ho : o.op = .build 47 #[(0, x)]) (n : Int) (hx : a.eval x = .int .i64 n)
    (h : wpList Tryd.prog ops Q rest (a.put o.dst (.agg (fvals n (fun _ => 0) (fun _ => 0)).toArray)) w) : wpList Tryd.prog ops Q (o :: rest) a w :=
  wpList_want hw fun _ hK => by
    unfold Oper.wp execOp
    have em : ((#[(0, x)] : Array (Nat × Operand)).map fun (i, x) => (i, a.eval x)).toList = [(0, .int .i64 n)] := by simp [hx]
    simp only [ho, Sem.run_bind, run_build w 47 _ _ (by rw [em]; exact builtF1 n), Result.andThen_ok]
    exact hK _ _ h

/-- The steps' bool is all that block s holds. -/
abbrev SRow (w : World) (s : Nat) (o : Bool) : Prop := CRow w s 118 [.bool o]
theorem SRow.o {w : World} {s : Nat} {o : Bool} (h : SRow w s o) : w.cell? ⟨s, 0, none⟩ = some (.bool o) := h.cell (k := 0) rfl rfl
theorem SRow.set {w : World} {s : Nat} {o : Bool} (h : SRow w s o) (v : Bool) : SRow (w.setCell ⟨s, 0, none⟩ (.bool v)) s v := CRow.set h 0 (.bool v)

end Ld
end Go.Proofs.YtdgcnaijndocnaaDoor
