/-
  Any struct or array in a block of its own, its cells a list: loads, stores, results.
-/
import Derived.Test.YtefgkeeeanakeaaDoorM1
import Derived.Deep.MidRow
import Derived.Deep.RegionHeld3
import Derived.Deep.RegionWith
import Derived.Laws.CopyOwn
import Derived.Laws.ResultCell
import Derived.Laws.Rows
import Derived.ChangeKeysEq
set_option linter.unusedSimpArgs false
set_option linter.unusedVariables false
namespace Go.Proofs.YtefgkeeeanakeaaDoor
open Go.RowKit
namespace St

/-- The cells cs are all that block b holds. -/
def CRow (w : World) (b : Nat) (t : TypeId) (cs : List Value) : Prop := w.heap[b]? = some (.cells cs.toArray t (0, 0))

theorem CRow.lt {w : World} {b : Nat} {t : TypeId} {cs : List Value} (h : CRow w b t cs) : b < w.heap.size := by
  rcases Nat.lt_or_ge b w.heap.size with k | k
  · exact k
  · unfold CRow at h; rw [Array.getElem?_eq_none k] at h; cases h
theorem CRow.cell {w : World} {b : Nat} {t : TypeId} {cs : List Value} (h : CRow w b t cs) {k : Nat} {v : Value} (hv : cs[k]? = some v) {o : Nat} (ho : o = k) : w.cell? ⟨b, o, none⟩ = some v := by
  subst ho
  rw [cell_of_row w b o _ _ (0, 0) h, List.getElem?_toArray]
  exact hv
theorem CRow.free {w : World} {b : Nat} {t : TypeId} {cs : List Value} (h : CRow w b t cs) (j : Nat) : w.frozen? ⟨b, j, none⟩ = false := frozen_of_row w b j _ _ h
theorem CRow.range {w : World} {b : Nat} {t : TypeId} {cs : List Value} (h : CRow w b t cs) : w.rangeAt b 0 cs := by
  intro j v hv
  rw [cell_of_row w b (0 + j) _ _ (0, 0) h, Nat.zero_add, List.getElem?_toArray]
  exact hv
/-- A piece of it, from place o on. -/
theorem CRow.mid {w : World} {b : Nat} {t : TypeId} {cs ds : List Value} (h : CRow w b t cs) {o : Nat} (hd : ∀ j v, ds[j]? = some v → cs[o + j]? = some v) : w.rangeAt b o ds := by
  intro j v hv
  rw [cell_of_row w b (o + j) _ _ (0, 0) h, List.getElem?_toArray]
  exact hd j v hv
theorem CRow.keep {w w' : World} {b : Nat} {t : TypeId} {cs : List Value} (h : CRow w b t cs) (hb : Below w.heap.size w w') : CRow w' b t cs := by
  unfold CRow; rw [hb.block b h.lt]; exact h
theorem CRow.alloc {w : World} {b : Nat} {t : TypeId} {cs : List Value} (h : CRow w b t cs) (o : Obj) : CRow (w.alloc o) b t cs := by
  unfold CRow; rw [Below.heap_alloc w o b h.lt]; exact h
theorem CRow.drew {w : World} {b : Nat} {t : TypeId} {cs : List Value} (h : CRow w b t cs) : CRow w.drew b t cs := h
theorem CRow.drewN {w : World} {b : Nat} {t : TypeId} {cs : List Value} (h : CRow w b t cs) (n : Nat) : CRow (w.drewN n) b t cs := h
theorem CRow.set {w : World} {b : Nat} {t : TypeId} {cs : List Value} (h : CRow w b t cs) (j : Nat) (v : Value) : CRow (w.setCell ⟨b, j, none⟩ v) b t (cs.set j v) := by
  have e : (cs.set j v).toArray = cs.toArray.setIfInBounds j v := by simp
  unfold CRow
  rw [e]
  exact heap_setCell_same w b j _ _ _ h
theorem CRow.other {w : World} {b : Nat} {t : TypeId} {cs : List Value} (h : CRow w b t cs) {p : Addr} (u : Value) (hne : b ≠ p.block) : CRow (w.setCell p u) b t cs := by
  unfold CRow; rw [heap_setCell_other w p b u hne]; exact h
theorem CRow.row {w : World} {b : Nat} {t : TypeId} {cs : List Value} (h : CRow w b t cs) (ds : List Value) : CRow (w.setRow b ds.toArray) b t ds := setRow_heap w b _ _ _ (0, 0) h
theorem CRow.rowOther {w : World} {b g : Nat} {t : TypeId} {cs : List Value} (h : CRow w b t cs) (hne : b ≠ g) (ds : Array Value) : CRow (w.setRow g ds) b t cs := by
  unfold CRow; rw [setRow_other w g b ds hne]; exact h
theorem crow_new (w : World) (t : TypeId) (cs : List Value) : CRow (w.alloc (.cells cs.toArray t)) w.heap.size t cs := heap_alloc_new w _
theorem crow_new1 (w : World) (A : Obj) (t : TypeId) (cs : List Value) : CRow ((w.alloc A).alloc (.cells cs.toArray t)) (w.heap.size + 1) t cs := by
  have h := crow_new (w.alloc A) t cs
  rwa [show (w.alloc A).heap.size = w.heap.size + 1 by simp] at h
theorem crow_new2 (w : World) (A B : Obj) (t : TypeId) (cs : List Value) : CRow (((w.alloc A).alloc B).alloc (.cells cs.toArray t)) (w.heap.size + 1 + 1) t cs := by
  have h := crow_new ((w.alloc A).alloc B) t cs
  rwa [show ((w.alloc A).alloc B).heap.size = w.heap.size + 1 + 1 by simp] at h
theorem crow_new3 (w : World) (A B C : Obj) (t : TypeId) (cs : List Value) : CRow ((((w.alloc A).alloc B).alloc C).alloc (.cells cs.toArray t)) (w.heap.size + 1 + 1 + 1) t cs := by
  have h := crow_new (((w.alloc A).alloc B).alloc C) t cs
  rwa [show (((w.alloc A).alloc B).alloc C).heap.size = w.heap.size + 1 + 1 + 1 by simp] at h

/-- The type t is a struct or an array of n cells. -/
structure Is (t : TypeId) (n : Nat) : Prop where
  size : (Tryd.prog.info? t).map (·.size) = some n
  row : ∃ d, Tryd.prog.underlying t = some d ∧ d.isRow = true

theorem wpList_want {ops : Array Oper} {rest : List Oper} {o : Oper} {a : Act} {w : World} {Q : Exit → Act → World → Prop} (hw : Region.wanted o (yielded ops a.tmps) = true)
    (h : ∀ K : Act → World → Prop, (∀ a w, wpList Tryd.prog ops Q rest a w → K a w) → o.wp Tryd.prog a w K Q) : wpList Tryd.prog ops Q (o :: rest) a w :=
  wpList_step fun K hK => by rw [if_pos hw]; exact h K hK

/-- It is loaded, guarded or not. -/
theorem wpList_load {ops : Array Oper} {rest : List Oper} {o : Oper} {a : Act} {w : World} {Q : Exit → Act → World → Prop} {t : TypeId} {n : Nat} (S : Is t n) (hw : Region.wanted o (yielded ops a.tmps) = true) (x : Operand) (ho : o.op = .load t x)
    (b : Nat) (cs : List Value) (hx : a.eval x = .pointer (some ⟨b, 0, none⟩)) (hr : CRow w b t cs) (hl : cs.length = n)
    (h : wpList Tryd.prog ops Q rest (a.put o.dst (.agg cs.toArray)) w) : wpList Tryd.prog ops Q (o :: rest) a w := by
  obtain ⟨d, hu, hd⟩ := S.row
  exact wpList_want hw fun _ hK => wp_load_mid _ x ho b 0 hx cs d hr.range hu hd (by rw [S.size, hl]) (hK _ _ h)
/-- A part of it is loaded that is a struct or an array itself. -/
theorem wpList_part {ops : Array Oper} {rest : List Oper} {o : Oper} {a : Act} {w : World} {Q : Exit → Act → World → Prop} {t : TypeId} {n : Nat} (S : Is t n) (hw : Region.wanted o (yielded ops a.tmps) = true) (x : Operand) (ho : o.op = .load t x)
    (b p : Nat) (ds : List Value) (hx : a.eval x = .pointer (some ⟨b, p, none⟩)) (hr : w.rangeAt b p ds) (hl : ds.length = n)
    (h : wpList Tryd.prog ops Q rest (a.put o.dst (.agg ds.toArray)) w) : wpList Tryd.prog ops Q (o :: rest) a w := by
  obtain ⟨d, hu, hd⟩ := S.row
  exact wpList_want hw fun _ hK => wp_load_mid _ x ho b p hx ds d hr hu hd (by rw [S.size, hl]) (hK _ _ h)

theorem wpList_store {ops : Array Oper} {rest : List Oper} {o : Oper} {a : Act} {w : World} {Q : Exit → Act → World → Prop} {t : TypeId} {n : Nat} (S : Is t n) (hgd : o.guard = none) (x y : Operand) (ho : o.op = .store t x y)
    (b : Nat) (cs ds : List Value) (hx : a.eval x = .pointer (some ⟨b, 0, none⟩)) (hy : a.eval y = .agg ds.toArray) (hr : CRow w b t cs) (hl : cs.length = n) (hd : ds.length = n) (h1 : ∀ v ∈ ds, v.oneCell' = true)
    (h : wpList Tryd.prog ops Q rest (a.put o.dst undef) (w.setRow b ds.toArray)) : wpList Tryd.prog ops Q (o :: rest) a w :=
  wpList_store_row hgd _ x y ho b _ hx hy _ _ hr (by rw [S.size, List.size_toArray, hd]) (by rw [List.size_toArray, List.size_toArray, hl, hd]) (all_oneCell_toArray h1) h

theorem below_row {B g : Nat} {w0 w : World} (hb : Below B w0 w) (hBg : B ≤ g) (cs : Array Value) : Below B w0 (w.setRow g cs) :=
  hb.trans ⟨rfl, rfl, rfl, by simp, fun k hk => setRow_other w g k cs (by omega)⟩
theorem below_set {B : Nat} {w : World} {x : Addr} (hB : B ≤ w.heap.size) (hx : B ≤ x.block) (v : Value) : Below B w (w.setCell x v) :=
  ⟨rfl, rfl, rfl, by simp, fun k hk => heap_setCell_other w x k v (by omega)⟩

/-- Into a new variable: the world behind it is a letter. -/
theorem wpList_storeNew {ops : Array Oper} {rest : List Oper} {o : Oper} {a : Act} {Q : Exit → Act → World → Prop} {t : TypeId} {n : Nat} (S : Is t n) (hgd : o.guard = none) (x y : Operand) (ho : o.op = .store t x y) (w2 : World)
    (cs ds : List Value) (hx : a.eval x = .pointer (some ⟨w2.heap.size, 0, none⟩)) (hy : a.eval y = .agg ds.toArray) (hl : cs.length = n) (hd : ds.length = n) (h1 : ∀ v ∈ ds, v.oneCell' = true)
    (h : ∀ w3, CRow w3 w2.heap.size t ds → Below w2.heap.size w2 w3 → wpList Tryd.prog ops Q rest (a.put o.dst undef) w3) : wpList Tryd.prog ops Q (o :: rest) a (w2.alloc (.cells cs.toArray t)) :=
  wpList_store S hgd x y ho _ cs ds hx hy (crow_new w2 t cs) hl hd h1 (h _ ((crow_new w2 t cs).row _) (below_row (below_al (Below.refl _ _) _) (Nat.le_refl _) _))

theorem results_1 {fn : Func} {p : Tmp} {t : TypeId} {n : Nat} (S : Is t n) (h : fn.results = #[.cell p t]) (tmps : Array Value) (w : World) (b : Nat) (cs : List Value) (hp : tmps.getD p undef = .pointer (some ⟨b, 0, none⟩))
    (hr : CRow w b t cs) (hl : cs.length = n) : (results fn tmps).run Tryd.prog w = .ok (.agg cs.toArray) w := by
  obtain ⟨d, hu, hd⟩ := S.row
  have hp' : tmps[p]?.getD undef = .pointer (some ⟨b, 0, none⟩) := by simpa using hp
  have hL := run_loadVar_mid w b 0 t cs d hr.range hu hd (by rw [S.size, hl])
  simp [results, h, hp', asAddr, hL]
theorem results_2 {fn : Func} {p u : Tmp} {t : TypeId} {n : Nat} (S : Is t n) (h : fn.results = #[.cell p t, .tmp u]) (tmps : Array Value) (w : World) (b : Nat) (cs : List Value) (hp : tmps.getD p undef = .pointer (some ⟨b, 0, none⟩))
    (hr : CRow w b t cs) (hl : cs.length = n) : (results fn tmps).run Tryd.prog w = .ok (.tuple #[.agg cs.toArray, tmps.getD u undef]) w := by
  obtain ⟨d, hu, hd⟩ := S.row
  have hp' : tmps[p]?.getD undef = .pointer (some ⟨b, 0, none⟩) := by simpa using hp
  have hL := run_loadVar_mid w b 0 t cs d hr.range hu hd (by rw [S.size, hl])
  simp [results, h, hp', asAddr, hL]
theorem results_3 {fn : Func} {p u v : Tmp} {t : TypeId} {n : Nat} (S : Is t n) (h : fn.results = #[.cell p t, .tmp u, .tmp v]) (tmps : Array Value) (w : World) (b : Nat) (cs : List Value) (hp : tmps.getD p undef = .pointer (some ⟨b, 0, none⟩))
    (hr : CRow w b t cs) (hl : cs.length = n) : (results fn tmps).run Tryd.prog w = .ok (.tuple #[.agg cs.toArray, tmps.getD u undef, tmps.getD v undef]) w := by
  obtain ⟨d, hu, hd⟩ := S.row
  have hp' : tmps[p]?.getD undef = .pointer (some ⟨b, 0, none⟩) := by simpa using hp
  have hL := run_loadVar_mid w b 0 t cs d hr.range hu hd (by rw [S.size, hl])
  simp [results, h, hp', asAddr, hL]

end St
end Go.Proofs.YtefgkeeeanakeaaDoor

/-
  Worlds that are the same but for some blocks.
-/
set_option linter.unusedSimpArgs false
set_option linter.unusedVariables false
namespace Go.Proofs.YtefgkeeeanakeaaDoor
open Go.RowKit Vc St
namespace Ld

/-- Nothing has turned but blocks that are P. -/
structure But (P : Nat → Prop) (w w' : World) : Prop where
  os : w'.os = w.os
  tape : w'.tape = w.tape
  output : w'.output = w.output
  size : w.heap.size ≤ w'.heap.size
  block : ∀ k, k < w.heap.size → ¬ P k → w'.heap[k]? = w.heap[k]?

theorem But.refl (P : Nat → Prop) (w : World) : But P w w := ⟨rfl, rfl, rfl, Nat.le_refl _, fun _ _ _ => rfl⟩
theorem But.trans {P : Nat → Prop} {a b c : World} (h : But P a b) (k : But P b c) : But P a c :=
  ⟨k.os.trans h.os, k.tape.trans h.tape, k.output.trans h.output, Nat.le_trans h.size k.size, fun i hi hp => (k.block i (Nat.lt_of_lt_of_le hi h.size) hp).trans (h.block i hi hp)⟩
theorem but_of {P : Nat → Prop} {a b : World} (h : Below a.heap.size a b) : But P a b := ⟨h.os, h.tape, h.output, h.size, fun i hi _ => h.block i hi⟩
theorem But.then {P : Nat → Prop} {a b c : World} (h : But P a b) (k : Below b.heap.size b c) : But P a c := h.trans (but_of k)
theorem But.mono {P Q : Nat → Prop} {a b : World} (h : But P a b) (e : ∀ k, P k → Q k) : But Q a b := ⟨h.os, h.tape, h.output, h.size, fun i hi hp => h.block i hi fun q => hp (e i q)⟩
theorem But.al {P : Nat → Prop} {a b : World} (h : But P a b) (o : Obj) : But P a (b.alloc o) := h.then (below_al (Below.refl _ _) o)
theorem But.drew {P : Nat → Prop} {a b : World} (h : But P a b) : But P a b.drew := ⟨h.os, h.tape, h.output, h.size, h.block⟩
theorem But.drewN {P : Nat → Prop} {a b : World} (h : But P a b) (n : Nat) : But P a (b.drewN n) := ⟨h.os, h.tape, h.output, h.size, h.block⟩
theorem But.set {P : Nat → Prop} {a b : World} (h : But P a b) {p : Addr} (v : Value) (hp : P p.block) : But P a (b.setCell p v) :=
  h.trans ⟨rfl, rfl, rfl, by simp, fun k hk hn => heap_setCell_other b p k v (fun e => hn (e ▸ hp))⟩
/-- A cell of a block that is new. -/
theorem But.setNew {P : Nat → Prop} {a b : World} (h : But P a b) {p : Addr} (v : Value) (hp : a.heap.size ≤ p.block) : But P a (b.setCell p v) :=
  ⟨h.os, h.tape, h.output, by simp [h.size], fun k hk hn => (heap_setCell_other b p k v (by omega)).trans (h.block k hk hn)⟩
theorem But.rowNew {P : Nat → Prop} {a b : World} (h : But P a b) {g : Nat} (cs : Array Value) (hp : a.heap.size ≤ g) : But P a (b.setRow g cs) :=
  ⟨h.os, h.tape, h.output, by simp [h.size], fun k hk hn => (setRow_other b g k cs (by omega)).trans (h.block k hk hn)⟩
/-- All that turned lies from B on. -/
theorem But.below {P : Nat → Prop} {B : Nat} {w0 a b : World} (h : But P a b) (h0 : Below B w0 a) (hB : B ≤ a.heap.size) (hP : ∀ k, P k → B ≤ k) : Below B w0 b :=
  h0.trans ⟨h.os, h.tape, h.output, h.size, fun k hk => h.block k (by omega) (fun q => by have := hP k q; omega)⟩
theorem But.cell {P : Nat → Prop} {a b : World} (h : But P a b) {x : Addr} {v : Value} (hc : a.cell? x = some v) (hx : ¬ P x.block) : b.cell? x = some v := by
  have hlt := World.block_lt_of_cell? a _ hc
  rw [World.cell?_of_block (h.block x.block hlt hx)]
  exact hc
theorem addr_block (x : Addr) (k : Nat) : (x.add k).block = x.block := by unfold Addr.add; split <;> rfl
theorem slBut {P : Nat → Prop} {a b : World} {ao : Option Addr} {n ca : Nat} {z : Nat → Int} (h : Sl a ao n ca z) (k : But P a b) (hx : ∀ x, ao = some x → ¬ P x.block) : Sl b ao n ca z :=
  ⟨h.le, h.cap, fun j hj => by
    obtain ⟨x, e, hc⟩ := h.at' j hj
    exact ⟨x, e, k.cell hc (by rw [addr_block]; exact hx x e)⟩⟩
theorem crowBut {P : Nat → Prop} {a b : World} {g : Nat} {t : TypeId} {cs : List Value} (h : CRow a g t cs) (k : But P a b) (hx : ¬ P g) : CRow b g t cs := by
  unfold CRow; rw [k.block g h.lt hx]; exact h
theorem ownBut {P : Nat → Prop} {B : Nat} {w0 a b : World} {v : Value} {n : Nat} {z : Nat → Int} (h : Own B w0 a v n z) (k : But P a b) (hB : ∀ q, P q → B ≤ q) (hx : ∀ g, v.ownBlock = some g → ¬ P g) : Own B w0 b v n z := by
  refine ⟨?_, k.below h.below h.base hB, Nat.le_trans h.base k.size⟩
  obtain ⟨h1, h2⟩ := h.row
  refine ⟨h1, ?_⟩
  rcases h2 with h2 | ⟨g, cap, cur, rfl, hb, hg, hn, hc, hs, ht⟩
  · exact Or.inl h2
  · refine Or.inr ⟨g, cap, cur, rfl, hb, ?_, hn, hc, hs, ht⟩
    have hlt : g < a.heap.size := by
      rcases Nat.lt_or_ge g a.heap.size with q | q
      · exact q
      · rw [Array.getElem?_eq_none q] at hg; cases hg
    exact (k.block g hlt (hx g rfl)).trans hg
end Ld
end Go.Proofs.YtefgkeeeanakeaaDoor

/-
  Structs of integers of 64 bits that are the same, compared.
-/
set_option linter.unusedSimpArgs false
set_option linter.unusedVariables false
namespace Go.Proofs.YtefgkeeeanakeaaDoor
open Go.RowKit
namespace St

def isI64 : Option TypeDesc → Bool
  | some (.int .i64) => true
  | _ => false
theorem isI64_yes {d : Option TypeDesc} (h : isI64 d = true) : d = some (.int .i64) := by
  revert h
  unfold isI64
  split
  · intro _; rfl
  · intro h; cases h
/-- The type t is a struct of n integers of 64 bits that may be compared. -/
structure IsI (t : TypeId) (n : Nat) : Prop where
  struct : Tryd.prog.underlying t = some (.struct (Tryd.prog.fieldsOf t))
  fields : ((Tryd.prog.fieldsOf t).toList.all fun f => f.name != "_" && decide (f.offset < n) && isI64 (Tryd.prog.underlying f.type)) = true
  stood : Tryd.prog.stoodInHeld t = false
  guard : Tryd.prog.eqGuardType Tryd.prog.depth t = false

theorem run_part_k {t : TypeId} (hu : Tryd.prog.underlying t = some (.int .i64)) (w : World) (xs : Array Value) (o : Nat) (v : Int) (h : xs[o]? = some (.int .i64 v)) : (Go.part t xs o).run Tryd.prog w = .ok (.int .i64 v) w := by
  simp [Go.part, isAgg, run_underlying hu, h]
theorem run_fields_same (d n : Nat) (z : Nat → Int) (cs : List Value) (hc : ∀ k, k < n → cs[k]? = some (.int .i64 (z k))) (w : World) : ∀ fs : List Field, (fs.all fun f => f.name != "_" && decide (f.offset < n) && isI64 (Tryd.prog.underlying f.type)) = true →
    (Op.eqFields (d + 1) cs.toArray cs.toArray fs).run Tryd.prog w = .ok true w
  | [], _ => by simp [Op.eqFields]
  | f :: fs, h => by
    rw [List.all_cons, Bool.and_eq_true] at h
    obtain ⟨h1, h2⟩ := h
    rw [Bool.and_eq_true, Bool.and_eq_true] at h1
    obtain ⟨⟨hn, ho⟩, hu⟩ := h1
    have hn' : f.name ≠ "_" := by simpa using hn
    have ho' : f.offset < n := by simpa using ho
    have hu' : Tryd.prog.underlying f.type = some (.int .i64) := isI64_yes hu
    have p := run_part_k hu' w cs.toArray f.offset (z f.offset) (by rw [List.getElem?_toArray]; exact hc _ ho')
    have q : (Op.equalIn (d + 1) f.type (.int .i64 (z f.offset)) (.int .i64 (z f.offset))).run Tryd.prog w = .ok true w := by
      rw [run_equalIn_int w d f.type .i64 .i64 _ _ hu']; simp
    rw [Op.eqFields, if_pos hn']
    simp only [Sem.run_bind, p, q, Result.andThen_ok, Bool.not_true, Bool.false_eq_true, if_false]
    exact run_fields_same d n z cs hc w fs h2
set_option maxRecDepth 20000 in
theorem run_sameI {t : TypeId} {n : Nat} (S : IsI t n) (z : Nat → Int) (cs : List Value) (hc : ∀ k, k < n → cs[k]? = some (.int .i64 (z k))) (w : World) : (Op.equalIn 10000 t (.agg cs.toArray) (.agg cs.toArray)).run Tryd.prog w = .ok true w := by
  rw [run_equalIn_struct w 9999 t _ _ S.struct S.stood]
  exact run_fields_same 9998 n z cs hc w _ S.fields

/-- Two that are the same are compared. -/
theorem wpList_eqI {ops : Array Oper} {rest : List Oper} {o : Oper} {a : Act} {w : World} {Q : Exit → Act → World → Prop} {t : TypeId} {n : Nat} (S : IsI t n) (hw : Region.wanted o (yielded ops a.tmps) = true) (x y : Operand) (u : TypeId) (ho : o.op = .binOp .eql t x y u)
    (cs : List Value) (z : Nat → Int) (hx : a.eval x = .agg cs.toArray) (hy : a.eval y = .agg cs.toArray) (hc : ∀ k, k < n → cs[k]? = some (.int .i64 (z k)))
    (h : wpList Tryd.prog ops Q rest (a.put o.dst (.bool true)) w) : wpList Tryd.prog ops Q (o :: rest) a w :=
  wpList_want hw fun _ hK => by
    unfold Oper.wp execOp
    simp only [ho, hx, hy, Sem.run_bind, run_eqGuard_agg w _ _ x y _ _ S.guard, Result.andThen_ok, run_eql_struct, run_sameI S z cs hc]
    exact hK _ _ h
theorem wpList_neI {ops : Array Oper} {rest : List Oper} {o : Oper} {a : Act} {w : World} {Q : Exit → Act → World → Prop} {t : TypeId} {n : Nat} (S : IsI t n) (hw : Region.wanted o (yielded ops a.tmps) = true) (x y : Operand) (u : TypeId) (ho : o.op = .binOp .neq t x y u)
    (cs : List Value) (z : Nat → Int) (hx : a.eval x = .agg cs.toArray) (hy : a.eval y = .agg cs.toArray) (hc : ∀ k, k < n → cs[k]? = some (.int .i64 (z k)))
    (h : wpList Tryd.prog ops Q rest (a.put o.dst (.bool false)) w) : wpList Tryd.prog ops Q (o :: rest) a w :=
  wpList_want hw fun _ hK => by
    unfold Oper.wp execOp
    simp only [ho, hx, hy, Sem.run_bind, run_eqGuard_agg w _ _ x y _ _ S.guard, Result.andThen_ok, run_neq_struct, run_sameI S z cs hc]
    exact hK _ _ h
end St
end Go.Proofs.YtefgkeeeanakeaaDoor
