/-
  Any struct or array in a block of its own, its cells a list: loads, stores, results.
-/
import Derived.Test.YtdgcnaijndocnaaGreatDoorM2
import Derived.Deep.MidRow
import Derived.Deep.RegionHeld3
import Derived.Deep.RegionWith
import Derived.Laws.CopyOwn
import Derived.Laws.ResultCell
import Derived.Laws.Rows
import Derived.Deep.DeepMust
set_option linter.unusedSimpArgs false
set_option linter.unusedVariables false
namespace Go.Proofs.YtdgcnaijndocnaaGreatDoor
open Go.RowKit
namespace St

/-- The cells cs are all that block b holds. -/
def CRow (w : World) (b : Nat) (t : TypeId) (cs : List Value) : Prop := w.heap[b]? = some (.cells cs.toArray t (0, 0))

theorem CRow.lt {w : World} {b : Nat} {t : TypeId} {cs : List Value} (h : CRow w b t cs) : b < w.heap.size := by
  rcases Nat.lt_or_ge b w.heap.size with k | k
  · exact k
  · unfold CRow at h; rw [Array.getElem?_eq_none k] at h; cases h
theorem CRow.cell {w : World} {b : Nat} {t : TypeId} {cs : List Value} (h : CRow w b t cs) {k : Nat} {v : Value} (hv : cs[k]? = some v) {o : Nat} (ho : o = k) : w.cell? ⟨b, o, none⟩ = some v := by
  subst ho
  rw [cell_of_row w b o _ _ (0, 0) h, List.getElem?_toArray]
  exact hv
theorem CRow.free {w : World} {b : Nat} {t : TypeId} {cs : List Value} (h : CRow w b t cs) (j : Nat) : w.frozen? ⟨b, j, none⟩ = false := frozen_of_row w b j _ _ h
theorem CRow.range {w : World} {b : Nat} {t : TypeId} {cs : List Value} (h : CRow w b t cs) : w.rangeAt b 0 cs := by
  intro j v hv
  rw [cell_of_row w b (0 + j) _ _ (0, 0) h, Nat.zero_add, List.getElem?_toArray]
  exact hv
/-- A piece of it, from place o on. -/
theorem CRow.mid {w : World} {b : Nat} {t : TypeId} {cs ds : List Value} (h : CRow w b t cs) {o : Nat} (hd : ∀ j v, ds[j]? = some v → cs[o + j]? = some v) : w.rangeAt b o ds := by
  intro j v hv
  rw [cell_of_row w b (o + j) _ _ (0, 0) h, List.getElem?_toArray]
  exact hd j v hv
theorem CRow.keep {w w' : World} {b : Nat} {t : TypeId} {cs : List Value} (h : CRow w b t cs) (hb : Below w.heap.size w w') : CRow w' b t cs := by
  unfold CRow; rw [hb.block b h.lt]; exact h
theorem CRow.alloc {w : World} {b : Nat} {t : TypeId} {cs : List Value} (h : CRow w b t cs) (o : Obj) : CRow (w.alloc o) b t cs := by
  unfold CRow; rw [Below.heap_alloc w o b h.lt]; exact h
theorem CRow.drew {w : World} {b : Nat} {t : TypeId} {cs : List Value} (h : CRow w b t cs) : CRow w.drew b t cs := h
theorem CRow.drewN {w : World} {b : Nat} {t : TypeId} {cs : List Value} (h : CRow w b t cs) (n : Nat) : CRow (w.drewN n) b t cs := h
theorem CRow.set {w : World} {b : Nat} {t : TypeId} {cs : List Value} (h : CRow w b t cs) (j : Nat) (v : Value) : CRow (w.setCell ⟨b, j, none⟩ v) b t (cs.set j v) := by
  have e : (cs.set j v).toArray = cs.toArray.setIfInBounds j v := by simp
  unfold CRow
  rw [e]
  exact heap_setCell_same w b j _ _ _ h
theorem CRow.other {w : World} {b : Nat} {t : TypeId} {cs : List Value} (h : CRow w b t cs) {p : Addr} (u : Value) (hne : b ≠ p.block) : CRow (w.setCell p u) b t cs := by
  unfold CRow; rw [heap_setCell_other w p b u hne]; exact h
theorem CRow.row {w : World} {b : Nat} {t : TypeId} {cs : List Value} (h : CRow w b t cs) (ds : List Value) : CRow (w.setRow b ds.toArray) b t ds := setRow_heap w b _ _ _ (0, 0) h
theorem CRow.rowOther {w : World} {b g : Nat} {t : TypeId} {cs : List Value} (h : CRow w b t cs) (hne : b ≠ g) (ds : Array Value) : CRow (w.setRow g ds) b t cs := by
  unfold CRow; rw [setRow_other w g b ds hne]; exact h
theorem crow_new (w : World) (t : TypeId) (cs : List Value) : CRow (w.alloc (.cells cs.toArray t)) w.heap.size t cs := heap_alloc_new w _
theorem crow_new1 (w : World) (A : Obj) (t : TypeId) (cs : List Value) : CRow ((w.alloc A).alloc (.cells cs.toArray t)) (w.heap.size + 1) t cs := by
  have h := crow_new (w.alloc A) t cs
  rwa [show (w.alloc A).heap.size = w.heap.size + 1 by simp] at h
/-- The type t is a struct or an array of n cells. -/
structure Is (t : TypeId) (n : Nat) : Prop where
  size : (Tryz.prog.info? t).map (·.size) = some n
  row : ∃ d, Tryz.prog.underlying t = some d ∧ d.isRow = true

theorem wpList_want {ops : Array Oper} {rest : List Oper} {o : Oper} {a : Act} {w : World} {Q : Exit → Act → World → Prop} (hw : Region.wanted o (yielded ops a.tmps) = true)
    (h : ∀ K : Act → World → Prop, (∀ a w, wpList Tryz.prog ops Q rest a w → K a w) → o.wp Tryz.prog a w K Q) : wpList Tryz.prog ops Q (o :: rest) a w :=
  wpList_step fun K hK => by rw [if_pos hw]; exact h K hK

/-- It is loaded, guarded or not. -/
theorem wpList_load {ops : Array Oper} {rest : List Oper} {o : Oper} {a : Act} {w : World} {Q : Exit → Act → World → Prop} {t : TypeId} {n : Nat} (S : Is t n) (hw : Region.wanted o (yielded ops a.tmps) = true) (x : Operand) (ho : o.op = .load t x)
    (b : Nat) (cs : List Value) (hx : a.eval x = .pointer (some ⟨b, 0, none⟩)) (hr : CRow w b t cs) (hl : cs.length = n)
    (h : wpList Tryz.prog ops Q rest (a.put o.dst (.agg cs.toArray)) w) : wpList Tryz.prog ops Q (o :: rest) a w := by
  obtain ⟨d, hu, hd⟩ := S.row
  exact wpList_want hw fun _ hK => wp_load_mid _ x ho b 0 hx cs d hr.range hu hd (by rw [S.size, hl]) (hK _ _ h)
/-- A part of it is loaded that is a struct or an array itself. -/
theorem wpList_part {ops : Array Oper} {rest : List Oper} {o : Oper} {a : Act} {w : World} {Q : Exit → Act → World → Prop} {t : TypeId} {n : Nat} (S : Is t n) (hw : Region.wanted o (yielded ops a.tmps) = true) (x : Operand) (ho : o.op = .load t x)
    (b p : Nat) (ds : List Value) (hx : a.eval x = .pointer (some ⟨b, p, none⟩)) (hr : w.rangeAt b p ds) (hl : ds.length = n)
    (h : wpList Tryz.prog ops Q rest (a.put o.dst (.agg ds.toArray)) w) : wpList Tryz.prog ops Q (o :: rest) a w := by
  obtain ⟨d, hu, hd⟩ := S.row
  exact wpList_want hw fun _ hK => wp_load_mid _ x ho b p hx ds d hr hu hd (by rw [S.size, hl]) (hK _ _ h)

theorem wpList_store {ops : Array Oper} {rest : List Oper} {o : Oper} {a : Act} {w : World} {Q : Exit → Act → World → Prop} {t : TypeId} {n : Nat} (S : Is t n) (hgd : o.guard = none) (x y : Operand) (ho : o.op = .store t x y)
    (b : Nat) (cs ds : List Value) (hx : a.eval x = .pointer (some ⟨b, 0, none⟩)) (hy : a.eval y = .agg ds.toArray) (hr : CRow w b t cs) (hl : cs.length = n) (hd : ds.length = n) (h1 : ∀ v ∈ ds, v.oneCell' = true)
    (h : wpList Tryz.prog ops Q rest (a.put o.dst undef) (w.setRow b ds.toArray)) : wpList Tryz.prog ops Q (o :: rest) a w :=
  wpList_store_row hgd _ x y ho b _ hx hy _ _ hr (by rw [S.size, List.size_toArray, hd]) (by rw [List.size_toArray, List.size_toArray, hl, hd]) (all_oneCell_toArray h1) h

theorem below_row {B g : Nat} {w0 w : World} (hb : Below B w0 w) (hBg : B ≤ g) (cs : Array Value) : Below B w0 (w.setRow g cs) :=
  hb.trans ⟨rfl, rfl, rfl, by simp, fun k hk => setRow_other w g k cs (by omega)⟩
theorem below_set {B : Nat} {w : World} {x : Addr} (hB : B ≤ w.heap.size) (hx : B ≤ x.block) (v : Value) : Below B w (w.setCell x v) :=
  ⟨rfl, rfl, rfl, by simp, fun k hk => heap_setCell_other w x k v (by omega)⟩

/-- Into a new variable: the world behind it is a letter. -/
theorem wpList_storeNew {ops : Array Oper} {rest : List Oper} {o : Oper} {a : Act} {Q : Exit → Act → World → Prop} {t : TypeId} {n : Nat} (S : Is t n) (hgd : o.guard = none) (x y : Operand) (ho : o.op = .store t x y) (w2 : World)
    (cs ds : List Value) (hx : a.eval x = .pointer (some ⟨w2.heap.size, 0, none⟩)) (hy : a.eval y = .agg ds.toArray) (hl : cs.length = n) (hd : ds.length = n) (h1 : ∀ v ∈ ds, v.oneCell' = true)
    (h : ∀ w3, CRow w3 w2.heap.size t ds → Below w2.heap.size w2 w3 → wpList Tryz.prog ops Q rest (a.put o.dst undef) w3) : wpList Tryz.prog ops Q (o :: rest) a (w2.alloc (.cells cs.toArray t)) :=
  wpList_store S hgd x y ho _ cs ds hx hy (crow_new w2 t cs) hl hd h1 (h _ ((crow_new w2 t cs).row _) (below_row (below_al (Below.refl _ _) _) (Nat.le_refl _) _))

end St
end Go.Proofs.YtdgcnaijndocnaaGreatDoor

/-
  Worlds that are the same but for some blocks.
-/
set_option linter.unusedSimpArgs false
set_option linter.unusedVariables false
namespace Go.Proofs.YtdgcnaijndocnaaGreatDoor
open Go.RowKit Vc St
namespace Ld

/-- Nothing has turned but blocks that are P. -/
structure But (P : Nat → Prop) (w w' : World) : Prop where
  os : w'.os = w.os
  tape : w'.tape = w.tape
  output : w'.output = w.output
  size : w.heap.size ≤ w'.heap.size
  block : ∀ k, k < w.heap.size → ¬ P k → w'.heap[k]? = w.heap[k]?

theorem But.refl (P : Nat → Prop) (w : World) : But P w w := ⟨rfl, rfl, rfl, Nat.le_refl _, fun _ _ _ => rfl⟩
theorem But.trans {P : Nat → Prop} {a b c : World} (h : But P a b) (k : But P b c) : But P a c :=
  ⟨k.os.trans h.os, k.tape.trans h.tape, k.output.trans h.output, Nat.le_trans h.size k.size, fun i hi hp => (k.block i (Nat.lt_of_lt_of_le hi h.size) hp).trans (h.block i hi hp)⟩
theorem but_of {P : Nat → Prop} {a b : World} (h : Below a.heap.size a b) : But P a b := ⟨h.os, h.tape, h.output, h.size, fun i hi _ => h.block i hi⟩
theorem But.then {P : Nat → Prop} {a b c : World} (h : But P a b) (k : Below b.heap.size b c) : But P a c := h.trans (but_of k)
theorem But.set {P : Nat → Prop} {a b : World} (h : But P a b) {p : Addr} (v : Value) (hp : P p.block) : But P a (b.setCell p v) :=
  h.trans ⟨rfl, rfl, rfl, by simp, fun k hk hn => heap_setCell_other b p k v (fun e => hn (e ▸ hp))⟩
/-- A cell of a block that is new. -/
theorem But.setNew {P : Nat → Prop} {a b : World} (h : But P a b) {p : Addr} (v : Value) (hp : a.heap.size ≤ p.block) : But P a (b.setCell p v) :=
  ⟨h.os, h.tape, h.output, by simp [h.size], fun k hk hn => (heap_setCell_other b p k v (by omega)).trans (h.block k hk hn)⟩
/-- All that turned lies from B on. -/
theorem But.below {P : Nat → Prop} {B : Nat} {w0 a b : World} (h : But P a b) (h0 : Below B w0 a) (hB : B ≤ a.heap.size) (hP : ∀ k, P k → B ≤ k) : Below B w0 b :=
  h0.trans ⟨h.os, h.tape, h.output, h.size, fun k hk => h.block k (by omega) (fun q => by have := hP k q; omega)⟩
theorem But.cell {P : Nat → Prop} {a b : World} (h : But P a b) {x : Addr} {v : Value} (hc : a.cell? x = some v) (hx : ¬ P x.block) : b.cell? x = some v := by
  have hlt := World.block_lt_of_cell? a _ hc
  rw [World.cell?_of_block (h.block x.block hlt hx)]
  exact hc
theorem addr_block (x : Addr) (k : Nat) : (x.add k).block = x.block := by unfold Addr.add; split <;> rfl
theorem crowBut {P : Nat → Prop} {a b : World} {g : Nat} {t : TypeId} {cs : List Value} (h : CRow a g t cs) (k : But P a b) (hx : ¬ P g) : CRow b g t cs := by
  unfold CRow; rw [k.block g h.lt hx]; exact h
end Ld
end Go.Proofs.YtdgcnaijndocnaaGreatDoor

/-
  Matrices of package mat as values (rows, columns and 36 numbers), the numbers a function of the place.
-/
set_option linter.unusedSimpArgs false
set_option linter.unusedVariables false
namespace Go.Proofs.YtdgcnaijndocnaaGreatDoor
open Go.RowKit Vc
namespace Mt

theorem wpList_wanted {ops : Array Oper} {rest : List Oper} {o : Oper} {a : Act} {w : World} {Q : Exit → Act → World → Prop} (hw : Region.wanted o (yielded ops a.tmps) = true)
    (h : ∀ K : Act → World → Prop, (∀ a w, wpList Tryz.prog ops Q rest a w → K a w) → o.wp Tryz.prog a w K Q) : wpList Tryz.prog ops Q (o :: rest) a w :=
  wpList_step fun K hK => by rw [if_pos hw]; exact h K hK

/-- A number is loaded. -/
theorem wpList_loadF {ops : Array Oper} {rest : List Oper} {o : Oper} {a : Act} {w : World} {Q : Exit → Act → World → Prop} (hw : Region.wanted o (yielded ops a.tmps) = true) (x : Operand) (ho : o.op = .load 3 x)
    (b f : Nat) (v : Int) (hx : a.eval x = .pointer (some ⟨b, f, none⟩)) (hc : w.cell? ⟨b, f, none⟩ = some (.int .i64 v))
    (h : wpList Tryz.prog ops Q rest (a.put o.dst (.int .i64 v)) w) : wpList Tryz.prog ops Q (o :: rest) a w :=
  wpList_wanted hw fun _ hK => by
    unfold Oper.wp execOp
    have hL : (loadVar 3 ⟨b, f, none⟩).run Tryz.prog w = .ok (.int .i64 v) w := by
      simp [loadVar, isAgg, underlying, Tryz.underlying3, hc, Result.andThen]
    simp only [ho, hx, Instr.loadAt, Instr.sureAddr, Sem.run_bind, Sem.run_pure, Result.andThen_ok, hL]
    exact hK _ _ h

/-- The numbers F of rows of c each, one row behind the other, the first t of them; noughts behind. -/
def mpart (c : Nat) (F : Nat → Nat → Int) (t : Nat) : Nat → Int := fun k => if k < t then F (k / c) (k % c) else 0
/-- Those of n rows. -/
def mz (n c : Nat) (F : Nat → Nat → Int) : Nat → Int := mpart c F (n * c)

theorem place_div {c i j : Nat} (hj : j < c) : (i * c + j) / c = i := by rw [Nat.mul_comm i c, Nat.mul_add_div (by omega), Nat.div_eq_of_lt hj, Nat.add_zero]
theorem place_mod {c i j : Nat} (hj : j < c) : (i * c + j) % c = j := by rw [Nat.mul_comm i c, Nat.mul_add_mod, Nat.mod_eq_of_lt hj]
theorem place_lt {n c i j : Nat} (hi : i < n) (hj : j < c) : i * c + j < n * c := by
  have h : (i + 1) * c ≤ n * c := Nat.mul_le_mul_right c hi
  rw [Nat.succ_mul] at h
  omega
theorem place_le {n c i : Nat} (hi : i < n) : i * c + c ≤ n * c := by
  have h : (i + 1) * c ≤ n * c := Nat.mul_le_mul_right c hi
  rw [Nat.succ_mul] at h
  exact h
theorem size_le {n c : Nat} (hn : n ≤ 6) (hc : c ≤ 6) : n * c ≤ 36 := Nat.mul_le_mul hn hc
theorem mz_at {n c i j : Nat} {F : Nat → Nat → Int} (hi : i < n) (hj : j < c) : mz n c F (i * c + j) = F i j := by
  unfold mz mpart
  rw [if_pos (place_lt hi hj), place_div hj, place_mod hj]
theorem mz_behind {n c k : Nat} {F : Nat → Nat → Int} (h : n * c ≤ k) : mz n c F k = 0 := by
  unfold mz mpart
  rw [if_neg (by omega)]
/-- Numbers of 64 bits. -/
def B2 (F : Nat → Nat → Int) : Prop := ∀ i, B64 (F i)

end Mt
end Go.Proofs.YtdgcnaijndocnaaGreatDoor

/-
  Matrices (mat): which sizes may be, a row, a copy, Check.
-/
set_option linter.unusedSimpArgs false
set_option linter.unusedVariables false
namespace Go.Proofs.YtdgcnaijndocnaaGreatDoor
open Go.RowKit Vc Mt

namespace Mt
theorem Tryz.arrM : Tryz.prog.underlying 30 = some (.array (Tryz.prog.arrayLen 30) (Tryz.prog.elem 30)) := by kernel_rfl
theorem Tryz.lenM : Tryz.prog.arrayLen 30 = 36 := by kernel_rfl
theorem Tryz.elemM : Tryz.prog.elem 30 = 2 := by kernel_rfl
theorem run_size8 (w : World) : (sizeOf 2).run Tryz.prog w = .ok 1 w := by
  obtain ⟨i0, hi, hz0, hz1, hz2⟩ := info_parts infoI64
  simp [sizeOf, typeInfo, hi, hz1]
end Mt

end Go.Proofs.YtdgcnaijndocnaaGreatDoor

/-
  Matrices (mat): a copy of numbers, Check.
-/
set_option linter.unusedSimpArgs false
set_option linter.unusedVariables false
namespace Go.Proofs.YtdgcnaijndocnaaGreatDoor
open Go.RowKit Vc Mt

namespace Mt
theorem own_whole {B : Nat} {w0 w : World} {g n : Nat} {z : Nat → Int} (h : Own B w0 w (.slice (some ⟨g, 0, none⟩) n n) n z) : w.heap[g]? = some (.cells (vals n z).toArray 2 (0, 0)) := by
  obtain ⟨h1, h2⟩ := h.row
  rcases h2 with ⟨e, _⟩ | ⟨g', cap, cur, e, hb, hg, hn, hc, hs, ht⟩
  · cases e
  · injection e with e1 e2 e3
    injection e1 with e1
    injection e1 with e1
    subst e1 e3
    have e4 : cur.toList = vals n z := by
      rw [← ht, List.take_of_length_le (by simp; omega)]
    rw [hg, ← e4]

end Mt

namespace Mt
end Mt

namespace Mt
end Mt

end Go.Proofs.YtdgcnaijndocnaaGreatDoor

/-
  Matrices (mat): number by number, each told by a closure; one theorem a closure. (By py/MtD.py.)
-/
set_option linter.unusedSimpArgs false
set_option linter.unusedVariables false
namespace Go.Proofs.YtdgcnaijndocnaaGreatDoor
open Go.RowKit Vc Mt

namespace Mt
end Mt

end Go.Proofs.YtdgcnaijndocnaaGreatDoor

/-
  Matrices (mat): At, Row, Eye, Turn, or their errors.
-/
set_option linter.unusedSimpArgs false
set_option linter.unusedVariables false
namespace Go.Proofs.YtdgcnaijndocnaaGreatDoor
open Go.RowKit Vc Mt

namespace Mt
end Mt

end Go.Proofs.YtdgcnaijndocnaaGreatDoor

/-
  Matrices (mat): Of, Turn, or their errors.
-/
set_option linter.unusedSimpArgs false
set_option linter.unusedVariables false
namespace Go.Proofs.YtdgcnaijndocnaaGreatDoor
open Go.RowKit Vc Mt

namespace Mt
end Mt

end Go.Proofs.YtdgcnaijndocnaaGreatDoor

/-
  Factors of package ldl as a value (how many, 36 numbers of L, 6 of D), the steps' bool, and worlds that are the same but for some blocks.
-/
set_option linter.unusedSimpArgs false
set_option linter.unusedVariables false
namespace Go.Proofs.YtdgcnaijndocnaaGreatDoor
open Go.RowKit Vc Mt St
namespace Ld

/-- How many, L and D as values. -/
def fvals (n : Int) (z d : Nat → Int) : List Value := .int .i64 n :: (vals 36 z ++ vals 6 d)
theorem fvals_len (n : Int) (z d : Nat → Int) : (fvals n z d).length = 43 := by simp [fvals, vals_len]
theorem fvals_n (n : Int) (z d : Nat → Int) : (fvals n z d)[0]? = some (.int .i64 n) := rfl
theorem fvals_z {n : Int} {z d : Nat → Int} {k : Nat} (h : k < 36) : (fvals n z d)[k + 1]? = some (.int .i64 (z k)) := by
  show (vals 36 z ++ vals 6 d)[k]? = _
  rw [List.getElem?_append_left (by rw [vals_len]; exact h)]
  exact vals_at h
theorem fvals_d {n : Int} {z d : Nat → Int} {k : Nat} (h : k < 6) : (fvals n z d)[k + 37]? = some (.int .i64 (d k)) := by
  show (vals 36 z ++ vals 6 d)[k + 36]? = _
  rw [List.getElem?_append_right (by rw [vals_len]; omega), vals_len, Nat.add_sub_cancel]
  exact vals_at h
theorem isF : Is 33 43 := ⟨by kernel_rfl, ⟨_, Tryz.underlying33, rfl⟩⟩

/-- They are all that block g holds. -/
abbrev FRow (w : World) (g : Nat) (n : Int) (z d : Nat → Int) : Prop := CRow w g 33 (fvals n z d)
theorem FRow.n {w : World} {g : Nat} {n : Int} {z d : Nat → Int} (h : FRow w g n z d) : w.cell? ⟨g, 0, none⟩ = some (.int .i64 n) := h.cell (fvals_n n z d) rfl
theorem FRow.z {w : World} {g : Nat} {n : Int} {z d : Nat → Int} (h : FRow w g n z d) {k o : Nat} (hk : k < 36) (ho : o = k + 1) : w.cell? ⟨g, o, none⟩ = some (.int .i64 (z k)) := h.cell (fvals_z hk) ho
theorem FRow.d {w : World} {g : Nat} {n : Int} {z d : Nat → Int} (h : FRow w g n z d) {k o : Nat} (hk : k < 6) (ho : o = k + 37) : w.cell? ⟨g, o, none⟩ = some (.int .i64 (d k)) := h.cell (fvals_d hk) ho
/-- A piece of L. -/
theorem FRow.sl {w : World} {g : Nat} {n : Int} {z d : Nat → Int} (h : FRow w g n z d) {p m ca o : Nat} (hp : p + m ≤ 36) (hc : m ≤ ca) (hc2 : ca ≤ 9223372036854775807) (ho : o = p + 1) : Sl w (some ⟨g, o, none⟩) m ca (fun j => z (p + j)) :=
  ⟨hc, hc2, fun k hk => ⟨_, rfl, by rw [Addr.add_lit]; exact h.z (by omega) (by omega)⟩⟩

/-- The steps' bool is all that block s holds. -/
abbrev SRow (w : World) (s : Nat) (o : Bool) : Prop := CRow w s 115 [.bool o]
theorem SRow.o {w : World} {s : Nat} {o : Bool} (h : SRow w s o) : w.cell? ⟨s, 0, none⟩ = some (.bool o) := h.cell (k := 0) rfl rfl
theorem SRow.set {w : World} {s : Nat} {o : Bool} (h : SRow w s o) (v : Bool) : SRow (w.setCell ⟨s, 0, none⟩ (.bool v)) s v := CRow.set h 0 (.bool v)

end Ld
end Go.Proofs.YtdgcnaijndocnaaGreatDoor
