/-
  Worlds that are the same but for some blocks.
-/
import Derived.Test.YtlomfjacgomhdaaDoorStA
import Derived.Test.YtlomfjacgomhdaaDoorVcA
set_option linter.unusedSimpArgs false
set_option linter.unusedVariables false
namespace Go.Proofs.YtlomfjacgomhdaaDoor
open Go.RowKit Vc St
namespace Ld

/-- Nothing has turned but blocks that are P. -/
structure But (P : Nat → Prop) (w w' : World) : Prop where
  os : w'.os = w.os
  tape : w'.tape = w.tape
  output : w'.output = w.output
  size : w.heap.size ≤ w'.heap.size
  block : ∀ k, k < w.heap.size → ¬ P k → w'.heap[k]? = w.heap[k]?

theorem But.refl (P : Nat → Prop) (w : World) : But P w w := ⟨rfl, rfl, rfl, Nat.le_refl _, fun _ _ _ => rfl⟩
theorem But.trans {P : Nat → Prop} {a b c : World} (h : But P a b) (k : But P b c) : But P a c :=
  ⟨k.os.trans h.os, k.tape.trans h.tape, k.output.trans h.output, Nat.le_trans h.size k.size, fun i hi hp => (k.block i (Nat.lt_of_lt_of_le hi h.size) hp).trans (h.block i hi hp)⟩
theorem but_of {P : Nat → Prop} {a b : World} (h : Below a.heap.size a b) : But P a b := ⟨h.os, h.tape, h.output, h.size, fun i hi _ => h.block i hi⟩
theorem But.then {P : Nat → Prop} {a b c : World} (h : But P a b) (k : Below b.heap.size b c) : But P a c := h.trans (but_of k)
theorem But.mono {P Q : Nat → Prop} {a b : World} (h : But P a b) (e : ∀ k, P k → Q k) : But Q a b := ⟨h.os, h.tape, h.output, h.size, fun i hi hp => h.block i hi fun q => hp (e i q)⟩
theorem But.al {P : Nat → Prop} {a b : World} (h : But P a b) (o : Obj) : But P a (b.alloc o) := h.then (below_al (Below.refl _ _) o)
theorem But.drew {P : Nat → Prop} {a b : World} (h : But P a b) : But P a b.drew := ⟨h.os, h.tape, h.output, h.size, h.block⟩
theorem But.drewN {P : Nat → Prop} {a b : World} (h : But P a b) (n : Nat) : But P a (b.drewN n) := ⟨h.os, h.tape, h.output, h.size, h.block⟩
theorem But.set {P : Nat → Prop} {a b : World} (h : But P a b) {p : Addr} (v : Value) (hp : P p.block) : But P a (b.setCell p v) :=
  h.trans ⟨rfl, rfl, rfl, by simp, fun k hk hn => heap_setCell_other b p k v (fun e => hn (e ▸ hp))⟩
/-- A cell of a block that is new. -/
theorem But.setNew {P : Nat → Prop} {a b : World} (h : But P a b) {p : Addr} (v : Value) (hp : a.heap.size ≤ p.block) : But P a (b.setCell p v) :=
  ⟨h.os, h.tape, h.output, by simp [h.size], fun k hk hn => (heap_setCell_other b p k v (by omega)).trans (h.block k hk hn)⟩
theorem But.rowNew {P : Nat → Prop} {a b : World} (h : But P a b) {g : Nat} (cs : Array Value) (hp : a.heap.size ≤ g) : But P a (b.setRow g cs) :=
  ⟨h.os, h.tape, h.output, by simp [h.size], fun k hk hn => (setRow_other b g k cs (by omega)).trans (h.block k hk hn)⟩
/-- All that turned lies from B on. -/
theorem But.below {P : Nat → Prop} {B : Nat} {w0 a b : World} (h : But P a b) (h0 : Below B w0 a) (hB : B ≤ a.heap.size) (hP : ∀ k, P k → B ≤ k) : Below B w0 b :=
  h0.trans ⟨h.os, h.tape, h.output, h.size, fun k hk => h.block k (by omega) (fun q => by have := hP k q; omega)⟩
theorem But.cell {P : Nat → Prop} {a b : World} (h : But P a b) {x : Addr} {v : Value} (hc : a.cell? x = some v) (hx : ¬ P x.block) : b.cell? x = some v := by
  have hlt := World.block_lt_of_cell? a _ hc
  rw [World.cell?_of_block (h.block x.block hlt hx)]
  exact hc
theorem addr_block (x : Addr) (k : Nat) : (x.add k).block = x.block := by unfold Addr.add; split <;> rfl
theorem slBut {P : Nat → Prop} {a b : World} {ao : Option Addr} {n ca : Nat} {z : Nat → Int} (h : Sl a ao n ca z) (k : But P a b) (hx : ∀ x, ao = some x → ¬ P x.block) : Sl b ao n ca z :=
  ⟨h.le, h.cap, fun j hj => by
    obtain ⟨x, e, hc⟩ := h.at' j hj
    exact ⟨x, e, k.cell hc (by rw [addr_block]; exact hx x e)⟩⟩
theorem crowBut {P : Nat → Prop} {a b : World} {g : Nat} {t : TypeId} {cs : List Value} (h : CRow a g t cs) (k : But P a b) (hx : ¬ P g) : CRow b g t cs := by
  unfold CRow; rw [k.block g h.lt hx]; exact h
theorem ownBut {P : Nat → Prop} {B : Nat} {w0 a b : World} {v : Value} {n : Nat} {z : Nat → Int} (h : Own B w0 a v n z) (k : But P a b) (hB : ∀ q, P q → B ≤ q) (hx : ∀ g, v.ownBlock = some g → ¬ P g) : Own B w0 b v n z := by
  refine ⟨?_, k.below h.below h.base hB, Nat.le_trans h.base k.size⟩
  obtain ⟨h1, h2⟩ := h.row
  refine ⟨h1, ?_⟩
  rcases h2 with h2 | ⟨g, cap, cur, rfl, hb, hg, hn, hc, hs, ht⟩
  · exact Or.inl h2
  · refine Or.inr ⟨g, cap, cur, rfl, hb, ?_, hn, hc, hs, ht⟩
    have hlt : g < a.heap.size := by
      rcases Nat.lt_or_ge g a.heap.size with q | q
      · exact q
      · rw [Array.getElem?_eq_none q] at hg; cases hg
    exact (k.block g hlt (hx g rfl)).trans hg
end Ld
end Go.Proofs.YtlomfjacgomhdaaDoor
