/-
  Two lists of rows, appended to one after the other: rows of the call's own, and one row of elder memory again and again.
-/
import Derived.Test.YtlomfjacgomhdaaDoorStL
set_option linter.unusedSimpArgs false
set_option linter.unusedVariables false
namespace Go.Proofs.YtlomfjacgomhdaaDoor
open Go.RowKit Vc Mt St Ld
namespace Ls

/-- nk rows K of m numbers each in vK, from block o on; nb times the slice u in vB; below o nothing has turned since w0. -/
structure Dup (o : Nat) (w0 w : World) (vK vB : Value) (nk nb m : Nat) (K : Nat → Nat → Int) (u : Value) : Prop where
  k : ∃ S, w.ownsRow o 22 1 vK nk (svals nk S) ∧ ∀ j, j < nk → ∃ r c, S j = .slice r m c ∧ Sl w r m c (K j) ∧ ∀ x, r = some x → vK.ownBlock ≠ some x.block ∧ vB.ownBlock ≠ some x.block
  b : w.ownsRow o 22 1 vB nb (svals nb fun _ => u)
  ap : ∀ q, vK.ownBlock = some q → vB.ownBlock ≠ some q
  below : Below o w0 w
  le : o ≤ w.heap.size
theorem Dup.nil {o : Nat} {w0 w : World} (hb : Below o w0 w) (h : o ≤ w.heap.size) (m : Nat) (K : Nat → Nat → Int) (u : Value) : Dup o w0 w (.slice none 0 0) (.slice none 0 0) 0 0 m K u :=
  ⟨⟨fun _ => undef, World.ownsRow_nil _ _ _ _, fun j hj => by omega⟩, World.ownsRow_nil _ _ _ _, fun q e => (by cases e), hb, h⟩
theorem Dup.keep {o : Nat} {w0 w w' : World} {vK vB : Value} {nk nb m : Nat} {K : Nat → Nat → Int} {u : Value} (h : Dup o w0 w vK vB nk nb m K u) (kk : Below w.heap.size w w') : Dup o w0 w' vK vB nk nb m K u := by
  obtain ⟨S, k1, k2⟩ := h.k
  refine ⟨⟨S, row_keep k1 kk, fun j hj => ?_⟩, row_keep h.b kk, h.ap, h.below.trans (kk.mono h.le), Nat.le_trans h.le kk.size⟩
  obtain ⟨r, c, e1, e2, e3⟩ := k2 j hj
  exact ⟨r, c, e1, e2.keep kk, e3⟩
theorem Dup.apart {o : Nat} {w0 w : World} {vK vB : Value} {nk nb m : Nat} {K : Nat → Nat → Int} {u : Value} (h : Dup o w0 w vK vB nk nb m K u) {b : Nat} (hb : w.heap.size ≤ b) : vK.ownBlock ≠ some b ∧ vB.ownBlock ≠ some b := by
  obtain ⟨S, k1, _⟩ := h.k
  exact ⟨fun e => by have := (k1.lt _ e).2; omega, fun e => by have := (h.b.lt _ e).2; omega⟩
theorem Dup.gridK {o : Nat} {w0 w : World} {vK vB : Value} {nk nb m : Nat} {K : Nat → Nat → Int} {u : Value} (h : Dup o w0 w vK vB nk nb m K u) : ∃ lo cm, vK = .slice lo nk cm ∧ Grid w lo nk cm m K := by
  obtain ⟨S, h1, h2⟩ := h.k
  have hL : Lst o w w vK nk m K := ⟨⟨S, h1, fun k hk => by obtain ⟨r, c, e1, e2, e3⟩ := h2 k hk; exact ⟨r, c, e1, e2, fun x hx => (e3 x hx).1⟩⟩, Below.refl _ _, h.le⟩
  exact hL.grid
theorem Dup.gridB {o : Nat} {w0 w : World} {vK vB : Value} {nk nb m : Nat} {K : Nat → Nat → Int} {ra : Option Addr} {rc q : Nat} {f : Nat → Int} (h : Dup o w0 w vK vB nk nb m K (.slice ra q rc)) (hs : Sl w ra q rc f) (ho : ∀ x, ra = some x → x.block < o) : ∃ lo cm, vB = .slice lo nb cm ∧ Grid w lo nb cm q (fun _ => f) := by
  have hL : Lst o w w vB nb q (fun _ => f) := ⟨⟨_, h.b, fun k hk => ⟨ra, rc, rfl, hs, fun x hx e => by have := (h.b.lt _ e).1; have := ho x hx; omega⟩⟩, Below.refl _ _, h.le⟩
  exact hL.grid
theorem svals_same (n : Nat) (u : Value) : svals n (fun _ => u) ++ [u] = svals (n + 1) (fun _ => u) := by
  rw [svals_push]
  unfold svals
  exact List.map_congr_left fun k _ => by split <;> rfl

section
variable {ops : Array Oper} {rest : List Oper} {op : Oper} {ac : Act} {Q : Exit → Act → World → Prop} {wr : World}
/-- A row is appended to the first. -/
theorem dupK (hgd : op.guard = none) (s x : Operand)
    (ho : op.op = .call { callee := .builtin .append, args := #[s, x], argTypes := #[39, 39] }) (o : Nat) (w0 : World) (vK vB : Value) (nk nb m : Nat) (K : Nat → Nat → Int) (u : Value) (hs : ac.eval s = vK) (hL : Dup o w0 wr vK vB nk nb m K u) (hm : 0 < m) (hl : nk ≤ 2000000)
    (ra : Option Addr) (rc : Nat) (hr : Sl wr ra m rc (K nk)) (hra : ∀ x, ra = some x → vK.ownBlock ≠ some x.block ∧ vB.ownBlock ≠ some x.block)
    (hx : ac.eval x = .slice (some ⟨wr.heap.size, 0, none⟩) 1 1)
    (h : ∀ g cap w', Dup o w0 w' (.slice (some ⟨g, 0, none⟩) (nk + 1) cap) vB (nk + 1) nb m K u → wpList Tryd.prog ops Q rest (ac.put op.dst (.slice (some ⟨g, 0, none⟩) (nk + 1) cap)) w') : wpList Tryd.prog ops Q (op :: rest) ac (wr.alloc (.cells #[.slice ra m rc] 22)) := by
  obtain ⟨i0, hi, hz0, hz1, hz2⟩ := info_parts infoSl
  obtain ⟨S, p1, p2⟩ := hL.k
  have hle := hL.le
  refine wpList_append_lies _ hgd s x 39 ho o 22 i0 (.slice none 0 0) 1 24 Tryd.underlying39 hi hz0 hz1 hz2 rfl (by decide) vK nk (svals nk S) hs (p1.alloc _) ⟨wr.heap.size, 0, none⟩ 1 1 [.slice ra m rc] hx rfl (cell_one_new _ _ _) (by intro u hu; simp at hu; subst hu; rfl) (by omega) (by unfold maxLen; omega) (by omega) (by simp; omega) _ rfl ?_
  intro g cap w' o1 o2 o3 o4
  rw [svals_push] at o1
  have ba : Below o w0 (wr.alloc (.cells #[.slice ra m rc] 22)) := hL.below.alloc hle _
  have bb : But (fun q => vK.ownBlock = some q) wr w' := (but_of (below_al (Below.refl _ wr) _)).trans (but_grown o2)
  have hg : ∀ q, q < wr.heap.size → vK.ownBlock ≠ some q → Value.ownBlock (.slice (some ⟨g, 0, none⟩) (nk + 1) cap) ≠ some q := fun q hq e1 e2 => by
    have e3 : g = q := by simpa [Value.ownBlock] using e2
    rcases o3 with o3 | o3
    · exact e1 (by rw [o3, e3])
    · simp at o3; omega
  have key : ∀ {r : Option Addr} {c : Nat} {z : Nat → Int}, Sl wr r m c z → (∀ x, r = some x → vK.ownBlock ≠ some x.block ∧ vB.ownBlock ≠ some x.block) → Sl w' r m c z ∧ ∀ x, r = some x → Value.ownBlock (.slice (some ⟨g, 0, none⟩) (nk + 1) cap) ≠ some x.block ∧ vB.ownBlock ≠ some x.block := fun hs hx =>
    ⟨slBut hs bb (fun x e => (hx x e).1), fun x e => ⟨hg _ (sl_lt hs hm x e) (hx x e).1, (hx x e).2⟩⟩
  refine h g cap w' ⟨⟨_, o1, fun j hj => ?_⟩, rowBut hL.b bb (fun q e e2 => hL.ap q e2 e), fun q e e2 => hg q (hL.b.lt q e2).2 (fun e' => hL.ap q e' e2) e, ba.grown o2 (by simp; omega) (fun q e => (p1.lt q e).1), Nat.le_trans hle bb.size⟩
  by_cases hjb : j < nk
  · obtain ⟨r, c, e1, e2, e3⟩ := p2 j hjb
    obtain ⟨e4, e5⟩ := key e2 e3
    exact ⟨r, c, by simp only [if_pos hjb]; exact e1, e4, e5⟩
  · obtain rfl : j = nk := by omega
    obtain ⟨e4, e5⟩ := key hr hra
    exact ⟨ra, rc, by simp only [if_neg hjb], e4, e5⟩
/-- The slice is appended to the second. -/
theorem dupB (hgd : op.guard = none) (s x : Operand)
    (ho : op.op = .call { callee := .builtin .append, args := #[s, x], argTypes := #[39, 39] }) (o : Nat) (w0 : World) (vK vB : Value) (nk nb m : Nat) (K : Nat → Nat → Int) (ra : Option Addr) (q rc : Nat) (hs : ac.eval s = vB) (hL : Dup o w0 wr vK vB nk nb m K (.slice ra q rc)) (hm : 0 < m) (hl : nb ≤ 2000000)
    (hx : ac.eval x = .slice (some ⟨wr.heap.size, 0, none⟩) 1 1)
    (h : ∀ g cap w', Dup o w0 w' vK (.slice (some ⟨g, 0, none⟩) (nb + 1) cap) nk (nb + 1) m K (.slice ra q rc) → wpList Tryd.prog ops Q rest (ac.put op.dst (.slice (some ⟨g, 0, none⟩) (nb + 1) cap)) w') : wpList Tryd.prog ops Q (op :: rest) ac (wr.alloc (.cells #[.slice ra q rc] 22)) := by
  obtain ⟨i0, hi, hz0, hz1, hz2⟩ := info_parts infoSl
  obtain ⟨S, p1, p2⟩ := hL.k
  have hle := hL.le
  refine wpList_append_lies _ hgd s x 39 ho o 22 i0 (.slice none 0 0) 1 24 Tryd.underlying39 hi hz0 hz1 hz2 rfl (by decide) vB nb (svals nb fun _ => .slice ra q rc) hs (hL.b.alloc _) ⟨wr.heap.size, 0, none⟩ 1 1 [.slice ra q rc] hx rfl (cell_one_new _ _ _) (by intro u hu; simp at hu; subst hu; rfl) (by omega) (by unfold maxLen; omega) (by omega) (by simp; omega) _ rfl ?_
  intro g cap w' o1 o2 o3 o4
  rw [svals_same] at o1
  have ba : Below o w0 (wr.alloc (.cells #[.slice ra q rc] 22)) := hL.below.alloc hle _
  have bb : But (fun q => vB.ownBlock = some q) wr w' := (but_of (below_al (Below.refl _ wr) _)).trans (but_grown o2)
  have hg : ∀ q, q < wr.heap.size → vB.ownBlock ≠ some q → Value.ownBlock (.slice (some ⟨g, 0, none⟩) (nb + 1) cap) ≠ some q := fun q hq e1 e2 => by
    have e3 : g = q := by simpa [Value.ownBlock] using e2
    rcases o3 with o3 | o3
    · exact e1 (by rw [o3, e3])
    · simp at o3; omega
  refine h g cap w' ⟨⟨S, rowBut p1 bb (fun q e e2 => hL.ap q e e2), fun j hj => ?_⟩, o1, fun q e e2 => hg q (p1.lt q e).2 (hL.ap q e) e2, ba.grown o2 (by simp; omega) (fun q e => (hL.b.lt q e).1), Nat.le_trans hle bb.size⟩
  obtain ⟨r, c, e1, e2, e3⟩ := p2 j hj
  exact ⟨r, c, e1, slBut e2 bb (fun x e => (e3 x e).2), fun x e => ⟨(e3 x e).1, hg _ (sl_lt e2 hm x e) (e3 x e).2⟩⟩
end
end Ls
end Go.Proofs.YtlomfjacgomhdaaDoor
