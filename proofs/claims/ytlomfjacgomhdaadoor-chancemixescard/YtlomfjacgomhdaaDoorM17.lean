/-
  Lists of rows: appended to, handed on, held against each other (rowsOf, sameRows, matOf of the laws of layer 8).
-/
import Derived.Test.YtlomfjacgomhdaaDoorM3
import Derived.Test.YtlomfjacgomhdaaDoorM4
import Derived.Deep.AppendLies
import Derived.Deep.RegionHeld3
set_option linter.unusedSimpArgs false
set_option linter.unusedVariables false
namespace Go.Proofs.YtlomfjacgomhdaaDoor
open Go.RowKit Vc Mt

namespace Mt
theorem infoSl : (Tryd.prog.info? 22).map (fun i => (i.zero, i.size, i.bytes)) = some (some (.slice none 0 0), 1, 24) := by kernel_rfl

def svals (n : Nat) (S : Nat → Value) : List Value := (List.range n).map S
theorem svals_len (n : Nat) (S : Nat → Value) : (svals n S).length = n := by simp [svals]
theorem svals_at {n k : Nat} {S : Nat → Value} (h : k < n) : (svals n S)[k]? = some (S k) := by simp [svals, h]
theorem svals_push (n : Nat) (S : Nat → Value) (v : Value) : svals n S ++ [v] = svals (n + 1) (fun k => if k < n then S k else v) := by
  unfold svals
  rw [List.range_succ, List.map_append]
  congr 1
  · exact List.map_congr_left fun k hk => by rw [if_pos (List.mem_range.1 hk)]
  · simp

/-- n rows of m numbers each, F. -/
def Grid (w : World) (lo : Option Addr) (n cm m : Nat) (F : Nat → Nat → Int) : Prop := ∃ A C, Sls w lo n cm A (fun _ => m) C ∧ ∀ k, k < n → Sl w (A k) m (C k) (F k)
theorem Grid.keep {w w' : World} {lo : Option Addr} {n cm m : Nat} {F : Nat → Nat → Int} (h : Grid w lo n cm m F) (b : Below w.heap.size w w') : Grid w' lo n cm m F := by
  obtain ⟨A, C, h1, h2⟩ := h
  exact ⟨A, C, h1.keep b, fun k hk => (h2 k hk).keep b⟩
theorem Grid.congr {w : World} {lo : Option Addr} {n cm m : Nat} {F G : Nat → Nat → Int} (h : Grid w lo n cm m F) (e : ∀ i j, i < n → j < m → F i j = G i j) : Grid w lo n cm m G := by
  obtain ⟨A, C, h1, h2⟩ := h
  exact ⟨A, C, h1, fun k hk => (h2 k hk).congr fun j hj => e k j hk hj⟩

/-- v is a list of the call's own that holds n rows of m numbers each, F; below B nothing has turned since w0. -/
structure Lst (B : Nat) (w0 w : World) (v : Value) (n m : Nat) (F : Nat → Nat → Int) : Prop where
  row : ∃ S, w.ownsRow B 22 1 v n (svals n S) ∧ ∀ j, j < n → ∃ a c, S j = .slice a m c ∧ Sl w a m c (F j) ∧ ∀ x, a = some x → v.ownBlock ≠ some x.block
  below : Below B w0 w
  base : B ≤ w.heap.size

theorem Lst.nil {B : Nat} {w0 w : World} (h : Below B w0 w) (hB : B ≤ w.heap.size) (m : Nat) (F : Nat → Nat → Int) : Lst B w0 w (.slice none 0 0) 0 m F := ⟨⟨fun _ => undef, World.ownsRow_nil _ _ _ _, fun j hj => by omega⟩, h, hB⟩
theorem Lst.keep {B : Nat} {w0 w w' : World} {v : Value} {n m : Nat} {F : Nat → Nat → Int} (h : Lst B w0 w v n m F) (b : Below w.heap.size w w') : Lst B w0 w' v n m F := by
  obtain ⟨S, h1, h2⟩ := h.row
  refine ⟨⟨S, row_keep h1 b, fun j hj => ?_⟩, h.below.trans (b.mono h.base), Nat.le_trans h.base b.size⟩
  obtain ⟨a, c, e1, e2, e3⟩ := h2 j hj
  exact ⟨a, c, e1, e2.keep b, e3⟩
theorem Lst.apart {B : Nat} {w0 w : World} {v : Value} {n m : Nat} {F : Nat → Nat → Int} (h : Lst B w0 w v n m F) {B' : Nat} (hB : w.heap.size ≤ B') {ao : Option Addr} (hf : Fresh B' ao) : ∀ x, ao = some x → v.ownBlock ≠ some x.block := by
  intro x hx e
  obtain ⟨S, h1, _⟩ := h.row
  have h3 := (h1.lt _ e).2
  have h4 := hf x hx
  omega
theorem Lst.grid {B : Nat} {w0 w : World} {v : Value} {n m : Nat} {F : Nat → Nat → Int} (h : Lst B w0 w v n m F) : ∃ lo cm, v = .slice lo n cm ∧ Grid w lo n cm m F := by
  obtain ⟨S, ⟨h1, h2⟩, h3⟩ := h.row
  rcases h2 with ⟨rfl, rfl⟩ | ⟨g, cap, cur, rfl, hb, hg, hn, hc, hs, ht⟩
  · exact ⟨none, 0, rfl, fun _ => none, fun _ => 0, ⟨Nat.le_refl _, by omega, fun j hj => by omega⟩, fun k hk => by omega⟩
  · refine ⟨_, _, rfl, fun k => match S k with | .slice a _ _ => a | _ => none, fun k => match S k with | .slice _ _ c => c | _ => 0, ⟨hn, hc, fun k hk => ⟨_, rfl, ?_⟩⟩, fun k hk => ?_⟩
    · obtain ⟨a, c, e1, e2, e3⟩ := h3 k hk
      have e := svals_at (S := S) hk
      rw [← ht] at e
      have e4 : cur[k]? = some (S k) := by
        rw [List.getElem?_take] at e
        split at e
        · simpa using e
        · cases e
      rw [Addr.add_lit, Nat.zero_add]
      simp only [e1] at e4 ⊢
      simp [World.cell?, hg, e4]
    · obtain ⟨a, c, e1, e2, e3⟩ := h3 k hk
      simp only [e1]
      exact e2

theorem Sl.grown {w w' : World} {ao : Option Addr} {n ca : Nat} {z : Nat → Int} {row : Option Nat} (h : Sl w ao n ca z) (g : w.grownBy w' row) (hne : ∀ x, ao = some x → row ≠ some x.block) : Sl w' ao n ca z :=
  ⟨h.le, h.cap, fun k hk => by
    obtain ⟨x, hx, hc⟩ := h.at' k hk
    refine ⟨x, hx, ?_⟩
    have hlt := World.block_lt_of_cell? w _ hc
    have hb : (x.add k).block = x.block := by unfold Addr.add; split <;> rfl
    have e := g.block (x.add k).block hlt (by rw [hb]; exact fun e => hne x hx e.symm)
    rw [World.cell?_of_block e]
    exact hc⟩

/-- A row is appended. -/
theorem wpList_pushS {ops : Array Oper} {rest : List Oper} {o : Oper} {a : Act} {Q : Exit → Act → World → Prop} {wr : World} (hgd : o.guard = none) (s x : Operand)
    (ho : o.op = .call { callee := .builtin .append, args := #[s, x], argTypes := #[39, 39] }) (B : Nat) (w0 : World) (v : Value) (n m : Nat) (F : Nat → Nat → Int) (hs : a.eval s = v) (hL : Lst B w0 wr v n m F) (hm : 0 < m) (hl : n ≤ 2000000)
    (ra : Option Addr) (rc : Nat) (hr : Sl wr ra m rc (F n)) (hap : ∀ x, ra = some x → v.ownBlock ≠ some x.block)
    (hx : a.eval x = .slice (some ⟨wr.heap.size, 0, none⟩) 1 1)
    (h : ∀ v' w', Lst B w0 w' v' (n + 1) m F → wpList Tryd.prog ops Q rest (a.put o.dst v') w') : wpList Tryd.prog ops Q (o :: rest) a (wr.alloc (.cells #[.slice ra m rc] 22)) := by
  obtain ⟨i0, hi, hz0, hz1, hz2⟩ := info_parts infoSl
  obtain ⟨S, h1, h2⟩ := hL.row
  refine wpList_append_lies _ hgd s x 39 ho B 22 i0 (.slice none 0 0) 1 24 Tryd.underlying39 hi hz0 hz1 hz2 rfl (by decide) v n (svals n S) hs (h1.alloc _) ⟨wr.heap.size, 0, none⟩ 1 1 [.slice ra m rc] hx rfl (cell_one_new _ _ _) (by intro u hu; simp at hu; subst hu; rfl) (by omega) (by unfold maxLen; omega) (by omega) (by have := hL.base; simp; omega) _ rfl ?_
  intro g cap w' o1 o2 o3 o4
  rw [svals_push] at o1
  refine h _ w' ⟨⟨_, o1, fun j hj => ?_⟩, ?_, Nat.le_trans (by have := hL.base; simp; omega) o2.size⟩
  · have hg : ∀ b, b < wr.heap.size → v.ownBlock ≠ some b → g ≠ b := fun b hb e1 e2 => by
      rcases o3 with o3 | o3
      · exact e1 (by rw [o3, e2])
      · simp at o3; omega
    have hblk : ∀ {ao : Option Addr} {ca : Nat} {z : Nat → Int}, Sl wr ao m ca z → (∀ x, ao = some x → v.ownBlock ≠ some x.block) → ∃ co, ∃ cc, Value.slice ao m ca = .slice co m cc ∧ Sl w' co m cc z ∧ ∀ x, co = some x → Value.ownBlock (.slice (some ⟨g, 0, none⟩) (n + 1) cap) ≠ some x.block := by
      intro ao ca z hsl hne
      refine ⟨ao, ca, rfl, Sl.grown (hsl.keep (below_al (Below.refl _ _) _)) o2 hne, fun x hx e => ?_⟩
      have e3 : g = x.block := by simpa [Value.ownBlock] using e
      obtain ⟨y, hy, hc⟩ := hsl.at' 0 hm
      rw [hx] at hy
      cases hy
      have hlt := World.block_lt_of_cell? wr _ hc
      have hb : (x.add 0).block = x.block := by unfold Addr.add; split <;> rfl
      exact hg x.block (by omega) (hne x hx) e3
    by_cases hjn : j < n
    · obtain ⟨ao, ca, e1, e2, e3⟩ := h2 j hjn
      simp only [if_pos hjn, e1]
      exact hblk e2 e3
    · obtain rfl : j = n := by omega
      simp only [if_neg hjn]
      exact hblk hr hap
  · refine (hL.below.alloc hL.base _).grown o2 (by have := hL.base; simp; omega) ?_
    intro k hk
    exact (h1.lt k hk).1
end Mt




end Go.Proofs.YtlomfjacgomhdaaDoor

/-
  A list of numbers and a list of rows that a struct holds, appended to one by one, the struct stored into: they and the rows lie from block o on, the struct ahead of it.
-/
set_option linter.unusedSimpArgs false
set_option linter.unusedVariables false
namespace Go.Proofs.YtlomfjacgomhdaaDoor
open Go.RowKit Vc Mt St Ld
namespace Ls

theorem rowBut {P : Nat → Prop} {a b : World} {B : Nat} {t : TypeId} {s : Nat} {v : Value} {n : Nat} {xs : List Value} (h : a.ownsRow B t s v n xs) (k : But P a b) (hx : ∀ g, v.ownBlock = some g → ¬ P g) : b.ownsRow B t s v n xs := by
  obtain ⟨h1, h2⟩ := h
  refine ⟨h1, ?_⟩
  rcases h2 with h2 | ⟨g, cap, cur, rfl, hb, hg, hn, hc, hs, ht⟩
  · exact Or.inl h2
  · refine Or.inr ⟨g, cap, cur, rfl, hb, ?_, hn, hc, hs, ht⟩
    have hlt : g < a.heap.size := by
      rcases Nat.lt_or_ge g a.heap.size with q | q
      · exact q
      · rw [Array.getElem?_eq_none q] at hg; cases hg
    exact (k.block g hlt (hx g rfl)).trans hg
theorem but_grown {w w' : World} {row : Option Nat} (g : w.grownBy w' row) : But (fun b => row = some b) w w' :=
  ⟨g.os, g.tape, g.output, g.size, fun k hk hp => g.block k hk (fun e => hp e.symm)⟩

theorem but_row (w : World) (g : Nat) (cs : Array Value) : But (· = g) w (w.setRow g cs) := ⟨rfl, rfl, rfl, by simp, fun k hk hn => setRow_other w g k cs hn⟩

/-- a numbers X in vX, b rows P of m numbers each in vP. -/
structure Sts (o : Nat) (w : World) (vX vP : Value) (a b m : Nat) (X : Nat → Int) (P : Nat → Nat → Int) : Prop where
  x : w.ownsRow o 2 1 vX a (vals a X)
  p : ∃ S, w.ownsRow o 22 1 vP b (svals b S) ∧ ∀ j, j < b → ∃ r c, S j = .slice r m c ∧ Sl w r m c (P j) ∧ ∀ x, r = some x → vP.ownBlock ≠ some x.block ∧ vX.ownBlock ≠ some x.block ∧ o ≤ x.block
  ap : ∀ q, vX.ownBlock = some q → vP.ownBlock ≠ some q
  le : o ≤ w.heap.size

theorem Sts.nil {o : Nat} {w : World} (h : o ≤ w.heap.size) (m : Nat) (X : Nat → Int) (P : Nat → Nat → Int) : Sts o w (.slice none 0 0) (.slice none 0 0) 0 0 m X P :=
  ⟨World.ownsRow_nil _ _ _ _, ⟨fun _ => undef, World.ownsRow_nil _ _ _ _, fun j hj => by omega⟩, fun q e => (by cases e), h⟩
theorem Sts.keep {o : Nat} {w w' : World} {vX vP : Value} {a b m : Nat} {X : Nat → Int} {P : Nat → Nat → Int} (h : Sts o w vX vP a b m X P) (k : Below w.heap.size w w') : Sts o w' vX vP a b m X P := by
  obtain ⟨S, h1, h2⟩ := h.p
  refine ⟨row_keep h.x k, ⟨S, row_keep h1 k, fun j hj => ?_⟩, h.ap, Nat.le_trans h.le k.size⟩
  obtain ⟨r, c, e1, e2, e3⟩ := h2 j hj
  exact ⟨r, c, e1, e2.keep k, e3⟩
/-- A store into a block ahead of theirs. -/
theorem Sts.put {o g : Nat} {w w' : World} {vX vP : Value} {a b m : Nat} {X : Nat → Int} {P : Nat → Nat → Int} (h : Sts o w vX vP a b m X P) (hg : g < o) (k : But (· = g) w w') : Sts o w' vX vP a b m X P := by
  obtain ⟨S, h1, h2⟩ := h.p
  refine ⟨rowBut h.x k (fun q e e2 => by have := (h.x.lt q e).1; omega), ⟨S, rowBut h1 k (fun q e e2 => by have := (h1.lt q e).1; omega), fun j hj => ?_⟩, h.ap, Nat.le_trans h.le k.size⟩
  obtain ⟨r, c, e1, e2, e3⟩ := h2 j hj
  exact ⟨r, c, e1, slBut e2 k (fun x hx e => by have := (e3 x hx).2.2; omega), e3⟩
theorem Sts.grid {o : Nat} {w : World} {vX vP : Value} {a b m : Nat} {X : Nat → Int} {P : Nat → Nat → Int} (h : Sts o w vX vP a b m X P) : ∃ lo cm, vP = .slice lo b cm ∧ Grid w lo b cm m P := by
  obtain ⟨S, h1, h2⟩ := h.p
  have hL : Lst o w w vP b m P := ⟨⟨S, h1, fun k hk => by obtain ⟨r, c, e1, e2, e3⟩ := h2 k hk; exact ⟨r, c, e1, e2, fun x hx => (e3 x hx).1⟩⟩, Below.refl _ _, h.le⟩
  exact hL.grid
theorem Sts.sl {o : Nat} {w : World} {vX vP : Value} {a b m : Nat} {X : Nat → Int} {P : Nat → Nat → Int} (h : Sts o w vX vP a b m X P) : ∃ ao ca, vX = .slice ao a ca ∧ Sl w ao a ca X :=
  Own.sl (B := o) (w0 := w) ⟨h.x, Below.refl _ _, h.le⟩
/-- What is new lies in no block of theirs. -/
theorem Sts.apart {o : Nat} {w : World} {vX vP : Value} {a b m : Nat} {X : Nat → Int} {P : Nat → Nat → Int} (h : Sts o w vX vP a b m X P) {ra : Option Addr} (hf : Fresh w.heap.size ra) : ∀ x, ra = some x → vP.ownBlock ≠ some x.block ∧ vX.ownBlock ≠ some x.block ∧ o ≤ x.block := by
  intro x hx
  have h3 := hf x hx
  have h4 := h.le
  obtain ⟨S, h1, _⟩ := h.p
  exact ⟨fun e => by have := (h1.lt _ e).2; omega, fun e => by have := (h.x.lt _ e).2; omega, by omega⟩
theorem sl_lt {w : World} {ao : Option Addr} {n ca : Nat} {z : Nat → Int} (h : Sl w ao n ca z) (hn : 0 < n) : ∀ x, ao = some x → x.block < w.heap.size := fun x hx => by
  obtain ⟨y, hy, hc⟩ := h.at' 0 hn
  rw [hx] at hy
  cases hy
  have hlt := World.block_lt_of_cell? w _ hc
  rw [addr_block] at hlt
  exact hlt

/-- A number is appended to a slice of the call's own. -/
theorem pushN {ops : Array Oper} {rest : List Oper} {o : Oper} {a : Act} {Q : Exit → Act → World → Prop} {wr : World} (hgd : o.guard = none) (s x : Operand)
    (ho : o.op = .call { callee := .builtin .append, args := #[s, x], argTypes := #[22, 22] }) (B : Nat) (w0 : World) (v : Value) (n : Nat) (z : Nat → Int) (hs : a.eval s = v) (hown : Own B w0 wr v n z) (hl : n ≤ 2000000) (y : Int) (hy : y = z n)
    (hx : a.eval x = .slice (some ⟨wr.heap.size, 0, none⟩) 1 1)
    (h : ∀ v' w', Own B w0 w' v' (n + 1) z → wpList Tryd.prog ops Q rest (a.put o.dst v') w') : wpList Tryd.prog ops Q (o :: rest) a (wr.alloc (.cells #[.int .i64 y] 2)) := by
  obtain ⟨i0, hi, hz0, hz1, hz2⟩ := info_parts infoI64
  subst hy
  refine wpList_append_own _ hgd s x 22 ho B 2 i0 (.int .i64 0) 1 8 Tryd.underlying22 hi hz0 hz1 hz2 rfl (by decide) v n (vals n z) hs (hown.row.alloc _) ⟨wr.heap.size, 0, none⟩ 1 1 [.int .i64 (z n)] hx rfl (cell_one_new _ _ _) (by intro u hu; simp at hu; subst hu; rfl) (by unfold maxLen; omega) (by omega) (by have := hown.base; simp; omega) ?_
  intro v' w' h1 h2 _
  rw [vals_push] at h1
  refine h v' w' ⟨h1, ?_, Nat.le_trans (by have := hown.base; simp; omega) h2.size⟩
  refine (hown.below.alloc hown.base _).grown h2 (by have := hown.base; simp; omega) ?_
  intro k hk
  exact (hown.row.lt k hk).1

section
variable {ops : Array Oper} {rest : List Oper} {op : Oper} {ac : Act} {Q : Exit → Act → World → Prop} {wr : World}
/-- A number is appended. -/
theorem pushX (hgd : op.guard = none) (s x : Operand)
    (ho : op.op = .call { callee := .builtin .append, args := #[s, x], argTypes := #[22, 22] }) (o : Nat) (vX vP : Value) (a b m : Nat) (X : Nat → Int) (P : Nat → Nat → Int) (hs : ac.eval s = vX) (hL : Sts o wr vX vP a b m X P) (hm : 0 < m) (hl : a ≤ 2000000) (y : Int) (hy : y = X a)
    (hx : ac.eval x = .slice (some ⟨wr.heap.size, 0, none⟩) 1 1)
    (h : ∀ v' w', Sts o w' v' vP (a + 1) b m X P → But (fun q => o ≤ q) wr w' → wpList Tryd.prog ops Q rest (ac.put op.dst v') w') : wpList Tryd.prog ops Q (op :: rest) ac (wr.alloc (.cells #[.int .i64 y] 2)) := by
  obtain ⟨i0, hi, hz0, hz1, hz2⟩ := info_parts infoI64
  subst hy
  refine wpList_append_lies _ hgd s x 22 ho o 2 i0 (.int .i64 0) 1 8 Tryd.underlying22 hi hz0 hz1 hz2 rfl (by decide) vX a (vals a X) hs (hL.x.alloc _) ⟨wr.heap.size, 0, none⟩ 1 1 [.int .i64 (X a)] hx rfl (cell_one_new _ _ _) (by intro u hu; simp at hu; subst hu; rfl) (by omega) (by unfold maxLen; omega) (by omega) (by have := hL.le; simp; omega) _ rfl ?_
  intro g cap w' o1 o2 o3 o4
  rw [vals_push] at o1
  have bb : But (fun q => vX.ownBlock = some q) wr w' := (but_of (below_al (Below.refl _ wr) _)).trans (but_grown o2)
  obtain ⟨S, p1, p2⟩ := hL.p
  have hg : ∀ q, q < wr.heap.size → vX.ownBlock ≠ some q → Value.ownBlock (.slice (some ⟨g, 0, none⟩) (a + 1) cap) ≠ some q := fun q hq e1 e2 => by
    have e3 : g = q := by simpa [Value.ownBlock] using e2
    rcases o3 with o3 | o3
    · exact e1 (by rw [o3, e3])
    · simp at o3; omega
  refine h _ w' ⟨o1, ⟨S, rowBut p1 bb (fun q e e2 => hL.ap q e2 e), fun j hj => ?_⟩, fun q e e2 => ?_, Nat.le_trans hL.le bb.size⟩ (bb.mono fun q e => (hL.x.lt q e).1)
  · obtain ⟨r, c, e1, e2, e3⟩ := p2 j hj
    exact ⟨r, c, e1, slBut e2 bb (fun x hx => (e3 x hx).2.1), fun x hx => ⟨(e3 x hx).1, hg _ (sl_lt e2 hm x hx) (e3 x hx).2.1, (e3 x hx).2.2⟩⟩
  · exact hg q (p1.lt q e2).2 (fun e' => hL.ap q e' e2) e
/-- A row is appended. -/
theorem pushP (hgd : op.guard = none) (s x : Operand)
    (ho : op.op = .call { callee := .builtin .append, args := #[s, x], argTypes := #[39, 39] }) (o : Nat) (vX vP : Value) (a b m : Nat) (X : Nat → Int) (P : Nat → Nat → Int) (hs : ac.eval s = vP) (hL : Sts o wr vX vP a b m X P) (hm : 0 < m) (hl : b ≤ 2000000)
    (ra : Option Addr) (rc : Nat) (hr : Sl wr ra m rc (P b)) (hra : ∀ x, ra = some x → vP.ownBlock ≠ some x.block ∧ vX.ownBlock ≠ some x.block ∧ o ≤ x.block)
    (hx : ac.eval x = .slice (some ⟨wr.heap.size, 0, none⟩) 1 1)
    (h : ∀ v' w', Sts o w' vX v' a (b + 1) m X P → But (fun q => o ≤ q) wr w' → wpList Tryd.prog ops Q rest (ac.put op.dst v') w') : wpList Tryd.prog ops Q (op :: rest) ac (wr.alloc (.cells #[.slice ra m rc] 22)) := by
  obtain ⟨i0, hi, hz0, hz1, hz2⟩ := info_parts infoSl
  obtain ⟨S, p1, p2⟩ := hL.p
  refine wpList_append_lies _ hgd s x 39 ho o 22 i0 (.slice none 0 0) 1 24 Tryd.underlying39 hi hz0 hz1 hz2 rfl (by decide) vP b (svals b S) hs (p1.alloc _) ⟨wr.heap.size, 0, none⟩ 1 1 [.slice ra m rc] hx rfl (cell_one_new _ _ _) (by intro u hu; simp at hu; subst hu; rfl) (by omega) (by unfold maxLen; omega) (by omega) (by have := hL.le; simp; omega) _ rfl ?_
  intro g cap w' o1 o2 o3 o4
  rw [svals_push] at o1
  have bb : But (fun q => vP.ownBlock = some q) wr w' := (but_of (below_al (Below.refl _ wr) _)).trans (but_grown o2)
  have hg : ∀ q, q < wr.heap.size → vP.ownBlock ≠ some q → Value.ownBlock (.slice (some ⟨g, 0, none⟩) (b + 1) cap) ≠ some q := fun q hq e1 e2 => by
    have e3 : g = q := by simpa [Value.ownBlock] using e2
    rcases o3 with o3 | o3
    · exact e1 (by rw [o3, e3])
    · simp at o3; omega
  have key : ∀ {r : Option Addr} {c : Nat} {z : Nat → Int}, Sl wr r m c z → (∀ x, r = some x → vP.ownBlock ≠ some x.block ∧ vX.ownBlock ≠ some x.block ∧ o ≤ x.block) → Sl w' r m c z ∧ ∀ x, r = some x → Value.ownBlock (.slice (some ⟨g, 0, none⟩) (b + 1) cap) ≠ some x.block ∧ vX.ownBlock ≠ some x.block ∧ o ≤ x.block := fun hs hx =>
    ⟨slBut hs bb (fun x e => (hx x e).1), fun x e => ⟨hg _ (sl_lt hs hm x e) (hx x e).1, (hx x e).2.1, (hx x e).2.2⟩⟩
  refine h _ w' ⟨rowBut hL.x bb (fun q e e2 => hL.ap q e e2), ⟨_, o1, fun j hj => ?_⟩, fun q e => hg q (hL.x.lt q e).2 (hL.ap q e), Nat.le_trans hL.le bb.size⟩ (bb.mono fun q e => (p1.lt q e).1)
  by_cases hjb : j < b
  · obtain ⟨r, c, e1, e2, e3⟩ := p2 j hjb
    obtain ⟨e4, e5⟩ := key e2 e3
    exact ⟨r, c, by simp only [if_pos hjb]; exact e1, e4, e5⟩
  · obtain rfl : j = b := by omega
    obtain ⟨e4, e5⟩ := key hr hra
    exact ⟨ra, rc, by simp only [if_neg hjb], e4, e5⟩
end
end Ls
end Go.Proofs.YtlomfjacgomhdaaDoor
