/-
  Lists of rows: appended to, handed on, held against each other (rowsOf, sameRows, matOf of the laws of layer 8).
-/
import Derived.Test.YtdgcnaijndocnaaDoorM5
import Derived.Test.YtdgcnaijndocnaaDoorM9
import Derived.Deep.AppendLies
import Derived.Deep.RegionHeld3
set_option linter.unusedSimpArgs false
set_option linter.unusedVariables false
namespace Go.Proofs.YtdgcnaijndocnaaDoor
open Go.RowKit Vc Mt

namespace Mt
theorem infoSl : (Tryd.prog.info? 22).map (fun i => (i.zero, i.size, i.bytes)) = some (some (.slice none 0 0), 1, 24) := by kernel_rfl

def svals (n : Nat) (S : Nat → Value) : List Value := (List.range n).map S
theorem svals_len (n : Nat) (S : Nat → Value) : (svals n S).length = n := by simp [svals]
theorem svals_at {n k : Nat} {S : Nat → Value} (h : k < n) : (svals n S)[k]? = some (S k) := by simp [svals, h]
theorem svals_push (n : Nat) (S : Nat → Value) (v : Value) : svals n S ++ [v] = svals (n + 1) (fun k => if k < n then S k else v) := by
  unfold svals
  rw [List.range_succ, List.map_append]
  congr 1
  · exact List.map_congr_left fun k hk => by rw [if_pos (List.mem_range.1 hk)]
  · simp

/-- n rows of m numbers each, F. -/
def Grid (w : World) (lo : Option Addr) (n cm m : Nat) (F : Nat → Nat → Int) : Prop := ∃ A C, Sls w lo n cm A (fun _ => m) C ∧ ∀ k, k < n → Sl w (A k) m (C k) (F k)
theorem Grid.keep {w w' : World} {lo : Option Addr} {n cm m : Nat} {F : Nat → Nat → Int} (h : Grid w lo n cm m F) (b : Below w.heap.size w w') : Grid w' lo n cm m F := by
  obtain ⟨A, C, h1, h2⟩ := h
  exact ⟨A, C, h1.keep b, fun k hk => (h2 k hk).keep b⟩
theorem Grid.congr {w : World} {lo : Option Addr} {n cm m : Nat} {F G : Nat → Nat → Int} (h : Grid w lo n cm m F) (e : ∀ i j, i < n → j < m → F i j = G i j) : Grid w lo n cm m G := by
  obtain ⟨A, C, h1, h2⟩ := h
  exact ⟨A, C, h1, fun k hk => (h2 k hk).congr fun j hj => e k j hk hj⟩

/-- v is a list of the call's own that holds n rows of m numbers each, F; below B nothing has turned since w0. -/
structure Lst (B : Nat) (w0 w : World) (v : Value) (n m : Nat) (F : Nat → Nat → Int) : Prop where
  row : ∃ S, w.ownsRow B 22 1 v n (svals n S) ∧ ∀ j, j < n → ∃ a c, S j = .slice a m c ∧ Sl w a m c (F j) ∧ ∀ x, a = some x → v.ownBlock ≠ some x.block
  below : Below B w0 w
  base : B ≤ w.heap.size

theorem Lst.nil {B : Nat} {w0 w : World} (h : Below B w0 w) (hB : B ≤ w.heap.size) (m : Nat) (F : Nat → Nat → Int) : Lst B w0 w (.slice none 0 0) 0 m F := ⟨⟨fun _ => undef, World.ownsRow_nil _ _ _ _, fun j hj => by omega⟩, h, hB⟩
theorem Lst.keep {B : Nat} {w0 w w' : World} {v : Value} {n m : Nat} {F : Nat → Nat → Int} (h : Lst B w0 w v n m F) (b : Below w.heap.size w w') : Lst B w0 w' v n m F := by
  obtain ⟨S, h1, h2⟩ := h.row
  refine ⟨⟨S, row_keep h1 b, fun j hj => ?_⟩, h.below.trans (b.mono h.base), Nat.le_trans h.base b.size⟩
  obtain ⟨a, c, e1, e2, e3⟩ := h2 j hj
  exact ⟨a, c, e1, e2.keep b, e3⟩
theorem Lst.apart {B : Nat} {w0 w : World} {v : Value} {n m : Nat} {F : Nat → Nat → Int} (h : Lst B w0 w v n m F) {B' : Nat} (hB : w.heap.size ≤ B') {ao : Option Addr} (hf : Fresh B' ao) : ∀ x, ao = some x → v.ownBlock ≠ some x.block := by
  intro x hx e
  obtain ⟨S, h1, _⟩ := h.row
  have h3 := (h1.lt _ e).2
  have h4 := hf x hx
  omega
theorem Lst.grid {B : Nat} {w0 w : World} {v : Value} {n m : Nat} {F : Nat → Nat → Int} (h : Lst B w0 w v n m F) : ∃ lo cm, v = .slice lo n cm ∧ Grid w lo n cm m F := by
  obtain ⟨S, ⟨h1, h2⟩, h3⟩ := h.row
  rcases h2 with ⟨rfl, rfl⟩ | ⟨g, cap, cur, rfl, hb, hg, hn, hc, hs, ht⟩
  · exact ⟨none, 0, rfl, fun _ => none, fun _ => 0, ⟨Nat.le_refl _, by omega, fun j hj => by omega⟩, fun k hk => by omega⟩
  · refine ⟨_, _, rfl, fun k => match S k with | .slice a _ _ => a | _ => none, fun k => match S k with | .slice _ _ c => c | _ => 0, ⟨hn, hc, fun k hk => ⟨_, rfl, ?_⟩⟩, fun k hk => ?_⟩
    · obtain ⟨a, c, e1, e2, e3⟩ := h3 k hk
      have e := svals_at (S := S) hk
      rw [← ht] at e
      have e4 : cur[k]? = some (S k) := by
        rw [List.getElem?_take] at e
        split at e
        · simpa using e
        · cases e
      rw [Addr.add_lit, Nat.zero_add]
      simp only [e1] at e4 ⊢
      simp [World.cell?, hg, e4]
    · obtain ⟨a, c, e1, e2, e3⟩ := h3 k hk
      simp only [e1]
      exact e2

theorem Sl.grown {w w' : World} {ao : Option Addr} {n ca : Nat} {z : Nat → Int} {row : Option Nat} (h : Sl w ao n ca z) (g : w.grownBy w' row) (hne : ∀ x, ao = some x → row ≠ some x.block) : Sl w' ao n ca z :=
  ⟨h.le, h.cap, fun k hk => by
    obtain ⟨x, hx, hc⟩ := h.at' k hk
    refine ⟨x, hx, ?_⟩
    have hlt := World.block_lt_of_cell? w _ hc
    have hb : (x.add k).block = x.block := by unfold Addr.add; split <;> rfl
    have e := g.block (x.add k).block hlt (by rw [hb]; exact fun e => hne x hx e.symm)
    rw [World.cell?_of_block e]
    exact hc⟩

/-- A row is appended. -/
theorem wpList_pushS {ops : Array Oper} {rest : List Oper} {o : Oper} {a : Act} {Q : Exit → Act → World → Prop} {wr : World} (hgd : o.guard = none) (s x : Operand)
    (ho : o.op = .call { callee := .builtin .append, args := #[s, x], argTypes := #[107, 107] }) (B : Nat) (w0 : World) (v : Value) (n m : Nat) (F : Nat → Nat → Int) (hs : a.eval s = v) (hL : Lst B w0 wr v n m F) (hm : 0 < m) (hl : n ≤ 2000000)
    (ra : Option Addr) (rc : Nat) (hr : Sl wr ra m rc (F n)) (hap : ∀ x, ra = some x → v.ownBlock ≠ some x.block)
    (hx : a.eval x = .slice (some ⟨wr.heap.size, 0, none⟩) 1 1)
    (h : ∀ v' w', Lst B w0 w' v' (n + 1) m F → wpList Tryd.prog ops Q rest (a.put o.dst v') w') : wpList Tryd.prog ops Q (o :: rest) a (wr.alloc (.cells #[.slice ra m rc] 22)) := by
  obtain ⟨i0, hi, hz0, hz1, hz2⟩ := info_parts infoSl
  obtain ⟨S, h1, h2⟩ := hL.row
  refine wpList_append_lies _ hgd s x 107 ho B 22 i0 (.slice none 0 0) 1 24 Tryd.underlying107 hi hz0 hz1 hz2 rfl (by decide) v n (svals n S) hs (h1.alloc _) ⟨wr.heap.size, 0, none⟩ 1 1 [.slice ra m rc] hx rfl (cell_one_new _ _ _) (by intro u hu; simp at hu; subst hu; rfl) (by omega) (by unfold maxLen; omega) (by omega) (by have := hL.base; simp; omega) _ rfl ?_
  intro g cap w' o1 o2 o3 o4
  rw [svals_push] at o1
  refine h _ w' ⟨⟨_, o1, fun j hj => ?_⟩, ?_, Nat.le_trans (by have := hL.base; simp; omega) o2.size⟩
  · have hg : ∀ b, b < wr.heap.size → v.ownBlock ≠ some b → g ≠ b := fun b hb e1 e2 => by
      rcases o3 with o3 | o3
      · exact e1 (by rw [o3, e2])
      · simp at o3; omega
    have hblk : ∀ {ao : Option Addr} {ca : Nat} {z : Nat → Int}, Sl wr ao m ca z → (∀ x, ao = some x → v.ownBlock ≠ some x.block) → ∃ co, ∃ cc, Value.slice ao m ca = .slice co m cc ∧ Sl w' co m cc z ∧ ∀ x, co = some x → Value.ownBlock (.slice (some ⟨g, 0, none⟩) (n + 1) cap) ≠ some x.block := by
      intro ao ca z hsl hne
      refine ⟨ao, ca, rfl, Sl.grown (hsl.keep (below_al (Below.refl _ _) _)) o2 hne, fun x hx e => ?_⟩
      have e3 : g = x.block := by simpa [Value.ownBlock] using e
      obtain ⟨y, hy, hc⟩ := hsl.at' 0 hm
      rw [hx] at hy
      cases hy
      have hlt := World.block_lt_of_cell? wr _ hc
      have hb : (x.add 0).block = x.block := by unfold Addr.add; split <;> rfl
      exact hg x.block (by omega) (hne x hx) e3
    by_cases hjn : j < n
    · obtain ⟨ao, ca, e1, e2, e3⟩ := h2 j hjn
      simp only [if_pos hjn, e1]
      exact hblk e2 e3
    · obtain rfl : j = n := by omega
      simp only [if_neg hjn]
      exact hblk hr hap
  · refine (hL.below.alloc hL.base _).grown o2 (by have := hL.base; simp; omega) ?_
    intro k hk
    exact (h1.lt k hk).1
end Mt




end Go.Proofs.YtdgcnaijndocnaaDoor

/-
  A list of numbers and a list of rows that a struct holds, appended to one by one, the struct stored into: they and the rows lie from block o on, the struct ahead of it.
-/
set_option linter.unusedSimpArgs false
set_option linter.unusedVariables false
namespace Go.Proofs.YtdgcnaijndocnaaDoor
open Go.RowKit Vc Mt St Ld
namespace Ls

theorem rowBut {P : Nat → Prop} {a b : World} {B : Nat} {t : TypeId} {s : Nat} {v : Value} {n : Nat} {xs : List Value} (h : a.ownsRow B t s v n xs) (k : But P a b) (hx : ∀ g, v.ownBlock = some g → ¬ P g) : b.ownsRow B t s v n xs := by
  obtain ⟨h1, h2⟩ := h
  refine ⟨h1, ?_⟩
  rcases h2 with h2 | ⟨g, cap, cur, rfl, hb, hg, hn, hc, hs, ht⟩
  · exact Or.inl h2
  · refine Or.inr ⟨g, cap, cur, rfl, hb, ?_, hn, hc, hs, ht⟩
    have hlt : g < a.heap.size := by
      rcases Nat.lt_or_ge g a.heap.size with q | q
      · exact q
      · rw [Array.getElem?_eq_none q] at hg; cases hg
    exact (k.block g hlt (hx g rfl)).trans hg
theorem but_grown {w w' : World} {row : Option Nat} (g : w.grownBy w' row) : But (fun b => row = some b) w w' :=
  ⟨g.os, g.tape, g.output, g.size, fun k hk hp => g.block k hk (fun e => hp e.symm)⟩

theorem but_row (w : World) (g : Nat) (cs : Array Value) : But (· = g) w (w.setRow g cs) := ⟨rfl, rfl, rfl, by simp, fun k hk hn => setRow_other w g k cs hn⟩

/-- a numbers X in vX, b rows P of m numbers each in vP. -/
structure Sts (o : Nat) (w : World) (vX vP : Value) (a b m : Nat) (X : Nat → Int) (P : Nat → Nat → Int) : Prop where
  x : w.ownsRow o 2 1 vX a (vals a X)
  p : ∃ S, w.ownsRow o 22 1 vP b (svals b S) ∧ ∀ j, j < b → ∃ r c, S j = .slice r m c ∧ Sl w r m c (P j) ∧ ∀ x, r = some x → vP.ownBlock ≠ some x.block ∧ vX.ownBlock ≠ some x.block ∧ o ≤ x.block
  ap : ∀ q, vX.ownBlock = some q → vP.ownBlock ≠ some q
  le : o ≤ w.heap.size

theorem Sts.nil {o : Nat} {w : World} (h : o ≤ w.heap.size) (m : Nat) (X : Nat → Int) (P : Nat → Nat → Int) : Sts o w (.slice none 0 0) (.slice none 0 0) 0 0 m X P :=
  ⟨World.ownsRow_nil _ _ _ _, ⟨fun _ => undef, World.ownsRow_nil _ _ _ _, fun j hj => by omega⟩, fun q e => (by cases e), h⟩
theorem Sts.keep {o : Nat} {w w' : World} {vX vP : Value} {a b m : Nat} {X : Nat → Int} {P : Nat → Nat → Int} (h : Sts o w vX vP a b m X P) (k : Below w.heap.size w w') : Sts o w' vX vP a b m X P := by
  obtain ⟨S, h1, h2⟩ := h.p
  refine ⟨row_keep h.x k, ⟨S, row_keep h1 k, fun j hj => ?_⟩, h.ap, Nat.le_trans h.le k.size⟩
  obtain ⟨r, c, e1, e2, e3⟩ := h2 j hj
  exact ⟨r, c, e1, e2.keep k, e3⟩
/-- A store into a block ahead of theirs. -/
theorem Sts.put {o g : Nat} {w w' : World} {vX vP : Value} {a b m : Nat} {X : Nat → Int} {P : Nat → Nat → Int} (h : Sts o w vX vP a b m X P) (hg : g < o) (k : But (· = g) w w') : Sts o w' vX vP a b m X P := by
  obtain ⟨S, h1, h2⟩ := h.p
  refine ⟨rowBut h.x k (fun q e e2 => by have := (h.x.lt q e).1; omega), ⟨S, rowBut h1 k (fun q e e2 => by have := (h1.lt q e).1; omega), fun j hj => ?_⟩, h.ap, Nat.le_trans h.le k.size⟩
  obtain ⟨r, c, e1, e2, e3⟩ := h2 j hj
  exact ⟨r, c, e1, slBut e2 k (fun x hx e => by have := (e3 x hx).2.2; omega), e3⟩
theorem Sts.grid {o : Nat} {w : World} {vX vP : Value} {a b m : Nat} {X : Nat → Int} {P : Nat → Nat → Int} (h : Sts o w vX vP a b m X P) : ∃ lo cm, vP = .slice lo b cm ∧ Grid w lo b cm m P := by
  obtain ⟨S, h1, h2⟩ := h.p
  have hL : Lst o w w vP b m P := ⟨⟨S, h1, fun k hk => by obtain ⟨r, c, e1, e2, e3⟩ := h2 k hk; exact ⟨r, c, e1, e2, fun x hx => (e3 x hx).1⟩⟩, Below.refl _ _, h.le⟩
  exact hL.grid
theorem Sts.sl {o : Nat} {w : World} {vX vP : Value} {a b m : Nat} {X : Nat → Int} {P : Nat → Nat → Int} (h : Sts o w vX vP a b m X P) : ∃ ao ca, vX = .slice ao a ca ∧ Sl w ao a ca X :=
  Own.sl (B := o) (w0 := w) ⟨h.x, Below.refl _ _, h.le⟩
/-- What is new lies in no block of theirs. -/
theorem Sts.apart {o : Nat} {w : World} {vX vP : Value} {a b m : Nat} {X : Nat → Int} {P : Nat → Nat → Int} (h : Sts o w vX vP a b m X P) {ra : Option Addr} (hf : Fresh w.heap.size ra) : ∀ x, ra = some x → vP.ownBlock ≠ some x.block ∧ vX.ownBlock ≠ some x.block ∧ o ≤ x.block := by
  intro x hx
  have h3 := hf x hx
  have h4 := h.le
  obtain ⟨S, h1, _⟩ := h.p
  exact ⟨fun e => by have := (h1.lt _ e).2; omega, fun e => by have := (h.x.lt _ e).2; omega, by omega⟩
theorem sl_lt {w : World} {ao : Option Addr} {n ca : Nat} {z : Nat → Int} (h : Sl w ao n ca z) (hn : 0 < n) : ∀ x, ao = some x → x.block < w.heap.size := fun x hx => by
  obtain ⟨y, hy, hc⟩ := h.at' 0 hn
  rw [hx] at hy
  cases hy
  have hlt := World.block_lt_of_cell? w _ hc
  rw [addr_block] at hlt
  exact hlt

/-- A number is appended to a slice of the call's own. -/
theorem pushN {ops : Array Oper} {rest : List Oper} {o : Oper} {a : Act} {Q : Exit → Act → World → Prop} {wr : World} (hgd : o.guard = none) (s x : Operand)
    (ho : o.op = .call { callee := .builtin .append, args := #[s, x], argTypes := #[22, 22] }) (B : Nat) (w0 : World) (v : Value) (n : Nat) (z : Nat → Int) (hs : a.eval s = v) (hown : Own B w0 wr v n z) (hl : n ≤ 2000000) (y : Int) (hy : y = z n)
    (hx : a.eval x = .slice (some ⟨wr.heap.size, 0, none⟩) 1 1)
    (h : ∀ v' w', Own B w0 w' v' (n + 1) z → wpList Tryd.prog ops Q rest (a.put o.dst v') w') : wpList Tryd.prog ops Q (o :: rest) a (wr.alloc (.cells #[.int .i64 y] 2)) := by
  obtain ⟨i0, hi, hz0, hz1, hz2⟩ := info_parts infoI64
  subst hy
  refine wpList_append_own _ hgd s x 22 ho B 2 i0 (.int .i64 0) 1 8 Tryd.underlying22 hi hz0 hz1 hz2 rfl (by decide) v n (vals n z) hs (hown.row.alloc _) ⟨wr.heap.size, 0, none⟩ 1 1 [.int .i64 (z n)] hx rfl (cell_one_new _ _ _) (by intro u hu; simp at hu; subst hu; rfl) (by unfold maxLen; omega) (by omega) (by have := hown.base; simp; omega) ?_
  intro v' w' h1 h2 _
  rw [vals_push] at h1
  refine h v' w' ⟨h1, ?_, Nat.le_trans (by have := hown.base; simp; omega) h2.size⟩
  refine (hown.below.alloc hown.base _).grown h2 (by have := hown.base; simp; omega) ?_
  intro k hk
  exact (hown.row.lt k hk).1

section
variable {ops : Array Oper} {rest : List Oper} {op : Oper} {ac : Act} {Q : Exit → Act → World → Prop} {wr : World}
/-- A number is appended. -/
theorem pushX (hgd : op.guard = none) (s x : Operand)
    (ho : op.op = .call { callee := .builtin .append, args := #[s, x], argTypes := #[22, 22] }) (o : Nat) (vX vP : Value) (a b m : Nat) (X : Nat → Int) (P : Nat → Nat → Int) (hs : ac.eval s = vX) (hL : Sts o wr vX vP a b m X P) (hm : 0 < m) (hl : a ≤ 2000000) (y : Int) (hy : y = X a)
    (hx : ac.eval x = .slice (some ⟨wr.heap.size, 0, none⟩) 1 1)
    (h : ∀ v' w', Sts o w' v' vP (a + 1) b m X P → But (fun q => o ≤ q) wr w' → wpList Tryd.prog ops Q rest (ac.put op.dst v') w') : wpList Tryd.prog ops Q (op :: rest) ac (wr.alloc (.cells #[.int .i64 y] 2)) := by
  obtain ⟨i0, hi, hz0, hz1, hz2⟩ := info_parts infoI64
  subst hy
  refine wpList_append_lies _ hgd s x 22 ho o 2 i0 (.int .i64 0) 1 8 Tryd.underlying22 hi hz0 hz1 hz2 rfl (by decide) vX a (vals a X) hs (hL.x.alloc _) ⟨wr.heap.size, 0, none⟩ 1 1 [.int .i64 (X a)] hx rfl (cell_one_new _ _ _) (by intro u hu; simp at hu; subst hu; rfl) (by omega) (by unfold maxLen; omega) (by omega) (by have := hL.le; simp; omega) _ rfl ?_
  intro g cap w' o1 o2 o3 o4
  rw [vals_push] at o1
  have bb : But (fun q => vX.ownBlock = some q) wr w' := (but_of (below_al (Below.refl _ wr) _)).trans (but_grown o2)
  obtain ⟨S, p1, p2⟩ := hL.p
  have hg : ∀ q, q < wr.heap.size → vX.ownBlock ≠ some q → Value.ownBlock (.slice (some ⟨g, 0, none⟩) (a + 1) cap) ≠ some q := fun q hq e1 e2 => by
    have e3 : g = q := by simpa [Value.ownBlock] using e2
    rcases o3 with o3 | o3
    · exact e1 (by rw [o3, e3])
    · simp at o3; omega
  refine h _ w' ⟨o1, ⟨S, rowBut p1 bb (fun q e e2 => hL.ap q e2 e), fun j hj => ?_⟩, fun q e e2 => ?_, Nat.le_trans hL.le bb.size⟩ (bb.mono fun q e => (hL.x.lt q e).1)
  · obtain ⟨r, c, e1, e2, e3⟩ := p2 j hj
    exact ⟨r, c, e1, slBut e2 bb (fun x hx => (e3 x hx).2.1), fun x hx => ⟨(e3 x hx).1, hg _ (sl_lt e2 hm x hx) (e3 x hx).2.1, (e3 x hx).2.2⟩⟩
  · exact hg q (p1.lt q e2).2 (fun e' => hL.ap q e' e2) e
/-- A row is appended. -/
theorem pushP (hgd : op.guard = none) (s x : Operand)
    (ho : op.op = .call { callee := .builtin .append, args := #[s, x], argTypes := #[107, 107] }) (o : Nat) (vX vP : Value) (a b m : Nat) (X : Nat → Int) (P : Nat → Nat → Int) (hs : ac.eval s = vP) (hL : Sts o wr vX vP a b m X P) (hm : 0 < m) (hl : b ≤ 2000000)
    (ra : Option Addr) (rc : Nat) (hr : Sl wr ra m rc (P b)) (hra : ∀ x, ra = some x → vP.ownBlock ≠ some x.block ∧ vX.ownBlock ≠ some x.block ∧ o ≤ x.block)
    (hx : ac.eval x = .slice (some ⟨wr.heap.size, 0, none⟩) 1 1)
    (h : ∀ v' w', Sts o w' vX v' a (b + 1) m X P → But (fun q => o ≤ q) wr w' → wpList Tryd.prog ops Q rest (ac.put op.dst v') w') : wpList Tryd.prog ops Q (op :: rest) ac (wr.alloc (.cells #[.slice ra m rc] 22)) := by
  obtain ⟨i0, hi, hz0, hz1, hz2⟩ := info_parts infoSl
  obtain ⟨S, p1, p2⟩ := hL.p
  refine wpList_append_lies _ hgd s x 107 ho o 22 i0 (.slice none 0 0) 1 24 Tryd.underlying107 hi hz0 hz1 hz2 rfl (by decide) vP b (svals b S) hs (p1.alloc _) ⟨wr.heap.size, 0, none⟩ 1 1 [.slice ra m rc] hx rfl (cell_one_new _ _ _) (by intro u hu; simp at hu; subst hu; rfl) (by omega) (by unfold maxLen; omega) (by omega) (by have := hL.le; simp; omega) _ rfl ?_
  intro g cap w' o1 o2 o3 o4
  rw [svals_push] at o1
  have bb : But (fun q => vP.ownBlock = some q) wr w' := (but_of (below_al (Below.refl _ wr) _)).trans (but_grown o2)
  have hg : ∀ q, q < wr.heap.size → vP.ownBlock ≠ some q → Value.ownBlock (.slice (some ⟨g, 0, none⟩) (b + 1) cap) ≠ some q := fun q hq e1 e2 => by
    have e3 : g = q := by simpa [Value.ownBlock] using e2
    rcases o3 with o3 | o3
    · exact e1 (by rw [o3, e3])
    · simp at o3; omega
  have key : ∀ {r : Option Addr} {c : Nat} {z : Nat → Int}, Sl wr r m c z → (∀ x, r = some x → vP.ownBlock ≠ some x.block ∧ vX.ownBlock ≠ some x.block ∧ o ≤ x.block) → Sl w' r m c z ∧ ∀ x, r = some x → Value.ownBlock (.slice (some ⟨g, 0, none⟩) (b + 1) cap) ≠ some x.block ∧ vX.ownBlock ≠ some x.block ∧ o ≤ x.block := fun hs hx =>
    ⟨slBut hs bb (fun x e => (hx x e).1), fun x e => ⟨hg _ (sl_lt hs hm x e) (hx x e).1, (hx x e).2.1, (hx x e).2.2⟩⟩
  refine h _ w' ⟨rowBut hL.x bb (fun q e e2 => hL.ap q e e2), ⟨_, o1, fun j hj => ?_⟩, fun q e => hg q (hL.x.lt q e).2 (hL.ap q e), Nat.le_trans hL.le bb.size⟩ (bb.mono fun q e => (p1.lt q e).1)
  by_cases hjb : j < b
  · obtain ⟨r, c, e1, e2, e3⟩ := p2 j hjb
    obtain ⟨e4, e5⟩ := key e2 e3
    exact ⟨r, c, by simp only [if_pos hjb]; exact e1, e4, e5⟩
  · obtain rfl : j = b := by omega
    obtain ⟨e4, e5⟩ := key hr hra
    exact ⟨ra, rc, by simp only [if_neg hjb], e4, e5⟩
end
end Ls
end Go.Proofs.YtdgcnaijndocnaaDoor

/-
  Lists of rows of the call's own, each row apart from all others: appended to, stored into, rows put in place of others.
-/
set_option linter.unusedSimpArgs false
set_option linter.unusedVariables false
namespace Go.Proofs.YtdgcnaijndocnaaDoor
open Go.RowKit Vc Mt

namespace Mt
/-- v is a list of the call's own that holds n rows of m numbers each, F, each row a block of its own; below B nothing has turned since w0. -/
structure Rws (B : Nat) (w0 w : World) (v : Value) (n m : Nat) (F : Nat → Nat → Int) : Prop where
  row : ∃ (S : Nat → Value) (G : Nat → Nat), w.ownsRow B 22 1 v n (svals n S) ∧ (∀ j, j < n → S j = .slice (some ⟨G j, 0, none⟩) m m ∧ w.heap[G j]? = some (.cells (vals m (F j)).toArray 2 (0, 0)) ∧ v.ownBlock ≠ some (G j) ∧ B ≤ G j) ∧ ∀ i j, i < n → j < n → i ≠ j → G i ≠ G j
  below : Below B w0 w
  base : B ≤ w.heap.size

theorem heap_lt {w : World} {g : Nat} {o : Obj} (h : w.heap[g]? = some o) : g < w.heap.size := by
  rcases Nat.lt_or_ge g w.heap.size with k | k
  · exact k
  · rw [Array.getElem?_eq_none k] at h; cases h
theorem Rws.nil {B : Nat} {w0 w : World} (h : Below B w0 w) (hB : B ≤ w.heap.size) (m : Nat) (F : Nat → Nat → Int) : Rws B w0 w (.slice none 0 0) 0 m F := ⟨⟨fun _ => undef, fun _ => 0, World.ownsRow_nil _ _ _ _, fun j hj => by omega, fun i j hi => by omega⟩, h, hB⟩
theorem Rws.keep {B : Nat} {w0 w w' : World} {v : Value} {n m : Nat} {F : Nat → Nat → Int} (h : Rws B w0 w v n m F) (b : Below w.heap.size w w') : Rws B w0 w' v n m F := by
  obtain ⟨S, G, h1, h2, h3⟩ := h.row
  refine ⟨⟨S, G, row_keep h1 b, fun j hj => ?_, h3⟩, h.below.trans (b.mono h.base), Nat.le_trans h.base b.size⟩
  obtain ⟨e1, e2, e3, e4⟩ := h2 j hj
  exact ⟨e1, (b.block _ (heap_lt e2)).trans e2, e3, e4⟩

/-- A row that was just made is appended. -/
theorem wpList_pushR {ops : Array Oper} {rest : List Oper} {o : Oper} {a : Act} {Q : Exit → Act → World → Prop} {wp wr : World} (hgd : o.guard = none) (s x : Operand)
    (ho : o.op = .call { callee := .builtin .append, args := #[s, x], argTypes := #[107, 107] }) (B : Nat) (w0 : World) (v : Value) (n m : Nat) (F : Nat → Nat → Int) (hs : a.eval s = v) (hL0 : Rws B w0 wp v n m F) (hk : Below wp.heap.size wp wr) (hl : n ≤ 2000000)
    (g0 : Nat) (hr : wr.heap[g0]? = some (.cells (vals m (F n)).toArray 2 (0, 0))) (hsz : wp.heap.size ≤ g0)
    (hx : a.eval x = .slice (some ⟨wr.heap.size, 0, none⟩) 1 1)
    (h : ∀ v' w', Rws B w0 w' v' (n + 1) m F → wpList Tryd.prog ops Q rest (a.put o.dst v') w') : wpList Tryd.prog ops Q (o :: rest) a (wr.alloc (.cells #[.slice (some ⟨g0, 0, none⟩) m m] 22)) := by
  obtain ⟨i0, hi, hz0, hz1, hz2⟩ := info_parts infoSl
  have hL := hL0.keep hk
  obtain ⟨S, G, h1', h2', h3⟩ := hL0.row
  have h1 := row_keep h1' hk
  have hG0 : ∀ j, j < n → G j ≠ g0 := fun j hj e => by have := heap_lt (h2' j hj).2.1; omega
  have hap : v.ownBlock ≠ some g0 := fun e => by have := (h1'.lt _ e).2; omega
  have hB0 : B ≤ g0 := Nat.le_trans hL0.base hsz
  have h2 : ∀ j, j < n → S j = .slice (some ⟨G j, 0, none⟩) m m ∧ wr.heap[G j]? = some (.cells (vals m (F j)).toArray 2 (0, 0)) ∧ v.ownBlock ≠ some (G j) ∧ B ≤ G j := fun j hj => by
    obtain ⟨e1, e2, e3, e4⟩ := h2' j hj
    exact ⟨e1, (hk.block _ (heap_lt e2)).trans e2, e3, e4⟩
  refine wpList_append_lies _ hgd s x 107 ho B 22 i0 (.slice none 0 0) 1 24 Tryd.underlying107 hi hz0 hz1 hz2 rfl (by decide) v n (svals n S) hs (h1.alloc _) ⟨wr.heap.size, 0, none⟩ 1 1 [.slice (some ⟨g0, 0, none⟩) m m] hx rfl (cell_one_new _ _ _) (by intro u hu; simp at hu; subst hu; rfl) (by omega) (by unfold maxLen; omega) (by omega) (by have := hL.base; simp; omega) _ rfl ?_
  intro g cap w' o1 o2 o3 o4
  rw [svals_push] at o1
  have hblk : ∀ {q : Nat} {f : Nat → Int}, wr.heap[q]? = some (.cells (vals m f).toArray 2 (0, 0)) → v.ownBlock ≠ some q → w'.heap[q]? = some (.cells (vals m f).toArray 2 (0, 0)) ∧ Value.ownBlock (.slice (some ⟨g, 0, none⟩) (n + 1) cap) ≠ some q := by
    intro q f hq hv
    have hlt := heap_lt hq
    refine ⟨?_, fun e => ?_⟩
    · rw [o2.block q (by simp; omega) (fun e => hv e.symm)]
      exact (Below.heap_alloc _ _ _ hlt).trans hq
    · have e3 : g = q := by simpa [Value.ownBlock] using e
      rcases o3 with o3 | o3
      · exact hv (by rw [o3, e3])
      · simp at o3; omega
  refine h _ w' ⟨⟨_, fun k => if k < n then G k else g0, o1, fun j hj => ?_, fun i j hi hj hij => ?_⟩, ?_, Nat.le_trans (by have := hL.base; simp; omega) o2.size⟩
  · by_cases hjn : j < n
    · obtain ⟨e1, e2, e3, e4⟩ := h2 j hjn
      simp only [if_pos hjn]
      exact ⟨e1, (hblk e2 e3).1, (hblk e2 e3).2, e4⟩
    · obtain rfl : j = n := by omega
      simp only [if_neg hjn]
      exact ⟨trivial, (hblk hr hap).1, (hblk hr hap).2, hB0⟩
  · by_cases hin : i < n
    · by_cases hjn : j < n
      · simp only [if_pos hin, if_pos hjn]; exact h3 i j hin hjn hij
      · simp only [if_pos hin, if_neg hjn]; exact hG0 i hin
    · have hjn : j < n := by omega
      simp only [if_neg hin, if_pos hjn]
      exact fun e => hG0 j hjn e.symm
  · refine (hL.below.alloc hL.base _).grown o2 (by have := hL.base; simp; omega) ?_
    intro k hk
    exact (h1.lt k hk).1

/-- The list and its rows, by their blocks. -/
structure RwsAt (B : Nat) (w0 w : World) (L cm : Nat) (G : Nat → Nat) (n m : Nat) (F : Nat → Nat → Int) : Prop where
  list : ∃ cur : Array Value, w.heap[L]? = some (.cells cur 22 (0, 0)) ∧ ∀ k, k < n → cur[k]? = some (.slice (some ⟨G k, 0, none⟩) m m)
  row : ∀ k, k < n → w.heap[G k]? = some (.cells (vals m (F k)).toArray 2 (0, 0))
  far : ∀ i j, i < n → j < n → i ≠ j → G i ≠ G j
  off : ∀ k, k < n → G k ≠ L
  own : ∀ k, k < n → B ≤ G k
  ownL : B ≤ L
  below : Below B w0 w
  base : B ≤ w.heap.size
  cap : n ≤ cm
  cap2 : cm ≤ 9223372036854775807

theorem Rws.open {B : Nat} {w0 w : World} {v : Value} {n m : Nat} {F : Nat → Nat → Int} (h : Rws B w0 w v n m F) (h0 : 0 < n) : ∃ L cm G, v = .slice (some ⟨L, 0, none⟩) n cm ∧ RwsAt B w0 w L cm G n m F := by
  obtain ⟨S, G, ⟨h1, h2⟩, h3, h4⟩ := h.row
  rcases h2 with ⟨rfl, rfl⟩ | ⟨g, cap, cur, rfl, hb, hg, hn, hc, hs, ht⟩
  · omega
  · refine ⟨g, cap, G, rfl, ⟨⟨cur, hg, fun k hk => ?_⟩, fun k hk => (h3 k hk).2.1, h4, fun k hk e => ?_, fun k hk => (h3 k hk).2.2.2, hb, h.below, h.base, hn, hc⟩⟩
    · have e := svals_at (S := S) hk
      rw [← ht] at e
      have e4 : cur[k]? = some (S k) := by
        rw [List.getElem?_take] at e
        split at e
        · simpa using e
        · cases e
      rw [e4, (h3 k hk).1]
    · exact (h3 k hk).2.2.1 (by simp [Value.ownBlock, e])

variable {B : Nat} {w0 w w' : World} {L cm n m : Nat} {G : Nat → Nat} {F : Nat → Nat → Int}
theorem RwsAt.cellL (h : RwsAt B w0 w L cm G n m F) {k : Nat} (hk : k < n) : w.cell? ⟨L, k, none⟩ = some (.slice (some ⟨G k, 0, none⟩) m m) := by
  obtain ⟨cur, h1, h2⟩ := h.list
  simp [World.cell?, h1, h2 k hk]
theorem RwsAt.freeL (h : RwsAt B w0 w L cm G n m F) (j : Nat) : w.frozen? ⟨L, j, none⟩ = false := by
  obtain ⟨cur, h1, h2⟩ := h.list
  exact frozen_of_row w L j _ _ h1
theorem RwsAt.cell (h : RwsAt B w0 w L cm G n m F) {i j : Nat} (hi : i < n) (hj : j < m) : w.cell? ⟨G i, j, none⟩ = some (.int .i64 (F i j)) := by
  simp [World.cell?, h.row i hi, vals_at hj]
theorem RwsAt.free (h : RwsAt B w0 w L cm G n m F) {i : Nat} (hi : i < n) (j : Nat) : w.frozen? ⟨G i, j, none⟩ = false := frozen_of_row w (G i) j _ _ (h.row i hi)
theorem RwsAt.keep (h : RwsAt B w0 w L cm G n m F) (b : Below w.heap.size w w') : RwsAt B w0 w' L cm G n m F := by
  obtain ⟨cur, h1, h2⟩ := h.list
  exact ⟨⟨cur, (b.block _ (heap_lt h1)).trans h1, h2⟩, fun k hk => (b.block _ (heap_lt (h.row k hk))).trans (h.row k hk), h.far, h.off, h.own, h.ownL, h.below.trans (b.mono h.base), Nat.le_trans h.base b.size, h.cap, h.cap2⟩
theorem RwsAt.drewN (h : RwsAt B w0 w L cm G n m F) (q : Nat) : RwsAt B w0 (w.drewN q) L cm G n m F := h.keep (Vc.below_drewN (Below.refl _ _) q)
theorem RwsAt.congr {F' : Nat → Nat → Int} (h : RwsAt B w0 w L cm G n m F) (e : ∀ i j, i < n → j < m → F i j = F' i j) : RwsAt B w0 w L cm G n m F' :=
  ⟨h.list, fun k hk => by rw [h.row k hk, vals_congr (fun j hj => e k j hk hj)], h.far, h.off, h.own, h.ownL, h.below, h.base, h.cap, h.cap2⟩
/-- F, but x at i, j. -/
def put2 (F : Nat → Nat → Int) (i j : Nat) (x : Int) : Nat → Nat → Int := fun a b => if a = i ∧ b = j then x else F a b
theorem RwsAt.set (h : RwsAt B w0 w L cm G n m F) {i : Nat} (hi : i < n) (j : Nat) (x : Int) : RwsAt B w0 (w.setCell ⟨G i, j, none⟩ (.int .i64 x)) L cm G n m (put2 F i j x) := by
  obtain ⟨cur, h1, h2⟩ := h.list
  refine ⟨⟨cur, (heap_setCell_other w _ L _ (fun e => h.off i hi e.symm)).trans h1, h2⟩, fun k hk => ?_, h.far, h.off, h.own, h.ownL, h.below.setCell (h.own i hi) _, by simp [h.base], h.cap, h.cap2⟩
  by_cases e : k = i
  · subst e
    rw [heap_setCell_same w (G k) j _ _ _ (h.row k hk)]
    have e2 : (vals m (F k)).toArray.setIfInBounds j (.int .i64 x) = (vals m (put2 F k j x k)).toArray := by
      rw [List.setIfInBounds_toArray, vals_set]
      congr 1
      refine vals_congr fun q _ => ?_
      unfold put2
      by_cases e : q = j
      · rw [if_pos e, if_pos ⟨rfl, e⟩]
      · rw [if_neg e, if_neg (fun h => e h.2)]
    rw [e2]
  · have e2 : vals m (F k) = vals m (put2 F i j x k) := vals_congr fun q _ => by unfold put2; rw [if_neg (fun h => e h.1)]
    rw [heap_setCell_other w _ (G k) _ (h.far k i hk hi e), h.row k hk, e2]
/-- A row in another's place. -/
theorem RwsAt.put (h : RwsAt B w0 w L cm G n m F) {i : Nat} (hi : i < n) {g : Nat} {f : Nat → Int} (hg : w.heap[g]? = some (.cells (vals m f).toArray 2 (0, 0))) (hB : B ≤ g) (hL : g ≠ L) (hG : ∀ k, k < n → G k ≠ g) :
    RwsAt B w0 (w.setCell ⟨L, i, none⟩ (.slice (some ⟨g, 0, none⟩) m m)) L cm (fun k => if k = i then g else G k) n m (fun a => if a = i then f else F a) := by
  obtain ⟨cur, h1, h2⟩ := h.list
  refine ⟨⟨cur.setIfInBounds i (.slice (some ⟨g, 0, none⟩) m m), heap_setCell_same w L i _ _ _ h1, fun k hk => ?_⟩, fun k hk => ?_, fun a b ha hb hab => ?_, fun k hk => ?_, fun k hk => ?_, h.ownL, h.below.setCell h.ownL _, by simp [h.base], h.cap, h.cap2⟩
  · rw [Array.getElem?_setIfInBounds]
    have hlt : i < cur.size := by
      rcases Nat.lt_or_ge i cur.size with q | q
      · exact q
      · have := h2 i hi; rw [Array.getElem?_eq_none q] at this; cases this
    by_cases e : k = i
    · rw [if_pos e.symm, if_pos hlt, if_pos e]
    · rw [if_neg (fun h => e h.symm), if_neg e]; exact h2 k hk
  · by_cases e : k = i
    · simp only [if_pos e]
      rw [heap_setCell_other w _ g _ hL]; exact hg
    · simp only [if_neg e]
      rw [heap_setCell_other w _ (G k) _ (h.off k hk)]; exact h.row k hk
  · by_cases e1 : a = i
    · have e2 : b ≠ i := fun e => hab (e1.trans e.symm)
      simp only [if_pos e1, if_neg e2]
      exact fun e => hG b hb e.symm
    · by_cases e2 : b = i
      · simp only [if_neg e1, if_pos e2]; exact hG a ha
      · simp only [if_neg e1, if_neg e2]; exact h.far a b ha hb hab
  · by_cases e : k = i
    · simp only [if_pos e]; exact hL
    · simp only [if_neg e]; exact h.off k hk
  · by_cases e : k = i
    · simp only [if_pos e]; exact hB
    · simp only [if_neg e]; exact h.own k hk
theorem RwsAt.grid (h : RwsAt B w0 w L cm G n m F) (hm : m ≤ 9223372036854775807) : Grid w (some ⟨L, 0, none⟩) n cm m F := by
  refine ⟨fun k => some ⟨G k, 0, none⟩, fun _ => m, ⟨h.cap, h.cap2, fun j hj => ⟨_, rfl, ?_⟩⟩, fun k hk => ⟨Nat.le_refl _, hm, fun j hj => ⟨_, rfl, ?_⟩⟩⟩
  · rw [Addr.add_lit, Nat.zero_add]; exact h.cellL hj
  · rw [Addr.add_lit, Nat.zero_add]; exact h.cell hk hj
end Mt
end Go.Proofs.YtdgcnaijndocnaaDoor

/-
  Lists of rows of the call's own that were appended to, number by number: each row apart from all others, with whatever room behind it; stored into.
-/
set_option linter.unusedSimpArgs false
set_option linter.unusedVariables false
namespace Go.Proofs.YtdgcnaijndocnaaDoor
open Go.RowKit Vc Mt

namespace Mt
/-- A block whose first m cells are the numbers f. -/
def Fst (w : World) (g m : Nat) (f : Nat → Int) : Prop := ∃ cur : Array Value, w.heap[g]? = some (.cells cur 2 (0, 0)) ∧ ∀ q, q < m → cur[q]? = some (.int .i64 (f q))
theorem Fst.lt {w : World} {g m : Nat} {f : Nat → Int} (h : Fst w g m f) : g < w.heap.size := by obtain ⟨c, h1, _⟩ := h; exact heap_lt h1
theorem Fst.of {w w' : World} {g m : Nat} {f : Nat → Int} (h : Fst w g m f) (e : w'.heap[g]? = w.heap[g]?) : Fst w' g m f := by obtain ⟨c, h1, h2⟩ := h; exact ⟨c, e.trans h1, h2⟩
theorem Fst.congr {w : World} {g m : Nat} {f f' : Nat → Int} (h : Fst w g m f) (e : ∀ q, q < m → f q = f' q) : Fst w g m f' := by
  obtain ⟨c, h1, h2⟩ := h
  exact ⟨c, h1, fun q hq => by rw [h2 q hq, e q hq]⟩
theorem Fst.set {w : World} {g m : Nat} {f : Nat → Int} (h : Fst w g m f) {j : Nat} (hj : j < m) (x : Int) : Fst (w.setCell ⟨g, j, none⟩ (.int .i64 x)) g m (fun q => if q = j then x else f q) := by
  obtain ⟨c, h1, h2⟩ := h
  refine ⟨_, heap_setCell_same w g j _ _ _ h1, fun q hq => ?_⟩
  have hlt : j < c.size := by
    rcases Nat.lt_or_ge j c.size with k | k
    · exact k
    · have := h2 j hj; rw [Array.getElem?_eq_none k] at this; cases this
  show _ = some (Value.int .i64 (if q = j then x else f q))
  rw [Array.getElem?_setIfInBounds]
  by_cases e : q = j
  · rw [if_pos e.symm, if_pos hlt, if_pos e]
  · rw [if_neg (fun h => e h.symm), if_neg e]; exact h2 q hq
theorem Fst.cell {w : World} {g m : Nat} {f : Nat → Int} (h : Fst w g m f) {j : Nat} (hj : j < m) : w.cell? ⟨g, j, none⟩ = some (.int .i64 (f j)) := by
  obtain ⟨c, h1, h2⟩ := h
  simp [World.cell?, h1, h2 j hj]
theorem Fst.free {w : World} {g m : Nat} {f : Nat → Int} (h : Fst w g m f) (j : Nat) : w.frozen? ⟨g, j, none⟩ = false := by
  obtain ⟨c, h1, h2⟩ := h
  exact frozen_of_row w g j _ _ h1
theorem own_open {B : Nat} {w0 w : World} {v : Value} {m : Nat} {z : Nat → Int} (h : Own B w0 w v m z) (hm : 0 < m) : ∃ g cap, v = .slice (some ⟨g, 0, none⟩) m cap ∧ B ≤ g ∧ m ≤ cap ∧ cap ≤ 9223372036854775807 ∧ Fst w g m z := by
  obtain ⟨h1, h2⟩ := h.row
  rcases h2 with ⟨rfl, rfl⟩ | ⟨g, cap, cur, rfl, hb, hg, hn, hc, hs, ht⟩
  · omega
  · refine ⟨g, cap, rfl, hb, hn, hc, cur, hg, fun q hq => ?_⟩
    have e := vals_at (z := z) hq
    rw [← ht] at e
    rw [List.getElem?_take] at e
    split at e
    · simpa using e
    · cases e

/-- v is a list of the call's own that holds n rows of m numbers each, F, each row a block of its own, with whatever room. -/
structure Rwc (B : Nat) (w0 w : World) (v : Value) (n m : Nat) (F : Nat → Nat → Int) : Prop where
  row : ∃ (S : Nat → Value) (G C : Nat → Nat), w.ownsRow B 22 1 v n (svals n S) ∧ (∀ j, j < n → S j = .slice (some ⟨G j, 0, none⟩) m (C j) ∧ Fst w (G j) m (F j) ∧ (m ≤ C j ∧ C j ≤ 9223372036854775807) ∧ v.ownBlock ≠ some (G j) ∧ B ≤ G j) ∧ ∀ i j, i < n → j < n → i ≠ j → G i ≠ G j
  below : Below B w0 w
  base : B ≤ w.heap.size
theorem Rwc.nil {B : Nat} {w0 w : World} (h : Below B w0 w) (hB : B ≤ w.heap.size) (m : Nat) (F : Nat → Nat → Int) : Rwc B w0 w (.slice none 0 0) 0 m F := ⟨⟨fun _ => undef, fun _ => 0, fun _ => 0, World.ownsRow_nil _ _ _ _, fun j hj => by omega, fun i j hi => by omega⟩, h, hB⟩
theorem Rwc.keep {B : Nat} {w0 w w' : World} {v : Value} {n m : Nat} {F : Nat → Nat → Int} (h : Rwc B w0 w v n m F) (b : Below w.heap.size w w') : Rwc B w0 w' v n m F := by
  obtain ⟨S, G, C, h1, h2, h3⟩ := h.row
  refine ⟨⟨S, G, C, row_keep h1 b, fun j hj => ?_, h3⟩, h.below.trans (b.mono h.base), Nat.le_trans h.base b.size⟩
  obtain ⟨e1, e2, e3, e4⟩ := h2 j hj
  exact ⟨e1, e2.of (b.block _ e2.lt), e3, e4⟩

/-- A row of the call's own is appended. -/
theorem wpList_pushC {ops : Array Oper} {rest : List Oper} {o : Oper} {a : Act} {Q : Exit → Act → World → Prop} {wp wr : World} (hgd : o.guard = none) (s x : Operand)
    (ho : o.op = .call { callee := .builtin .append, args := #[s, x], argTypes := #[107, 107] }) (B : Nat) (w0 : World) (v : Value) (n m : Nat) (F : Nat → Nat → Int) (hs : a.eval s = v) (hL0 : Rwc B w0 wp v n m F) (hk : Below wp.heap.size wp wr) (hl : n ≤ 2000000)
    (g0 c0 : Nat) (hr : Fst wr g0 m (F n)) (hc0 : m ≤ c0 ∧ c0 ≤ 9223372036854775807) (hsz : wp.heap.size ≤ g0)
    (hx : a.eval x = .slice (some ⟨wr.heap.size, 0, none⟩) 1 1)
    (h : ∀ v' w', Rwc B w0 w' v' (n + 1) m F → wpList Tryd.prog ops Q rest (a.put o.dst v') w') : wpList Tryd.prog ops Q (o :: rest) a (wr.alloc (.cells #[.slice (some ⟨g0, 0, none⟩) m c0] 22)) := by
  obtain ⟨i0, hi, hz0, hz1, hz2⟩ := info_parts infoSl
  have hL := hL0.keep hk
  obtain ⟨S, G, C, h1', h2', h3⟩ := hL0.row
  have h1 := row_keep h1' hk
  have hG0 : ∀ j, j < n → G j ≠ g0 := fun j hj e => by have := (h2' j hj).2.1.lt; omega
  have hap : v.ownBlock ≠ some g0 := fun e => by have := (h1'.lt _ e).2; omega
  have hB0 : B ≤ g0 := Nat.le_trans hL0.base hsz
  refine wpList_append_lies _ hgd s x 107 ho B 22 i0 (.slice none 0 0) 1 24 Tryd.underlying107 hi hz0 hz1 hz2 rfl (by decide) v n (svals n S) hs (h1.alloc _) ⟨wr.heap.size, 0, none⟩ 1 1 [.slice (some ⟨g0, 0, none⟩) m c0] hx rfl (cell_one_new _ _ _) (by intro u hu; simp at hu; subst hu; rfl) (by omega) (by unfold maxLen; omega) (by omega) (by have := hL.base; simp; omega) _ rfl ?_
  intro g cap w' o1 o2 o3 o4
  rw [svals_push] at o1
  have hblk : ∀ {q : Nat} {f : Nat → Int}, Fst wr q m f → v.ownBlock ≠ some q → Fst w' q m f ∧ Value.ownBlock (.slice (some ⟨g, 0, none⟩) (n + 1) cap) ≠ some q := by
    intro q f hq hv
    have hlt := hq.lt
    refine ⟨hq.of ?_, fun e => ?_⟩
    · rw [o2.block q (by simp; omega) (fun e => hv e.symm)]
      exact Below.heap_alloc _ _ _ hlt
    · have e3 : g = q := by simpa [Value.ownBlock] using e
      rcases o3 with o3 | o3
      · exact hv (by rw [o3, e3])
      · simp at o3; omega
  refine h _ w' ⟨⟨_, fun k => if k < n then G k else g0, fun k => if k < n then C k else c0, o1, fun j hj => ?_, fun i j hi hj hij => ?_⟩, ?_, Nat.le_trans (by have := hL.base; simp; omega) o2.size⟩
  · by_cases hjn : j < n
    · obtain ⟨e1, e2, e3, e4, e5⟩ := h2' j hjn
      have e2' := e2.of (hk.block _ e2.lt)
      simp only [if_pos hjn]
      exact ⟨e1, (hblk e2' e4).1, e3, (hblk e2' e4).2, e5⟩
    · obtain rfl : j = n := by omega
      simp only [if_neg hjn]
      exact ⟨trivial, (hblk hr hap).1, hc0, (hblk hr hap).2, hB0⟩
  · by_cases hin : i < n
    · by_cases hjn : j < n
      · simp only [if_pos hin, if_pos hjn]; exact h3 i j hin hjn hij
      · simp only [if_pos hin, if_neg hjn]; exact hG0 i hin
    · have hjn : j < n := by omega
      simp only [if_neg hin, if_pos hjn]
      exact fun e => hG0 j hjn e.symm
  · refine (hL.below.alloc hL.base _).grown o2 (by have := hL.base; simp; omega) ?_
    intro k hk
    exact (h1.lt k hk).1

/-- The list and its rows, by their blocks. -/
structure RwcAt (B : Nat) (w0 w : World) (L cm : Nat) (G C : Nat → Nat) (n m : Nat) (F : Nat → Nat → Int) : Prop where
  list : ∃ cur : Array Value, w.heap[L]? = some (.cells cur 22 (0, 0)) ∧ ∀ k, k < n → cur[k]? = some (.slice (some ⟨G k, 0, none⟩) m (C k))
  row : ∀ k, k < n → Fst w (G k) m (F k)
  room : ∀ k, k < n → m ≤ C k ∧ C k ≤ 9223372036854775807
  far : ∀ i j, i < n → j < n → i ≠ j → G i ≠ G j
  off : ∀ k, k < n → G k ≠ L
  own : ∀ k, k < n → B ≤ G k
  ownL : B ≤ L
  below : Below B w0 w
  base : B ≤ w.heap.size
  cap : n ≤ cm
  cap2 : cm ≤ 9223372036854775807
theorem Rwc.open {B : Nat} {w0 w : World} {v : Value} {n m : Nat} {F : Nat → Nat → Int} (h : Rwc B w0 w v n m F) (h0 : 0 < n) : ∃ L cm G C, v = .slice (some ⟨L, 0, none⟩) n cm ∧ RwcAt B w0 w L cm G C n m F := by
  obtain ⟨S, G, C, ⟨h1, h2⟩, h3, h4⟩ := h.row
  rcases h2 with ⟨rfl, rfl⟩ | ⟨g, cap, cur, rfl, hb, hg, hn, hc, hs, ht⟩
  · omega
  · refine ⟨g, cap, G, C, rfl, ⟨⟨cur, hg, fun k hk => ?_⟩, fun k hk => (h3 k hk).2.1, fun k hk => (h3 k hk).2.2.1, h4, fun k hk e => ?_, fun k hk => (h3 k hk).2.2.2.2, hb, h.below, h.base, hn, hc⟩⟩
    · have e := svals_at (S := S) hk
      rw [← ht] at e
      have e4 : cur[k]? = some (S k) := by
        rw [List.getElem?_take] at e
        split at e
        · simpa using e
        · cases e
      rw [e4, (h3 k hk).1]
    · exact (h3 k hk).2.2.2.1 (by simp [Value.ownBlock, e])
section
variable {B : Nat} {w0 w w' : World} {L cm n m : Nat} {G C : Nat → Nat} {F : Nat → Nat → Int}
theorem RwcAt.cellL (h : RwcAt B w0 w L cm G C n m F) {k : Nat} (hk : k < n) : w.cell? ⟨L, k, none⟩ = some (.slice (some ⟨G k, 0, none⟩) m (C k)) := by
  obtain ⟨cur, h1, h2⟩ := h.list
  simp [World.cell?, h1, h2 k hk]
theorem RwcAt.cell (h : RwcAt B w0 w L cm G C n m F) {i j : Nat} (hi : i < n) (hj : j < m) : w.cell? ⟨G i, j, none⟩ = some (.int .i64 (F i j)) := (h.row i hi).cell hj
theorem RwcAt.free (h : RwcAt B w0 w L cm G C n m F) {i : Nat} (hi : i < n) (j : Nat) : w.frozen? ⟨G i, j, none⟩ = false := (h.row i hi).free j
theorem RwcAt.keep (h : RwcAt B w0 w L cm G C n m F) (b : Below w.heap.size w w') : RwcAt B w0 w' L cm G C n m F := by
  obtain ⟨cur, h1, h2⟩ := h.list
  exact ⟨⟨cur, (b.block _ (heap_lt h1)).trans h1, h2⟩, fun k hk => (h.row k hk).of (b.block _ (h.row k hk).lt), h.room, h.far, h.off, h.own, h.ownL, h.below.trans (b.mono h.base), Nat.le_trans h.base b.size, h.cap, h.cap2⟩
theorem RwcAt.congr {F' : Nat → Nat → Int} (h : RwcAt B w0 w L cm G C n m F) (e : ∀ i j, i < n → j < m → F i j = F' i j) : RwcAt B w0 w L cm G C n m F' :=
  ⟨h.list, fun k hk => (h.row k hk).congr (fun j hj => e k j hk hj), h.room, h.far, h.off, h.own, h.ownL, h.below, h.base, h.cap, h.cap2⟩
theorem RwcAt.set (h : RwcAt B w0 w L cm G C n m F) {i j : Nat} (hi : i < n) (hj : j < m) (x : Int) : RwcAt B w0 (w.setCell ⟨G i, j, none⟩ (.int .i64 x)) L cm G C n m (put2 F i j x) := by
  obtain ⟨cur, h1, h2⟩ := h.list
  refine ⟨⟨cur, (heap_setCell_other w _ L _ (fun e => h.off i hi e.symm)).trans h1, h2⟩, fun k hk => ?_, h.room, h.far, h.off, h.own, h.ownL, h.below.setCell (h.own i hi) _, by simp [h.base], h.cap, h.cap2⟩
  by_cases e : k = i
  · subst e
    refine ((h.row k hk).set hj x).congr fun q _ => ?_
    unfold put2
    by_cases e : q = j
    · rw [if_pos e, if_pos ⟨rfl, e⟩]
    · rw [if_neg e, if_neg (fun h => e h.2)]
  · refine ((h.row k hk).of (heap_setCell_other w _ (G k) _ (h.far k i hk hi e))).congr fun q _ => ?_
    unfold put2
    rw [if_neg (fun h => e h.1)]
theorem RwcAt.grid (h : RwcAt B w0 w L cm G C n m F) : Grid w (some ⟨L, 0, none⟩) n cm m F := by
  refine ⟨fun k => some ⟨G k, 0, none⟩, C, ⟨h.cap, h.cap2, fun j hj => ⟨_, rfl, ?_⟩⟩, fun k hk => ⟨(h.room k hk).1, (h.room k hk).2, fun j hj => ⟨_, rfl, ?_⟩⟩⟩
  · rw [Addr.add_lit, Nat.zero_add]; exact h.cellL hj
  · rw [Addr.add_lit, Nat.zero_add]; exact h.cell hk hj
theorem Sl.rowOther {ao : Option Addr} {ca q : Nat} {z : Nat → Int} (h : Sl w ao q ca z) {g : Nat} (cs : Array Value) (hne : ∀ x, ao = some x → x.block ≠ g) : Sl (w.setRow g cs) ao q ca z :=
  ⟨h.le, h.cap, fun k hk => by
    obtain ⟨x, hx, hc⟩ := h.at' k hk
    refine ⟨x, hx, ?_⟩
    have hb : (x.add k).block = x.block := by unfold Addr.add; split <;> rfl
    have e : (w.setRow g cs).heap[(x.add k).block]? = w.heap[(x.add k).block]? := setRow_other w g _ cs (by rw [hb]; exact hne x hx)
    rw [World.cell?_of_block e]
    exact hc⟩
/-- Behind a store of a whole row elsewhere. -/
theorem RwcAt.gridOther (h : RwcAt B w0 w L cm G C n m F) {g : Nat} (cs : Array Value) (hL : L ≠ g) (hG : ∀ k, k < n → G k ≠ g) : Grid (w.setRow g cs) (some ⟨L, 0, none⟩) n cm m F := by
  obtain ⟨cur, h1, h2⟩ := h.list
  have hl : (w.setRow g cs).heap[L]? = some (.cells cur 22 (0, 0)) := (setRow_other w g L cs hL).trans h1
  refine ⟨fun k => some ⟨G k, 0, none⟩, C, ⟨h.cap, h.cap2, fun j hj => ⟨_, rfl, ?_⟩⟩, fun k hk => ⟨(h.room k hk).1, (h.room k hk).2, fun j hj => ⟨_, rfl, ?_⟩⟩⟩
  · rw [Addr.add_lit, Nat.zero_add]; simp [World.cell?, hl, h2 j hj]
  · rw [Addr.add_lit, Nat.zero_add]; exact ((h.row k hk).of (setRow_other w g _ cs (hG k hk))).cell hj
end
end Mt
end Go.Proofs.YtdgcnaijndocnaaDoor
