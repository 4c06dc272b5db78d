/-
  What all texts of this seat's walks lean on: worlds that grow, cells that stay, results.
-/
import Derived.Test.YtlomfjacgomhdaaGreatDoorProg
import Derived.WalkKit
import Derived.Deep.QuietTactic
import Derived.BigQuiet
import Derived.WalkSpells
import Derived.WalkLawsBesides
import Derived.Maps.AppendAt
import Derived.OwnWalk
import Derived.Laws.Bits64b
import Derived.Laws.BitsAllLaws
set_option linter.unusedSimpArgs false
set_option linter.unusedVariables false
namespace Go.Proofs.YtlomfjacgomhdaaGreatDoor
open Go.RowKit
theorem below_al {a w : World} (h : Below a.heap.size a w) (o : Obj) : Below a.heap.size a (w.alloc o) := h.alloc h.size o
theorem below_tr {a b c : World} (h : Below a.heap.size a b) (k : Below b.heap.size b c) : Below a.heap.size a c := h.trans (k.mono h.size)
theorem keep_cell {W w1 : World} (hb : Below W.heap.size W w1) {a : Addr} {v : Value} (h : W.cell? a = some v) : w1.cell? a = some v := (hb.cell (World.block_lt_of_cell? W _ h)).trans h
theorem keep_free {W w1 : World} (hb : Below W.heap.size W w1) {a : Addr} {v : Value} (h : W.cell? a = some v) (hf : W.frozen? a = false) : w1.frozen? a = false := (hb.frozen (World.block_lt_of_cell? W _ h)).trans hf
namespace Dec
theorem ret_bool {a b : Bool} (h : a = b) : Ending.returned (.bool a) = .returned (.bool b) := by rw [h]
theorem ret_int {k : IntKind} {a b : Int} (h : a = b) : Ending.returned (.int k a) = .returned (.int k b) := by rw [h]
end Dec
end Go.Proofs.YtlomfjacgomhdaaGreatDoor
namespace Go.Proofs.YtlomfjacgomhdaaGreatDoor
open Go.RowKit
namespace Vc
theorem Hid.mkV {p : Prop} (h : p) : Hid p := h
theorem below_drewN {B : Nat} {a w : World} (h : Below B a w) (n : Nat) : Below B a (w.drewN n) := ⟨h.os, h.tape, h.output, h.size, h.block⟩
theorem below_drew' (w : World) : Below w.heap.size w w.drew := (Below.refl _ w).drew
theorem infoI64 : (Tryz.prog.info? 2).map (fun i => (i.zero, i.size, i.bytes)) = some (some (.int .i64 0), 1, 8) := by kernel_rfl
def vals (n : Nat) (z : Nat → Int) : List Value := (List.range n).map fun k => Value.int .i64 (z k)
theorem vals_len (n : Nat) (z : Nat → Int) : (vals n z).length = n := by simp [vals]
theorem vals_at {n k : Nat} {z : Nat → Int} (h : k < n) : (vals n z)[k]? = some (.int .i64 (z k)) := by simp [vals, h]
theorem vals_push (n : Nat) (z : Nat → Int) : vals n z ++ [.int .i64 (z n)] = vals (n + 1) z := by simp [vals, List.range_succ]
theorem vals_congr {n : Nat} {z z' : Nat → Int} (h : ∀ k, k < n → z k = z' k) : vals n z = vals n z' := by
  unfold vals
  exact List.map_congr_left fun k hk => by rw [h k (List.mem_range.1 hk)]
theorem vals_set (n j : Nat) (x : Int) (z : Nat → Int) : (vals n z).set j (.int .i64 x) = vals n (fun k => if k = j then x else z k) := by
  apply List.ext_getElem?
  intro i
  by_cases hi : i < n
  · rw [vals_at hi, List.getElem?_set, vals_len]
    by_cases e : j = i
    · subst e; simp [hi]
    · rw [if_neg e, vals_at hi, if_neg (fun h => e h.symm)]
  · rw [List.getElem?_eq_none (by simp [vals_len]; omega), List.getElem?_eq_none (by rw [vals_len]; omega)]
structure Sl (w : World) (ao : Option Addr) (n ca : Nat) (z : Nat → Int) : Prop where
  le : n ≤ ca
  cap : ca ≤ 9223372036854775807
  at' : ∀ k, k < n → ∃ x, ao = some x ∧ w.cell? (x.add k) = some (.int .i64 (z k))
theorem Sl.get {w : World} {ao : Option Addr} {n ca : Nat} {z : Nat → Int} (h : Sl w ao n ca z) : ∃ x, (0 < n → ao = some x) ∧ ∀ k, k < n → w.cell? (x.add k) = some (.int .i64 (z k)) := by
  cases ao with
  | none => exact ⟨⟨0, 0, none⟩, fun h0 => (by obtain ⟨x, hx, _⟩ := h.at' 0 h0; cases hx), fun k hk => (by obtain ⟨x, hx, _⟩ := h.at' k hk; cases hx)⟩
  | some x => exact ⟨x, fun _ => rfl, fun k hk => by obtain ⟨y, hy, hc⟩ := h.at' k hk; cases hy; exact hc⟩
theorem Sl.keep {w w' : World} {ao : Option Addr} {n ca : Nat} {z : Nat → Int} (h : Sl w ao n ca z) (b : Below w.heap.size w w') : Sl w' ao n ca z :=
  ⟨h.le, h.cap, fun k hk => by obtain ⟨x, hx, hc⟩ := h.at' k hk; exact ⟨x, hx, keep_cell b hc⟩⟩
theorem Sl.congr {w : World} {ao : Option Addr} {n ca : Nat} {z z' : Nat → Int} (h : Sl w ao n ca z) (e : ∀ k, k < n → z k = z' k) : Sl w ao n ca z' :=
  ⟨h.le, h.cap, fun k hk => by rw [← e k hk]; exact h.at' k hk⟩
theorem Sl.none (w : World) (z : Nat → Int) : Sl w none 0 0 z := ⟨Nat.le_refl _, by omega, fun k hk => by omega⟩
def B64 (z : Nat → Int) : Prop := ∀ k, -9223372036854775808 ≤ z k ∧ z k ≤ 9223372036854775807
def anyb (g : Nat → Bool) : Nat → Bool
  | 0 => false
  | k + 1 => anyb g k || g k
theorem anyb_congr {g h : Nat → Bool} : ∀ {n : Nat}, (∀ k, k < n → g k = h k) → anyb g n = anyb h n
  | 0, _ => rfl
  | n + 1, e => by unfold anyb; rw [anyb_congr fun k hk => e k (by omega), e n (by omega)]
theorem anyb_false {g : Nat → Bool} : ∀ {n : Nat}, anyb g n = false ↔ ∀ k, k < n → g k = false
  | 0 => ⟨fun _ k hk => by omega, fun _ => rfl⟩
  | n + 1 => by
    unfold anyb
    rw [Bool.or_eq_false_iff, anyb_false]
    refine ⟨fun h k hk => ?_, fun h => ⟨fun k hk => h k (by omega), h n (by omega)⟩⟩
    rcases Nat.lt_or_ge k n with c | c
    · exact h.1 k c
    · obtain rfl : k = n := by omega
      exact h.2
structure Own (B : Nat) (w0 w : World) (v : Value) (n : Nat) (z : Nat → Int) : Prop where
  row : w.ownsRow B 2 1 v n (vals n z)
  below : Below B w0 w
  base : B ≤ w.heap.size
theorem Own.nil {B : Nat} {w0 w : World} (h : Below B w0 w) (hB : B ≤ w.heap.size) (z : Nat → Int) : Own B w0 w (.slice none 0 0) 0 z := ⟨World.ownsRow_nil _ _ _ _, h, hB⟩
theorem Own.sl {B : Nat} {w0 w : World} {v : Value} {n : Nat} {z : Nat → Int} (h : Own B w0 w v n z) : ∃ ao ca, v = .slice ao n ca ∧ Sl w ao n ca z := by
  obtain ⟨⟨h1, h2⟩, _, _⟩ := h
  rcases h2 with ⟨rfl, rfl⟩ | ⟨g, cap, cur, rfl, hb, hg, hn, hc, hs, ht⟩
  · exact ⟨_, _, rfl, Sl.none _ _⟩
  · refine ⟨_, _, rfl, hn, hc, fun k hk => ⟨_, rfl, ?_⟩⟩
    have e := vals_at (z := z) hk
    rw [← ht] at e
    have e2 : cur[k]? = some (.int .i64 (z k)) := by
      rw [List.getElem?_take] at e
      split at e
      · simpa using e
      · cases e
    rw [Addr.add_lit, Nat.zero_add]
    simp [World.cell?, hg, e2]
theorem row_keep {w w' : World} {B : Nat} {t : TypeId} {s : Nat} {v : Value} {n : Nat} {xs : List Value} (h : w.ownsRow B t s v n xs) (b : Below w.heap.size w w') : w'.ownsRow B t s v n xs := by
  obtain ⟨h1, h2⟩ := h
  refine ⟨h1, ?_⟩
  rcases h2 with h2 | ⟨g, cap, cur, rfl, hb, hg, hn, hc, hs, ht⟩
  · exact Or.inl h2
  · refine Or.inr ⟨g, cap, cur, rfl, hb, ?_, hn, hc, hs, ht⟩
    have hlt : g < w.heap.size := by
      rcases Nat.lt_or_ge g w.heap.size with k | k
      · exact k
      · rw [Array.getElem?_eq_none k] at hg; cases hg
    exact (b.block g hlt).trans hg
theorem Own.keep {B : Nat} {w0 w w' : World} {v : Value} {n : Nat} {z : Nat → Int} (h : Own B w0 w v n z) (b : Below w.heap.size w w') : Own B w0 w' v n z :=
  ⟨row_keep h.row b, h.below.trans (b.mono h.base), Nat.le_trans h.base b.size⟩
theorem Own.drew {B : Nat} {w0 w : World} {v : Value} {n : Nat} {z : Nat → Int} (h : Own B w0 w v n z) : Own B w0 w.drew v n z := ⟨h.row, h.below.drew, h.base⟩
theorem Own.cell {B : Nat} {w0 w : World} {g n c : Nat} {z : Nat → Int} (h : Own B w0 w (.slice (some ⟨g, 0, none⟩) n c) n z) {j : Nat} (hj : j < n) : w.cell? ⟨g, j, none⟩ = some (.int .i64 (z j)) := by
  rw [h.row.cellAt j (by omega)]
  exact vals_at hj
theorem Own.free {B : Nat} {w0 w : World} {g n c : Nat} {z : Nat → Int} (h : Own B w0 w (.slice (some ⟨g, 0, none⟩) n c) n z) (j : Nat) : w.frozen? ⟨g, j, none⟩ = false := h.row.frozenAt j
theorem Own.set {B : Nat} {w0 w : World} {g n c : Nat} {z : Nat → Int} (h : Own B w0 w (.slice (some ⟨g, 0, none⟩) n c) n z) (j : Nat) (x : Int) : Own B w0 (w.setCell ⟨g, j, none⟩ (.int .i64 x)) (.slice (some ⟨g, 0, none⟩) n c) n (fun k => if k = j then x else z k) := by
  obtain ⟨h1, h2⟩ := h.row.stored j (.int .i64 x)
  rw [vals_set] at h1
  exact ⟨h1, h.below.grown h2 h.base (fun k hk => by cases hk; exact (h.row.lt g rfl).1), Nat.le_trans h.base h2.size⟩
theorem Own.congr {B : Nat} {w0 w : World} {v : Value} {n : Nat} {z z' : Nat → Int} (h : Own B w0 w v n z) (e : ∀ k, k < n → z k = z' k) : Own B w0 w v n z' := ⟨by rw [← vals_congr e]; exact h.row, h.below, h.base⟩
theorem own_made {B : Nat} {w0 w : World} {g n : Nat} (h : w.ownsRow B 2 1 (.slice (some ⟨g, 0, none⟩) n n) n (madeCells #[Value.int .i64 0] n).toList) (hg : w0.grownBy w none) (hB : B ≤ w0.heap.size) :
    Own B w0 w (.slice (some ⟨g, 0, none⟩) n n) n (fun _ => 0) := by
  refine ⟨?_, (Below.refl _ _).grown hg hB (by intro k hk; cases hk), by have := hg.size; omega⟩
  have e : (madeCells #[Value.int .i64 0] n).toList = vals n (fun _ => 0) := by
    rw [toList_madeCells_one]
    apply List.ext_getElem?
    intro i
    by_cases hi : i < n
    · rw [vals_at hi, List.getElem?_replicate, if_pos hi]
    · rw [List.getElem?_eq_none (by simp; omega), List.getElem?_eq_none (by rw [vals_len]; omega)]
  rw [e] at h
  exact h
theorem wpList_push {ops : Array Oper} {rest : List Oper} {o : Oper} {a : Act} {Q : Exit → Act → World → Prop} {wr : World} (hgd : o.guard = none) (s x : Operand)
    (ho : o.op = .call { callee := .builtin .append, args := #[s, x], argTypes := #[22, 22] }) (B : Nat) (w0 : World) (v : Value) (n : Nat) (z : Nat → Int) (hs : a.eval s = v) (hown : Own B w0 wr v n z) (hl : n ≤ 2000000) (y : Int) (hy : y = z n)
    (hx : a.eval x = .slice (some ⟨wr.heap.size, 0, none⟩) 1 1)
    (h : ∀ v' w', Own B w0 w' v' (n + 1) z → wpList Tryz.prog ops Q rest (a.put o.dst v') w') : wpList Tryz.prog ops Q (o :: rest) a (wr.alloc (.cells #[.int .i64 y] 2)) := by
  obtain ⟨i0, hi, hz0, hz1, hz2⟩ := info_parts infoI64
  subst hy
  refine wpList_append_own _ hgd s x 22 ho B 2 i0 (.int .i64 0) 1 8 Tryz.underlying22 hi hz0 hz1 hz2 rfl (by decide) v n (vals n z) hs (hown.row.alloc _) ⟨wr.heap.size, 0, none⟩ 1 1 [.int .i64 (z n)] hx rfl (cell_one_new _ _ _) (by intro u hu; simp at hu; subst hu; rfl) (by unfold maxLen; omega) (by omega) (by have := hown.base; simp; omega) ?_
  intro v' w' h1 h2 _
  rw [vals_push] at h1
  refine h v' w' ⟨h1, ?_, Nat.le_trans (by have := hown.base; simp; omega) h2.size⟩
  refine (hown.below.alloc hown.base _).grown h2 (by have := hown.base; simp; omega) ?_
  intro k hk
  exact (hown.row.lt k hk).1
structure Sls (w : World) (lo : Option Addr) (m cm : Nat) (A : Nat → Option Addr) (L C : Nat → Nat) : Prop where
  le : m ≤ cm
  cap : cm ≤ 9223372036854775807
  at' : ∀ j, j < m → ∃ x, lo = some x ∧ w.cell? (x.add j) = some (.slice (A j) (L j) (C j))
theorem Sls.get {w : World} {lo : Option Addr} {m cm : Nat} {A : Nat → Option Addr} {L C : Nat → Nat} (h : Sls w lo m cm A L C) : ∃ x, (0 < m → lo = some x) ∧ ∀ k, k < m → w.cell? (x.add k) = some (.slice (A k) (L k) (C k)) := by
  cases lo with
  | none => exact ⟨⟨0, 0, none⟩, fun h0 => (by obtain ⟨x, hx, _⟩ := h.at' 0 h0; cases hx), fun k hk => (by obtain ⟨x, hx, _⟩ := h.at' k hk; cases hx)⟩
  | some x => exact ⟨x, fun _ => rfl, fun k hk => by obtain ⟨y, hy, hc⟩ := h.at' k hk; cases hy; exact hc⟩
theorem Sls.keep {w w' : World} {lo : Option Addr} {m cm : Nat} {A : Nat → Option Addr} {L C : Nat → Nat} (h : Sls w lo m cm A L C) (b : Below w.heap.size w w') : Sls w' lo m cm A L C :=
  ⟨h.le, h.cap, fun k hk => by obtain ⟨x, hx, hc⟩ := h.at' k hk; exact ⟨x, hx, keep_cell b hc⟩⟩
end Vc
end Go.Proofs.YtlomfjacgomhdaaGreatDoor
namespace Go.Proofs.YtlomfjacgomhdaaGreatDoor
open Go.RowKit
namespace Tn
end Tn
end Go.Proofs.YtlomfjacgomhdaaGreatDoor
