/-
  What all texts of this seat's walks lean on: worlds that grow, cells that stay, results.
-/
import Derived.Test.YtoglokgkgonmdaaProg
import Derived.WalkKit
import Derived.Deep.QuietTactic
import Derived.BigQuiet
import Derived.WalkSpells
import Derived.WalkLawsBesides
import Derived.Maps.AppendAt
import Derived.OwnWalk
import Derived.Test.YtoglokgkgonmdaaM1
import Derived.Laws.Rows
import Derived.Laws.Tables
import Derived.Laws.ResultCell
set_option linter.unusedSimpArgs false
set_option linter.unusedVariables false
namespace Go.Proofs.Ytoglokgkgonmdaa
open Go.RowKit
/-- Behind a new block. -/
theorem below_al {a w : World} (h : Below a.heap.size a w) (o : Obj) : Below a.heap.size a (w.alloc o) := h.alloc h.size o
/-- Two steps. -/
theorem below_tr {a b c : World} (h : Below a.heap.size a b) (k : Below b.heap.size b c) : Below a.heap.size a c := h.trans (k.mono h.size)

/-- A cell that is there stays. -/
theorem keep_cell {W w1 : World} (hb : Below W.heap.size W w1) {a : Addr} {v : Value} (h : W.cell? a = some v) : w1.cell? a = some v := (hb.cell (World.block_lt_of_cell? W _ h)).trans h

theorem keep_free {W w1 : World} (hb : Below W.heap.size W w1) {a : Addr} {v : Value} (h : W.cell? a = some v) (hf : W.frozen? a = false) : w1.frozen? a = false := (hb.frozen (World.block_lt_of_cell? W _ h)).trans hf

namespace Dec
theorem ret_bool {a b : Bool} (h : a = b) : Ending.returned (.bool a) = .returned (.bool b) := by rw [h]
theorem ret_int {k : IntKind} {a b : Int} (h : a = b) : Ending.returned (.int k a) = .returned (.int k b) := by rw [h]
end Dec

end Go.Proofs.Ytoglokgkgonmdaa

/-
  Slices of numbers of 64 bits, their numbers a function of the place: read, made, stored into, appended to; and a slice of such slices.
-/
set_option linter.unusedSimpArgs false
set_option linter.unusedVariables false
namespace Go.Proofs.Ytoglokgkgonmdaa
open Go.RowKit
namespace Vc

theorem Hid.mkV {p : Prop} (h : p) : Hid p := h

theorem below_drewN {B : Nat} {a w : World} (h : Below B a w) (n : Nat) : Below B a (w.drewN n) := ⟨h.os, h.tape, h.output, h.size, h.block⟩

theorem below_drew' (w : World) : Below w.heap.size w w.drew := (Below.refl _ w).drew

theorem infoI64 : (Try.prog.info? 2).map (fun i => (i.zero, i.size, i.bytes)) = some (some (.int .i64 0), 1, 8) := by kernel_rfl

/-- The numbers as values. -/
def vals (n : Nat) (z : Nat → Int) : List Value := (List.range n).map fun k => Value.int .i64 (z k)
theorem vals_len (n : Nat) (z : Nat → Int) : (vals n z).length = n := by simp [vals]
theorem vals_at {n k : Nat} {z : Nat → Int} (h : k < n) : (vals n z)[k]? = some (.int .i64 (z k)) := by simp [vals, h]
theorem vals_push (n : Nat) (z : Nat → Int) : vals n z ++ [.int .i64 (z n)] = vals (n + 1) z := by simp [vals, List.range_succ]
theorem vals_congr {n : Nat} {z z' : Nat → Int} (h : ∀ k, k < n → z k = z' k) : vals n z = vals n z' := by
  unfold vals
  exact List.map_congr_left fun k hk => by rw [h k (List.mem_range.1 hk)]
theorem vals_set (n j : Nat) (x : Int) (z : Nat → Int) : (vals n z).set j (.int .i64 x) = vals n (fun k => if k = j then x else z k) := by
  apply List.ext_getElem?
  intro i
  by_cases hi : i < n
  · rw [vals_at hi, List.getElem?_set, vals_len]
    by_cases e : j = i
    · subst e; simp [hi]
    · rw [if_neg e, vals_at hi, if_neg (fun h => e h.symm)]
  · rw [List.getElem?_eq_none (by simp [vals_len]; omega), List.getElem?_eq_none (by rw [vals_len]; omega)]

/-- A slice of n numbers z. -/
structure Sl (w : World) (ao : Option Addr) (n ca : Nat) (z : Nat → Int) : Prop where
  le : n ≤ ca
  cap : ca ≤ 9223372036854775807
  at' : ∀ k, k < n → ∃ x, ao = some x ∧ w.cell? (x.add k) = some (.int .i64 (z k))

theorem Sl.get {w : World} {ao : Option Addr} {n ca : Nat} {z : Nat → Int} (h : Sl w ao n ca z) : ∃ x, (0 < n → ao = some x) ∧ ∀ k, k < n → w.cell? (x.add k) = some (.int .i64 (z k)) := by
  cases ao with
  | none => exact ⟨⟨0, 0, none⟩, fun h0 => (by obtain ⟨x, hx, _⟩ := h.at' 0 h0; cases hx), fun k hk => (by obtain ⟨x, hx, _⟩ := h.at' k hk; cases hx)⟩
  | some x => exact ⟨x, fun _ => rfl, fun k hk => by obtain ⟨y, hy, hc⟩ := h.at' k hk; cases hy; exact hc⟩

theorem Sl.keep {w w' : World} {ao : Option Addr} {n ca : Nat} {z : Nat → Int} (h : Sl w ao n ca z) (b : Below w.heap.size w w') : Sl w' ao n ca z :=
  ⟨h.le, h.cap, fun k hk => by obtain ⟨x, hx, hc⟩ := h.at' k hk; exact ⟨x, hx, keep_cell b hc⟩⟩
theorem Sl.congr {w : World} {ao : Option Addr} {n ca : Nat} {z z' : Nat → Int} (h : Sl w ao n ca z) (e : ∀ k, k < n → z k = z' k) : Sl w ao n ca z' :=
  ⟨h.le, h.cap, fun k hk => by rw [← e k hk]; exact h.at' k hk⟩
theorem Sl.mk' {w : World} {ao : Option Addr} {n ca : Nat} {z : Nat → Int} {x : Addr} (h1 : n ≤ ca) (h2 : ca ≤ 9223372036854775807) (h3 : 0 < n → ao = some x) (h4 : ∀ k, k < n → w.cell? (x.add k) = some (.int .i64 (z k))) : Sl w ao n ca z :=
  ⟨h1, h2, fun k hk => ⟨x, h3 (by omega), h4 k hk⟩⟩
theorem Sl.none (w : World) (z : Nat → Int) : Sl w none 0 0 z := ⟨Nat.le_refl _, by omega, fun k hk => by omega⟩

/-- Numbers of 64 bits. -/
def B64 (z : Nat → Int) : Prop := ∀ k, -9223372036854775808 ≤ z k ∧ z k ≤ 9223372036854775807

/-- Whether one of the first n is so. -/
def anyb (g : Nat → Bool) : Nat → Bool
  | 0 => false
  | k + 1 => anyb g k || g k

theorem anyb_congr {g h : Nat → Bool} : ∀ {n : Nat}, (∀ k, k < n → g k = h k) → anyb g n = anyb h n
  | 0, _ => rfl
  | n + 1, e => by unfold anyb; rw [anyb_congr fun k hk => e k (by omega), e n (by omega)]
theorem anyb_false {g : Nat → Bool} : ∀ {n : Nat}, anyb g n = false ↔ ∀ k, k < n → g k = false
  | 0 => ⟨fun _ k hk => by omega, fun _ => rfl⟩
  | n + 1 => by
    unfold anyb
    rw [Bool.or_eq_false_iff, anyb_false]
    refine ⟨fun h k hk => ?_, fun h => ⟨fun k hk => h k (by omega), h n (by omega)⟩⟩
    rcases Nat.lt_or_ge k n with c | c
    · exact h.1 k c
    · obtain rfl : k = n := by omega
      exact h.2

/-- v is a slice of the call's own that holds the numbers; below B nothing has turned since w0. -/
structure Own (B : Nat) (w0 w : World) (v : Value) (n : Nat) (z : Nat → Int) : Prop where
  row : w.ownsRow B 2 1 v n (vals n z)
  below : Below B w0 w
  base : B ≤ w.heap.size

theorem Own.nil {B : Nat} {w0 w : World} (h : Below B w0 w) (hB : B ≤ w.heap.size) (z : Nat → Int) : Own B w0 w (.slice none 0 0) 0 z := ⟨World.ownsRow_nil _ _ _ _, h, hB⟩

theorem Own.sl {B : Nat} {w0 w : World} {v : Value} {n : Nat} {z : Nat → Int} (h : Own B w0 w v n z) : ∃ ao ca, v = .slice ao n ca ∧ Sl w ao n ca z := by
  obtain ⟨⟨h1, h2⟩, _, _⟩ := h
  rcases h2 with ⟨rfl, rfl⟩ | ⟨g, cap, cur, rfl, hb, hg, hn, hc, hs, ht⟩
  · exact ⟨_, _, rfl, Sl.none _ _⟩
  · refine ⟨_, _, rfl, hn, hc, fun k hk => ⟨_, rfl, ?_⟩⟩
    have e := vals_at (z := z) hk
    rw [← ht] at e
    have e2 : cur[k]? = some (.int .i64 (z k)) := by
      rw [List.getElem?_take] at e
      split at e
      · simpa using e
      · cases e
    rw [Addr.add_lit, Nat.zero_add]
    simp [World.cell?, hg, e2]

theorem row_keep {w w' : World} {B : Nat} {t : TypeId} {s : Nat} {v : Value} {n : Nat} {xs : List Value} (h : w.ownsRow B t s v n xs) (b : Below w.heap.size w w') : w'.ownsRow B t s v n xs := by
  obtain ⟨h1, h2⟩ := h
  refine ⟨h1, ?_⟩
  rcases h2 with h2 | ⟨g, cap, cur, rfl, hb, hg, hn, hc, hs, ht⟩
  · exact Or.inl h2
  · refine Or.inr ⟨g, cap, cur, rfl, hb, ?_, hn, hc, hs, ht⟩
    have hlt : g < w.heap.size := by
      rcases Nat.lt_or_ge g w.heap.size with k | k
      · exact k
      · rw [Array.getElem?_eq_none k] at hg; cases hg
    exact (b.block g hlt).trans hg

theorem Own.keep {B : Nat} {w0 w w' : World} {v : Value} {n : Nat} {z : Nat → Int} (h : Own B w0 w v n z) (b : Below w.heap.size w w') : Own B w0 w' v n z :=
  ⟨row_keep h.row b, h.below.trans (b.mono h.base), Nat.le_trans h.base b.size⟩
theorem Own.alloc {B : Nat} {w0 w : World} {v : Value} {n : Nat} {z : Nat → Int} (h : Own B w0 w v n z) (o : Obj) : Own B w0 (w.alloc o) v n z := h.keep (below_al (Below.refl _ _) o)
theorem Own.drew {B : Nat} {w0 w : World} {v : Value} {n : Nat} {z : Nat → Int} (h : Own B w0 w v n z) : Own B w0 w.drew v n z := ⟨h.row, h.below.drew, h.base⟩
theorem Own.cell {B : Nat} {w0 w : World} {g n c : Nat} {z : Nat → Int} (h : Own B w0 w (.slice (some ⟨g, 0, none⟩) n c) n z) {j : Nat} (hj : j < n) : w.cell? ⟨g, j, none⟩ = some (.int .i64 (z j)) := by
  rw [h.row.cellAt j (by omega)]
  exact vals_at hj
theorem Own.free {B : Nat} {w0 w : World} {g n c : Nat} {z : Nat → Int} (h : Own B w0 w (.slice (some ⟨g, 0, none⟩) n c) n z) (j : Nat) : w.frozen? ⟨g, j, none⟩ = false := h.row.frozenAt j
theorem Own.set {B : Nat} {w0 w : World} {g n c : Nat} {z : Nat → Int} (h : Own B w0 w (.slice (some ⟨g, 0, none⟩) n c) n z) (j : Nat) (x : Int) : Own B w0 (w.setCell ⟨g, j, none⟩ (.int .i64 x)) (.slice (some ⟨g, 0, none⟩) n c) n (fun k => if k = j then x else z k) := by
  obtain ⟨h1, h2⟩ := h.row.stored j (.int .i64 x)
  rw [vals_set] at h1
  exact ⟨h1, h.below.grown h2 h.base (fun k hk => by cases hk; exact (h.row.lt g rfl).1), Nat.le_trans h.base h2.size⟩
theorem Own.congr {B : Nat} {w0 w : World} {v : Value} {n : Nat} {z z' : Nat → Int} (h : Own B w0 w v n z) (e : ∀ k, k < n → z k = z' k) : Own B w0 w v n z' := ⟨by rw [← vals_congr e]; exact h.row, h.below, h.base⟩
/-- Another world to begin with. -/
theorem Own.from {B B' : Nat} {w0 w1 w : World} {v : Value} {n : Nat} {z : Nat → Int} (h : Own B w1 w v n z) (b : Below B' w0 w1) (hB : B' ≤ B) : Below B' w0 w := b.trans (h.below.mono hB)

/-- What 'make' lays. -/
theorem own_made {B : Nat} {w0 w : World} {g n : Nat} (h : w.ownsRow B 2 1 (.slice (some ⟨g, 0, none⟩) n n) n (madeCells #[Value.int .i64 0] n).toList) (hg : w0.grownBy w none) (hB : B ≤ w0.heap.size) :
    Own B w0 w (.slice (some ⟨g, 0, none⟩) n n) n (fun _ => 0) := by
  refine ⟨?_, (Below.refl _ _).grown hg hB (by intro k hk; cases hk), by have := hg.size; omega⟩
  have e : (madeCells #[Value.int .i64 0] n).toList = vals n (fun _ => 0) := by
    rw [toList_madeCells_one]
    apply List.ext_getElem?
    intro i
    by_cases hi : i < n
    · rw [vals_at hi, List.getElem?_replicate, if_pos hi]
    · rw [List.getElem?_eq_none (by simp; omega), List.getElem?_eq_none (by rw [vals_len]; omega)]
  rw [e] at h
  exact h

theorem wpList_push {ops : Array Oper} {rest : List Oper} {o : Oper} {a : Act} {Q : Exit → Act → World → Prop} {wr : World} (hgd : o.guard = none) (s x : Operand)
    (ho : o.op = .call { callee := .builtin .append, args := #[s, x], argTypes := #[22, 22] }) (B : Nat) (w0 : World) (v : Value) (n : Nat) (z : Nat → Int) (hs : a.eval s = v) (hown : Own B w0 wr v n z) (hl : n ≤ 2000000) (y : Int) (hy : y = z n)
    (hx : a.eval x = .slice (some ⟨wr.heap.size, 0, none⟩) 1 1)
    (h : ∀ v' w', Own B w0 w' v' (n + 1) z → wpList Try.prog ops Q rest (a.put o.dst v') w') : wpList Try.prog ops Q (o :: rest) a (wr.alloc (.cells #[.int .i64 y] 2)) := by
  obtain ⟨i0, hi, hz0, hz1, hz2⟩ := info_parts infoI64
  subst hy
  refine wpList_append_own _ hgd s x 22 ho B 2 i0 (.int .i64 0) 1 8 Try.underlying22 hi hz0 hz1 hz2 rfl (by decide) v n (vals n z) hs (hown.row.alloc _) ⟨wr.heap.size, 0, none⟩ 1 1 [.int .i64 (z n)] hx rfl (cell_one_new _ _ _) (by intro u hu; simp at hu; subst hu; rfl) (by unfold maxLen; omega) (by omega) (by have := hown.base; simp; omega) ?_
  intro v' w' h1 h2 _
  rw [vals_push] at h1
  refine h v' w' ⟨h1, ?_, Nat.le_trans (by have := hown.base; simp; omega) h2.size⟩
  refine (hown.below.alloc hown.base _).grown h2 (by have := hown.base; simp; omega) ?_
  intro k hk
  exact (hown.row.lt k hk).1

/-- A slice of m slices. -/
structure Sls (w : World) (lo : Option Addr) (m cm : Nat) (A : Nat → Option Addr) (L C : Nat → Nat) : Prop where
  le : m ≤ cm
  cap : cm ≤ 9223372036854775807
  at' : ∀ j, j < m → ∃ x, lo = some x ∧ w.cell? (x.add j) = some (.slice (A j) (L j) (C j))
theorem Sls.get {w : World} {lo : Option Addr} {m cm : Nat} {A : Nat → Option Addr} {L C : Nat → Nat} (h : Sls w lo m cm A L C) : ∃ x, (0 < m → lo = some x) ∧ ∀ k, k < m → w.cell? (x.add k) = some (.slice (A k) (L k) (C k)) := by
  cases lo with
  | none => exact ⟨⟨0, 0, none⟩, fun h0 => (by obtain ⟨x, hx, _⟩ := h.at' 0 h0; cases hx), fun k hk => (by obtain ⟨x, hx, _⟩ := h.at' k hk; cases hx)⟩
  | some x => exact ⟨x, fun _ => rfl, fun k hk => by obtain ⟨y, hy, hc⟩ := h.at' k hk; cases hy; exact hc⟩
theorem Sls.keep {w w' : World} {lo : Option Addr} {m cm : Nat} {A : Nat → Option Addr} {L C : Nat → Nat} (h : Sls w lo m cm A L C) (b : Below w.heap.size w w') : Sls w' lo m cm A L C :=
  ⟨h.le, h.cap, fun k hk => by obtain ⟨x, hx, hc⟩ := h.at' k hk; exact ⟨x, hx, keep_cell b hc⟩⟩

end Vc
end Go.Proofs.Ytoglokgkgonmdaa

/-
  lower of the document's answer of layer 3: whether a size of eight words is below another one.
-/
set_option linter.unusedSimpArgs false
set_option linter.unusedVariables false
namespace Go.Proofs.Ytoglokgkgonmdaa
open Go.RowKit Lg Dec

end Go.Proofs.Ytoglokgkgonmdaa

/-
  A number of the document's answer of layer 3 (a sign and eight words) as a block of nine cells: loads, stores, results.
-/
set_option linter.unusedSimpArgs false
set_option linter.unusedVariables false
namespace Go.Proofs.Ytoglokgkgonmdaa
open Go.RowKit Lg Dec
namespace Lg
section
end
theorem below_setRow {B g : Nat} {w0 w : World} (hb : Below B w0 w) (hBg : B ≤ g) (cs : Array Value) : Below B w0 (w.setRow g cs) :=
  hb.trans ⟨rfl, rfl, rfl, by simp, fun k hk => setRow_other w g k cs (by omega)⟩
end Lg
end Go.Proofs.Ytoglokgkgonmdaa

/-
  Numbers of eight words of 32 bits as functions of their places: a block that holds one, sums and differences word by word.
-/
set_option linter.unusedSimpArgs false
set_option linter.unusedVariables false
namespace Go.Proofs.Ytoglokgkgonmdaa
open Go.RowKit
namespace Lg

theorem keep_set {w : World} {a p : Addr} {v : Value} (h : w.cell? a = some v) (hne : a.block ≠ p.block) (u : Value) : (w.setCell p u).cell? a = some v :=
  (World.cell?_of_block (Below.heap_setCell w p u a.block hne)).trans h

/-- The first K words of one, the others of another one. -/
def mixf (K : Nat) (f g : Nat → Int) : Nat → Int := fun j => if j < K then f j else g j

/-- What is carried into word k. -/
def cr : Int → Int → Int → Nat → Int
  | _, _, c, 0 => c
  | a, b, c, k + 1 => cr (a / 4294967296) (b / 4294967296) ((a % 4294967296 + b % 4294967296 + c) / 4294967296) k
theorem cr_bd : ∀ (k : Nat) (a b c : Int), 0 ≤ c → c ≤ 1 → 0 ≤ cr a b c k ∧ cr a b c k ≤ 1
  | 0, _, _, c, h0, h1 => ⟨h0, h1⟩
  | k + 1, a, b, c, h0, h1 => cr_bd k _ _ _ (by omega) (by omega)
theorem cr_next : ∀ (k : Nat) (a b c : Int), cr a b c (k + 1) = (wd k a + wd k b + cr a b c k) / 4294967296
  | 0, a, b, c => rfl
  | k + 1, a, b, c => cr_next k (a / 4294967296) (b / 4294967296) ((a % 4294967296 + b % 4294967296 + c) / 4294967296)
theorem cr_word : ∀ (k : Nat) (a b c : Int), 0 ≤ c → c ≤ 1 → wd k (a + b + c) = (wd k a + wd k b + cr a b c k) % 4294967296
  | 0, a, b, c, _, _ => by show (a + b + c) % 4294967296 = (a % 4294967296 + b % 4294967296 + c) % 4294967296; omega
  | k + 1, a, b, c, h0, h1 => by
    have := cr_word k (a / 4294967296) (b / 4294967296) ((a % 4294967296 + b % 4294967296 + c) / 4294967296) (by omega) (by omega)
    have e : (a + b + c) / 4294967296 = a / 4294967296 + b / 4294967296 + (a % 4294967296 + b % 4294967296 + c) / 4294967296 := by omega
    show wd k ((a + b + c) / 4294967296) = _
    rw [e]; exact this

/-- What is borrowed from word k. -/
def br : Int → Int → Int → Nat → Int
  | _, _, c, 0 => c
  | a, b, c, k + 1 => br (a / 4294967296) (b / 4294967296) (1 - (4294967296 + a % 4294967296 - b % 4294967296 - c) / 4294967296) k
theorem br_bd : ∀ (k : Nat) (a b c : Int), 0 ≤ c → c ≤ 1 → 0 ≤ br a b c k ∧ br a b c k ≤ 1
  | 0, _, _, c, h0, h1 => ⟨h0, h1⟩
  | k + 1, a, b, c, h0, h1 => br_bd k _ _ _ (by omega) (by omega)
theorem br_next : ∀ (k : Nat) (a b c : Int), br a b c (k + 1) = 1 - (4294967296 + wd k a - wd k b - br a b c k) / 4294967296
  | 0, a, b, c => rfl
  | k + 1, a, b, c => br_next k (a / 4294967296) (b / 4294967296) (1 - (4294967296 + a % 4294967296 - b % 4294967296 - c) / 4294967296)
theorem br_word : ∀ (k : Nat) (a b c : Int), 0 ≤ c → c ≤ 1 → wd k (a - b - c) = (4294967296 + wd k a - wd k b - br a b c k) % 4294967296
  | 0, a, b, c, _, _ => by show (a - b - c) % 4294967296 = (4294967296 + a % 4294967296 - b % 4294967296 - c) % 4294967296; omega
  | k + 1, a, b, c, h0, h1 => by
    have := br_word k (a / 4294967296) (b / 4294967296) (1 - (4294967296 + a % 4294967296 - b % 4294967296 - c) / 4294967296) (by omega) (by omega)
    have e : (a - b - c) / 4294967296 = a / 4294967296 - b / 4294967296 - (1 - (4294967296 + a % 4294967296 - b % 4294967296 - c) / 4294967296) := by omega
    show wd k ((a - b - c) / 4294967296) = _
    rw [e]; exact this

end Lg
end Go.Proofs.Ytoglokgkgonmdaa

/-
  What a slice of ints reads as (a list of digits), and what the small functions of the document's answer (radomeref01) do: trim, Less.
-/
set_option linter.unusedSimpArgs false
set_option linter.unusedVariables false
namespace Go.Proofs.Ytoglokgkgonmdaa
open Go.RowKit
namespace Dec

/-- A block of integers. -/
def Tg (w : World) (b : Nat) : Prop := ∃ cs fz, w.heap[b]? = some (.cells cs 3 fz)
theorem Tg.lt {w : World} {b : Nat} (h : Tg w b) : b < w.heap.size := by
  obtain ⟨cs, fz, e⟩ := h
  rcases Nat.lt_or_ge b w.heap.size with k | k
  · exact k
  · rw [Array.getElem?_eq_none k] at e; cases e
theorem Tg.below {w w' : World} {b B : Nat} (h : Tg w b) (hb : Below B w w') (hB : b < B) : Tg w' b := by
  obtain ⟨cs, fz, e⟩ := h
  exact ⟨cs, fz, (hb.block b hB).trans e⟩
theorem Tg.set {w : World} {b : Nat} (h : Tg w b) (p : Addr) (u : Value) : Tg (w.setCell p u) b := by
  obtain ⟨cs, fz, e⟩ := h
  by_cases k : p.block = b
  · subst k
    refine ⟨if p.spot.isSome then cs else cs.setIfInBounds p.off u, fz, ?_⟩
    simp only [World.setCell, Array.getElem?_modify, e]
    simp
  · refine ⟨cs, fz, ?_⟩
    simp only [World.setCell, Array.getElem?_modify]
    rw [if_neg k]
    exact e
/-- The slice value v reads as the digits l. -/
def Rd (w : World) (v : Value) (l : List Nat) : Prop :=
  (v = .slice none 0 0 ∧ l = []) ∨ ∃ b off cap : Nat, v = .slice (some ⟨b, off, none⟩) l.length cap ∧ l.length ≤ cap ∧ Tg w b ∧ ∀ t, t < l.length → w.cell? ⟨b, off + t, none⟩ = some (.int .i64 ((l.getD t 0 : Nat) : Int))

theorem Rd.below {w w' : World} {v : Value} {l : List Nat} {B : Nat} (h : Rd w v l) (hb : Below B w w') (hB : w.heap.size ≤ B) : Rd w' v l := by
  rcases h with h | ⟨b, off, cap, hv, hc, hlt, hcell⟩
  · exact Or.inl h
  · exact Or.inr ⟨b, off, cap, hv, hc, hlt.below hb (Nat.lt_of_lt_of_le hlt.lt hB), fun t ht => (hb.cell (p := ⟨b, off + t, none⟩) (show b < B from Nat.lt_of_lt_of_le hlt.lt hB)).trans (hcell t ht)⟩

end Dec
open Dec

/-! ### Less -/

end Go.Proofs.Ytoglokgkgonmdaa

/-
  What the document's answer (radomeref01) does to sizes: plus and minus of two lists of digits make the digits of the sum and of the difference.
-/
set_option linter.unusedSimpArgs false
set_option linter.unusedVariables false
namespace Go.Proofs.Ytoglokgkgonmdaa
open Go.RowKit
namespace Dec

theorem Try.infoInt : (Try.prog.info? 3).map (fun i => (i.zero, i.size, i.bytes)) = some (some (.int .i64 0), 1, 8) := by kernel_rfl

/-- The digits as values. -/
def vals (l : List Nat) : List Value := l.map fun d => Value.int .i64 ((d : Nat) : Int)

/-- v is a slice of the call's own that holds the digits l; below B nothing has turned since w0. -/
structure Own (B : Nat) (w0 w : World) (v : Value) (l : List Nat) : Prop where
  row : w.ownsRow B 3 1 v l.length (vals l)
  below : Below B w0 w
  base : B ≤ w.heap.size

theorem Own.nil {B : Nat} {w0 w : World} (h : Below B w0 w) (hB : B ≤ w.heap.size) : Own B w0 w (.slice none 0 0) [] := ⟨World.ownsRow_nil _ _ _ _, h, hB⟩

theorem Own.rd {B : Nat} {w0 w : World} {v : Value} {l : List Nat} (h : Own B w0 w v l) : Rd w v l := by
  obtain ⟨⟨h1, h2⟩, _, _⟩ := h
  rcases h2 with ⟨rfl, h0⟩ | ⟨g, cap, cur, rfl, hb, hg, hn, hc, hs, ht⟩
  · exact Or.inl ⟨rfl, List.length_eq_zero_iff.1 h0⟩
  · have hlt : g < w.heap.size := by
      rcases Nat.lt_or_ge g w.heap.size with k | k
      · exact k
      · rw [Array.getElem?_eq_none k] at hg; cases hg
    refine Or.inr ⟨g, 0, cap, rfl, hn, ⟨_, _, hg⟩, fun t htl => ?_⟩
    have e : (vals l)[t]? = some (.int .i64 ((l.getD t 0 : Nat) : Int)) := by
      simp [vals, List.getD, List.getElem?_eq_getElem htl]
    rw [← ht] at e
    have e2 : cur[t]? = some (.int .i64 ((l.getD t 0 : Nat) : Int)) := by
      rw [List.getElem?_take] at e
      split at e
      · simpa using e
      · cases e
    simp [World.cell?, hg, e2]

end Dec
open Dec

/-- The slice as the walks take it. -/
theorem Dec.Rd.shape {w : World} {v : Value} {l : List Nat} (h : Rd w v l) : ∃ ao b off cap, v = .slice ao l.length cap ∧ l.length ≤ cap ∧ (ao = some ⟨b, off, none⟩ ∨ (ao = none ∧ l.length = 0)) ∧
    ∀ t, t < l.length → b < w.heap.size ∧ w.cell? ⟨b, off + t, none⟩ = some (.int .i64 ((l.getD t 0 : Nat) : Int)) := by
  rcases h with ⟨rfl, rfl⟩ | ⟨b, off, cap, rfl, hlc, hlt, hc⟩
  · exact ⟨none, 0, 0, 0, rfl, Nat.le_refl _, Or.inr ⟨rfl, rfl⟩, fun t ht => by simp at ht⟩
  · exact ⟨_, b, off, cap, rfl, hlc, Or.inl rfl, fun t ht => ⟨hlt.lt, hc t ht⟩⟩

end Go.Proofs.Ytoglokgkgonmdaa

/-
  Layer 12, plain: numbers no greater than may be; states that may be.
-/
set_option linter.unusedSimpArgs false
set_option linter.unusedVariables false
namespace Go.Proofs.Ytoglokgkgonmdaa
open Go.RowKit Dt
namespace Pr
/-- A number no greater than may be. -/
def InV (z : Int) : Prop := -4611686018427387903 ≤ z ∧ z ≤ 4611686018427387903
instance (z : Int) : Decidable (InV z) := by unfold InV; infer_instance
/-- A state that may be. -/
def MayV (X : Nat → Int) (P : Nat → Nat → Int) : Prop := ∀ i, i < 6 → InV (X i) ∧ 0 ≤ P i i ∧ ∀ j, j < 6 → InV (P i j) ∧ P i j = P j i
theorem dk_comm (a b : Nat → Int) (n : Nat) : dk a b n = dk b a n := by
  induction n with
  | zero => rfl
  | succ n ih => unfold dk; rw [ih, Int.mul_comm (a n)]
theorem Hid.mkQ {p : Prop} (h : p) : Hid p := h
end Pr
end Go.Proofs.Ytoglokgkgonmdaa
