/-
  What all texts of this seat's walks lean on: worlds that grow, cells that stay, results.
-/
import Derived.Test.YtlomfjacgomhdaaGreatDoorProg
import Derived.WalkKit
import Derived.Deep.QuietTactic
import Derived.BigQuiet
import Derived.WalkSpells
import Derived.WalkLawsBesides
import Derived.Maps.AppendAt
import Derived.OwnWalk
import Derived.Laws.Bits64b
import Derived.Laws.BitsAllLaws
set_option linter.unusedSimpArgs false
set_option linter.unusedVariables false
namespace Go.Proofs.YtlomfjacgomhdaaGreatDoor
open Go.RowKit
/-- Behind a new block. -/
theorem below_al {a w : World} (h : Below a.heap.size a w) (o : Obj) : Below a.heap.size a (w.alloc o) := h.alloc h.size o
/-- Two steps. -/
theorem below_tr {a b c : World} (h : Below a.heap.size a b) (k : Below b.heap.size b c) : Below a.heap.size a c := h.trans (k.mono h.size)

/-- A cell that is there stays. -/
theorem keep_cell {W w1 : World} (hb : Below W.heap.size W w1) {a : Addr} {v : Value} (h : W.cell? a = some v) : w1.cell? a = some v := (hb.cell (World.block_lt_of_cell? W _ h)).trans h

theorem keep_free {W w1 : World} (hb : Below W.heap.size W w1) {a : Addr} {v : Value} (h : W.cell? a = some v) (hf : W.frozen? a = false) : w1.frozen? a = false := (hb.frozen (World.block_lt_of_cell? W _ h)).trans hf

namespace Dec
theorem ret_bool {a b : Bool} (h : a = b) : Ending.returned (.bool a) = .returned (.bool b) := by rw [h]
theorem ret_int {k : IntKind} {a b : Int} (h : a = b) : Ending.returned (.int k a) = .returned (.int k b) := by rw [h]
end Dec

end Go.Proofs.YtlomfjacgomhdaaGreatDoor

/-
  Slices of numbers of 64 bits, their numbers a function of the place: read, made, stored into, appended to; and a slice of such slices.
-/
set_option linter.unusedSimpArgs false
set_option linter.unusedVariables false
namespace Go.Proofs.YtlomfjacgomhdaaGreatDoor
open Go.RowKit
namespace Vc

theorem Hid.mkV {p : Prop} (h : p) : Hid p := h

theorem below_drewN {B : Nat} {a w : World} (h : Below B a w) (n : Nat) : Below B a (w.drewN n) := ⟨h.os, h.tape, h.output, h.size, h.block⟩

theorem below_drew' (w : World) : Below w.heap.size w w.drew := (Below.refl _ w).drew

theorem infoI64 : (Tryz.prog.info? 2).map (fun i => (i.zero, i.size, i.bytes)) = some (some (.int .i64 0), 1, 8) := by kernel_rfl

/-- The numbers as values. -/
def vals (n : Nat) (z : Nat → Int) : List Value := (List.range n).map fun k => Value.int .i64 (z k)
theorem vals_len (n : Nat) (z : Nat → Int) : (vals n z).length = n := by simp [vals]
theorem vals_at {n k : Nat} {z : Nat → Int} (h : k < n) : (vals n z)[k]? = some (.int .i64 (z k)) := by simp [vals, h]
theorem vals_push (n : Nat) (z : Nat → Int) : vals n z ++ [.int .i64 (z n)] = vals (n + 1) z := by simp [vals, List.range_succ]
theorem vals_congr {n : Nat} {z z' : Nat → Int} (h : ∀ k, k < n → z k = z' k) : vals n z = vals n z' := by
  unfold vals
  exact List.map_congr_left fun k hk => by rw [h k (List.mem_range.1 hk)]
theorem vals_set (n j : Nat) (x : Int) (z : Nat → Int) : (vals n z).set j (.int .i64 x) = vals n (fun k => if k = j then x else z k) := by
  apply List.ext_getElem?
  intro i
  by_cases hi : i < n
  · rw [vals_at hi, List.getElem?_set, vals_len]
    by_cases e : j = i
    · subst e; simp [hi]
    · rw [if_neg e, vals_at hi, if_neg (fun h => e h.symm)]
  · rw [List.getElem?_eq_none (by simp [vals_len]; omega), List.getElem?_eq_none (by rw [vals_len]; omega)]

/-- A slice of n numbers z. -/
structure Sl (w : World) (ao : Option Addr) (n ca : Nat) (z : Nat → Int) : Prop where
  le : n ≤ ca
  cap : ca ≤ 9223372036854775807
  at' : ∀ k, k < n → ∃ x, ao = some x ∧ w.cell? (x.add k) = some (.int .i64 (z k))

theorem Sl.get {w : World} {ao : Option Addr} {n ca : Nat} {z : Nat → Int} (h : Sl w ao n ca z) : ∃ x, (0 < n → ao = some x) ∧ ∀ k, k < n → w.cell? (x.add k) = some (.int .i64 (z k)) := by
  cases ao with
  | none => exact ⟨⟨0, 0, none⟩, fun h0 => (by obtain ⟨x, hx, _⟩ := h.at' 0 h0; cases hx), fun k hk => (by obtain ⟨x, hx, _⟩ := h.at' k hk; cases hx)⟩
  | some x => exact ⟨x, fun _ => rfl, fun k hk => by obtain ⟨y, hy, hc⟩ := h.at' k hk; cases hy; exact hc⟩

theorem Sl.keep {w w' : World} {ao : Option Addr} {n ca : Nat} {z : Nat → Int} (h : Sl w ao n ca z) (b : Below w.heap.size w w') : Sl w' ao n ca z :=
  ⟨h.le, h.cap, fun k hk => by obtain ⟨x, hx, hc⟩ := h.at' k hk; exact ⟨x, hx, keep_cell b hc⟩⟩
theorem Sl.congr {w : World} {ao : Option Addr} {n ca : Nat} {z z' : Nat → Int} (h : Sl w ao n ca z) (e : ∀ k, k < n → z k = z' k) : Sl w ao n ca z' :=
  ⟨h.le, h.cap, fun k hk => by rw [← e k hk]; exact h.at' k hk⟩
theorem Sl.mk' {w : World} {ao : Option Addr} {n ca : Nat} {z : Nat → Int} {x : Addr} (h1 : n ≤ ca) (h2 : ca ≤ 9223372036854775807) (h3 : 0 < n → ao = some x) (h4 : ∀ k, k < n → w.cell? (x.add k) = some (.int .i64 (z k))) : Sl w ao n ca z :=
  ⟨h1, h2, fun k hk => ⟨x, h3 (by omega), h4 k hk⟩⟩
theorem Sl.none (w : World) (z : Nat → Int) : Sl w none 0 0 z := ⟨Nat.le_refl _, by omega, fun k hk => by omega⟩

/-- Numbers of 64 bits. -/
def B64 (z : Nat → Int) : Prop := ∀ k, -9223372036854775808 ≤ z k ∧ z k ≤ 9223372036854775807

/-- Whether one of the first n is so. -/
def anyb (g : Nat → Bool) : Nat → Bool
  | 0 => false
  | k + 1 => anyb g k || g k

theorem anyb_congr {g h : Nat → Bool} : ∀ {n : Nat}, (∀ k, k < n → g k = h k) → anyb g n = anyb h n
  | 0, _ => rfl
  | n + 1, e => by unfold anyb; rw [anyb_congr fun k hk => e k (by omega), e n (by omega)]
theorem anyb_false {g : Nat → Bool} : ∀ {n : Nat}, anyb g n = false ↔ ∀ k, k < n → g k = false
  | 0 => ⟨fun _ k hk => by omega, fun _ => rfl⟩
  | n + 1 => by
    unfold anyb
    rw [Bool.or_eq_false_iff, anyb_false]
    refine ⟨fun h k hk => ?_, fun h => ⟨fun k hk => h k (by omega), h n (by omega)⟩⟩
    rcases Nat.lt_or_ge k n with c | c
    · exact h.1 k c
    · obtain rfl : k = n := by omega
      exact h.2

/-- v is a slice of the call's own that holds the numbers; below B nothing has turned since w0. -/
structure Own (B : Nat) (w0 w : World) (v : Value) (n : Nat) (z : Nat → Int) : Prop where
  row : w.ownsRow B 2 1 v n (vals n z)
  below : Below B w0 w
  base : B ≤ w.heap.size

theorem Own.nil {B : Nat} {w0 w : World} (h : Below B w0 w) (hB : B ≤ w.heap.size) (z : Nat → Int) : Own B w0 w (.slice none 0 0) 0 z := ⟨World.ownsRow_nil _ _ _ _, h, hB⟩

theorem Own.sl {B : Nat} {w0 w : World} {v : Value} {n : Nat} {z : Nat → Int} (h : Own B w0 w v n z) : ∃ ao ca, v = .slice ao n ca ∧ Sl w ao n ca z := by
  obtain ⟨⟨h1, h2⟩, _, _⟩ := h
  rcases h2 with ⟨rfl, rfl⟩ | ⟨g, cap, cur, rfl, hb, hg, hn, hc, hs, ht⟩
  · exact ⟨_, _, rfl, Sl.none _ _⟩
  · refine ⟨_, _, rfl, hn, hc, fun k hk => ⟨_, rfl, ?_⟩⟩
    have e := vals_at (z := z) hk
    rw [← ht] at e
    have e2 : cur[k]? = some (.int .i64 (z k)) := by
      rw [List.getElem?_take] at e
      split at e
      · simpa using e
      · cases e
    rw [Addr.add_lit, Nat.zero_add]
    simp [World.cell?, hg, e2]

theorem row_keep {w w' : World} {B : Nat} {t : TypeId} {s : Nat} {v : Value} {n : Nat} {xs : List Value} (h : w.ownsRow B t s v n xs) (b : Below w.heap.size w w') : w'.ownsRow B t s v n xs := by
  obtain ⟨h1, h2⟩ := h
  refine ⟨h1, ?_⟩
  rcases h2 with h2 | ⟨g, cap, cur, rfl, hb, hg, hn, hc, hs, ht⟩
  · exact Or.inl h2
  · refine Or.inr ⟨g, cap, cur, rfl, hb, ?_, hn, hc, hs, ht⟩
    have hlt : g < w.heap.size := by
      rcases Nat.lt_or_ge g w.heap.size with k | k
      · exact k
      · rw [Array.getElem?_eq_none k] at hg; cases hg
    exact (b.block g hlt).trans hg

theorem Own.keep {B : Nat} {w0 w w' : World} {v : Value} {n : Nat} {z : Nat → Int} (h : Own B w0 w v n z) (b : Below w.heap.size w w') : Own B w0 w' v n z :=
  ⟨row_keep h.row b, h.below.trans (b.mono h.base), Nat.le_trans h.base b.size⟩
theorem Own.alloc {B : Nat} {w0 w : World} {v : Value} {n : Nat} {z : Nat → Int} (h : Own B w0 w v n z) (o : Obj) : Own B w0 (w.alloc o) v n z := h.keep (below_al (Below.refl _ _) o)
theorem Own.drew {B : Nat} {w0 w : World} {v : Value} {n : Nat} {z : Nat → Int} (h : Own B w0 w v n z) : Own B w0 w.drew v n z := ⟨h.row, h.below.drew, h.base⟩
theorem Own.cell {B : Nat} {w0 w : World} {g n c : Nat} {z : Nat → Int} (h : Own B w0 w (.slice (some ⟨g, 0, none⟩) n c) n z) {j : Nat} (hj : j < n) : w.cell? ⟨g, j, none⟩ = some (.int .i64 (z j)) := by
  rw [h.row.cellAt j (by omega)]
  exact vals_at hj
theorem Own.free {B : Nat} {w0 w : World} {g n c : Nat} {z : Nat → Int} (h : Own B w0 w (.slice (some ⟨g, 0, none⟩) n c) n z) (j : Nat) : w.frozen? ⟨g, j, none⟩ = false := h.row.frozenAt j
theorem Own.set {B : Nat} {w0 w : World} {g n c : Nat} {z : Nat → Int} (h : Own B w0 w (.slice (some ⟨g, 0, none⟩) n c) n z) (j : Nat) (x : Int) : Own B w0 (w.setCell ⟨g, j, none⟩ (.int .i64 x)) (.slice (some ⟨g, 0, none⟩) n c) n (fun k => if k = j then x else z k) := by
  obtain ⟨h1, h2⟩ := h.row.stored j (.int .i64 x)
  rw [vals_set] at h1
  exact ⟨h1, h.below.grown h2 h.base (fun k hk => by cases hk; exact (h.row.lt g rfl).1), Nat.le_trans h.base h2.size⟩
theorem Own.congr {B : Nat} {w0 w : World} {v : Value} {n : Nat} {z z' : Nat → Int} (h : Own B w0 w v n z) (e : ∀ k, k < n → z k = z' k) : Own B w0 w v n z' := ⟨by rw [← vals_congr e]; exact h.row, h.below, h.base⟩
/-- Another world to begin with. -/
theorem Own.from {B B' : Nat} {w0 w1 w : World} {v : Value} {n : Nat} {z : Nat → Int} (h : Own B w1 w v n z) (b : Below B' w0 w1) (hB : B' ≤ B) : Below B' w0 w := b.trans (h.below.mono hB)

/-- What 'make' lays. -/
theorem own_made {B : Nat} {w0 w : World} {g n : Nat} (h : w.ownsRow B 2 1 (.slice (some ⟨g, 0, none⟩) n n) n (madeCells #[Value.int .i64 0] n).toList) (hg : w0.grownBy w none) (hB : B ≤ w0.heap.size) :
    Own B w0 w (.slice (some ⟨g, 0, none⟩) n n) n (fun _ => 0) := by
  refine ⟨?_, (Below.refl _ _).grown hg hB (by intro k hk; cases hk), by have := hg.size; omega⟩
  have e : (madeCells #[Value.int .i64 0] n).toList = vals n (fun _ => 0) := by
    rw [toList_madeCells_one]
    apply List.ext_getElem?
    intro i
    by_cases hi : i < n
    · rw [vals_at hi, List.getElem?_replicate, if_pos hi]
    · rw [List.getElem?_eq_none (by simp; omega), List.getElem?_eq_none (by rw [vals_len]; omega)]
  rw [e] at h
  exact h

theorem wpList_push {ops : Array Oper} {rest : List Oper} {o : Oper} {a : Act} {Q : Exit → Act → World → Prop} {wr : World} (hgd : o.guard = none) (s x : Operand)
    (ho : o.op = .call { callee := .builtin .append, args := #[s, x], argTypes := #[22, 22] }) (B : Nat) (w0 : World) (v : Value) (n : Nat) (z : Nat → Int) (hs : a.eval s = v) (hown : Own B w0 wr v n z) (hl : n ≤ 2000000) (y : Int) (hy : y = z n)
    (hx : a.eval x = .slice (some ⟨wr.heap.size, 0, none⟩) 1 1)
    (h : ∀ v' w', Own B w0 w' v' (n + 1) z → wpList Tryz.prog ops Q rest (a.put o.dst v') w') : wpList Tryz.prog ops Q (o :: rest) a (wr.alloc (.cells #[.int .i64 y] 2)) := by
  obtain ⟨i0, hi, hz0, hz1, hz2⟩ := info_parts infoI64
  subst hy
  refine wpList_append_own _ hgd s x 22 ho B 2 i0 (.int .i64 0) 1 8 Tryz.underlying22 hi hz0 hz1 hz2 rfl (by decide) v n (vals n z) hs (hown.row.alloc _) ⟨wr.heap.size, 0, none⟩ 1 1 [.int .i64 (z n)] hx rfl (cell_one_new _ _ _) (by intro u hu; simp at hu; subst hu; rfl) (by unfold maxLen; omega) (by omega) (by have := hown.base; simp; omega) ?_
  intro v' w' h1 h2 _
  rw [vals_push] at h1
  refine h v' w' ⟨h1, ?_, Nat.le_trans (by have := hown.base; simp; omega) h2.size⟩
  refine (hown.below.alloc hown.base _).grown h2 (by have := hown.base; simp; omega) ?_
  intro k hk
  exact (hown.row.lt k hk).1

/-- A slice of m slices. -/
structure Sls (w : World) (lo : Option Addr) (m cm : Nat) (A : Nat → Option Addr) (L C : Nat → Nat) : Prop where
  le : m ≤ cm
  cap : cm ≤ 9223372036854775807
  at' : ∀ j, j < m → ∃ x, lo = some x ∧ w.cell? (x.add j) = some (.slice (A j) (L j) (C j))
theorem Sls.get {w : World} {lo : Option Addr} {m cm : Nat} {A : Nat → Option Addr} {L C : Nat → Nat} (h : Sls w lo m cm A L C) : ∃ x, (0 < m → lo = some x) ∧ ∀ k, k < m → w.cell? (x.add k) = some (.slice (A k) (L k) (C k)) := by
  cases lo with
  | none => exact ⟨⟨0, 0, none⟩, fun h0 => (by obtain ⟨x, hx, _⟩ := h.at' 0 h0; cases hx), fun k hk => (by obtain ⟨x, hx, _⟩ := h.at' k hk; cases hx)⟩
  | some x => exact ⟨x, fun _ => rfl, fun k hk => by obtain ⟨y, hy, hc⟩ := h.at' k hk; cases hy; exact hc⟩
theorem Sls.keep {w w' : World} {lo : Option Addr} {m cm : Nat} {A : Nat → Option Addr} {L C : Nat → Nat} (h : Sls w lo m cm A L C) (b : Below w.heap.size w w') : Sls w' lo m cm A L C :=
  ⟨h.le, h.cap, fun k hk => by obtain ⟨x, hx, hc⟩ := h.at' k hk; exact ⟨x, hx, keep_cell b hc⟩⟩

end Vc
end Go.Proofs.YtlomfjacgomhdaaGreatDoor

/-
  Plain facts on words that are shifted and rounded: no program is named here but Go's own or.
-/
set_option linter.unusedSimpArgs false
set_option linter.unusedVariables false
namespace Go.Proofs.YtlomfjacgomhdaaGreatDoor
open Go.RowKit
namespace Tn

/-- n by d, rounded: a half to the even one. -/
def rne (n d : Int) : Int := if 2 * (n % d) < d ∨ 2 * (n % d) = d ∧ n / d % 2 = 0 then n / d else n / d + 1

theorem rne_scale (n d c : Int) (hd : 0 < d) (hc : 0 < c) : rne (n * c) (d * c) = rne n d := by
  have h1 : n * c / (d * c) = n / d := Int.mul_ediv_mul_of_pos_left n d hc
  have h2 : n * c % (d * c) = n % d * c := by
    rw [Int.mul_comm n c, Int.mul_comm d c, Int.mul_emod_mul_of_pos _ _ hc, Int.mul_comm]
  unfold rne
  rw [h1, h2]
  have e1 : 2 * (n % d * c) < d * c ↔ 2 * (n % d) < d := by
    rw [← Int.mul_assoc]; exact ⟨fun h => Int.lt_of_mul_lt_mul_right h (Int.le_of_lt hc), fun h => Int.mul_lt_mul_of_pos_right h hc⟩
  have e2 : 2 * (n % d * c) = d * c ↔ 2 * (n % d) = d := by
    rw [← Int.mul_assoc]; exact ⟨fun h => Int.eq_of_mul_eq_mul_right (by omega) h, fun h => by rw [h]⟩
  simp only [e1, e2]

/-- One word of what is shifted down: the lower part out of it, the higher part out of the next one. -/
theorem shift_word (X D E : Int) (hD : 0 < D) (hE : 0 < E) (hDE : D * E = 18446744073709551616) :
    X % 18446744073709551616 / D + X / 18446744073709551616 % 18446744073709551616 * E % 18446744073709551616 = X / D % 18446744073709551616 ∧ X % 18446744073709551616 / D < E ∧ 0 ≤ X % 18446744073709551616 / D ∧ ∃ k : Int, 0 ≤ k ∧ X / 18446744073709551616 % 18446744073709551616 * E % 18446744073709551616 = E * k := by
  have hX : X = D * (E * (X / 18446744073709551616)) + X % 18446744073709551616 := by
    rw [← Int.mul_assoc, hDE]; omega
  generalize hY : X / 18446744073709551616 = Y at *
  generalize hr : X % 18446744073709551616 = r at *
  have hr0 : 0 ≤ r := by omega
  have hr1 : r < 18446744073709551616 := by omega
  have e1 : X / D = E * Y + r / D := by
    rw [hX, Int.add_comm, Int.add_mul_ediv_left _ _ (by omega), Int.add_comm]
  have hlt : r / D < E := Int.ediv_lt_of_lt_mul hD (by rw [Int.mul_comm, hDE]; exact hr1)
  have h0 : 0 ≤ r / D := Int.ediv_nonneg hr0 (by omega)
  have e2 : Y % 18446744073709551616 * E % 18446744073709551616 = E * (Y % D) := by
    have : Y % 18446744073709551616 * E % 18446744073709551616 = Y * E % 18446744073709551616 := by
      rw [Int.mul_emod, Int.emod_emod_of_dvd _ (Int.dvd_refl _), ← Int.mul_emod]
    rw [this, ← hDE, Int.mul_comm D E, Int.mul_comm Y E, Int.mul_emod_mul_of_pos _ _ hE]
  have hm0 : 0 ≤ Y % D := Int.emod_nonneg _ (by omega)
  have hm1 : Y % D < D := Int.emod_lt_of_pos _ hD
  refine ⟨?_, hlt, h0, Y % D, hm0, e2⟩
  rw [e2, e1]
  have e3 : (E * Y + r / D) % 18446744073709551616 = E * (Y % D) + r / D := by
    have hb : E * (Y % D) + r / D < 18446744073709551616 := by
      have : E * (Y % D + 1) ≤ E * D := Int.mul_le_mul_of_nonneg_left (by omega) (by omega)
      rw [Int.mul_add, Int.mul_comm E D, hDE] at this
      omega
    have hb0 : 0 ≤ E * (Y % D) := Int.mul_nonneg (by omega) hm0
    have : E * Y + r / D = E * (Y % D) + r / D + 18446744073709551616 * (Y / D) := by
      have := Int.emod_add_mul_ediv Y D
      have h2 : E * Y = E * (Y % D) + E * (D * (Y / D)) := by rw [← Int.mul_add, this]
      rw [h2, ← Int.mul_assoc E D, Int.mul_comm E D, hDE]
      omega
    rw [this, Int.add_mul_emod_self_left]
    exact Int.emod_eq_of_lt (by omega) hb
  rw [e3]; omega

theorem or_word (a b E : Int) (q : Nat) (hE : (2 : Int) ^ q = E) (ha0 : 0 ≤ a) (ha : a < E) (hb0 : 0 ≤ b) (hb1 : b < 18446744073709551616) (hEW : E ≤ 18446744073709551616) (hk : ∃ k : Int, 0 ≤ k ∧ b = E * k) : bits .or .u64 a b = a + b := by
  obtain ⟨k, hk0, hk⟩ := hk
  obtain ⟨A, rfl⟩ := Int.eq_ofNat_of_zero_le ha0
  obtain ⟨B, rfl⟩ := Int.eq_ofNat_of_zero_le hb0
  obtain ⟨K, rfl⟩ := Int.eq_ofNat_of_zero_le hk0
  have hE' : E = ((2 ^ q : Nat) : Int) := by rw [← hE]; simp
  subst hE'
  rw [bits_or_u64_nat A B (by omega) (by omega)]
  have hB : B = 2 ^ q * K := by have := hk; rw [← Int.natCast_mul] at this; omega
  rw [Nat.or_comm, nat_join q B A (by rw [hB]; exact Nat.mul_mod_right _ _) (by omega)]
  omega


/-- What 'lowered' does: two words, shifted down by p places, rounded. -/
theorem low_facts (a b : Int) (p q : Nat) (D E : Int) (ha0 : 0 ≤ a) (ha : a < 18446744073709551616) (hb0 : 0 ≤ b) (hb : b < 18446744073709551616) (hpq : p + q = 64) (hD : (2 : Int) ^ p = D) (hE : (2 : Int) ^ q = E) :
    ∃ rest last : Int, bits .or .u64 (IntKind.u64.wrap (a * E)) (b / D) = rest ∧ IntKind.u64.wrap (b * E) = last ∧ 0 ≤ rest ∧ rest < 18446744073709551616 ∧ 0 ≤ last ∧
      rne (a * 18446744073709551616 + b) (18446744073709551616 * D) = if 9223372036854775808 < rest ∨ rest = 9223372036854775808 ∧ (last ≠ 0 ∨ a / D % 2 = 1) then a / D + 1 else a / D := by
  have hD0 : 0 < D := by rw [← hD]; exact Int.pow_pos (by omega)
  have hE0 : 0 < E := by rw [← hE]; exact Int.pow_pos (by omega)
  have hDE : D * E = 18446744073709551616 := by rw [← hD, ← hE, ← Int.pow_add, hpq]; rfl
  have hEW : E ≤ 18446744073709551616 := by
    have : 1 * E ≤ D * E := Int.mul_le_mul_of_nonneg_right (by omega) (by omega)
    omega
  generalize hX : a * 18446744073709551616 + b = X
  have hXa : X / 18446744073709551616 = a := by omega
  have hXb : X % 18446744073709551616 = b := by omega
  obtain ⟨h1, h2, h3, k, hk0, h4⟩ := shift_word X D E hD0 hE0 hDE
  rw [hXa, hXb, Int.emod_eq_of_lt ha0 ha] at h1
  rw [hXb] at h2 h3
  rw [hXa, Int.emod_eq_of_lt ha0 ha] at h4
  have o1 : bits .or .u64 (b / D) (IntKind.u64.wrap (a * E)) = X / D % 18446744073709551616 := by
    rw [IntKind.wrap_u64, or_word _ _ E q hE h3 h2 (by omega) (by omega) hEW ⟨k, hk0, h4⟩, h1]
  have oc : bits .or .u64 (IntKind.u64.wrap (a * E)) (b / D) = bits .or .u64 (b / D) (IntKind.u64.wrap (a * E)) := by
    have hx0 : 0 ≤ IntKind.u64.wrap (a * E) := by rw [IntKind.wrap_u64]; omega
    have hx1 : IntKind.u64.wrap (a * E) < 18446744073709551616 := by rw [IntKind.wrap_u64]; omega
    generalize IntKind.u64.wrap (a * E) = u at *
    obtain ⟨U, rfl⟩ := Int.eq_ofNat_of_zero_le hx0
    have h6 : b / D < 18446744073709551616 := by omega
    generalize b / D = v at *
    obtain ⟨V, rfl⟩ := Int.eq_ofNat_of_zero_le h3
    rw [bits_or_u64_nat U V (by omega) (by omega), bits_or_u64_nat V U (by omega) (by omega), Nat.or_comm]
  refine ⟨X / D % 18446744073709551616, _, by rw [oc, o1], rfl, by omega, by omega, by rw [IntKind.wrap_u64]; omega, ?_⟩
  have hl : IntKind.u64.wrap (b * E) = E * (b % D) := by
    rw [IntKind.wrap_u64]
    have : (18446744073709551616 : Int) = E * D := by rw [Int.mul_comm]; exact hDE.symm
    rw [Int.mul_comm b E, this, Int.mul_emod_mul_of_pos _ _ hE0]
  have hbD : b % D = X % D := by
    rw [← hXb]
    exact Int.emod_emod_of_dvd X ⟨E, hDE.symm⟩
  have hl0 : IntKind.u64.wrap (b * E) ≠ 0 ↔ X % D ≠ 0 := by
    rw [hl, hbD]
    constructor
    · intro h e; rw [e] at h; simp at h
    · intro h e; rcases Int.mul_eq_zero.1 e with e | e <;> omega
  have hm0 : 0 ≤ X % D := Int.emod_nonneg _ (by omega)
  have hm1 : X % D < D := Int.emod_lt_of_pos _ hD0
  have hq : X / (18446744073709551616 * D) = a / D := by
    rw [← hXa, Int.ediv_ediv, if_neg (fun h => absurd h.1 (by omega)), Int.sub_zero]
  have hr : X % (18446744073709551616 * D) = (X / D % 18446744073709551616) * D + X % D := by
    have e1 := Int.emod_add_mul_ediv X D
    have e2 := Int.emod_add_mul_ediv (X / D) 18446744073709551616
    have e3 := Int.emod_add_mul_ediv X (18446744073709551616 * D)
    have e4 : X / D / 18446744073709551616 = X / (18446744073709551616 * D) := by
      rw [Int.ediv_ediv, if_neg (fun h => absurd h.1 (by omega)), Int.mul_comm, Int.sub_zero]
    rw [e4] at e2
    generalize X / (18446744073709551616 * D) = Y at *
    generalize hZ : X / D % 18446744073709551616 = Z at *
    have e5 : D * (X / D) = D * (Z + 18446744073709551616 * Y) := by rw [e2]
    have e6 : D * (Z + 18446744073709551616 * Y) = Z * D + 18446744073709551616 * D * Y := by
      rw [Int.mul_add, Int.mul_comm D Z, ← Int.mul_assoc, Int.mul_comm D]
    omega
  unfold rne
  rw [hq, hr]
  simp only [hl0]
  generalize hR : X / D % 18446744073709551616 = R at *
  generalize X % D = r at *
  have hR0 : 0 ≤ R := by omega
  rcases Int.lt_trichotomy R 9223372036854775808 with c | c | c
  · have : (R + 1) * D ≤ 9223372036854775808 * D := Int.mul_le_mul_of_nonneg_right (by omega) (by omega)
    rw [Int.add_mul] at this
    rw [if_pos (Or.inl (by omega)), if_neg (by omega)]
  · subst c
    by_cases c2 : r = 0
    · subst c2
      by_cases c3 : a / D % 2 = 0
      · rw [if_pos (Or.inr ⟨by omega, c3⟩), if_neg (by omega)]
      · rw [if_neg (by omega), if_pos (by omega)]
    · rw [if_neg (by omega), if_pos (by omega)]
  · have : 9223372036854775809 * D ≤ R * D := Int.mul_le_mul_of_nonneg_right (by omega) (by omega)
    rw [if_neg (by omega), if_pos (Or.inl c)]

end Tn
end Go.Proofs.YtlomfjacgomhdaaGreatDoor
