/-
  What all texts of this seat's walks lean on: worlds that grow, cells that stay, results.
-/
import Derived.Test.YtoglokgkgonmdaaGreatDoorProg
import Derived.WalkKit
import Derived.Deep.QuietTactic
import Derived.BigQuiet
import Derived.WalkSpells
import Derived.WalkLawsBesides
import Derived.Maps.AppendAt
import Derived.OwnWalk
import Derived.Test.YtoglokgkgonmdaaGreatDoorM1
import Derived.Laws.Rows
import Derived.Laws.Tables
import Derived.Laws.ResultCell
set_option linter.unusedSimpArgs false
set_option linter.unusedVariables false
namespace Go.Proofs.YtoglokgkgonmdaaGreatDoor
open Go.RowKit
/-- Behind a new block. -/
theorem below_al {a w : World} (h : Below a.heap.size a w) (o : Obj) : Below a.heap.size a (w.alloc o) := h.alloc h.size o
/-- Two steps. -/
theorem below_tr {a b c : World} (h : Below a.heap.size a b) (k : Below b.heap.size b c) : Below a.heap.size a c := h.trans (k.mono h.size)

/-- A cell that is there stays. -/
theorem keep_cell {W w1 : World} (hb : Below W.heap.size W w1) {a : Addr} {v : Value} (h : W.cell? a = some v) : w1.cell? a = some v := (hb.cell (World.block_lt_of_cell? W _ h)).trans h

theorem keep_free {W w1 : World} (hb : Below W.heap.size W w1) {a : Addr} {v : Value} (h : W.cell? a = some v) (hf : W.frozen? a = false) : w1.frozen? a = false := (hb.frozen (World.block_lt_of_cell? W _ h)).trans hf

namespace Dec
theorem ret_bool {a b : Bool} (h : a = b) : Ending.returned (.bool a) = .returned (.bool b) := by rw [h]
theorem ret_int {k : IntKind} {a b : Int} (h : a = b) : Ending.returned (.int k a) = .returned (.int k b) := by rw [h]
end Dec

end Go.Proofs.YtoglokgkgonmdaaGreatDoor

/-
  Slices of numbers of 64 bits, their numbers a function of the place: read, made, stored into, appended to; and a slice of such slices.
-/
set_option linter.unusedSimpArgs false
set_option linter.unusedVariables false
namespace Go.Proofs.YtoglokgkgonmdaaGreatDoor
open Go.RowKit
namespace Vc

theorem Hid.mkV {p : Prop} (h : p) : Hid p := h

theorem below_drewN {B : Nat} {a w : World} (h : Below B a w) (n : Nat) : Below B a (w.drewN n) := ⟨h.os, h.tape, h.output, h.size, h.block⟩

theorem below_drew' (w : World) : Below w.heap.size w w.drew := (Below.refl _ w).drew

theorem infoI64 : (Tryz.prog.info? 2).map (fun i => (i.zero, i.size, i.bytes)) = some (some (.int .i64 0), 1, 8) := by kernel_rfl

/-- The numbers as values. -/
def vals (n : Nat) (z : Nat → Int) : List Value := (List.range n).map fun k => Value.int .i64 (z k)
theorem vals_len (n : Nat) (z : Nat → Int) : (vals n z).length = n := by simp [vals]
theorem vals_at {n k : Nat} {z : Nat → Int} (h : k < n) : (vals n z)[k]? = some (.int .i64 (z k)) := by simp [vals, h]
theorem vals_push (n : Nat) (z : Nat → Int) : vals n z ++ [.int .i64 (z n)] = vals (n + 1) z := by simp [vals, List.range_succ]
theorem vals_congr {n : Nat} {z z' : Nat → Int} (h : ∀ k, k < n → z k = z' k) : vals n z = vals n z' := by
  unfold vals
  exact List.map_congr_left fun k hk => by rw [h k (List.mem_range.1 hk)]
theorem vals_set (n j : Nat) (x : Int) (z : Nat → Int) : (vals n z).set j (.int .i64 x) = vals n (fun k => if k = j then x else z k) := by
  apply List.ext_getElem?
  intro i
  by_cases hi : i < n
  · rw [vals_at hi, List.getElem?_set, vals_len]
    by_cases e : j = i
    · subst e; simp [hi]
    · rw [if_neg e, vals_at hi, if_neg (fun h => e h.symm)]
  · rw [List.getElem?_eq_none (by simp [vals_len]; omega), List.getElem?_eq_none (by rw [vals_len]; omega)]

/-- A slice of n numbers z. -/
structure Sl (w : World) (ao : Option Addr) (n ca : Nat) (z : Nat → Int) : Prop where
  le : n ≤ ca
  cap : ca ≤ 9223372036854775807
  at' : ∀ k, k < n → ∃ x, ao = some x ∧ w.cell? (x.add k) = some (.int .i64 (z k))

theorem Sl.get {w : World} {ao : Option Addr} {n ca : Nat} {z : Nat → Int} (h : Sl w ao n ca z) : ∃ x, (0 < n → ao = some x) ∧ ∀ k, k < n → w.cell? (x.add k) = some (.int .i64 (z k)) := by
  cases ao with
  | none => exact ⟨⟨0, 0, none⟩, fun h0 => (by obtain ⟨x, hx, _⟩ := h.at' 0 h0; cases hx), fun k hk => (by obtain ⟨x, hx, _⟩ := h.at' k hk; cases hx)⟩
  | some x => exact ⟨x, fun _ => rfl, fun k hk => by obtain ⟨y, hy, hc⟩ := h.at' k hk; cases hy; exact hc⟩

theorem Sl.keep {w w' : World} {ao : Option Addr} {n ca : Nat} {z : Nat → Int} (h : Sl w ao n ca z) (b : Below w.heap.size w w') : Sl w' ao n ca z :=
  ⟨h.le, h.cap, fun k hk => by obtain ⟨x, hx, hc⟩ := h.at' k hk; exact ⟨x, hx, keep_cell b hc⟩⟩
theorem Sl.congr {w : World} {ao : Option Addr} {n ca : Nat} {z z' : Nat → Int} (h : Sl w ao n ca z) (e : ∀ k, k < n → z k = z' k) : Sl w ao n ca z' :=
  ⟨h.le, h.cap, fun k hk => by rw [← e k hk]; exact h.at' k hk⟩
theorem Sl.none (w : World) (z : Nat → Int) : Sl w none 0 0 z := ⟨Nat.le_refl _, by omega, fun k hk => by omega⟩

/-- Numbers of 64 bits. -/
def B64 (z : Nat → Int) : Prop := ∀ k, -9223372036854775808 ≤ z k ∧ z k ≤ 9223372036854775807

/-- Whether one of the first n is so. -/
def anyb (g : Nat → Bool) : Nat → Bool
  | 0 => false
  | k + 1 => anyb g k || g k

theorem anyb_congr {g h : Nat → Bool} : ∀ {n : Nat}, (∀ k, k < n → g k = h k) → anyb g n = anyb h n
  | 0, _ => rfl
  | n + 1, e => by unfold anyb; rw [anyb_congr fun k hk => e k (by omega), e n (by omega)]
theorem anyb_false {g : Nat → Bool} : ∀ {n : Nat}, anyb g n = false ↔ ∀ k, k < n → g k = false
  | 0 => ⟨fun _ k hk => by omega, fun _ => rfl⟩
  | n + 1 => by
    unfold anyb
    rw [Bool.or_eq_false_iff, anyb_false]
    refine ⟨fun h k hk => ?_, fun h => ⟨fun k hk => h k (by omega), h n (by omega)⟩⟩
    rcases Nat.lt_or_ge k n with c | c
    · exact h.1 k c
    · obtain rfl : k = n := by omega
      exact h.2

/-- v is a slice of the call's own that holds the numbers; below B nothing has turned since w0. -/
structure Own (B : Nat) (w0 w : World) (v : Value) (n : Nat) (z : Nat → Int) : Prop where
  row : w.ownsRow B 2 1 v n (vals n z)
  below : Below B w0 w
  base : B ≤ w.heap.size

theorem Own.nil {B : Nat} {w0 w : World} (h : Below B w0 w) (hB : B ≤ w.heap.size) (z : Nat → Int) : Own B w0 w (.slice none 0 0) 0 z := ⟨World.ownsRow_nil _ _ _ _, h, hB⟩

theorem Own.sl {B : Nat} {w0 w : World} {v : Value} {n : Nat} {z : Nat → Int} (h : Own B w0 w v n z) : ∃ ao ca, v = .slice ao n ca ∧ Sl w ao n ca z := by
  obtain ⟨⟨h1, h2⟩, _, _⟩ := h
  rcases h2 with ⟨rfl, rfl⟩ | ⟨g, cap, cur, rfl, hb, hg, hn, hc, hs, ht⟩
  · exact ⟨_, _, rfl, Sl.none _ _⟩
  · refine ⟨_, _, rfl, hn, hc, fun k hk => ⟨_, rfl, ?_⟩⟩
    have e := vals_at (z := z) hk
    rw [← ht] at e
    have e2 : cur[k]? = some (.int .i64 (z k)) := by
      rw [List.getElem?_take] at e
      split at e
      · simpa using e
      · cases e
    rw [Addr.add_lit, Nat.zero_add]
    simp [World.cell?, hg, e2]

theorem row_keep {w w' : World} {B : Nat} {t : TypeId} {s : Nat} {v : Value} {n : Nat} {xs : List Value} (h : w.ownsRow B t s v n xs) (b : Below w.heap.size w w') : w'.ownsRow B t s v n xs := by
  obtain ⟨h1, h2⟩ := h
  refine ⟨h1, ?_⟩
  rcases h2 with h2 | ⟨g, cap, cur, rfl, hb, hg, hn, hc, hs, ht⟩
  · exact Or.inl h2
  · refine Or.inr ⟨g, cap, cur, rfl, hb, ?_, hn, hc, hs, ht⟩
    have hlt : g < w.heap.size := by
      rcases Nat.lt_or_ge g w.heap.size with k | k
      · exact k
      · rw [Array.getElem?_eq_none k] at hg; cases hg
    exact (b.block g hlt).trans hg

theorem Own.keep {B : Nat} {w0 w w' : World} {v : Value} {n : Nat} {z : Nat → Int} (h : Own B w0 w v n z) (b : Below w.heap.size w w') : Own B w0 w' v n z :=
  ⟨row_keep h.row b, h.below.trans (b.mono h.base), Nat.le_trans h.base b.size⟩
theorem Own.drew {B : Nat} {w0 w : World} {v : Value} {n : Nat} {z : Nat → Int} (h : Own B w0 w v n z) : Own B w0 w.drew v n z := ⟨h.row, h.below.drew, h.base⟩
theorem Own.cell {B : Nat} {w0 w : World} {g n c : Nat} {z : Nat → Int} (h : Own B w0 w (.slice (some ⟨g, 0, none⟩) n c) n z) {j : Nat} (hj : j < n) : w.cell? ⟨g, j, none⟩ = some (.int .i64 (z j)) := by
  rw [h.row.cellAt j (by omega)]
  exact vals_at hj
theorem Own.free {B : Nat} {w0 w : World} {g n c : Nat} {z : Nat → Int} (h : Own B w0 w (.slice (some ⟨g, 0, none⟩) n c) n z) (j : Nat) : w.frozen? ⟨g, j, none⟩ = false := h.row.frozenAt j
theorem Own.set {B : Nat} {w0 w : World} {g n c : Nat} {z : Nat → Int} (h : Own B w0 w (.slice (some ⟨g, 0, none⟩) n c) n z) (j : Nat) (x : Int) : Own B w0 (w.setCell ⟨g, j, none⟩ (.int .i64 x)) (.slice (some ⟨g, 0, none⟩) n c) n (fun k => if k = j then x else z k) := by
  obtain ⟨h1, h2⟩ := h.row.stored j (.int .i64 x)
  rw [vals_set] at h1
  exact ⟨h1, h.below.grown h2 h.base (fun k hk => by cases hk; exact (h.row.lt g rfl).1), Nat.le_trans h.base h2.size⟩
theorem Own.congr {B : Nat} {w0 w : World} {v : Value} {n : Nat} {z z' : Nat → Int} (h : Own B w0 w v n z) (e : ∀ k, k < n → z k = z' k) : Own B w0 w v n z' := ⟨by rw [← vals_congr e]; exact h.row, h.below, h.base⟩
/-- What 'make' lays. -/
theorem own_made {B : Nat} {w0 w : World} {g n : Nat} (h : w.ownsRow B 2 1 (.slice (some ⟨g, 0, none⟩) n n) n (madeCells #[Value.int .i64 0] n).toList) (hg : w0.grownBy w none) (hB : B ≤ w0.heap.size) :
    Own B w0 w (.slice (some ⟨g, 0, none⟩) n n) n (fun _ => 0) := by
  refine ⟨?_, (Below.refl _ _).grown hg hB (by intro k hk; cases hk), by have := hg.size; omega⟩
  have e : (madeCells #[Value.int .i64 0] n).toList = vals n (fun _ => 0) := by
    rw [toList_madeCells_one]
    apply List.ext_getElem?
    intro i
    by_cases hi : i < n
    · rw [vals_at hi, List.getElem?_replicate, if_pos hi]
    · rw [List.getElem?_eq_none (by simp; omega), List.getElem?_eq_none (by rw [vals_len]; omega)]
  rw [e] at h
  exact h

/-- A slice of m slices. -/
structure Sls (w : World) (lo : Option Addr) (m cm : Nat) (A : Nat → Option Addr) (L C : Nat → Nat) : Prop where
  le : m ≤ cm
  cap : cm ≤ 9223372036854775807
  at' : ∀ j, j < m → ∃ x, lo = some x ∧ w.cell? (x.add j) = some (.slice (A j) (L j) (C j))
theorem Sls.get {w : World} {lo : Option Addr} {m cm : Nat} {A : Nat → Option Addr} {L C : Nat → Nat} (h : Sls w lo m cm A L C) : ∃ x, (0 < m → lo = some x) ∧ ∀ k, k < m → w.cell? (x.add k) = some (.slice (A k) (L k) (C k)) := by
  cases lo with
  | none => exact ⟨⟨0, 0, none⟩, fun h0 => (by obtain ⟨x, hx, _⟩ := h.at' 0 h0; cases hx), fun k hk => (by obtain ⟨x, hx, _⟩ := h.at' k hk; cases hx)⟩
  | some x => exact ⟨x, fun _ => rfl, fun k hk => by obtain ⟨y, hy, hc⟩ := h.at' k hk; cases hy; exact hc⟩
theorem Sls.keep {w w' : World} {lo : Option Addr} {m cm : Nat} {A : Nat → Option Addr} {L C : Nat → Nat} (h : Sls w lo m cm A L C) (b : Below w.heap.size w w') : Sls w' lo m cm A L C :=
  ⟨h.le, h.cap, fun k hk => by obtain ⟨x, hx, hc⟩ := h.at' k hk; exact ⟨x, hx, keep_cell b hc⟩⟩

end Vc
end Go.Proofs.YtoglokgkgonmdaaGreatDoor

/-
  lower of the document's answer of layer 3: whether a size of eight words is below another one.
-/
set_option linter.unusedSimpArgs false
set_option linter.unusedVariables false
namespace Go.Proofs.YtoglokgkgonmdaaGreatDoor
open Go.RowKit Lg Dec

end Go.Proofs.YtoglokgkgonmdaaGreatDoor

/-
  A number of the document's answer of layer 3 (a sign and eight words) as a block of nine cells: loads, stores, results.
-/
set_option linter.unusedSimpArgs false
set_option linter.unusedVariables false
namespace Go.Proofs.YtoglokgkgonmdaaGreatDoor
open Go.RowKit Lg Dec
namespace Lg
section
end
end Lg
end Go.Proofs.YtoglokgkgonmdaaGreatDoor

/-
  Numbers of eight words of 32 bits as functions of their places: a block that holds one, sums and differences word by word.
-/
set_option linter.unusedSimpArgs false
set_option linter.unusedVariables false
namespace Go.Proofs.YtoglokgkgonmdaaGreatDoor
open Go.RowKit
namespace Lg

end Lg
end Go.Proofs.YtoglokgkgonmdaaGreatDoor

/-
  What a slice of ints reads as (a list of digits), and what the small functions of the document's answer (radomeref01) do: trim, Less.
-/
set_option linter.unusedSimpArgs false
set_option linter.unusedVariables false
namespace Go.Proofs.YtoglokgkgonmdaaGreatDoor
open Go.RowKit
namespace Dec

/-- A block of integers. -/
def Tg (w : World) (b : Nat) : Prop := ∃ cs fz, w.heap[b]? = some (.cells cs 3 fz)
theorem Tg.lt {w : World} {b : Nat} (h : Tg w b) : b < w.heap.size := by
  obtain ⟨cs, fz, e⟩ := h
  rcases Nat.lt_or_ge b w.heap.size with k | k
  · exact k
  · rw [Array.getElem?_eq_none k] at e; cases e
theorem Tg.below {w w' : World} {b B : Nat} (h : Tg w b) (hb : Below B w w') (hB : b < B) : Tg w' b := by
  obtain ⟨cs, fz, e⟩ := h
  exact ⟨cs, fz, (hb.block b hB).trans e⟩
theorem Tg.set {w : World} {b : Nat} (h : Tg w b) (p : Addr) (u : Value) : Tg (w.setCell p u) b := by
  obtain ⟨cs, fz, e⟩ := h
  by_cases k : p.block = b
  · subst k
    refine ⟨if p.spot.isSome then cs else cs.setIfInBounds p.off u, fz, ?_⟩
    simp only [World.setCell, Array.getElem?_modify, e]
    simp
  · refine ⟨cs, fz, ?_⟩
    simp only [World.setCell, Array.getElem?_modify]
    rw [if_neg k]
    exact e
/-- The slice value v reads as the digits l. -/
def Rd (w : World) (v : Value) (l : List Nat) : Prop :=
  (v = .slice none 0 0 ∧ l = []) ∨ ∃ b off cap : Nat, v = .slice (some ⟨b, off, none⟩) l.length cap ∧ l.length ≤ cap ∧ Tg w b ∧ ∀ t, t < l.length → w.cell? ⟨b, off + t, none⟩ = some (.int .i64 ((l.getD t 0 : Nat) : Int))

theorem Rd.below {w w' : World} {v : Value} {l : List Nat} {B : Nat} (h : Rd w v l) (hb : Below B w w') (hB : w.heap.size ≤ B) : Rd w' v l := by
  rcases h with h | ⟨b, off, cap, hv, hc, hlt, hcell⟩
  · exact Or.inl h
  · exact Or.inr ⟨b, off, cap, hv, hc, hlt.below hb (Nat.lt_of_lt_of_le hlt.lt hB), fun t ht => (hb.cell (p := ⟨b, off + t, none⟩) (show b < B from Nat.lt_of_lt_of_le hlt.lt hB)).trans (hcell t ht)⟩

end Dec
open Dec

set_option maxHeartbeats 400000 in
theorem trim_nil (w : World) :
    Calls Tryz.prog 83 #[.slice none 0 0] w fun e w' => e = .returned (.slice none 0 0) ∧ w' = w := by
  go_enter Tryz.func83, Tryz.ntmps83
  go_wp2
  refine wp_loop_rounds 1 ?_
  rw [rounds_succ]
  go_wp2
  go_ret
  exact ⟨rfl, rfl⟩

set_option maxHeartbeats 400000 in
theorem trim_some (b off cap : Nat) (l : List Nat) (w : World) (hs : Small l) (hlc : l.length ≤ cap) (hm : l.length ≤ 4000000)
    (hc : ∀ t, t < l.length → w.cell? ⟨b, off + t, none⟩ = some (.int .i64 ((l.getD t 0 : Nat) : Int))) :
    Calls Tryz.prog 83 #[.slice (some ⟨b, off, none⟩) l.length cap] w fun e w' => e = .returned (.slice (some ⟨b, off, none⟩) (digs (val l)).length cap) ∧ w' = w := by
  obtain ⟨n, hn⟩ : ∃ n, n = l.length := ⟨_, rfl⟩
  rw [← hn]
  rw [← hn] at hm hlc
  have Hn : Hid (n = l.length) := hn
  clear hn
  go_enter Tryz.func83, Tryz.ntmps83
  go_wp2
  go_loop [0] (fun d => ∃ k : Nat, k ≤ n ∧ d = .slice (some ⟨b, off, none⟩) k cap ∧ val (l.take k) = val l) (fun d => match d with | .slice _ k _ => k | _ => 0)
  case atStart => exact ⟨n, Nat.le_refl _, rfl, by rw [Hn.out, take_all (Nat.le_refl _)]⟩
  case round =>
    obtain ⟨k, hk, rfl, hv⟩ := hrel
    have HV : Hid (val (l.take k) = val l) := hv
    clear hv
    by_cases h0 : 0 < k
    · have hck := hc (k - 1) (by rw [← Hn.out]; omega)
      go_wp2
      · have h1 : (((l[k - 1]?.getD 0 : Nat) : Int) == 0) = true := by assumption
        go_round
        case rel =>
          refine ⟨k - 1, by omega, rfl, ?_⟩
          rw [← HV.out]
          have := take_back (l := l) (k := k - 1) (by simpa using h1)
          rwa [show k - 1 + 1 = k by omega] at this
        case measure => simp; omega
      · have h1 : (((l[k - 1]?.getD 0 : Nat) : Int) == 0) = false := by assumption
        go_ret
        have e := digs_take hs (by rw [← Hn.out]; exact hk) HV.out (Or.inr (by simpa using h1))
        exact ⟨by rw [← e]; simp [show min k l.length = k by rw [← Hn.out]; omega], rfl⟩
    · go_wp2
      go_ret
      have e := digs_take hs (by rw [← Hn.out]; exact hk) HV.out (Or.inl (by omega))
      exact ⟨by rw [← e]; simp [show min k l.length = k by rw [← Hn.out]; omega], rfl⟩

/-- trim: the digits of the same number, without noughts behind. -/
theorem trim_any (v : Value) (l : List Nat) (w : World) (hs : Small l) (hm : l.length ≤ 4000000) (h : Rd w v l) :
    Calls Tryz.prog 83 #[v] w fun e w' => ∃ v', e = .returned v' ∧ Rd w v' (digs (val l)) ∧ w' = w := by
  rcases h with ⟨rfl, rfl⟩ | ⟨b, off, cap, rfl, hlc, hlt, hc⟩
  · refine (trim_nil w).mono ?_
    rintro e w' ⟨rfl, rfl⟩
    exact ⟨_, rfl, Or.inl ⟨rfl, rfl⟩, rfl⟩
  · refine (trim_some b off cap l w hs hlc hm hc).mono ?_
    rintro e w' ⟨rfl, rfl⟩
    have hl := length_digs_le (val_lt hs)
    refine ⟨_, rfl, Or.inr ⟨b, off, cap, rfl, by omega, hlt, fun t ht => ?_⟩, rfl⟩
    rw [hc t (by omega), getD_digs_val hs ht]

/-! ### Less -/

set_option maxHeartbeats 400000 in
theorem less_a0 (ao bo : Option Addr) (ca n cb : Nat) (w : World) (hn : n ≤ 1000000) :
    Calls Tryz.prog 81 #[.slice ao 0 ca, .slice bo n cb] w fun e w' => e = .returned (.bool (decide (0 < n))) ∧ w' = w := by
  by_cases h : n = 0
  · subst h
    go_enter Tryz.func81, Tryz.ntmps81
    go_wp2
    refine wp_loop_rounds 1 ?_
    rw [rounds_succ]
    go_wp2
    go_ret
    exact ⟨rfl, rfl⟩
  · have h1 : 0 < n := by omega
    go_enter Tryz.func81, Tryz.ntmps81
    go_wp2
    go_ret
    exact ⟨by simp [h1], rfl⟩

set_option maxHeartbeats 400000 in
theorem less_b0 (ao bo : Option Addr) (n ca cb : Nat) (w : World) (hn : n ≤ 1000000) :
    Calls Tryz.prog 81 #[.slice ao n ca, .slice bo 0 cb] w fun e w' => e = .returned (.bool false) ∧ w' = w := by
  by_cases h : n = 0
  · subst h
    go_enter Tryz.func81, Tryz.ntmps81
    go_wp2
    refine wp_loop_rounds 1 ?_
    rw [rounds_succ]
    go_wp2
    go_ret
    exact ⟨rfl, rfl⟩
  · have h1 : 0 < n := by omega
    go_enter Tryz.func81, Tryz.ntmps81
    go_wp2
    go_ret
    exact ⟨rfl, rfl⟩

set_option maxHeartbeats 400000 in
theorem less_ne (ao bo : Option Addr) (n m ca cb : Nat) (w : World) (hn : n ≤ 1000000) (hm : m ≤ 1000000) (hne : n ≠ m) :
    Calls Tryz.prog 81 #[.slice ao n ca, .slice bo m cb] w fun e w' => e = .returned (.bool (decide (n < m))) ∧ w' = w := by
  have hd : (((n : Nat) : Int) != ((m : Nat) : Int)) = true := by simp; omega
  have hd2 : decide (((n : Nat) : Int) < ((m : Nat) : Int)) = decide (n < m) := by simp
  go_enter Tryz.func81, Tryz.ntmps81
  go_wp2
  go_ret
  exact ⟨by first | rfl | (rw [hd2]) | simp, rfl⟩

set_option maxHeartbeats 800000 in
theorem less_some (ba oa bb ob n ca cb : Nat) (x y : List Nat) (w : World) (hn : n ≤ 1000000) (hx : x.length = n) (hy : y.length = n) (hsx : Small x) (hsy : Small y)
    (hca : ∀ t, t < n → w.cell? ⟨ba, oa + t, none⟩ = some (.int .i64 ((x.getD t 0 : Nat) : Int))) (hcb : ∀ t, t < n → w.cell? ⟨bb, ob + t, none⟩ = some (.int .i64 ((y.getD t 0 : Nat) : Int)))
    (hba : ba < w.heap.size) (hbb : bb < w.heap.size) :
    Calls Tryz.prog 81 #[.slice (some ⟨ba, oa, none⟩) n ca, .slice (some ⟨bb, ob, none⟩) n cb] w fun e w' => e = .returned (.bool (decide (val x < val y))) ∧ Below w.heap.size w w' := by
  have Hx : Hid (x.length = n) := hx
  have Hy : Hid (y.length = n) := hy
  clear hx hy
  go_enter Tryz.func81, Tryz.ntmps81
  go_wp2
  go_loopw [5] (fun i wr => ∃ k : Nat, k ≤ n ∧ i = .int .i64 ((k : Int) - 1) ∧ x.drop k = y.drop k ∧ Below w.heap.size w wr) (fun i _ => ((intOf i) + 1).toNat)
  case atStart => exact ⟨n, Nat.le_refl _, rfl, by rw [List.drop_of_length_le (by rw [Hx.out]; exact Nat.le_refl _), List.drop_of_length_le (by rw [Hy.out]; exact Nat.le_refl _)], Below.refl _ _⟩
  case round =>
    obtain ⟨k, hk, rfl, hd, hb⟩ := hrel
    have HD : Hid (x.drop k = y.drop k) := hd
    clear hd
    by_cases h0 : 0 < k
    · have ga : wr.cell? ⟨ba, oa + (k - 1), none⟩ = some (.int .i64 ((x.getD (k - 1) 0 : Nat) : Int)) := (hb.cell (p := ⟨ba, oa + (k - 1), none⟩) hba).trans (hca (k - 1) (by omega))
      have gb : wr.cell? ⟨bb, ob + (k - 1), none⟩ = some (.int .i64 ((y.getD (k - 1) 0 : Nat) : Int)) := (hb.cell (p := ⟨bb, ob + (k - 1), none⟩) hbb).trans (hcb (k - 1) (by omega))
      go_wp2
      go_quiet (fail)
      go_wp2
      · have h1 : (((x[k - 1]?.getD 0 : Nat) : Int) != ((y[k - 1]?.getD 0 : Nat) : Int)) = true := by assumption
        go_quiet (fail)
        go_wp2
        go_ret
        refine ⟨?_, below_drewN (below_drewN hb _) _⟩
        have e := less_top (k := k) hsx hsy (Hx.out.trans Hy.out.symm) h0 (by rw [Hx.out]; exact hk) HD.out (by simpa only [List.getD] using ne_of_bne h1)
        simp only [List.getD] at e
        exact ret_bool e
      · have h1 : (((x[k - 1]?.getD 0 : Nat) : Int) != ((y[k - 1]?.getD 0 : Nat) : Int)) = false := by assumption
        go_roundw
        case rel =>
          refine ⟨k - 1, by omega, by go_num, ?_, below_drewN hb _⟩
          exact drop_step (by rw [Hx.out]; omega) (by rw [Hy.out]; omega) h0 HD.out (by simpa only [List.getD] using eq_of_bne h1)
        case measure => simp [intOf]; omega
    · go_wp2
      go_ret
      refine ⟨?_, hb⟩
      have : k = 0 := by omega
      subst this
      have e := HD.out
      simp only [List.drop_zero] at e
      rw [e]; simp
/-- Less: is one size below another one? -/
theorem less_any (va vb : Value) (x y : Nat) (w : World) (hx : (digs x).length ≤ 1000000) (hy : (digs y).length ≤ 1000000) (ha : Rd w va (digs x)) (hb : Rd w vb (digs y)) :
    Calls Tryz.prog 81 #[va, vb] w fun e w' => e = .returned (.bool (decide (x < y))) ∧ Below w.heap.size w w' := by
  have sl : ∀ {v : Value} {l : List Nat}, Rd w v l → ∃ ao cap, v = .slice ao l.length cap := by
    intro v l h
    rcases h with ⟨rfl, rfl⟩ | ⟨b, off, cap, rfl, _⟩
    · exact ⟨_, _, rfl⟩
    · exact ⟨_, _, rfl⟩
  by_cases hne : (digs x).length = (digs y).length
  · rcases ha with ⟨rfl, e⟩ | ⟨ba, oa, ca, rfl, _, hba, hca⟩
    · obtain ⟨bo, cb, rfl⟩ := sl hb
      rw [← hne, e]
      refine (less_a0 _ _ 0 0 _ w (by omega)).mono ?_
      rintro e1 w' ⟨rfl, rfl⟩
      refine ⟨ret_bool ?_, Below.refl _ _⟩
      have h1 := (digs_nil_iff x).1 e
      have h2 := (digs_nil_iff y).1 (List.length_eq_zero_iff.1 (by rw [← hne, e]; rfl))
      rw [h1, h2]
    · rcases hb with ⟨rfl, e⟩ | ⟨bb, ob, cb, rfl, _, hbb, hcb⟩
      · refine (less_b0 _ _ _ _ _ w hx).mono ?_
        rintro e1 w' ⟨rfl, rfl⟩
        refine ⟨ret_bool ?_, Below.refl _ _⟩
        have h2 := (digs_nil_iff y).1 e
        rw [h2]; simp
      · rw [← hne]
        refine (less_some ba oa bb ob _ ca cb (digs x) (digs y) w hx rfl hne.symm (small_digs _) (small_digs _) hca (by rw [hne]; exact hcb) hba.lt hbb.lt).mono ?_
        rintro e1 w' ⟨rfl, hw⟩
        rw [val_digs, val_digs]
        exact ⟨rfl, hw⟩
  · obtain ⟨ao, ca, rfl⟩ := sl ha
    obtain ⟨bo, cb, rfl⟩ := sl hb
    refine (less_ne ao bo _ _ ca cb w hx hy hne).mono ?_
    rintro e1 w' ⟨rfl, rfl⟩
    refine ⟨ret_bool ?_, Below.refl _ _⟩
    rcases Nat.lt_or_gt_of_ne hne with h | h
    · rw [decide_eq_true h, decide_eq_true (lt_of_length h)]
    · have := lt_of_length h
      rw [decide_eq_false (by omega), decide_eq_false (by omega)]

end Go.Proofs.YtoglokgkgonmdaaGreatDoor

/-
  What the document's answer (radomeref01) does to sizes: plus and minus of two lists of digits make the digits of the sum and of the difference.
-/
set_option linter.unusedSimpArgs false
set_option linter.unusedVariables false
namespace Go.Proofs.YtoglokgkgonmdaaGreatDoor
open Go.RowKit
namespace Dec

theorem Tryz.infoInt : (Tryz.prog.info? 3).map (fun i => (i.zero, i.size, i.bytes)) = some (some (.int .i64 0), 1, 8) := by kernel_rfl

/-- The digits as values. -/
def vals (l : List Nat) : List Value := l.map fun d => Value.int .i64 ((d : Nat) : Int)

/-- v is a slice of the call's own that holds the digits l; below B nothing has turned since w0. -/
structure Own (B : Nat) (w0 w : World) (v : Value) (l : List Nat) : Prop where
  row : w.ownsRow B 3 1 v l.length (vals l)
  below : Below B w0 w
  base : B ≤ w.heap.size

theorem Own.nil {B : Nat} {w0 w : World} (h : Below B w0 w) (hB : B ≤ w.heap.size) : Own B w0 w (.slice none 0 0) [] := ⟨World.ownsRow_nil _ _ _ _, h, hB⟩

theorem Own.rd {B : Nat} {w0 w : World} {v : Value} {l : List Nat} (h : Own B w0 w v l) : Rd w v l := by
  obtain ⟨⟨h1, h2⟩, _, _⟩ := h
  rcases h2 with ⟨rfl, h0⟩ | ⟨g, cap, cur, rfl, hb, hg, hn, hc, hs, ht⟩
  · exact Or.inl ⟨rfl, List.length_eq_zero_iff.1 h0⟩
  · have hlt : g < w.heap.size := by
      rcases Nat.lt_or_ge g w.heap.size with k | k
      · exact k
      · rw [Array.getElem?_eq_none k] at hg; cases hg
    refine Or.inr ⟨g, 0, cap, rfl, hn, ⟨_, _, hg⟩, fun t htl => ?_⟩
    have e : (vals l)[t]? = some (.int .i64 ((l.getD t 0 : Nat) : Int)) := by
      simp [vals, List.getD, List.getElem?_eq_getElem htl]
    rw [← ht] at e
    have e2 : cur[t]? = some (.int .i64 ((l.getD t 0 : Nat) : Int)) := by
      rw [List.getElem?_take] at e
      split at e
      · simpa using e
      · cases e
    simp [World.cell?, hg, e2]

theorem wpList_push {ops : Array Oper} {rest : List Oper} {o : Oper} {a : Act} {Q : Exit → Act → World → Prop} {wr : World} (hgd : o.guard = none) (s x : Operand)
    (ho : o.op = .call { callee := .builtin .append, args := #[s, x], argTypes := #[92, 92] }) (B : Nat) (w0 : World) (v : Value) (l : List Nat) (hs : a.eval s = v) (hown : Own B w0 wr v l) (hl : l.length ≤ 2000000) (z : Int) (d : Nat)
    (hx : a.eval x = .slice (some ⟨wr.heap.size, 0, none⟩) 1 1) (hz : z = (d : Int))
    (h : ∀ v' w', Own B w0 w' v' (l ++ [d]) → wpList Tryz.prog ops Q rest (a.put o.dst v') w') : wpList Tryz.prog ops Q (o :: rest) a (wr.alloc (.cells #[.int .i64 z] 3)) := by
  obtain ⟨i0, hi, hz0, hz1, hz2⟩ := info_parts Tryz.infoInt
  subst hz
  refine wpList_append_own _ hgd s x 92 ho B 3 i0 (.int .i64 0) 1 8 Tryz.underlying92 hi hz0 hz1 hz2 rfl (by decide) v l.length (vals l) hs (hown.row.alloc _) ⟨wr.heap.size, 0, none⟩ 1 1 [.int .i64 (d : Int)] hx rfl (cell_one_new _ _ _) (by intro u hu; simp at hu; subst hu; rfl) (by unfold maxLen; omega) (by omega) (by have := hown.base; simp; omega) ?_
  intro v' w' h1 h2 _
  refine h v' w' ⟨by simpa [vals] using h1, ?_, Nat.le_trans (by have := hown.base; simp; omega) h2.size⟩
  refine (hown.below.alloc hown.base _).grown h2 (by have := hown.base; simp; omega) ?_
  intro k hk
  exact (hown.row.lt k hk).1

end Dec
open Dec

/-- The slice as the walks take it. -/
theorem Dec.Rd.shape {w : World} {v : Value} {l : List Nat} (h : Rd w v l) : ∃ ao b off cap, v = .slice ao l.length cap ∧ l.length ≤ cap ∧ (ao = some ⟨b, off, none⟩ ∨ (ao = none ∧ l.length = 0)) ∧
    ∀ t, t < l.length → b < w.heap.size ∧ w.cell? ⟨b, off + t, none⟩ = some (.int .i64 ((l.getD t 0 : Nat) : Int)) := by
  rcases h with ⟨rfl, rfl⟩ | ⟨b, off, cap, rfl, hlc, hlt, hc⟩
  · exact ⟨none, 0, 0, 0, rfl, Nat.le_refl _, Or.inr ⟨rfl, rfl⟩, fun t ht => by simp at ht⟩
  · exact ⟨_, b, off, cap, rfl, hlc, Or.inl rfl, fun t ht => ⟨hlt.lt, hc t ht⟩⟩

set_option maxHeartbeats 1600000 in
theorem plus_shape (ao bo : Option Addr) (ba oa ca bb ob cb n m : Nat) (x y : List Nat) (w : World) (hn : n ≤ 1000000) (hm : m ≤ 1000000) (hx : x.length = n) (hy : y.length = m) (hsx : Small x) (hsy : Small y)
    (hao : ao = some ⟨ba, oa, none⟩ ∨ (ao = none ∧ n = 0)) (hbo : bo = some ⟨bb, ob, none⟩ ∨ (bo = none ∧ m = 0))
    (hca : ∀ t, t < n → ba < w.heap.size ∧ w.cell? ⟨ba, oa + t, none⟩ = some (.int .i64 ((x.getD t 0 : Nat) : Int))) (hcb : ∀ t, t < m → bb < w.heap.size ∧ w.cell? ⟨bb, ob + t, none⟩ = some (.int .i64 ((y.getD t 0 : Nat) : Int))) :
    Calls Tryz.prog 80 #[.slice ao n ca, .slice bo m cb] w fun e w' => ∃ v, e = .returned v ∧ Rd w' v (digs (val x + val y)) ∧ Below w.heap.size w w' := by
  have Hx : Hid (x.length = n) := hx
  have Hy : Hid (y.length = m) := hy
  clear hx hy
  rcases hao with rfl | ⟨rfl, rfl⟩
  · rcases hbo with rfl | ⟨rfl, rfl⟩
    · go_enter Tryz.func80, Tryz.ntmps80
      go_wp2
      go_loopw [5, 6, 7] (fun out c i wr => ∃ (k : Nat) (o : List Nat) (cv : Nat), k ≤ n + m ∧ (k ≤ n ∨ k ≤ m) ∧ i = .int .i64 k ∧ c = .int .i64 cv ∧ cv ≤ 1 ∧ PlusAt x y k o cv ∧ Own w.heap.size w wr out o)
        (fun _ _ i _ => (n + m) - (intOf i).toNat)
      case atStart => exact ⟨0, [], 0, Nat.zero_le _, Or.inl (Nat.zero_le _), rfl, rfl, Nat.zero_le _, plusAt_start x y, Own.nil (Below.refl _ _) (Nat.le_refl _)⟩
      case round =>
        obtain ⟨k, o, cv, hk, hkk, rfl, rfl, hcv, hpl, hown⟩ := hrel
        have ga : k < n → wr.cell? ⟨ba, oa + k, none⟩ = some (.int .i64 ((x.getD k 0 : Nat) : Int)) := fun h => (hown.below.cell (p := ⟨ba, oa + k, none⟩) (hca k h).1).trans (hca k h).2
        have gb : k < m → wr.cell? ⟨bb, ob + k, none⟩ = some (.int .i64 ((y.getD k 0 : Nat) : Int)) := fun h => (hown.below.cell (p := ⟨bb, ob + k, none⟩) (hcb k h).1).trans (hcb k h).2
        have dx := hsx k
        have dy := hsy k
        have HX : Hid (x.length ≤ k → x[k]?.getD 0 = 0) := fun h => by simp [List.getElem?_eq_none h]
        have HY : Hid (y.length ≤ k → y[k]?.getD 0 = 0) := fun h => by simp [List.getElem?_eq_none h]
        simp only [List.getD] at dx dy
        by_cases h1 : k < n
        · by_cases h2 : k < m
          · go_wp2_with (at_builtin; refine wpList_push (by rfl) (.tmp 40) (.tmp 43) (by rfl) w.heap.size w _ o (by rfl) hown ?_ _ ((cv + x.getD k 0 + y.getD k 0) % 10) (by rfl) ?_ ?_)
            · have := hpl.1; omega
            · simp only [List.getD]; omega
            · intro v' w' hown'
              go_wp2
              go_roundw
              case rel => exact ⟨k + 1, _, (cv + x.getD k 0 + y.getD k 0) / 10, by omega, by omega, by go_num, by simp only [List.getD]; first | go_num | (congr 1; omega), by simp only [List.getD]; omega, plusAt_step hpl, hown'⟩
              case measure => simp [intOf]; omega
          · go_wp2_with (at_builtin; refine wpList_push (by rfl) (.tmp 40) (.tmp 43) (by rfl) w.heap.size w _ o (by rfl) hown ?_ _ ((cv + x.getD k 0 + y.getD k 0) % 10) (by rfl) ?_ ?_)
            · have := hpl.1; omega
            · simp only [List.getD]; have hy0 := HY.out (by rw [Hy.out]; omega); omega
            · intro v' w' hown'
              go_wp2
              go_roundw
              case rel => exact ⟨k + 1, _, (cv + x.getD k 0 + y.getD k 0) / 10, by omega, by omega, by go_num, by simp only [List.getD]; have hy0 := HY.out (by rw [Hy.out]; omega); first | go_num | (congr 1; omega), by simp only [List.getD]; omega, plusAt_step hpl, hown'⟩
              case measure => simp [intOf]; omega
        · by_cases h2 : k < m
          · go_wp2_with (at_builtin; refine wpList_push (by rfl) (.tmp 40) (.tmp 43) (by rfl) w.heap.size w _ o (by rfl) hown ?_ _ ((cv + x.getD k 0 + y.getD k 0) % 10) (by rfl) ?_ ?_)
            · have := hpl.1; omega
            · simp only [List.getD]; have hx0 := HX.out (by rw [Hx.out]; omega); omega
            · intro v' w' hown'
              go_wp2
              go_roundw
              case rel => exact ⟨k + 1, _, (cv + x.getD k 0 + y.getD k 0) / 10, by omega, by omega, by go_num, by simp only [List.getD]; have hx0 := HX.out (by rw [Hx.out]; omega); first | go_num | (congr 1; omega), by simp only [List.getD]; omega, plusAt_step hpl, hown'⟩
              case measure => simp [intOf]; omega
          · have hend := plusAt_end hpl (by rw [Hx.out]; omega) (by rw [Hy.out]; omega) hcv
            have Hend : Hid (Small (o ++ [cv]) ∧ val (o ++ [cv]) = val x + val y) := hend
            clear hend
            go_wp2_with (at_builtin; refine wpList_push (by rfl) (.tmp 47) (.tmp 49) (by rfl) w.heap.size w _ o (by rfl) hown ?_ _ cv (by rfl) (by rfl) ?_)
            · have := hpl.1; omega
            · intro v' w' hown'
              go_wp2_with fail
              refine (trim_any _ _ _ Hend.out.1 (by have := hpl.1; simp; omega) hown'.rd).mono ?_
              rintro e w1 ⟨v1, rfl, hrd, rfl⟩
              go_wp2
              go_ret
              exact ⟨_, rfl, by rw [← Hend.out.2]; exact hrd, hown'.below⟩
    · go_enter Tryz.func80, Tryz.ntmps80
      go_wp2
      go_loopw [5, 6, 7] (fun out c i wr => ∃ (k : Nat) (o : List Nat) (cv : Nat), k ≤ n + 0 ∧ (k ≤ n ∨ k ≤ 0) ∧ i = .int .i64 k ∧ c = .int .i64 cv ∧ cv ≤ 1 ∧ PlusAt x y k o cv ∧ Own w.heap.size w wr out o)
        (fun _ _ i _ => (n + 0) - (intOf i).toNat)
      case atStart => exact ⟨0, [], 0, Nat.zero_le _, Or.inl (Nat.zero_le _), rfl, rfl, Nat.zero_le _, plusAt_start x y, Own.nil (Below.refl _ _) (Nat.le_refl _)⟩
      case round =>
        obtain ⟨k, o, cv, hk, hkk, rfl, rfl, hcv, hpl, hown⟩ := hrel
        have ga : k < n → wr.cell? ⟨ba, oa + k, none⟩ = some (.int .i64 ((x.getD k 0 : Nat) : Int)) := fun h => (hown.below.cell (p := ⟨ba, oa + k, none⟩) (hca k h).1).trans (hca k h).2
        have dx := hsx k
        have dy := hsy k
        have HX : Hid (x.length ≤ k → x[k]?.getD 0 = 0) := fun h => by simp [List.getElem?_eq_none h]
        have HY : Hid (y.length ≤ k → y[k]?.getD 0 = 0) := fun h => by simp [List.getElem?_eq_none h]
        simp only [List.getD] at dx dy
        by_cases h1 : k < n
        · go_wp2_with (at_builtin; refine wpList_push (by rfl) (.tmp 40) (.tmp 43) (by rfl) w.heap.size w _ o (by rfl) hown ?_ _ ((cv + x.getD k 0 + y.getD k 0) % 10) (by rfl) ?_ ?_)
          · have := hpl.1; omega
          · simp only [List.getD]; have hy0 := HY.out (by rw [Hy.out]; omega); omega
          · intro v' w' hown'
            go_wp2
            go_roundw
            case rel => exact ⟨k + 1, _, (cv + x.getD k 0 + y.getD k 0) / 10, by omega, by omega, by go_num, by simp only [List.getD]; have hy0 := HY.out (by rw [Hy.out]; omega); first | go_num | (congr 1; omega), by simp only [List.getD]; omega, plusAt_step hpl, hown'⟩
            case measure => simp [intOf]; omega
        · have hend := plusAt_end hpl (by rw [Hx.out]; omega) (by rw [Hy.out]; omega) hcv
          have Hend : Hid (Small (o ++ [cv]) ∧ val (o ++ [cv]) = val x + val y) := hend
          clear hend
          go_wp2_with (at_builtin; refine wpList_push (by rfl) (.tmp 47) (.tmp 49) (by rfl) w.heap.size w _ o (by rfl) hown ?_ _ cv (by rfl) (by rfl) ?_)
          · have := hpl.1; omega
          · intro v' w' hown'
            go_wp2_with fail
            refine (trim_any _ _ _ Hend.out.1 (by have := hpl.1; simp; omega) hown'.rd).mono ?_
            rintro e w1 ⟨v1, rfl, hrd, rfl⟩
            go_wp2
            go_ret
            exact ⟨_, rfl, by rw [← Hend.out.2]; exact hrd, hown'.below⟩
  · rcases hbo with rfl | ⟨rfl, rfl⟩
    · go_enter Tryz.func80, Tryz.ntmps80
      go_wp2
      go_loopw [5, 6, 7] (fun out c i wr => ∃ (k : Nat) (o : List Nat) (cv : Nat), k ≤ 0 + m ∧ (k ≤ 0 ∨ k ≤ m) ∧ i = .int .i64 k ∧ c = .int .i64 cv ∧ cv ≤ 1 ∧ PlusAt x y k o cv ∧ Own w.heap.size w wr out o)
        (fun _ _ i _ => (0 + m) - (intOf i).toNat)
      case atStart => exact ⟨0, [], 0, Nat.zero_le _, Or.inl (Nat.zero_le _), rfl, rfl, Nat.zero_le _, plusAt_start x y, Own.nil (Below.refl _ _) (Nat.le_refl _)⟩
      case round =>
        obtain ⟨k, o, cv, hk, hkk, rfl, rfl, hcv, hpl, hown⟩ := hrel
        have gb : k < m → wr.cell? ⟨bb, ob + k, none⟩ = some (.int .i64 ((y.getD k 0 : Nat) : Int)) := fun h => (hown.below.cell (p := ⟨bb, ob + k, none⟩) (hcb k h).1).trans (hcb k h).2
        have dx := hsx k
        have dy := hsy k
        have HX : Hid (x.length ≤ k → x[k]?.getD 0 = 0) := fun h => by simp [List.getElem?_eq_none h]
        have HY : Hid (y.length ≤ k → y[k]?.getD 0 = 0) := fun h => by simp [List.getElem?_eq_none h]
        simp only [List.getD] at dx dy
        by_cases h1 : k < m
        · go_wp2_with (at_builtin; refine wpList_push (by rfl) (.tmp 40) (.tmp 43) (by rfl) w.heap.size w _ o (by rfl) hown ?_ _ ((cv + x.getD k 0 + y.getD k 0) % 10) (by rfl) ?_ ?_)
          · have := hpl.1; omega
          · simp only [List.getD]; have hx0 := HX.out (by rw [Hx.out]; omega); omega
          · intro v' w' hown'
            go_wp2
            go_roundw
            case rel => exact ⟨k + 1, _, (cv + x.getD k 0 + y.getD k 0) / 10, by omega, by omega, by go_num, by simp only [List.getD]; have hx0 := HX.out (by rw [Hx.out]; omega); first | go_num | (congr 1; omega), by simp only [List.getD]; omega, plusAt_step hpl, hown'⟩
            case measure => simp [intOf]; omega
        · have hend := plusAt_end hpl (by rw [Hx.out]; omega) (by rw [Hy.out]; omega) hcv
          have Hend : Hid (Small (o ++ [cv]) ∧ val (o ++ [cv]) = val x + val y) := hend
          clear hend
          go_wp2_with (at_builtin; refine wpList_push (by rfl) (.tmp 47) (.tmp 49) (by rfl) w.heap.size w _ o (by rfl) hown ?_ _ cv (by rfl) (by rfl) ?_)
          · have := hpl.1; omega
          · intro v' w' hown'
            go_wp2_with fail
            refine (trim_any _ _ _ Hend.out.1 (by have := hpl.1; simp; omega) hown'.rd).mono ?_
            rintro e w1 ⟨v1, rfl, hrd, rfl⟩
            go_wp2
            go_ret
            exact ⟨_, rfl, by rw [← Hend.out.2]; exact hrd, hown'.below⟩
    · go_enter Tryz.func80, Tryz.ntmps80
      go_wp2
      go_loopw [5, 6, 7] (fun out c i wr => ∃ (k : Nat) (o : List Nat) (cv : Nat), k ≤ 0 + 0 ∧ (k ≤ 0 ∨ k ≤ 0) ∧ i = .int .i64 k ∧ c = .int .i64 cv ∧ cv ≤ 1 ∧ PlusAt x y k o cv ∧ Own w.heap.size w wr out o)
        (fun _ _ i _ => (0 + 0) - (intOf i).toNat)
      case atStart => exact ⟨0, [], 0, Nat.zero_le _, Or.inl (Nat.zero_le _), rfl, rfl, Nat.zero_le _, plusAt_start x y, Own.nil (Below.refl _ _) (Nat.le_refl _)⟩
      case round =>
        obtain ⟨k, o, cv, hk, hkk, rfl, rfl, hcv, hpl, hown⟩ := hrel
        have dx := hsx k
        have dy := hsy k
        have HX : Hid (x.length ≤ k → x[k]?.getD 0 = 0) := fun h => by simp [List.getElem?_eq_none h]
        have HY : Hid (y.length ≤ k → y[k]?.getD 0 = 0) := fun h => by simp [List.getElem?_eq_none h]
        simp only [List.getD] at dx dy
        have hend := plusAt_end hpl (by rw [Hx.out]; omega) (by rw [Hy.out]; omega) hcv
        have Hend : Hid (Small (o ++ [cv]) ∧ val (o ++ [cv]) = val x + val y) := hend
        clear hend
        go_wp2_with (at_builtin; refine wpList_push (by rfl) (.tmp 47) (.tmp 49) (by rfl) w.heap.size w _ o (by rfl) hown ?_ _ cv (by rfl) (by rfl) ?_)
        · have := hpl.1; omega
        · intro v' w' hown'
          go_wp2_with fail
          refine (trim_any _ _ _ Hend.out.1 (by have := hpl.1; simp; omega) hown'.rd).mono ?_
          rintro e w1 ⟨v1, rfl, hrd, rfl⟩
          go_wp2
          go_ret
          exact ⟨_, rfl, by rw [← Hend.out.2]; exact hrd, hown'.below⟩

/-- plus: the digits of the sum. -/
theorem plus_any (va vb : Value) (x y : Nat) (w : World) (hx : (digs x).length ≤ 1000000) (hy : (digs y).length ≤ 1000000) (ha : Rd w va (digs x)) (hb : Rd w vb (digs y)) :
    Calls Tryz.prog 80 #[va, vb] w fun e w' => ∃ v, e = .returned v ∧ Rd w' v (digs (x + y)) ∧ Below w.heap.size w w' := by
  obtain ⟨ao, ba, oa, ca, rfl, _, hao, hca⟩ := ha.shape
  obtain ⟨bo, bb, ob, cb, rfl, _, hbo, hcb⟩ := hb.shape
  have := plus_shape ao bo ba oa ca bb ob cb _ _ (digs x) (digs y) w hx hy rfl rfl (small_digs _) (small_digs _) hao hbo hca hcb
  rw [val_digs, val_digs] at this
  exact this

set_option maxHeartbeats 1600000 in
theorem minus_shape (ao bo : Option Addr) (ba oa ca bb ob cb n m : Nat) (x y : List Nat) (w : World) (hn : n ≤ 1000000) (hmn : m ≤ n) (hx : x.length = n) (hy : y.length = m) (hsx : Small x) (hsy : Small y) (hle : val y ≤ val x)
    (hao : ao = some ⟨ba, oa, none⟩ ∨ (ao = none ∧ n = 0)) (hbo : bo = some ⟨bb, ob, none⟩ ∨ (bo = none ∧ m = 0))
    (hca : ∀ t, t < n → ba < w.heap.size ∧ w.cell? ⟨ba, oa + t, none⟩ = some (.int .i64 ((x.getD t 0 : Nat) : Int))) (hcb : ∀ t, t < m → bb < w.heap.size ∧ w.cell? ⟨bb, ob + t, none⟩ = some (.int .i64 ((y.getD t 0 : Nat) : Int))) :
    Calls Tryz.prog 82 #[.slice ao n ca, .slice bo m cb] w fun e w' => ∃ v, e = .returned v ∧ Rd w' v (digs (val x - val y)) ∧ Below w.heap.size w w' := by
  have Hx : Hid (x.length = n) := hx
  have Hy : Hid (y.length = m) := hy
  clear hx hy
  rcases hao with rfl | ⟨rfl, rfl⟩
  · rcases hbo with rfl | ⟨rfl, rfl⟩
    · go_enter Tryz.func82, Tryz.ntmps82
      go_wp2
      go_loopw [5, 6, 7] (fun out c i wr => ∃ (k : Nat) (o : List Nat) (cv : Nat), k ≤ n ∧ i = .int .i64 k ∧ c = .int .i64 cv ∧ cv ≤ 1 ∧ MinusAt x y k o cv ∧ Own w.heap.size w wr out o)
        (fun _ _ i _ => n - (intOf i).toNat)
      case atStart => exact ⟨0, [], 0, Nat.zero_le _, rfl, rfl, Nat.zero_le _, minusAt_start x y, Own.nil (Below.refl _ _) (Nat.le_refl _)⟩
      case round =>
        obtain ⟨k, o, cv, hk, rfl, rfl, hcv, hpl, hown⟩ := hrel
        have ga : k < n → wr.cell? ⟨ba, oa + k, none⟩ = some (.int .i64 ((x.getD k 0 : Nat) : Int)) := fun h => (hown.below.cell (p := ⟨ba, oa + k, none⟩) (hca k h).1).trans (hca k h).2
        have gb : k < m → wr.cell? ⟨bb, ob + k, none⟩ = some (.int .i64 ((y.getD k 0 : Nat) : Int)) := fun h => (hown.below.cell (p := ⟨bb, ob + k, none⟩) (hcb k h).1).trans (hcb k h).2
        have dx := hsx k
        have dy := hsy k
        have HY : Hid (y.length ≤ k → y[k]?.getD 0 = 0) := fun h => by simp [List.getElem?_eq_none h]
        simp only [List.getD] at dx dy
        by_cases h1 : k < n
        · by_cases h2 : k < m
          · by_cases h3 : x[k]?.getD 0 < cv + y[k]?.getD 0
            · go_wp2_with (at_builtin; refine wpList_push (by rfl) (.tmp 35) (.tmp 37) (by rfl) w.heap.size w _ o (by rfl) hown ?_ _ (x.getD k 0 + 10 - cv - y.getD k 0) (by rfl) ?_ ?_)
              · have := hpl.1; omega
              · simp only [List.getD]; omega
              · intro v' w' hown'
                go_wp2
                go_roundw
                case rel => exact ⟨k + 1, _, 1, by omega, by go_num, by go_num, by omega, minusAt_step hpl (by (try simp only [List.getD]); omega) (by simp only [List.getD]; omega), hown'⟩
                case measure => simp [intOf]; omega
            · go_wp2_with (at_builtin; refine wpList_push (by rfl) (.tmp 35) (.tmp 37) (by rfl) w.heap.size w _ o (by rfl) hown ?_ _ (x.getD k 0 - cv - y.getD k 0) (by rfl) ?_ ?_)
              · have := hpl.1; omega
              · simp only [List.getD]; omega
              · intro v' w' hown'
                go_wp2
                go_roundw
                case rel => exact ⟨k + 1, _, 0, by omega, by go_num, by go_num, by omega, minusAt_step hpl (by (try simp only [List.getD]); omega) (by simp only [List.getD]; omega), hown'⟩
                case measure => simp [intOf]; omega
          · by_cases h3 : x[k]?.getD 0 < cv
            · go_wp2_with (at_builtin; refine wpList_push (by rfl) (.tmp 35) (.tmp 37) (by rfl) w.heap.size w _ o (by rfl) hown ?_ _ (x.getD k 0 + 10 - cv - y.getD k 0) (by rfl) ?_ ?_)
              · have := hpl.1; omega
              · simp only [List.getD]; have hy0 := HY.out (by rw [Hy.out]; omega); omega
              · intro v' w' hown'
                go_wp2
                go_roundw
                case rel => exact ⟨k + 1, _, 1, by omega, by go_num, by go_num, by omega, minusAt_step hpl (by (try simp only [List.getD]); have hy0 := HY.out (by rw [Hy.out]; omega); omega) (by simp only [List.getD]; have hy0 := HY.out (by rw [Hy.out]; omega); omega), hown'⟩
                case measure => simp [intOf]; omega
            · go_wp2_with (at_builtin; refine wpList_push (by rfl) (.tmp 35) (.tmp 37) (by rfl) w.heap.size w _ o (by rfl) hown ?_ _ (x.getD k 0 - cv - y.getD k 0) (by rfl) ?_ ?_)
              · have := hpl.1; omega
              · simp only [List.getD]; have hy0 := HY.out (by rw [Hy.out]; omega); omega
              · intro v' w' hown'
                go_wp2
                go_roundw
                case rel => exact ⟨k + 1, _, 0, by omega, by go_num, by go_num, by omega, minusAt_step hpl (by (try simp only [List.getD]); have hy0 := HY.out (by rw [Hy.out]; omega); omega) (by simp only [List.getD]; have hy0 := HY.out (by rw [Hy.out]; omega); omega), hown'⟩
                case measure => simp [intOf]; omega
        · have hend := minusAt_end hpl (by rw [Hx.out]; omega) (by rw [Hy.out]; omega) hcv hle
          have Hend : Hid (Small o ∧ val o = val x - val y) := hend
          clear hend
          go_wp2_with fail
          refine (trim_any _ _ _ Hend.out.1 (by have := hpl.1; omega) hown.rd).mono ?_
          rintro e w1 ⟨v1, rfl, hrd, rfl⟩
          go_wp2
          go_ret
          exact ⟨_, rfl, by rw [← Hend.out.2]; exact hrd, hown.below⟩
    · go_enter Tryz.func82, Tryz.ntmps82
      go_wp2
      go_loopw [5, 6, 7] (fun out c i wr => ∃ (k : Nat) (o : List Nat) (cv : Nat), k ≤ n ∧ i = .int .i64 k ∧ c = .int .i64 cv ∧ cv ≤ 1 ∧ MinusAt x y k o cv ∧ Own w.heap.size w wr out o)
        (fun _ _ i _ => n - (intOf i).toNat)
      case atStart => exact ⟨0, [], 0, Nat.zero_le _, rfl, rfl, Nat.zero_le _, minusAt_start x y, Own.nil (Below.refl _ _) (Nat.le_refl _)⟩
      case round =>
        obtain ⟨k, o, cv, hk, rfl, rfl, hcv, hpl, hown⟩ := hrel
        have ga : k < n → wr.cell? ⟨ba, oa + k, none⟩ = some (.int .i64 ((x.getD k 0 : Nat) : Int)) := fun h => (hown.below.cell (p := ⟨ba, oa + k, none⟩) (hca k h).1).trans (hca k h).2
        have dx := hsx k
        have dy := hsy k
        have HY : Hid (y.length ≤ k → y[k]?.getD 0 = 0) := fun h => by simp [List.getElem?_eq_none h]
        simp only [List.getD] at dx dy
        by_cases h1 : k < n
        · by_cases h3 : x[k]?.getD 0 < cv
          · go_wp2_with (at_builtin; refine wpList_push (by rfl) (.tmp 35) (.tmp 37) (by rfl) w.heap.size w _ o (by rfl) hown ?_ _ (x.getD k 0 + 10 - cv - y.getD k 0) (by rfl) ?_ ?_)
            · have := hpl.1; omega
            · simp only [List.getD]; have hy0 := HY.out (by rw [Hy.out]; omega); omega
            · intro v' w' hown'
              go_wp2
              go_roundw
              case rel => exact ⟨k + 1, _, 1, by omega, by go_num, by go_num, by omega, minusAt_step hpl (by (try simp only [List.getD]); have hy0 := HY.out (by rw [Hy.out]; omega); omega) (by simp only [List.getD]; have hy0 := HY.out (by rw [Hy.out]; omega); omega), hown'⟩
              case measure => simp [intOf]; omega
          · go_wp2_with (at_builtin; refine wpList_push (by rfl) (.tmp 35) (.tmp 37) (by rfl) w.heap.size w _ o (by rfl) hown ?_ _ (x.getD k 0 - cv - y.getD k 0) (by rfl) ?_ ?_)
            · have := hpl.1; omega
            · simp only [List.getD]; have hy0 := HY.out (by rw [Hy.out]; omega); omega
            · intro v' w' hown'
              go_wp2
              go_roundw
              case rel => exact ⟨k + 1, _, 0, by omega, by go_num, by go_num, by omega, minusAt_step hpl (by (try simp only [List.getD]); have hy0 := HY.out (by rw [Hy.out]; omega); omega) (by simp only [List.getD]; have hy0 := HY.out (by rw [Hy.out]; omega); omega), hown'⟩
              case measure => simp [intOf]; omega
        · have hend := minusAt_end hpl (by rw [Hx.out]; omega) (by rw [Hy.out]; omega) hcv hle
          have Hend : Hid (Small o ∧ val o = val x - val y) := hend
          clear hend
          go_wp2_with fail
          refine (trim_any _ _ _ Hend.out.1 (by have := hpl.1; omega) hown.rd).mono ?_
          rintro e w1 ⟨v1, rfl, hrd, rfl⟩
          go_wp2
          go_ret
          exact ⟨_, rfl, by rw [← Hend.out.2]; exact hrd, hown.below⟩
  · obtain rfl : m = 0 := by omega
    rcases hbo with rfl | ⟨rfl, _⟩
    · go_enter Tryz.func82, Tryz.ntmps82
      go_wp2
      go_loopw [5, 6, 7] (fun out c i wr => ∃ (k : Nat) (o : List Nat) (cv : Nat), k ≤ 0 ∧ i = .int .i64 k ∧ c = .int .i64 cv ∧ cv ≤ 1 ∧ MinusAt x y k o cv ∧ Own w.heap.size w wr out o)
        (fun _ _ i _ => 0 - (intOf i).toNat)
      case atStart => exact ⟨0, [], 0, Nat.zero_le _, rfl, rfl, Nat.zero_le _, minusAt_start x y, Own.nil (Below.refl _ _) (Nat.le_refl _)⟩
      case round =>
        obtain ⟨k, o, cv, hk, rfl, rfl, hcv, hpl, hown⟩ := hrel
        have gb : k < 0 → wr.cell? ⟨bb, ob + k, none⟩ = some (.int .i64 ((y.getD k 0 : Nat) : Int)) := fun h => (hown.below.cell (p := ⟨bb, ob + k, none⟩) (hcb k h).1).trans (hcb k h).2
        have dx := hsx k
        have dy := hsy k
        have HY : Hid (y.length ≤ k → y[k]?.getD 0 = 0) := fun h => by simp [List.getElem?_eq_none h]
        simp only [List.getD] at dx dy
        have hend := minusAt_end hpl (by rw [Hx.out]; omega) (by rw [Hy.out]; omega) hcv hle
        have Hend : Hid (Small o ∧ val o = val x - val y) := hend
        clear hend
        go_wp2_with fail
        refine (trim_any _ _ _ Hend.out.1 (by have := hpl.1; omega) hown.rd).mono ?_
        rintro e w1 ⟨v1, rfl, hrd, rfl⟩
        go_wp2
        go_ret
        exact ⟨_, rfl, by rw [← Hend.out.2]; exact hrd, hown.below⟩
    · go_enter Tryz.func82, Tryz.ntmps82
      go_wp2
      go_loopw [5, 6, 7] (fun out c i wr => ∃ (k : Nat) (o : List Nat) (cv : Nat), k ≤ 0 ∧ i = .int .i64 k ∧ c = .int .i64 cv ∧ cv ≤ 1 ∧ MinusAt x y k o cv ∧ Own w.heap.size w wr out o)
        (fun _ _ i _ => 0 - (intOf i).toNat)
      case atStart => exact ⟨0, [], 0, Nat.zero_le _, rfl, rfl, Nat.zero_le _, minusAt_start x y, Own.nil (Below.refl _ _) (Nat.le_refl _)⟩
      case round =>
        obtain ⟨k, o, cv, hk, rfl, rfl, hcv, hpl, hown⟩ := hrel
        have dx := hsx k
        have dy := hsy k
        have HY : Hid (y.length ≤ k → y[k]?.getD 0 = 0) := fun h => by simp [List.getElem?_eq_none h]
        simp only [List.getD] at dx dy
        have hend := minusAt_end hpl (by rw [Hx.out]; omega) (by rw [Hy.out]; omega) hcv hle
        have Hend : Hid (Small o ∧ val o = val x - val y) := hend
        clear hend
        go_wp2_with fail
        refine (trim_any _ _ _ Hend.out.1 (by have := hpl.1; omega) hown.rd).mono ?_
        rintro e w1 ⟨v1, rfl, hrd, rfl⟩
        go_wp2
        go_ret
        exact ⟨_, rfl, by rw [← Hend.out.2]; exact hrd, hown.below⟩

/-- minus: the digits of the difference. -/
theorem minus_any (va vb : Value) (x y : Nat) (w : World) (hx : (digs x).length ≤ 1000000) (hle : y ≤ x) (ha : Rd w va (digs x)) (hb : Rd w vb (digs y)) :
    Calls Tryz.prog 82 #[va, vb] w fun e w' => ∃ v, e = .returned v ∧ Rd w' v (digs (x - y)) ∧ Below w.heap.size w w' := by
  obtain ⟨ao, ba, oa, ca, rfl, _, hao, hca⟩ := ha.shape
  obtain ⟨bo, bb, ob, cb, rfl, _, hbo, hcb⟩ := hb.shape
  have := minus_shape ao bo ba oa ca bb ob cb _ _ (digs x) (digs y) w hx (length_le_of_le hle) rfl rfl (small_digs _) (small_digs _) (by rw [val_digs, val_digs]; exact hle) hao hbo hca hcb
  rw [val_digs, val_digs] at this
  exact this

end Go.Proofs.YtoglokgkgonmdaaGreatDoor

/-
  Layer 12, plain: numbers no greater than may be; states that may be.
-/
set_option linter.unusedSimpArgs false
set_option linter.unusedVariables false
namespace Go.Proofs.YtoglokgkgonmdaaGreatDoor
open Go.RowKit Dt
namespace Pr
/-- A number no greater than may be. -/
def InV (z : Int) : Prop := -4611686018427387903 ≤ z ∧ z ≤ 4611686018427387903
instance (z : Int) : Decidable (InV z) := by unfold InV; infer_instance
/-- A state that may be. -/
def MayV (X : Nat → Int) (P : Nat → Nat → Int) : Prop := ∀ i, i < 6 → InV (X i) ∧ 0 ≤ P i i ∧ ∀ j, j < 6 → InV (P i j) ∧ P i j = P j i
end Pr
end Go.Proofs.YtoglokgkgonmdaaGreatDoor
