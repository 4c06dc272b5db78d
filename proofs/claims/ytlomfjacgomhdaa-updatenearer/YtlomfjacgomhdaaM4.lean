/-
  Layer 12, plain: numbers no greater than may be; states that may be.
-/
import Derived.Test.YtlomfjacgomhdaaM3
import Derived.Test.YtlomfjacgomhdaaM1
import Derived.Laws.Rows
import Derived.Laws.Tables
import Derived.Laws.ResultCell
import Derived.WalkKit
import Derived.Deep.QuietTactic
import Derived.BigQuiet
import Derived.WalkSpells
import Derived.WalkLawsBesides
import Derived.Maps.AppendAt
set_option linter.unusedSimpArgs false
set_option linter.unusedVariables false
namespace Go.Proofs.Ytlomfjacgomhdaa
open Go.RowKit Dt
namespace Pr
/-- A number no greater than may be. -/
def InV (z : Int) : Prop := -4611686018427387903 ≤ z ∧ z ≤ 4611686018427387903
instance (z : Int) : Decidable (InV z) := by unfold InV; infer_instance
/-- A state that may be. -/
def MayV (X : Nat → Int) (P : Nat → Nat → Int) : Prop := ∀ i, i < 6 → InV (X i) ∧ 0 ≤ P i i ∧ ∀ j, j < 6 → InV (P i j) ∧ P i j = P j i
theorem dk_comm (a b : Nat → Int) (n : Nat) : dk a b n = dk b a n := by
  induction n with
  | zero => rfl
  | succ n ih => unfold dk; rw [ih, Int.mul_comm (a n)]
theorem Hid.mkQ {p : Prop} (h : p) : Hid p := h
end Pr
end Go.Proofs.Ytlomfjacgomhdaa

/-
  lower of the document's answer of layer 3: whether a size of eight words is below another one.
-/
set_option linter.unusedSimpArgs false
set_option linter.unusedVariables false
namespace Go.Proofs.Ytlomfjacgomhdaa
open Go.RowKit Lg Dec

end Go.Proofs.Ytlomfjacgomhdaa

/-
  A number of the document's answer of layer 3 (a sign and eight words) as a block of nine cells: loads, stores, results.
-/
set_option linter.unusedSimpArgs false
set_option linter.unusedVariables false
namespace Go.Proofs.Ytlomfjacgomhdaa
open Go.RowKit Lg Dec
namespace Lg
section
end
theorem below_setRow {B g : Nat} {w0 w : World} (hb : Below B w0 w) (hBg : B ≤ g) (cs : Array Value) : Below B w0 (w.setRow g cs) :=
  hb.trans ⟨rfl, rfl, rfl, by simp, fun k hk => setRow_other w g k cs (by omega)⟩
end Lg
end Go.Proofs.Ytlomfjacgomhdaa

/-
  Numbers of eight words of 32 bits as functions of their places: a block that holds one, sums and differences word by word.
-/
set_option linter.unusedSimpArgs false
set_option linter.unusedVariables false
namespace Go.Proofs.Ytlomfjacgomhdaa
open Go.RowKit
namespace Lg

theorem keep_set {w : World} {a p : Addr} {v : Value} (h : w.cell? a = some v) (hne : a.block ≠ p.block) (u : Value) : (w.setCell p u).cell? a = some v :=
  (World.cell?_of_block (Below.heap_setCell w p u a.block hne)).trans h

/-- The first K words of one, the others of another one. -/
def mixf (K : Nat) (f g : Nat → Int) : Nat → Int := fun j => if j < K then f j else g j

/-- What is carried into word k. -/
def cr : Int → Int → Int → Nat → Int
  | _, _, c, 0 => c
  | a, b, c, k + 1 => cr (a / 4294967296) (b / 4294967296) ((a % 4294967296 + b % 4294967296 + c) / 4294967296) k
theorem cr_bd : ∀ (k : Nat) (a b c : Int), 0 ≤ c → c ≤ 1 → 0 ≤ cr a b c k ∧ cr a b c k ≤ 1
  | 0, _, _, c, h0, h1 => ⟨h0, h1⟩
  | k + 1, a, b, c, h0, h1 => cr_bd k _ _ _ (by omega) (by omega)
theorem cr_next : ∀ (k : Nat) (a b c : Int), cr a b c (k + 1) = (wd k a + wd k b + cr a b c k) / 4294967296
  | 0, a, b, c => rfl
  | k + 1, a, b, c => cr_next k (a / 4294967296) (b / 4294967296) ((a % 4294967296 + b % 4294967296 + c) / 4294967296)
theorem cr_word : ∀ (k : Nat) (a b c : Int), 0 ≤ c → c ≤ 1 → wd k (a + b + c) = (wd k a + wd k b + cr a b c k) % 4294967296
  | 0, a, b, c, _, _ => by show (a + b + c) % 4294967296 = (a % 4294967296 + b % 4294967296 + c) % 4294967296; omega
  | k + 1, a, b, c, h0, h1 => by
    have := cr_word k (a / 4294967296) (b / 4294967296) ((a % 4294967296 + b % 4294967296 + c) / 4294967296) (by omega) (by omega)
    have e : (a + b + c) / 4294967296 = a / 4294967296 + b / 4294967296 + (a % 4294967296 + b % 4294967296 + c) / 4294967296 := by omega
    show wd k ((a + b + c) / 4294967296) = _
    rw [e]; exact this

/-- What is borrowed from word k. -/
def br : Int → Int → Int → Nat → Int
  | _, _, c, 0 => c
  | a, b, c, k + 1 => br (a / 4294967296) (b / 4294967296) (1 - (4294967296 + a % 4294967296 - b % 4294967296 - c) / 4294967296) k
theorem br_bd : ∀ (k : Nat) (a b c : Int), 0 ≤ c → c ≤ 1 → 0 ≤ br a b c k ∧ br a b c k ≤ 1
  | 0, _, _, c, h0, h1 => ⟨h0, h1⟩
  | k + 1, a, b, c, h0, h1 => br_bd k _ _ _ (by omega) (by omega)
theorem br_next : ∀ (k : Nat) (a b c : Int), br a b c (k + 1) = 1 - (4294967296 + wd k a - wd k b - br a b c k) / 4294967296
  | 0, a, b, c => rfl
  | k + 1, a, b, c => br_next k (a / 4294967296) (b / 4294967296) (1 - (4294967296 + a % 4294967296 - b % 4294967296 - c) / 4294967296)
theorem br_word : ∀ (k : Nat) (a b c : Int), 0 ≤ c → c ≤ 1 → wd k (a - b - c) = (4294967296 + wd k a - wd k b - br a b c k) % 4294967296
  | 0, a, b, c, _, _ => by show (a - b - c) % 4294967296 = (4294967296 + a % 4294967296 - b % 4294967296 - c) % 4294967296; omega
  | k + 1, a, b, c, h0, h1 => by
    have := br_word k (a / 4294967296) (b / 4294967296) (1 - (4294967296 + a % 4294967296 - b % 4294967296 - c) / 4294967296) (by omega) (by omega)
    have e : (a - b - c) / 4294967296 = a / 4294967296 - b / 4294967296 - (1 - (4294967296 + a % 4294967296 - b % 4294967296 - c) / 4294967296) := by omega
    show wd k ((a - b - c) / 4294967296) = _
    rw [e]; exact this

end Lg
end Go.Proofs.Ytlomfjacgomhdaa

/-
  What a slice of ints reads as (a list of digits), and what the small functions of the document's answer (radomeref01) do: trim, Less.
-/
set_option linter.unusedSimpArgs false
set_option linter.unusedVariables false
namespace Go.Proofs.Ytlomfjacgomhdaa
open Go.RowKit
namespace Dec

/-- A block of integers. -/
def Tg (w : World) (b : Nat) : Prop := ∃ cs fz, w.heap[b]? = some (.cells cs 3 fz)
theorem Tg.lt {w : World} {b : Nat} (h : Tg w b) : b < w.heap.size := by
  obtain ⟨cs, fz, e⟩ := h
  rcases Nat.lt_or_ge b w.heap.size with k | k
  · exact k
  · rw [Array.getElem?_eq_none k] at e; cases e
theorem Tg.below {w w' : World} {b B : Nat} (h : Tg w b) (hb : Below B w w') (hB : b < B) : Tg w' b := by
  obtain ⟨cs, fz, e⟩ := h
  exact ⟨cs, fz, (hb.block b hB).trans e⟩
theorem Tg.set {w : World} {b : Nat} (h : Tg w b) (p : Addr) (u : Value) : Tg (w.setCell p u) b := by
  obtain ⟨cs, fz, e⟩ := h
  by_cases k : p.block = b
  · subst k
    refine ⟨if p.spot.isSome then cs else cs.setIfInBounds p.off u, fz, ?_⟩
    simp only [World.setCell, Array.getElem?_modify, e]
    simp
  · refine ⟨cs, fz, ?_⟩
    simp only [World.setCell, Array.getElem?_modify]
    rw [if_neg k]
    exact e
/-- The slice value v reads as the digits l. -/
def Rd (w : World) (v : Value) (l : List Nat) : Prop :=
  (v = .slice none 0 0 ∧ l = []) ∨ ∃ b off cap : Nat, v = .slice (some ⟨b, off, none⟩) l.length cap ∧ l.length ≤ cap ∧ Tg w b ∧ ∀ t, t < l.length → w.cell? ⟨b, off + t, none⟩ = some (.int .i64 ((l.getD t 0 : Nat) : Int))

theorem Rd.below {w w' : World} {v : Value} {l : List Nat} {B : Nat} (h : Rd w v l) (hb : Below B w w') (hB : w.heap.size ≤ B) : Rd w' v l := by
  rcases h with h | ⟨b, off, cap, hv, hc, hlt, hcell⟩
  · exact Or.inl h
  · exact Or.inr ⟨b, off, cap, hv, hc, hlt.below hb (Nat.lt_of_lt_of_le hlt.lt hB), fun t ht => (hb.cell (p := ⟨b, off + t, none⟩) (show b < B from Nat.lt_of_lt_of_le hlt.lt hB)).trans (hcell t ht)⟩

end Dec
open Dec

/-! ### Less -/

end Go.Proofs.Ytlomfjacgomhdaa

/-
  What the document's answer (radomeref01) does to sizes: plus and minus of two lists of digits make the digits of the sum and of the difference.
-/
set_option linter.unusedSimpArgs false
set_option linter.unusedVariables false
namespace Go.Proofs.Ytlomfjacgomhdaa
open Go.RowKit
namespace Dec

theorem Try.infoInt : (Try.prog.info? 3).map (fun i => (i.zero, i.size, i.bytes)) = some (some (.int .i64 0), 1, 8) := by kernel_rfl

/-- The digits as values. -/
def vals (l : List Nat) : List Value := l.map fun d => Value.int .i64 ((d : Nat) : Int)

/-- v is a slice of the call's own that holds the digits l; below B nothing has turned since w0. -/
structure Own (B : Nat) (w0 w : World) (v : Value) (l : List Nat) : Prop where
  row : w.ownsRow B 3 1 v l.length (vals l)
  below : Below B w0 w
  base : B ≤ w.heap.size

theorem Own.nil {B : Nat} {w0 w : World} (h : Below B w0 w) (hB : B ≤ w.heap.size) : Own B w0 w (.slice none 0 0) [] := ⟨World.ownsRow_nil _ _ _ _, h, hB⟩

theorem Own.rd {B : Nat} {w0 w : World} {v : Value} {l : List Nat} (h : Own B w0 w v l) : Rd w v l := by
  obtain ⟨⟨h1, h2⟩, _, _⟩ := h
  rcases h2 with ⟨rfl, h0⟩ | ⟨g, cap, cur, rfl, hb, hg, hn, hc, hs, ht⟩
  · exact Or.inl ⟨rfl, List.length_eq_zero_iff.1 h0⟩
  · have hlt : g < w.heap.size := by
      rcases Nat.lt_or_ge g w.heap.size with k | k
      · exact k
      · rw [Array.getElem?_eq_none k] at hg; cases hg
    refine Or.inr ⟨g, 0, cap, rfl, hn, ⟨_, _, hg⟩, fun t htl => ?_⟩
    have e : (vals l)[t]? = some (.int .i64 ((l.getD t 0 : Nat) : Int)) := by
      simp [vals, List.getD, List.getElem?_eq_getElem htl]
    rw [← ht] at e
    have e2 : cur[t]? = some (.int .i64 ((l.getD t 0 : Nat) : Int)) := by
      rw [List.getElem?_take] at e
      split at e
      · simpa using e
      · cases e
    simp [World.cell?, hg, e2]

end Dec
open Dec

/-- The slice as the walks take it. -/
theorem Dec.Rd.shape {w : World} {v : Value} {l : List Nat} (h : Rd w v l) : ∃ ao b off cap, v = .slice ao l.length cap ∧ l.length ≤ cap ∧ (ao = some ⟨b, off, none⟩ ∨ (ao = none ∧ l.length = 0)) ∧
    ∀ t, t < l.length → b < w.heap.size ∧ w.cell? ⟨b, off + t, none⟩ = some (.int .i64 ((l.getD t 0 : Nat) : Int)) := by
  rcases h with ⟨rfl, rfl⟩ | ⟨b, off, cap, rfl, hlc, hlt, hc⟩
  · exact ⟨none, 0, 0, 0, rfl, Nat.le_refl _, Or.inr ⟨rfl, rfl⟩, fun t ht => by simp at ht⟩
  · exact ⟨_, b, off, cap, rfl, hlc, Or.inl rfl, fun t ht => ⟨hlt.lt, hc t ht⟩⟩

end Go.Proofs.Ytlomfjacgomhdaa
