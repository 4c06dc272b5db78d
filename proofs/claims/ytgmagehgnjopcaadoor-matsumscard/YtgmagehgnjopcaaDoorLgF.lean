/-
  Numbers of eight words of 32 bits as functions of their places: a block that holds one, sums and differences word by word.
-/
import Derived.Test.YtgmagehgnjopcaaDoorLgR
set_option linter.unusedSimpArgs false
set_option linter.unusedVariables false
namespace Go.Proofs.YtgmagehgnjopcaaDoor
open Go.RowKit
namespace Lg

theorem row9_new3 (w : World) (A B C : Obj) (s : Bool) (x0 x1 x2 x3 x4 x5 x6 x7 : Int) : Row9 ((((w.alloc A).alloc B).alloc C).alloc (.cells #[.bool s, .int .u64 x0, .int .u64 x1, .int .u64 x2, .int .u64 x3, .int .u64 x4, .int .u64 x5, .int .u64 x6, .int .u64 x7] 101)) (w.heap.size + 1 + 1 + 1) s x0 x1 x2 x3 x4 x5 x6 x7 := by
  have h := row9_new (((w.alloc A).alloc B).alloc C) s x0 x1 x2 x3 x4 x5 x6 x7
  rwa [show (((w.alloc A).alloc B).alloc C).heap.size = w.heap.size + 1 + 1 + 1 by simp] at h

theorem keep_set {w : World} {a p : Addr} {v : Value} (h : w.cell? a = some v) (hne : a.block ≠ p.block) (u : Value) : (w.setCell p u).cell? a = some v :=
  (World.cell?_of_block (Below.heap_setCell w p u a.block hne)).trans h

/-- Block b holds a sign and eight words. -/
def RowF (w : World) (b : Nat) (s : Bool) (d : Nat → Int) : Prop := Row9 w b s (d 0) (d 1) (d 2) (d 3) (d 4) (d 5) (d 6) (d 7)
theorem RowF.cell {w : World} {b : Nat} {s : Bool} {d : Nat → Int} (h : RowF w b s d) : ∀ {k : Nat}, k < 8 → w.cell? ⟨b, 1 + k, none⟩ = some (.int .u64 (d k))
  | 0, _ => h.c0 | 1, _ => h.c1 | 2, _ => h.c2 | 3, _ => h.c3 | 4, _ => h.c4 | 5, _ => h.c5 | 6, _ => h.c6 | 7, _ => h.c7
  | n + 8, hk => absurd hk (by omega)
theorem RowF.set {w : World} {b : Nat} {s : Bool} {d : Nat → Int} (h : RowF w b s d) (v : Int) : ∀ {k : Nat}, k < 8 → RowF (w.setCell ⟨b, 1 + k, none⟩ (.int .u64 v)) b s (fun j => if j = k then v else d j)
  | 0, _ => h.set0 v | 1, _ => h.set1 v | 2, _ => h.set2 v | 3, _ => h.set3 v | 4, _ => h.set4 v | 5, _ => h.set5 v | 6, _ => h.set6 v | 7, _ => h.set7 v
  | n + 8, hk => absurd hk (by omega)
theorem RowF.congr {w : World} {b : Nat} {s : Bool} {d e : Nat → Int} (h : RowF w b s d) (he : ∀ j, j < 8 → d j = e j) : RowF w b s e := by
  unfold RowF at *
  rw [← he 0 (by omega), ← he 1 (by omega), ← he 2 (by omega), ← he 3 (by omega), ← he 4 (by omega), ← he 5 (by omega), ← he 6 (by omega), ← he 7 (by omega)]
  exact h
theorem RowF.drewN {w : World} {b : Nat} {s : Bool} {d : Nat → Int} (h : RowF w b s d) (n : Nat) : RowF (w.drewN n) b s d := h
theorem RowF.other {w : World} {b : Nat} {s : Bool} {d : Nat → Int} (h : RowF w b s d) {p : Addr} (u : Value) (hne : b ≠ p.block) : RowF (w.setCell p u) b s d := Row9.other h u hne
theorem RowF.keep {w w' : World} {b : Nat} {s : Bool} {d : Nat → Int} (h : RowF w b s d) (hb : Below w.heap.size w w') : RowF w' b s d := Row9.keep h hb
theorem RowF.free {w : World} {b : Nat} {s : Bool} {d : Nat → Int} (h : RowF w b s d) (j : Nat) : w.frozen? ⟨b, j, none⟩ = false := Row9.free h j
theorem RowF.cs {w : World} {b : Nat} {s : Bool} {d : Nat → Int} (h : RowF w b s d) : w.cell? ⟨b, 0, none⟩ = some (.bool s) := Row9.cs h

/-- The first K words of one, the others of another one. -/
def mixf (K : Nat) (f g : Nat → Int) : Nat → Int := fun j => if j < K then f j else g j

/-- What is carried into word k. -/
def cr : Int → Int → Int → Nat → Int
  | _, _, c, 0 => c
  | a, b, c, k + 1 => cr (a / 4294967296) (b / 4294967296) ((a % 4294967296 + b % 4294967296 + c) / 4294967296) k
theorem cr_bd : ∀ (k : Nat) (a b c : Int), 0 ≤ c → c ≤ 1 → 0 ≤ cr a b c k ∧ cr a b c k ≤ 1
  | 0, _, _, c, h0, h1 => ⟨h0, h1⟩
  | k + 1, a, b, c, h0, h1 => cr_bd k _ _ _ (by omega) (by omega)
theorem cr_next : ∀ (k : Nat) (a b c : Int), cr a b c (k + 1) = (wd k a + wd k b + cr a b c k) / 4294967296
  | 0, a, b, c => rfl
  | k + 1, a, b, c => cr_next k (a / 4294967296) (b / 4294967296) ((a % 4294967296 + b % 4294967296 + c) / 4294967296)
theorem cr_word : ∀ (k : Nat) (a b c : Int), 0 ≤ c → c ≤ 1 → wd k (a + b + c) = (wd k a + wd k b + cr a b c k) % 4294967296
  | 0, a, b, c, _, _ => by show (a + b + c) % 4294967296 = (a % 4294967296 + b % 4294967296 + c) % 4294967296; omega
  | k + 1, a, b, c, h0, h1 => by
    have := cr_word k (a / 4294967296) (b / 4294967296) ((a % 4294967296 + b % 4294967296 + c) / 4294967296) (by omega) (by omega)
    have e : (a + b + c) / 4294967296 = a / 4294967296 + b / 4294967296 + (a % 4294967296 + b % 4294967296 + c) / 4294967296 := by omega
    show wd k ((a + b + c) / 4294967296) = _
    rw [e]; exact this

/-- What is borrowed from word k. -/
def br : Int → Int → Int → Nat → Int
  | _, _, c, 0 => c
  | a, b, c, k + 1 => br (a / 4294967296) (b / 4294967296) (1 - (4294967296 + a % 4294967296 - b % 4294967296 - c) / 4294967296) k
theorem br_bd : ∀ (k : Nat) (a b c : Int), 0 ≤ c → c ≤ 1 → 0 ≤ br a b c k ∧ br a b c k ≤ 1
  | 0, _, _, c, h0, h1 => ⟨h0, h1⟩
  | k + 1, a, b, c, h0, h1 => br_bd k _ _ _ (by omega) (by omega)
theorem br_next : ∀ (k : Nat) (a b c : Int), br a b c (k + 1) = 1 - (4294967296 + wd k a - wd k b - br a b c k) / 4294967296
  | 0, a, b, c => rfl
  | k + 1, a, b, c => br_next k (a / 4294967296) (b / 4294967296) (1 - (4294967296 + a % 4294967296 - b % 4294967296 - c) / 4294967296)
theorem br_word : ∀ (k : Nat) (a b c : Int), 0 ≤ c → c ≤ 1 → wd k (a - b - c) = (4294967296 + wd k a - wd k b - br a b c k) % 4294967296
  | 0, a, b, c, _, _ => by show (a - b - c) % 4294967296 = (4294967296 + a % 4294967296 - b % 4294967296 - c) % 4294967296; omega
  | k + 1, a, b, c, h0, h1 => by
    have := br_word k (a / 4294967296) (b / 4294967296) (1 - (4294967296 + a % 4294967296 - b % 4294967296 - c) / 4294967296) (by omega) (by omega)
    have e : (a - b - c) / 4294967296 = a / 4294967296 - b / 4294967296 - (1 - (4294967296 + a % 4294967296 - b % 4294967296 - c) / 4294967296) := by omega
    show wd k ((a - b - c) / 4294967296) = _
    rw [e]; exact this

end Lg
end Go.Proofs.YtgmagehgnjopcaaDoor
