/-
  Numbers of eight words of 32 bits as functions of their places: a block that holds one, sums and differences word by word.
-/
import Derived.Test.YtgmagehgnjopcaaLgR
set_option linter.unusedSimpArgs false
set_option linter.unusedVariables false
namespace Go.Proofs.Ytgmagehgnjopcaa
open Go.RowKit
namespace Lg

theorem keep_set {w : World} {a p : Addr} {v : Value} (h : w.cell? a = some v) (hne : a.block ≠ p.block) (u : Value) : (w.setCell p u).cell? a = some v :=
  (World.cell?_of_block (Below.heap_setCell w p u a.block hne)).trans h

/-- The first K words of one, the others of another one. -/
def mixf (K : Nat) (f g : Nat → Int) : Nat → Int := fun j => if j < K then f j else g j

/-- What is carried into word k. -/
def cr : Int → Int → Int → Nat → Int
  | _, _, c, 0 => c
  | a, b, c, k + 1 => cr (a / 4294967296) (b / 4294967296) ((a % 4294967296 + b % 4294967296 + c) / 4294967296) k
theorem cr_bd : ∀ (k : Nat) (a b c : Int), 0 ≤ c → c ≤ 1 → 0 ≤ cr a b c k ∧ cr a b c k ≤ 1
  | 0, _, _, c, h0, h1 => ⟨h0, h1⟩
  | k + 1, a, b, c, h0, h1 => cr_bd k _ _ _ (by omega) (by omega)
theorem cr_next : ∀ (k : Nat) (a b c : Int), cr a b c (k + 1) = (wd k a + wd k b + cr a b c k) / 4294967296
  | 0, a, b, c => rfl
  | k + 1, a, b, c => cr_next k (a / 4294967296) (b / 4294967296) ((a % 4294967296 + b % 4294967296 + c) / 4294967296)
theorem cr_word : ∀ (k : Nat) (a b c : Int), 0 ≤ c → c ≤ 1 → wd k (a + b + c) = (wd k a + wd k b + cr a b c k) % 4294967296
  | 0, a, b, c, _, _ => by show (a + b + c) % 4294967296 = (a % 4294967296 + b % 4294967296 + c) % 4294967296; omega
  | k + 1, a, b, c, h0, h1 => by
    have := cr_word k (a / 4294967296) (b / 4294967296) ((a % 4294967296 + b % 4294967296 + c) / 4294967296) (by omega) (by omega)
    have e : (a + b + c) / 4294967296 = a / 4294967296 + b / 4294967296 + (a % 4294967296 + b % 4294967296 + c) / 4294967296 := by omega
    show wd k ((a + b + c) / 4294967296) = _
    rw [e]; exact this

/-- What is borrowed from word k. -/
def br : Int → Int → Int → Nat → Int
  | _, _, c, 0 => c
  | a, b, c, k + 1 => br (a / 4294967296) (b / 4294967296) (1 - (4294967296 + a % 4294967296 - b % 4294967296 - c) / 4294967296) k
theorem br_bd : ∀ (k : Nat) (a b c : Int), 0 ≤ c → c ≤ 1 → 0 ≤ br a b c k ∧ br a b c k ≤ 1
  | 0, _, _, c, h0, h1 => ⟨h0, h1⟩
  | k + 1, a, b, c, h0, h1 => br_bd k _ _ _ (by omega) (by omega)
theorem br_next : ∀ (k : Nat) (a b c : Int), br a b c (k + 1) = 1 - (4294967296 + wd k a - wd k b - br a b c k) / 4294967296
  | 0, a, b, c => rfl
  | k + 1, a, b, c => br_next k (a / 4294967296) (b / 4294967296) (1 - (4294967296 + a % 4294967296 - b % 4294967296 - c) / 4294967296)
theorem br_word : ∀ (k : Nat) (a b c : Int), 0 ≤ c → c ≤ 1 → wd k (a - b - c) = (4294967296 + wd k a - wd k b - br a b c k) % 4294967296
  | 0, a, b, c, _, _ => by show (a - b - c) % 4294967296 = (4294967296 + a % 4294967296 - b % 4294967296 - c) % 4294967296; omega
  | k + 1, a, b, c, h0, h1 => by
    have := br_word k (a / 4294967296) (b / 4294967296) (1 - (4294967296 + a % 4294967296 - b % 4294967296 - c) / 4294967296) (by omega) (by omega)
    have e : (a - b - c) / 4294967296 = a / 4294967296 - b / 4294967296 - (1 - (4294967296 + a % 4294967296 - b % 4294967296 - c) / 4294967296) := by omega
    show wd k ((a - b - c) / 4294967296) = _
    rw [e]; exact this

end Lg
end Go.Proofs.Ytgmagehgnjopcaa
