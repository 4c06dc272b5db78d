/-
  Whether a sum is above another one; the root.
-/
import Derived.Test.YtlomfjacgomhdaaDoorQE
set_option linter.unusedSimpArgs false
set_option linter.unusedVariables false
namespace Go.Proofs.YtlomfjacgomhdaaDoor
open Go.RowKit Qn
attribute [local go_sem ↓] Go.wp_at_zero Go.wp_at_succ

namespace Qn
/-- Is m above n? -/
def abv (m n : Int) : Bool := decide (n < m)
/-- Both are from 0 on, within the three words. -/
def Nn3 (n : Int) : Prop := 0 ≤ n ∧ n < 6277101735386680763835789423207666416102355444464034512896
theorem words3 {n : Int} (h : Nn3 n) : n = lo n + 18446744073709551616 * mi n + 340282366920938463463374607431768211456 * hi n := by
  unfold Nn3 at h; unfold lo mi hi; omega
end Qn

namespace Qn
/-- A cell that is there stays. -/
theorem keep_cell {W w1 : World} (hb : Below W.heap.size W w1) {a : Addr} {v : Value} (h : W.cell? a = some v) : w1.cell? a = some v := (hb.cell (World.block_lt_of_cell? W _ h)).trans h

/-- r is the root of n, cut down and bounded. -/
def IsRoot (n r : Int) : Prop := 0 ≤ r ∧ r ≤ 4611686018427387903 ∧ r * r ≤ n ∧ (n < (r + 1) * (r + 1) ∨ r = 4611686018427387903)
/-- So far: the bits from k on have been tried. -/
def RootAt (n r : Int) (k : Nat) : Prop := 0 ≤ r ∧ r + 2 ^ k ≤ 4611686018427387904 ∧ r * r ≤ n ∧ (n < (r + 2 ^ k) * (r + 2 ^ k) ∨ r + 2 ^ k = 4611686018427387904)
theorem rootAt_start {n : Int} (h : 0 ≤ n) : RootAt n 0 62 := ⟨by omega, by decide, by omega, Or.inr (by decide)⟩
theorem rootAt_end {n r : Int} (h : RootAt n r 0) : IsRoot n r := by
  obtain ⟨h1, h2, h3, h4⟩ := h
  simp only [Int.pow_zero] at h2 h4
  exact ⟨h1, by omega, h3, by omega⟩
theorem rootAt_yes {n r : Int} {k : Nat} (h : RootAt n r (k + 1)) (hy : (r + 2 ^ k) * (r + 2 ^ k) ≤ n) : RootAt n (r + 2 ^ k) k := by
  obtain ⟨h1, h2, h3, h4⟩ := h
  have hp : (0 : Int) < 2 ^ k := Int.pow_pos (by omega)
  have e : r + 2 ^ k + 2 ^ k = r + 2 ^ (k + 1) := by rw [Int.pow_succ]; omega
  exact ⟨by omega, by rw [e]; exact h2, hy, by rw [e]; exact h4⟩
theorem rootAt_no {n r : Int} {k : Nat} (h : RootAt n r (k + 1)) (hn : n < (r + 2 ^ k) * (r + 2 ^ k)) : RootAt n r k := by
  obtain ⟨h1, h2, h3, h4⟩ := h
  have hp : (0 : Int) < 2 ^ k := Int.pow_pos (by omega)
  have e : (2 : Int) ^ (k + 1) = 2 ^ k + 2 ^ k := by rw [Int.pow_succ]; omega
  exact ⟨h1, by omega, h3, Or.inl hn⟩
theorem sq_nn3 {x : Int} (h0 : 0 ≤ x) (h1 : x ≤ 9223372036854775807) : Nn3 (x * x) := by
  have := mul_bd (a := x) (b := x) (A := 9223372036854775807) (B := 9223372036854775807) (by omega) (by omega) (by omega)
  have h2 : 0 ≤ x * x := Int.mul_nonneg h0 h0
  unfold Nn3
  omega
end Qn

end Go.Proofs.YtlomfjacgomhdaaDoor
