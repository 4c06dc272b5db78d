/-
  Sums of products, one by one. No program is named here.
-/
set_option linter.unusedSimpArgs false
set_option linter.unusedVariables false
namespace Go.Proofs.YtmijmfdamommaaaDoor
namespace Dt
/-- The sum of the first k products. -/
def dk (a b : Nat → Int) : Nat → Int
  | 0 => 0
  | k + 1 => dk a b k + a k * b k
theorem mul_bd {x y : Int} (hx : -9223372036854775808 ≤ x ∧ x ≤ 9223372036854775807) (hy : -9223372036854775808 ≤ y ∧ y ≤ 9223372036854775807) : -85070591730234615865843651857942052864 ≤ x * y ∧ x * y ≤ 85070591730234615865843651857942052864 := by
  have h1 : (x.natAbs : Int) ≤ 9223372036854775808 := by omega
  have h2 : (y.natAbs : Int) ≤ 9223372036854775808 := by omega
  have h3 : ((x * y).natAbs : Int) ≤ 9223372036854775808 * 9223372036854775808 := by
    rw [Int.natAbs_mul, Int.natCast_mul]
    exact Int.mul_le_mul h1 h2 (by omega) (by omega)
  omega
theorem dk_bd (a b : Nat → Int) (ha : ∀ k, -9223372036854775808 ≤ a k ∧ a k ≤ 9223372036854775807) (hb : ∀ k, -9223372036854775808 ≤ b k ∧ b k ≤ 9223372036854775807) : ∀ k : Nat, -((k : Int) * 85070591730234615865843651857942052864) ≤ dk a b k ∧ dk a b k ≤ (k : Int) * 85070591730234615865843651857942052864
  | 0 => by simp [dk]
  | k + 1 => by
    have h1 := dk_bd a b ha hb k
    have h2 := mul_bd (ha k) (hb k)
    have e : ((k + 1 : Nat) : Int) = (k : Int) + 1 := by omega
    rw [e]
    show -(((k : Int) + 1) * _) ≤ dk a b k + a k * b k ∧ dk a b k + a k * b k ≤ _
    omega
end Dt
end Go.Proofs.YtmijmfdamommaaaDoor
