/-
  The size of a number of 64 bits, and the product of two as eight words (radomeref03).
-/
import Derived.Test.YtgmagehgnjopcaaLgJ
set_option linter.unusedSimpArgs false
set_option linter.unusedVariables false
namespace Go.Proofs.Ytgmagehgnjopcaa
open Go.RowKit Lg
attribute [local go_sem ↓] Go.wp_at_zero Go.wp_at_succ

namespace Lg
theorem half_mul {x y : Int} (hx : 0 ≤ x ∧ x ≤ 4294967295) (hy : 0 ≤ y ∧ y ≤ 4294967295) : 0 ≤ x * y ∧ x * y ≤ 18446744065119617025 :=
  ⟨Int.mul_nonneg hx.1 hy.1, Int.mul_le_mul hx.2 hy.2 hy.1 (by omega)⟩
theorem prod_words (a b x0 x1 y0 y1 d0 c0 d1 d2 e1 f0 e2 e3 : Int) (b0 : 0 ≤ x0 ∧ x0 ≤ 4294967295) (b1 : 0 ≤ x1 ∧ x1 ≤ 4294967295) (b2 : 0 ≤ y0 ∧ y0 ≤ 4294967295) (b3 : 0 ≤ y1 ∧ y1 ≤ 4294967295) (ea : a = x0 + 4294967296 * x1) (eb : b = y0 + 4294967296 * y1)
    (h_d0 : d0 = x0 * y0 % 4294967296) (h_c0 : c0 = x0 * y0 / 4294967296) (h_d1 : d1 = (x0 * y1 + c0) % 4294967296) (h_d2 : d2 = (x0 * y1 + c0) / 4294967296) (h_e1 : e1 = (d1 + x1 * y0) % 4294967296) (h_f0 : f0 = (d1 + x1 * y0) / 4294967296) (h_e2 : e2 = (d2 + x1 * y1 + f0) % 4294967296) (h_e3 : e3 = (d2 + x1 * y1 + f0) / 4294967296) : (0 ≤ c0 ∧ c0 ≤ 4294967295) ∧ (0 ≤ d2 ∧ d2 ≤ 4294967295) ∧ (0 ≤ f0 ∧ f0 ≤ 4294967295) ∧ (0 ≤ e3 ∧ e3 ≤ 4294967295) ∧ wd 0 (a * b) = d0 ∧ wd 1 (a * b) = e1 ∧ wd 2 (a * b) = e2 ∧ wd 3 (a * b) = e3 ∧ wd 4 (a * b) = 0 ∧ wd 5 (a * b) = 0 ∧ wd 6 (a * b) = 0 ∧ wd 7 (a * b) = 0 := by
  have p0 := half_mul b0 b2
  have p1 := half_mul b0 b3
  have p2 := half_mul b1 b2
  have p3 := half_mul b1 b3
  have e : a * b = x0 * y0 + 4294967296 * (x0 * y1) + 4294967296 * (x1 * y0) + 18446744073709551616 * (x1 * y1) := by
    rw [ea, eb, Int.add_mul, Int.mul_add, Int.mul_add, Int.mul_left_comm x0, Int.mul_assoc 4294967296 x1 y0, Int.mul_assoc 4294967296 x1, Int.mul_left_comm x1]
    omega
  rw [e]
  generalize x0 * y0 = p00 at *
  generalize x0 * y1 = p01 at *
  generalize x1 * y0 = p10 at *
  generalize x1 * y1 = p11 at *
  clear e ea eb b0 b1 b2 b3
  simp only [wd]
  refine ⟨?_, ?_, ?_, ?_, ?_, ?_, ?_, ?_, ?_, ?_, ?_, ?_⟩
  all_goals omega
end Lg

end Go.Proofs.Ytgmagehgnjopcaa
