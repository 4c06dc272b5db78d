/-
  Move of package qnum; and what the laws of layer 3 ask first of all (sure).
-/
import Derived.Test.YtgmagehgnjopcaaDoorQI
set_option linter.unusedSimpArgs false
set_option linter.unusedVariables false
namespace Go.Proofs.YtgmagehgnjopcaaDoor
open Go.RowKit Qn

namespace Qn
theorem root_two {r : Int} (h : IsRoot (2 * 2 ^ 2) r) : r = 2 := by
  obtain ⟨h1, h2, h3, h4⟩ := h
  have e : (2 : Int) * 2 ^ 2 = 8 := by decide
  rw [e] at h3 h4
  have l1 : r ≤ 2 := by
    rcases Int.lt_or_le 2 r with k | k
    · have : 3 * 3 ≤ r * r := Int.mul_le_mul (by omega) (by omega) (by omega) (by omega)
      omega
    · exact k
  have l2 : 2 ≤ r := by
    rcases Int.lt_or_le r 2 with k | k
    · have : (r + 1) * (r + 1) ≤ 2 * 2 := Int.mul_le_mul (by omega) (by omega) (by omega) (by omega)
      omega
    · exact k
  omega
end Qn

end Go.Proofs.YtgmagehgnjopcaaDoor
