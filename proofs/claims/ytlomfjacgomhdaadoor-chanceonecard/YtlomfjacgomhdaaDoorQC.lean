/-
  A sum with a product added: word by word, with a carry.
-/
import Derived.Test.YtlomfjacgomhdaaDoorQB
import Derived.Laws.Externs
set_option linter.unusedSimpArgs false
set_option linter.unusedVariables false
namespace Go.Proofs.YtlomfjacgomhdaaDoor
open Go.RowKit Qn

namespace Qn
/-- Two words and a carry: the word, and the carry. -/
def adS (x y c : Int) : Int := (x + y + c) % 18446744073709551616
def adC (x y c : Int) : Int := (x + y + c) / 18446744073709551616
theorem adC_bd {x y c : Int} (hx : 0 ≤ x ∧ x ≤ 18446744073709551615) (hy : 0 ≤ y ∧ y ≤ 18446744073709551615) (hc : 0 ≤ c ∧ c ≤ 1) : 0 ≤ adC x y c ∧ adC x y c ≤ 1 := by unfold adC; omega
theorem adS_bd (x y c : Int) : 0 ≤ adS x y c ∧ adS x y c ≤ 18446744073709551615 := by unfold adS; omega
theorem ad_words (s p : Int) : lo (s + p) = adS (lo s) (lo p) 0 ∧ mi (s + p) = adS (mi s) (mi p) (adC (lo s) (lo p) 0) ∧ hi (s + p) = adS (hi s) (hi p) (adC (mi s) (mi p) (adC (lo s) (lo p) 0)) := by
  unfold lo mi hi adS adC
  refine ⟨by omega, by omega, by omega⟩
end Qn

end Go.Proofs.YtlomfjacgomhdaaDoor
