/-
  The quotient of a product, rounded.
-/
import Derived.Test.YtefgkeeeanakeaaDoorQG
set_option linter.unusedSimpArgs false
set_option linter.unusedVariables false
namespace Go.Proofs.YtefgkeeeanakeaaDoor
open Go.RowKit Qn

namespace Qn
theorem quo_words {n c : Int} (h0 : 0 ≤ n) (h1 : n < 340282366920938463463374607431768211456) (hc : 0 < c) (hc1 : c ≤ 18446744073709551615) :
    (mi n % c * 18446744073709551616 + lo n) / c = lo (n / c) ∧ mi n / c = mi (n / c) ∧ (0 : Int) = hi (n / c) ∧ (mi n % c * 18446744073709551616 + lo n) % c = n % c := by
  have hn : n = mi n * 18446744073709551616 + lo n := by unfold mi lo; omega
  have hm0 := (mi_bd n).1
  have hm1 := (mi_bd n).2
  have hl0 := (lo_bd n).1
  have hl1 := (lo_bd n).2
  generalize hM : mi n = M at *
  generalize hL : lo n = L at *
  have hd := Int.emod_add_mul_ediv M c
  have he0 := Int.emod_nonneg M (show c ≠ 0 by omega)
  have he1 := Int.emod_lt_of_pos M hc
  have e : n = M % c * 18446744073709551616 + L + c * (M / c * 18446744073709551616) := by
    have h2 : c * (M / c * 18446744073709551616) = c * (M / c) * 18446744073709551616 := by rw [Int.mul_assoc]
    rw [h2]
    omega
  have e1 : n / c = M / c * 18446744073709551616 + (M % c * 18446744073709551616 + L) / c := by
    rw [e, Int.add_mul_ediv_left _ _ (by omega)]; omega
  have e2 : n % c = (M % c * 18446744073709551616 + L) % c := by
    rw [e, Int.add_mul_emod_self_left]
  have f0 : 0 ≤ (M % c * 18446744073709551616 + L) / c := Int.ediv_nonneg (by omega) (by omega)
  have f1 : (M % c * 18446744073709551616 + L) / c < 18446744073709551616 := Int.ediv_lt_of_lt_mul hc (by omega)
  have g0 : 0 ≤ M / c := Int.ediv_nonneg hm0 (by omega)
  have g1 : M / c ≤ M := Int.ediv_le_self _ hm0
  refine ⟨?_, ?_, ?_, e2.symm⟩
  · rw [e1]; unfold lo; omega
  · rw [e1]; unfold mi; omega
  · rw [e1]; unfold hi; omega

theorem rne_if {n d : Int} : rne n d = if n % d < d - n % d ∨ n % d = d - n % d ∧ n / d % 2 = 0 then n / d else n / d + 1 := by
  unfold rne
  by_cases c1 : 2 * (n % d) < d
  · rw [if_pos (Or.inl c1), if_pos (Or.inl (by omega))]
  · by_cases c2 : 2 * (n % d) = d ∧ n / d % 2 = 0
    · rw [if_pos (Or.inr c2), if_pos (Or.inr (by omega))]
    · rw [if_neg (by omega), if_neg (by omega)]
end Qn

end Go.Proofs.YtefgkeeeanakeaaDoor
