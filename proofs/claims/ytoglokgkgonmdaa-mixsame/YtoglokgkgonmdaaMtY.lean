/-
  Rows that may be a matrix, or that may not.
-/
import Derived.Test.YtoglokgkgonmdaaM8
import Derived.Test.YtoglokgkgonmdaaM3
import Derived.OpenShut
set_option linter.unusedSimpArgs false
set_option linter.unusedVariables false
namespace Go.Proofs.Ytoglokgkgonmdaa
open Go.RowKit Vc Mt Qn Dt

theorem getD_b {z : List Int} (h5 : ∀ n ∈ z, (Lit.int .i64 n).wf = true) : B64 (fun k => z.getD k 0) := by
  intro k
  show _ ≤ z.getD k 0 ∧ z.getD k 0 ≤ _
  by_cases hk : k < z.length
  · have e : z.getD k 0 = z[k] := by simp [List.getD, List.getElem?_eq_getElem hk]
    rw [e]
    exact bounds_i64 (h5 _ (List.getElem_mem hk))
  · have e : z.getD k 0 = 0 := by simp [List.getD, List.getElem?_eq_none (Nat.le_of_not_lt hk)]
    rw [e]; omega
/-- The first that is not so. -/
theorem Mt.first_other {p : Nat → Prop} [DecidablePred p] : ∀ (m : Nat), (∀ k, k < m → p k) ∨ ∃ q, q < m ∧ ¬ p q ∧ ∀ k, k < q → p k
  | 0 => Or.inl fun k hk => by omega
  | m + 1 => by
    rcases Mt.first_other (p := p) m with h | ⟨q, h1, h2, h3⟩
    · by_cases c : p m
      · exact Or.inl fun k hk => by
          rcases Nat.lt_or_ge k m with d | d
          · exact h k d
          · obtain rfl : k = m := by omega
            exact c
      · exact Or.inr ⟨m, by omega, c, h⟩
    · exact Or.inr ⟨q, by omega, h2, h3⟩

end Go.Proofs.Ytoglokgkgonmdaa
