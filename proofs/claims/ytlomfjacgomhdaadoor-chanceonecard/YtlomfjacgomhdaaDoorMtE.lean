/-
  Matrices (mat): At, Row, Eye, Turn, or their errors.
-/
import Derived.Test.YtlomfjacgomhdaaDoorMtD
set_option linter.unusedSimpArgs false
set_option linter.unusedVariables false
namespace Go.Proofs.YtlomfjacgomhdaaDoor
open Go.RowKit Vc Mt

namespace Mt
theorem any2_no (n m : Nat) : any2 (fun _ _ => false) n m = false := any2_false.2 fun _ _ _ _ => rfl
theorem may_mz {n m : Nat} {F : Nat → Nat → Int} (h1 : 1 ≤ n) (h2 : n ≤ 6) (h3 : 1 ≤ m) (h4 : m ≤ 6) : May n m (mz n m F) := ⟨n, m, rfl, rfl, h1, h2, h3, h4, fun k hk _ => mz_behind hk⟩
end Mt




end Go.Proofs.YtlomfjacgomhdaaDoor
