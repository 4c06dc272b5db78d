/-
  Matrices (mat): number by number, each told by a closure; one theorem a closure. (By py/MtD.py.)
-/
import Derived.Test.YtlomfjacgomhdaaDoorMtC
set_option linter.unusedSimpArgs false
set_option linter.unusedVariables false
namespace Go.Proofs.YtlomfjacgomhdaaDoor
open Go.RowKit Vc Mt

namespace Mt
/-- Whether one of n rows of m is so. -/
def any2 (G : Nat → Nat → Bool) (n m : Nat) : Bool := anyb (fun i => anyb (G i) m) n
theorem any2_zero (G : Nat → Nat → Bool) (m : Nat) : any2 G 0 m = false := rfl
theorem any2_row (G : Nat → Nat → Bool) (k m : Nat) : (any2 G k m || anyb (G k) m) = any2 G (k + 1) m := rfl
theorem any2_col (G : Nat → Nat → Bool) (k j m : Nat) : (any2 G k m || anyb (G k) (j + 1)) = ((any2 G k m || anyb (G k) j) || G k j) := by
  show (any2 G k m || (anyb (G k) j || G k j)) = _
  rw [Bool.or_assoc]
theorem any2_congr {G H : Nat → Nat → Bool} {n m : Nat} (h : ∀ i j, i < n → j < m → G i j = H i j) : any2 G n m = any2 H n m := anyb_congr fun i hi => anyb_congr fun j hj => h i j hi hj
theorem any2_false {G : Nat → Nat → Bool} {n m : Nat} : any2 G n m = false ↔ ∀ i j, i < n → j < m → G i j = false := by
  unfold any2
  rw [anyb_false]
  exact ⟨fun h i j hi hj => anyb_false.1 (h i hi) j hj, fun h i hi => anyb_false.2 fun j hj => h i j hi hj⟩
end Mt

end Go.Proofs.YtlomfjacgomhdaaDoor
