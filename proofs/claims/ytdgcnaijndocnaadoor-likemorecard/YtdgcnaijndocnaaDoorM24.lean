/-
  The document's answer of layer 6 (radomeref06): times, Exp.
-/
import Derived.Test.YtdgcnaijndocnaaDoorM1
import Derived.Test.YtdgcnaijndocnaaDoorM4
import Derived.Test.YtdgcnaijndocnaaDoorLgV
import Derived.Test.YtdgcnaijndocnaaDoorM14
import Derived.Test.YtdgcnaijndocnaaDoorM3
import Derived.Deep.DeepCutAuto
import Derived.Deep.RegionHeld3
import Derived.Deep.CutRange
import Derived.Deep.RegionWith
import Derived.Test.YtdgcnaijndocnaaDoorM21
set_option linter.unusedSimpArgs false
set_option linter.unusedVariables false
namespace Go.Proofs.YtdgcnaijndocnaaDoor
open Go.RowKit Dec
attribute [local go_sem ↓] Go.wp_at_zero Go.wp_at_succ

theorem Hid.mkR {p : Prop} (h : p) : Hid p := h

namespace Gw
theorem len18 {n : Int} (h0 : -1000000000000000000000000000000 ≤ n) (h1 : n ≤ 1000000000000000000000000000000) : (digs n.natAbs).length ≤ 800000 := by
  have := length_digs_le (show n.natAbs < 10 ^ 31 by omega)
  omega
end Gw
end Go.Proofs.YtdgcnaijndocnaaDoor

/-
  The document's answer of layer 6 (radomeref06): Exp.
-/
set_option linter.unusedSimpArgs false
set_option linter.unusedVariables false
namespace Go.Proofs.YtdgcnaijndocnaaDoor
open Go.RowKit Dec Gw
attribute [local go_sem ↓] Go.wp_at_zero Go.wp_at_succ

namespace Gw
theorem num_zero (w : World) : IsNum w (.agg #[.bool (decide ((0 : Int) < 0)), .slice none 0 0]) 0 := ⟨.slice none 0 0, rfl, Or.inl ⟨rfl, rfl⟩⟩
theorem cell_set2 {w : World} {g g' j : Nat} {v : Value} (h : w.cell? ⟨g, j, none⟩ = some v) (hne : ¬ g = g') (u0 u1 : Value) : ((w.setCell ⟨g', 0, none⟩ u0).setCell ⟨g', 1, none⟩ u1).cell? ⟨g, j, none⟩ = some v := by
  have hn : ∀ i j : Nat, (⟨g', i, none⟩ : Addr) ≠ ⟨g, j, none⟩ := fun i j e => hne (Addr.mk.inj e).1.symm
  rw [World.cell?_setCell_other _ _ _ _ (hn 1 j), World.cell?_setCell_other _ _ _ _ (hn 0 j)]
  exact h
end Gw

end Go.Proofs.YtdgcnaijndocnaaDoor

/-
  The document's answer of layer 6 (radomeref06): Log.
-/
set_option linter.unusedSimpArgs false
set_option linter.unusedVariables false
namespace Go.Proofs.YtdgcnaijndocnaaDoor
open Go.RowKit Dec Gw
attribute [local go_sem ↓] Go.wp_at_zero Go.wp_at_succ

namespace Gw
/-- The two loops that move a number: how often each goes, and what it has. -/
theorem loops {x d : Int} (h0 : 1 ≤ x) (h : Dn x d) : ∃ J I : Nat, J ≤ 11 ∧ I ≤ 50 ∧ d = (J : Int) - (I : Int) ∧
    (∀ j, j ≤ J → (2251799813685248 ≤ x / 2 ^ j ↔ j < J)) ∧ (∀ i, i ≤ I → (x / 2 ^ J * 2 ^ i < 1125899906842624 ↔ i < I)) ∧ x / 2 ^ J * 2 ^ I = mo x d ∧ (∀ j, 0 ≤ x / 2 ^ j ∧ x / 2 ^ j ≤ x) ∧ (∀ i, 0 ≤ x / 2 ^ J * 2 ^ i) := by
  have hd := h
  obtain ⟨d0, d1, _, _⟩ := hd
  have hx : ∀ j : Nat, 0 ≤ x / 2 ^ j ∧ x / 2 ^ j ≤ x := fun j => ⟨Int.ediv_nonneg (by omega) (Int.pow_nonneg (by omega)), Int.ediv_le_self _ (by omega)⟩
  rcases Int.lt_or_le d 0 with k | k
  · refine ⟨0, (-d).toNat, by omega, by omega, by omega, ?_, ?_, ?_, hx, ?_⟩
    · intro j hj
      obtain rfl : j = 0 := by omega
      have := (mo_less h 0 (by omega)).2 (by omega)
      rw [Int.pow_zero, Int.mul_one] at this
      rw [Int.pow_zero, Int.ediv_one]
      omega
    · intro i hi
      rw [Int.pow_zero, Int.ediv_one, mo_less h i (by omega)]
      omega
    · rw [Int.pow_zero, Int.ediv_one]
      unfold mo
      rw [if_pos k]
    · intro i
      exact Int.mul_nonneg (hx 0).1 (Int.pow_nonneg (by omega))
  · refine ⟨d.toNat, 0, by omega, by omega, by omega, ?_, ?_, ?_, hx, ?_⟩
    · intro j hj
      rw [mo_more h j (by omega)]
      omega
    · intro i hi
      obtain rfl : i = 0 := by omega
      have := (mo_bd h).1
      unfold mo at this
      rw [if_neg (by omega)] at this
      rw [Int.pow_zero, Int.mul_one]
      omega
    · rw [Int.pow_zero, Int.mul_one]
      unfold mo
      rw [if_neg (by omega)]
    · intro i
      exact Int.mul_nonneg (hx d.toNat).1 (Int.pow_nonneg (by omega))
end Gw

end Go.Proofs.YtdgcnaijndocnaaDoor
