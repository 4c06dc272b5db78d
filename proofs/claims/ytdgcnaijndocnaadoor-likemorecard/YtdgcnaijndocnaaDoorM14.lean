/-
  Div of the document's answer (radomeref01), of a number that is not below 0: the quotient and the rest, digit by digit.
-/
import Derived.Test.YtdgcnaijndocnaaDoorRefG
import Derived.Test.YtdgcnaijndocnaaDoorM3
import Derived.Test.YtdgcnaijndocnaaDoorM1
import Derived.Deep.DeepCutAuto
import Derived.RegionTactic
import Derived.ChangeAlike
import Derived.BigRegion
import Derived.Test.YtdgcnaijndocnaaDoorM4
import Derived.Deep.RegionWith
import Derived.Test.YtdgcnaijndocnaaDoorM2
set_option linter.unusedSimpArgs false
set_option linter.unusedVariables false
namespace Go.Proofs.YtdgcnaijndocnaaDoor
open Go.RowKit Dec
attribute [local go_sem ↓] Go.wp_at_zero Go.wp_at_succ

namespace Dec
/-- The number in a cell. -/
def cellN (w : World) (p : Addr) : Nat := match w.cell? p with | some (.int _ z) => z.toNat | _ => 0
end Dec

end Go.Proofs.YtdgcnaijndocnaaDoor

/-
  Div of the document's answer (radomeref01), of a number below 0 by one below 0: the quotient, cut down, and the rest, which is not below 0; by py/DivNeg.py.
-/
set_option linter.unusedSimpArgs false
set_option linter.unusedVariables false
namespace Go.Proofs.YtdgcnaijndocnaaDoor
open Go.RowKit Dec
attribute [local go_sem ↓] Go.wp_at_zero Go.wp_at_succ

end Go.Proofs.YtdgcnaijndocnaaDoor

/-
  Div of the document's answer (radomeref01), of a number below 0 by one above 0: the quotient, cut down, and the rest, which is not below 0; by py/DivNeg.py.
-/
set_option linter.unusedSimpArgs false
set_option linter.unusedVariables false
namespace Go.Proofs.YtdgcnaijndocnaaDoor
open Go.RowKit Dec
attribute [local go_sem ↓] Go.wp_at_zero Go.wp_at_succ

end Go.Proofs.YtdgcnaijndocnaaDoor

/-
  Div of the document's answer (radomeref01), of any number by one above 0: the quotient, cut down, and the rest.
-/
set_option linter.unusedSimpArgs false
set_option linter.unusedVariables false
namespace Go.Proofs.YtdgcnaijndocnaaDoor
open Go.RowKit Dec

namespace Dec
theorem neg_div (X b : Nat) (hb : 0 < b) : (-(X : Int)) / (b : Int) = (if X % b = 0 then -((X / b : Nat) : Int) else -((X / b : Nat) : Int) - 1) ∧ (-(X : Int)) % (b : Int) = (if X % b = 0 then 0 else (b : Int) - ((X % b : Nat) : Int)) := by
  have h := Nat.div_add_mod X b
  have hl := Nat.mod_lt X hb
  generalize X / b = q at *
  generalize X % b = r at *
  have e : (X : Int) = (b : Int) * (q : Int) + (r : Int) := by rw [← h]; simp
  by_cases hr : r = 0
  · rw [if_pos hr, if_pos hr]
    have := (Int.ediv_emod_unique (a := -(X : Int)) (b := (b : Int)) (r := 0) (q := -(q : Int)) (by omega)).2 ⟨by rw [e, hr, Int.mul_neg]; simp, by omega, by omega⟩
    exact ⟨this.1, this.2⟩
  · rw [if_neg hr, if_neg hr]
    have := (Int.ediv_emod_unique (a := -(X : Int)) (b := (b : Int)) (r := (b : Int) - (r : Int)) (q := -(q : Int) - 1) (by omega)).2 ⟨by rw [e, Int.mul_sub, Int.mul_neg]; omega, by omega, by omega⟩
    exact ⟨this.1, this.2⟩
end Dec

end Go.Proofs.YtdgcnaijndocnaaDoor

/-
  Div of the document's answer (radomeref01), of any number by any that is not 0.
-/
set_option linter.unusedSimpArgs false
set_option linter.unusedVariables false
namespace Go.Proofs.YtdgcnaijndocnaaDoor
open Go.RowKit Dec

end Go.Proofs.YtdgcnaijndocnaaDoor

/-
  Round of the document's answer of layer 2 (radomeref02), of any number by one above 0: the nearest whole number to a quotient, of two such the even one.
-/
set_option linter.unusedSimpArgs false
set_option linter.unusedVariables false
namespace Go.Proofs.YtdgcnaijndocnaaDoor
open Go.RowKit Dec
attribute [local go_sem ↓] Go.wp_at_zero Go.wp_at_succ

namespace Dec
theorem isNum_emod {w : World} {v : Value} {n : Int} {d : Nat} (hd : 0 < d) (h : IsNum w v (n % (d : Int))) : IsNum w v ((n % (d : Int)).toNat : Int) := by
  have := Int.emod_nonneg n (show (d : Int) ≠ 0 by omega)
  rw [Int.toNat_of_nonneg this]; exact h
theorem len_q {n : Int} {d : Nat} (hd : 0 < d) : (n / (d : Int)).natAbs ≤ n.natAbs := by
  by_cases h : 0 ≤ n
  · have h1 := Int.ediv_nonneg h (show (0 : Int) ≤ (d : Int) by omega)
    have h2 := Int.ediv_le_self (d : Int) h
    omega
  · have h1 : n / (d : Int) < 0 := Int.ediv_neg_of_neg_of_pos (by omega) (by omega)
    have h2 : n ≤ n / (d : Int) := by
      rw [Int.le_ediv_iff_mul_le (by omega)]
      have h3 : n * (d : Int) ≤ n * 1 := Int.mul_le_mul_of_nonpos_left (by omega) (by omega)
      omega
    omega
end Dec

end Go.Proofs.YtdgcnaijndocnaaDoor
