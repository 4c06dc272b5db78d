/-
  Matrices (mat): two that are the same compared; a matrix into a new variable; what must come whatever the input is (sure of the laws of layer 8).
-/
import Derived.Test.YtdgcnaijndocnaaGreatDoorM22
import Derived.Test.YtdgcnaijndocnaaGreatDoorM10
import Derived.ChangeKeysEq
import Derived.Test.YtdgcnaijndocnaaGreatDoorM5
import Derived.Test.YtdgcnaijndocnaaGreatDoorM2
set_option linter.unusedSimpArgs false
set_option linter.unusedVariables false
namespace Go.Proofs.YtdgcnaijndocnaaGreatDoor
open Go.RowKit Vc Mt Qn Dt

namespace Mt
end Mt

end Go.Proofs.YtdgcnaijndocnaaGreatDoor

/-
  Matrices and factors compared, whatever they are.
-/
set_option linter.unusedSimpArgs false
set_option linter.unusedVariables false
namespace Go.Proofs.YtdgcnaijndocnaaGreatDoor
open Go.RowKit Vc Mt St Ld
namespace Ld

end Ld
end Go.Proofs.YtdgcnaijndocnaaGreatDoor

/-
  Factors (ldl): Of.
-/
set_option linter.unusedSimpArgs false
set_option linter.unusedVariables false
namespace Go.Proofs.YtdgcnaijndocnaaGreatDoor
open Go.RowKit Vc Mt St Qn Dt Ld

namespace Ld
/-- The cells of no factors. -/
abbrev f0 : List Value := fvals 0 (fun _ => 0) (fun _ => 0)
end Ld

end Go.Proofs.YtdgcnaijndocnaaGreatDoor

/-
  Factors: what Of makes may be; what must come whatever the input is (sure of the laws of layer 9).
-/
set_option linter.unusedSimpArgs false
set_option linter.unusedVariables false
namespace Go.Proofs.YtdgcnaijndocnaaGreatDoor
open Go.RowKit Vc Mt St Qn Dt Ld

namespace Ld
/-- What Of makes may be. -/
theorem may_st {n : Nat} {F : Nat → Nat → Int} (h1 : 1 ≤ n) (h2 : n ≤ 6) (hf : ∀ i, i < n → fine F i) : FMay n (mz n n (st F n).1) (st F n).2 := by
  refine ⟨by omega, by omega, fun k hk => ?_, fun k hk => ?_⟩
  · rw [Int.toNat_natCast]
    unfold okD
    by_cases e : n ≤ k
    · rw [if_pos e, st_behindD F e]; rfl
    · rw [if_neg e]
      have h3 := st_bdD F n k
      have h4 := (hf k (by omega)).2
      rw [st_D F (by omega)] at h3 ⊢
      rw [decide_eq_true (by omega), decide_eq_true (by omega)]; rfl
  · rw [Int.toNat_natCast]
    unfold okL
    by_cases e : n * n ≤ k
    · have e1 : n ≤ k / n := (Nat.le_div_iff_mul_le (by omega)).2 e
      rw [if_pos (Or.inl e1), mz_behind e]; rfl
    · have e1 : k / n < n := (Nat.div_lt_iff_lt_mul (by omega)).2 (by omega)
      have e2 : k % n < n := Nat.mod_lt _ (by omega)
      have e3 : k = k / n * n + k % n := by rw [Nat.mul_comm]; exact (Nat.div_add_mod k n).symm
      have e4 : mz n n (st F n).1 k = (st F n).1 (k / n) (k % n) := by
        have := mz_at (n := n) (c := n) (F := (st F n).1) e1 e2
        rwa [← e3] at this
      rw [e4]
      by_cases c1 : k / n < k % n
      · rw [if_pos (Or.inr c1), st_up F e1 c1]; rfl
      · rw [if_neg (by omega)]
        by_cases c2 : k % n = k / n
        · rw [if_pos c2, c2, st_one F e1]; rfl
        · rw [if_neg c2]
          have h3 := st_bdL F n (k / n) (k % n)
          rw [great_iff.2 h3]; rfl

end Ld

end Go.Proofs.YtdgcnaijndocnaaGreatDoor

/-
  Layer 13: the numbers of the gap, of K, of ones less K, of the state that has seen a place: plain; what lies in blocks of known cells.
-/
set_option linter.unusedSimpArgs false
set_option linter.unusedVariables false
namespace Go.Proofs.YtdgcnaijndocnaaGreatDoor
open Go.RowKit Vc St Mt Dt Pr
namespace Ud
theorem hide {p : Prop} (h : p) : Hid p := h
/-- Two by two. -/
def g2 (a b c : Int) : Nat → Nat → Int := fun i j => if i = 0 then (if j = 0 then a else b) else (if j = 0 then b else c)
def v2 (x y : Int) : Nat → Int := fun k => if k = 0 then x else y
theorem v2_b {x y : Int} (hx : -9223372036854775808 ≤ x ∧ x ≤ 9223372036854775807) (hy : -9223372036854775808 ≤ y ∧ y ≤ 9223372036854775807) : B64 (v2 x y) := fun k => by
  show _ ≤ (if k = 0 then x else y) ∧ (if k = 0 then x else y) ≤ _
  split <;> assumption
/-- The gap's numbers. -/
def oa (P : Nat → Nat → Int) (a : Int) : Int := Qn.clamp (P 0 0 + a)
def ob (P : Nat → Nat → Int) (c : Int) : Int := Qn.clamp (P 0 3 + c)
def oc (P : Nat → Nat → Int) (b : Int) : Int := Qn.clamp (P 3 3 + b)
def ox (X : Nat → Int) (x : Int) : Int := Qn.clamp (x - X 0)
def oy (X : Nat → Int) (y : Int) : Int := Qn.clamp (y - X 3)
def oM (P : Nat → Nat → Int) (a b c : Int) : Nat → Nat → Int := g2 (oa P a) (ob P c) (oc P b)
theorem cl64 (z : Int) : -9223372036854775808 ≤ Qn.clamp z ∧ Qn.clamp z ≤ 9223372036854775807 := by unfold Qn.clamp; constructor <;> (repeat' split) <;> omega
/-- The factors' rows and numbers. -/
def fL (P : Nat → Nat → Int) (a b c : Int) : Nat → Nat → Int := (Ld.st (oM P a b c) 2).1
def fD (P : Nat → Nat → Int) (a b c : Int) : Nat → Int := (Ld.st (oM P a b c) 2).2
theorem yieldsPart {ops : Array Oper} {S : World → Prop} {o : Oper} {a : Act} {t : TypeId} {n : Nat} (I : Is t n) (hw : Region.wanted o (yielded ops a.tmps) = true) (x : Operand) (ho : o.op = .load t x)
    (b p : Nat) (cs : List Value) (hx : a.eval x = .pointer (some ⟨b, p, none⟩)) (hS : ∀ w, S w → w.rangeAt b p cs) (hl : cs.length = n) : YieldsIf Tryz.prog ops S o (.agg cs.toArray) a := by
  obtain ⟨d, hd, hr⟩ := I.row
  exact yieldsIf_load_mid hw _ x ho b p hx cs d hS hd hr (by rw [I.size, hl])
theorem loadC {ops : Array Oper} {rest : List Oper} {o : Oper} {a : Act} {w : World} {Q : Exit → Act → World → Prop} {t : TypeId} {n : Nat} (I : Is t n) (x : Operand) (ho : o.op = .load t x) (b : Nat) (cs : List Value) (hx : a.eval x = .pointer (some ⟨b, 0, none⟩)) (hr : CRow w b t cs) (hl : cs.length = n) (hw : Region.wanted o (yielded ops a.tmps) = true)
    (h : wpList Tryz.prog ops Q rest (a.put o.dst (.agg cs.toArray)) w) : wpList Tryz.prog ops Q (o :: rest) a w := St.wpList_load I hw x ho b cs hx hr hl h
theorem fL_b (P : Nat → Nat → Int) (a b c : Int) : ∀ i, B64 (fL P a b c i) := fun i => Ld.b64_of (Ld.st_bdL (oM P a b c) 2 i)
end Ud
end Go.Proofs.YtdgcnaijndocnaaGreatDoor

/-
  Matrices and arrays of numbers compared, whatever they are.
-/
set_option linter.unusedSimpArgs false
set_option linter.unusedVariables false
namespace Go.Proofs.YtdgcnaijndocnaaGreatDoor
open Go.RowKit Vc Mt
namespace Cm

variable {ops : Array Oper} {rest : List Oper} {o : Oper} {a : Act} {w : World} {Q : Exit → Act → World → Prop}
end Cm
end Go.Proofs.YtdgcnaijndocnaaGreatDoor

/-
  States of package predict as a value (six numbers, and a matrix), the steps' bool; compared, whatever they are.
-/
set_option linter.unusedSimpArgs false
set_option linter.unusedVariables false
namespace Go.Proofs.YtdgcnaijndocnaaGreatDoor
open Go.RowKit Vc Mt St Cm
namespace Pd

section
variable {ops : Array Oper} {rest : List Oper} {o : Oper} {a : Act} {w : World} {Q : Exit → Act → World → Prop}
end

end Pd
end Go.Proofs.YtdgcnaijndocnaaGreatDoor

/-
  The walk's laws of whole loads, stores and comparisons, their cheap conditions first (an operation of another kind is left at once).
-/
set_option linter.unusedSimpArgs false
set_option linter.unusedVariables false
namespace Go.Proofs.YtdgcnaijndocnaaGreatDoor
open Go.RowKit Mt
namespace Hk
variable {ops : Array Oper} {rest : List Oper} {o : Oper} {a : Act} {w : World} {Q : Exit → Act → World → Prop}
end Hk
end Go.Proofs.YtdgcnaijndocnaaGreatDoor

/-
  States of package predict: what lies within, six rows and columns, the same turned, the diagonal, Check, Same.
-/
set_option linter.unusedSimpArgs false
set_option linter.unusedVariables false
namespace Go.Proofs.YtdgcnaijndocnaaGreatDoor
open Go.RowKit Vc St Mt Cm Pd Pr
attribute [local go_sem ↓] Go.wp_at_zero Go.wp_at_succ

namespace Pd
end Pd

namespace Pd
end Pd

end Go.Proofs.YtdgcnaijndocnaaGreatDoor

/-
  States of package predict: another diagonal, spreads, Check, Same.
-/
set_option linter.unusedSimpArgs false
set_option linter.unusedVariables false
namespace Go.Proofs.YtdgcnaijndocnaaGreatDoor
open Go.RowKit Vc St Mt Cm Pd Pr
attribute [local go_sem ↓] Go.wp_at_zero Go.wp_at_succ

namespace Pd
end Pd

namespace Pd
end Pd

namespace Pd
end Pd

namespace Pd
end Pd

end Go.Proofs.YtdgcnaijndocnaaGreatDoor
