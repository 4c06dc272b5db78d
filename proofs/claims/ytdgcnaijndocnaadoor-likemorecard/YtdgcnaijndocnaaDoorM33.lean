/-
  The document's answer of layer 8 (radomeref08): May, Eye, Turn, Alike, Apply, Mul.
-/
import Derived.Test.YtdgcnaijndocnaaDoorM10
import Derived.Test.YtdgcnaijndocnaaDoorM4
import Derived.Deep.RegionHeld3
import Derived.Test.YtdgcnaijndocnaaDoorM5
import Derived.Test.YtdgcnaijndocnaaDoorM2
import Derived.BigQuiet
import Derived.Deep.CutRange
import Derived.Deep.DeepCutAuto
set_option linter.unusedSimpArgs false
set_option linter.unusedVariables false
namespace Go.Proofs.YtdgcnaijndocnaaDoor
open Go.RowKit Vc Mt Dt

end Go.Proofs.YtdgcnaijndocnaaDoor

/-
  The document's answer of layer 12 (radomeref12): In, Six, May.
-/
set_option linter.unusedSimpArgs false
set_option linter.unusedVariables false
namespace Go.Proofs.YtdgcnaijndocnaaDoor
open Go.RowKit Vc St Mt Dt
attribute [local go_sem ↓] Go.wp_at_zero Go.wp_at_succ

open Pr

end Go.Proofs.YtdgcnaijndocnaaDoor

/-
  The document's answer of layer 8 (radomeref08): Add, less or not; Outer; Even. (By py/MtS.py.)
-/
set_option linter.unusedSimpArgs false
set_option linter.unusedVariables false
namespace Go.Proofs.YtdgcnaijndocnaaDoor
open Go.RowKit Vc Mt Dt





end Go.Proofs.YtdgcnaijndocnaaDoor

/-
  The document's answer of layer 8 (radomeref08): Even, its rows the call's own.
-/
set_option linter.unusedSimpArgs false
set_option linter.unusedVariables false
namespace Go.Proofs.YtdgcnaijndocnaaDoor
open Go.RowKit Vc Mt Dt

end Go.Proofs.YtdgcnaijndocnaaDoor

/-
  The document's answer of layer 12 (radomeref12): Six, In, Next.
-/
set_option linter.unusedSimpArgs false
set_option linter.unusedVariables false
namespace Go.Proofs.YtdgcnaijndocnaaDoor
open Go.RowKit Vc St Mt Dt
attribute [local go_sem ↓] Go.wp_at_zero Go.wp_at_succ

namespace Pr
theorem Hid.mkP {p : Prop} (h : p) : Hid p := h
/-- A state after a step F, with the noise Q: number by number. -/
def nX (F : Nat → Nat → Int) (X : Nat → Int) : Nat → Int := fun i => Qn.clamp (Qn.rne (dk (F i) X 6) (2 ^ 20))
def nY (F P : Nat → Nat → Int) : Nat → Nat → Int := fun i j => Qn.clamp (Qn.rne (dk (fun k => P k j) (F i) 6) (2 ^ 20))
def nZ (F P : Nat → Nat → Int) : Nat → Nat → Int := fun i j => Qn.clamp (Qn.rne (dk (fun k => F j k) (nY F P i) 6) (2 ^ 20))
def nW (F P Q : Nat → Nat → Int) : Nat → Nat → Int := fun i j => Qn.clamp (nZ F P i j + Q i j)
def nE (F P Q : Nat → Nat → Int) : Nat → Nat → Int := fun i j => Qn.clamp (Qn.rne (nW F P Q i j + nW F P Q j i) (2 ^ 1))
def nP (F P Q : Nat → Nat → Int) : Nat → Nat → Int := fun i j => if i = j ∧ nE F P Q i j < 0 then 0 else nE F P Q i j
def oX (F : Nat → Nat → Int) (X : Nat → Int) : Bool := anyb (fun i => Qn.great (Qn.rne (dk (F i) X 6) (2 ^ 20))) 6
def oY (F P : Nat → Nat → Int) : Bool := any2 (fun i j => Qn.great (Qn.rne (dk (fun k => P k j) (F i) 6) (2 ^ 20))) 6 6
def oZ (F P : Nat → Nat → Int) : Bool := any2 (fun i j => Qn.great (Qn.rne (dk (fun k => F j k) (nY F P i) 6) (2 ^ 20))) 6 6
def oW (F P Q : Nat → Nat → Int) : Bool := any2 (fun i j => Qn.great (nZ F P i j + Q i j)) 6 6
def oE (F P Q : Nat → Nat → Int) : Bool := any2 (fun i j => Qn.great (Qn.rne (nW F P Q i j + nW F P Q j i) (2 ^ 1))) 6 6
def oP (F : Nat → Nat → Int) (X : Nat → Int) (P Q : Nat → Nat → Int) : Bool := oX F X || oY F P || oZ F P || oW F P Q || oE F P Q
theorem cl_b2 (R : Nat → Nat → Int) : B2 (fun i j => Qn.clamp (R i j)) := fun i j => by show _ ≤ Qn.clamp (R i j) ∧ Qn.clamp (R i j) ≤ _; unfold Qn.clamp; constructor <;> (repeat' split) <;> omega
/-- The first k of the diagonal are not below 0. -/
def nD (E : Nat → Nat → Int) (k : Nat) : Nat → Nat → Int := fun i j => if i = j ∧ i < k ∧ E i j < 0 then 0 else E i j
theorem nD_zero (E : Nat → Nat → Int) (i j : Nat) : E i j = nD E 0 i j := by unfold nD; rw [if_neg (by omega)]
theorem nD_skip (E : Nat → Nat → Int) (k : Nat) (h : ¬ E k k < 0) (i j : Nat) : nD E k i j = nD E (k + 1) i j := by
  unfold nD
  by_cases e : i = j ∧ i < k ∧ E i j < 0
  · rw [if_pos e, if_pos ⟨e.1, by omega, e.2.2⟩]
  · rw [if_neg e, if_neg]
    rintro ⟨a, b, c⟩
    by_cases q : i = k
    · subst q; subst a; exact h c
    · exact e ⟨a, by omega, c⟩
theorem nD_put (E : Nat → Nat → Int) (k : Nat) (h : E k k < 0) (i j : Nat) : put2 (nD E k) k k 0 i j = nD E (k + 1) i j := by
  unfold put2 nD
  by_cases q : i = k ∧ j = k
  · obtain ⟨rfl, rfl⟩ := q
    rw [if_pos ⟨rfl, rfl⟩, if_pos ⟨rfl, by omega, h⟩]
  · rw [if_neg q]
    by_cases e : i = j ∧ i < k ∧ E i j < 0
    · rw [if_pos e, if_pos ⟨e.1, by omega, e.2.2⟩]
    · rw [if_neg e, if_neg]
      rintro ⟨a, b, c⟩
      exact e ⟨a, by omega, c⟩
theorem nD_at (E : Nat → Nat → Int) (k : Nat) : nD E k k k = E k k := by unfold nD; rw [if_neg (by omega)]
theorem nD_end (E : Nat → Nat → Int) {i : Nat} (j : Nat) (hi : i < 6) : nD E 6 i j = if i = j ∧ E i j < 0 then 0 else E i j := by
  unfold nD
  by_cases e : i = j ∧ E i j < 0
  · rw [if_pos ⟨e.1, hi, e.2⟩, if_pos e]
  · rw [if_neg (fun q => e ⟨q.1, q.2.2⟩), if_neg e]
end Pr
open Pr

end Go.Proofs.YtdgcnaijndocnaaDoor
