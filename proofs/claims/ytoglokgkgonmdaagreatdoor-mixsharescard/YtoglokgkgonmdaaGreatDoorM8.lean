/-
  The document's answer of layer 8 (radomeref08): May, Eye, Turn, Alike, Apply, Mul.
-/
import Derived.Test.YtoglokgkgonmdaaGreatDoorM7
import Derived.Test.YtoglokgkgonmdaaGreatDoorM5
import Derived.Deep.RegionHeld3
import Derived.Deep.CutRange
import Derived.Deep.DeepCutAuto
import Derived.Test.YtoglokgkgonmdaaGreatDoorM3
import Derived.Test.YtoglokgkgonmdaaGreatDoorM1
import Derived.Test.YtoglokgkgonmdaaGreatDoorM2
set_option linter.unusedSimpArgs false
set_option linter.unusedVariables false
namespace Go.Proofs.YtoglokgkgonmdaaGreatDoor
open Go.RowKit Vc Mt Dt

end Go.Proofs.YtoglokgkgonmdaaGreatDoor

/-
  The document's answer of layer 8 (radomeref08): Add, less or not; Outer; Even. (By py/MtS.py.)
-/
set_option linter.unusedSimpArgs false
set_option linter.unusedVariables false
namespace Go.Proofs.YtoglokgkgonmdaaGreatDoor
open Go.RowKit Vc Mt Dt

namespace Mt
end Mt

namespace Mt
end Mt

end Go.Proofs.YtoglokgkgonmdaaGreatDoor

/-
  The document's answer of layer 8 (radomeref08): Even, its rows the call's own.
-/
set_option linter.unusedSimpArgs false
set_option linter.unusedVariables false
namespace Go.Proofs.YtoglokgkgonmdaaGreatDoor
open Go.RowKit Vc Mt Dt

end Go.Proofs.YtoglokgkgonmdaaGreatDoor

/-
  The document's answer of layer 12 (radomeref12): Six, In, Next.
-/
set_option linter.unusedSimpArgs false
set_option linter.unusedVariables false
namespace Go.Proofs.YtoglokgkgonmdaaGreatDoor
open Go.RowKit Vc St Mt Dt
attribute [local go_sem ↓] Go.wp_at_zero Go.wp_at_succ

namespace Pr
end Pr
open Pr

end Go.Proofs.YtoglokgkgonmdaaGreatDoor

/-
  States mixed (layer 15), plain: how much of each comes to one, states joined.
-/
set_option linter.unusedSimpArgs false
set_option linter.unusedVariables false
namespace Go.Proofs.YtoglokgkgonmdaaGreatDoor
open Vc Cn Pr Dt Mt Qn
namespace Mx
theorem cl_inV (n : Int) : InV (Qn.clamp n) := by unfold InV Qn.clamp; split <;> (try split) <;> omega
/-- What comes of each to t. -/
def wt (n : Nat) (z : Nat → Int) (R : Nat → Nat → Int) (t : Nat) : Nat → Int := fun i => if i < n then z i * R i t else 0
/-- How much of each comes to t. -/
def shr (n : Nat) (z : Nat → Int) (R : Nat → Nat → Int) (t : Nat) : Nat → Int := fun k => if k < n then (if tot (wt n z R t) n = 0 then (if k = t then 1073741824 else 0) else sh 1073741824 (wt n z R t) n k) else 0
theorem shr_is {n : Nat} {z : Nat → Int} {R : Nat → Nat → Int} {t k : Nat} (hk : k < n) : shr n z R t k = if tot (wt n z R t) n = 0 then (if k = t then 1073741824 else 0) else sh 1073741824 (wt n z R t) n k := by unfold shr; rw [if_pos hk]
section
variable {n m : Nat} {z : Nat → Int} {L : Nat → Nat} {R : Nat → Nat → Int} (h : MayX n z m L R)
include h
theorem wt_in {t : Nat} (ht : t < n) (i : Nat) : 0 ≤ wt n z R t i ∧ wt n z R t i ≤ 1152921504606846976 := by
  unfold wt
  by_cases hi : i < n
  · rw [if_pos hi]
    have a1 := h.ch.nn hi
    have a2 := (h.row i hi).2.nn ht
    exact ⟨Int.mul_nonneg a1.1 a2.1, Int.mul_le_mul a1.2 a2.2 a2.1 (by omega)⟩
  · rw [if_neg hi]; omega
theorem wt_may {t : Nat} (ht : t < n) : MayW n (wt n z R t) 0 := ⟨h.ch.one, h.ch.four, by omega, by omega, fun k _ => by have := wt_in h ht k; omega⟩
theorem shr_ch {t : Nat} (ht : t < n) : Ch n (shr n z R t) 0 := by
  have t0 := tot_nn (a := wt n z R t) (n := n) (fun k _ => (wt_in h ht k).1)
  refine ⟨h.ch.one, h.ch.four, by omega, by omega, fun k hk => ?_, ?_⟩
  · rw [shr_is hk]
    by_cases e : tot (wt n z R t) n = 0
    · rw [if_pos e]; split <;> omega
    · rw [if_neg e]
      exact sh_nn (by omega) (fun i _ => (wt_in h ht i).1) (by omega) hk
  · by_cases e : tot (wt n z R t) n = 0
    · have q : tot (shr n z R t) n = tot (fun k => if k = t then 1073741824 else (fun _ => (0 : Int)) k) n := tot_congr fun k hk => by rw [shr_is hk, if_pos e]
      rw [q, tot_set (a := fun _ => (0 : Int)) 1073741824 ht, tot_const]; omega
    · have q : tot (shr n z R t) n = tot (sh 1073741824 (wt n z R t) n) n := tot_congr fun k hk => by rw [shr_is hk, if_neg e]
      rw [q]; exact sh_tot (by omega)
theorem shr_b64 {t : Nat} (ht : t < n) (k : Nat) : -9223372036854775808 ≤ shr n z R t k ∧ shr n z R t k ≤ 9223372036854775807 := by
  by_cases hk : k < n
  · have := (shr_ch h ht).nn hk; omega
  · unfold shr; rw [if_neg hk]; omega
end
section
variable (n : Nat) (c : Nat → Int) (X : Nat → Nat → Int) (P : Nat → Nat → Nat → Int)
def jx (p : Nat) : Int := Qn.rne (dk (fun k => X k p) c n) (2 ^ 30)
def jX : Nat → Int := fun p => Qn.clamp (jx n c X p)
def jXo : Bool := anyb (fun p => Qn.great (jx n c X p)) 6
def jd (k : Nat) : Nat → Int := fun p => Qn.clamp (X k p - jX n c X p)
def jdo (k : Nat) : Bool := anyb (fun p => Qn.great (X k p - jX n c X p)) 6
def ju (k : Nat) : Nat → Nat → Int := fun i j => Qn.clamp (Qn.rne (jd n c X k i * jd n c X k j) (2 ^ 20))
def juo (k : Nat) : Bool := any2 (fun i j => Qn.great (Qn.rne (jd n c X k i * jd n c X k j) (2 ^ 20))) 6 6
def jm (k : Nat) : Nat → Nat → Int := fun i j => Qn.clamp (P k i j + ju n c X k i j)
def jmo (k : Nat) : Bool := any2 (fun i j => Qn.great (P k i j + ju n c X k i j)) 6 6
def ja : Nat → Nat → Int := fun i j => Qn.clamp (Qn.rne (dk (fun k => jm n c X P k i j) c n) (2 ^ 30))
def jao (i : Nat) : Bool := anyb (fun j => Qn.great (Qn.rne (dk (fun k => jm n c X P k i j) c n) (2 ^ 30))) 6
def je : Nat → Nat → Int := fun i j => Qn.clamp (Qn.rne (ja n c X P i j + ja n c X P j i) (2 ^ 1))
def jeo : Bool := any2 (fun i j => Qn.great (Qn.rne (ja n c X P i j + ja n c X P j i) (2 ^ 1))) 6 6
def jP : Nat → Nat → Int := fun i j => if i = j ∧ je n c X P i j < 0 then 0 else je n c X P i j
/-- Whether one of the first k was too great on its way. -/
def jko (k : Nat) : Bool := anyb (fun k => jdo n c X k || juo n c X k || jmo n c X P k) k
def jO : Bool := ((jXo n c X || jko n c X P n) || anyb (jao n c X P) 6) || jeo n c X P
end
/-- Whether anything was too great, of all. -/
def aO (n : Nat) (z : Nat → Int) (R : Nat → Nat → Int) (X : Nat → Nat → Int) (P : Nat → Nat → Nat → Int) : Bool := anyb (fun t => jO n (shr n z R t) X P) n
section
variable {n : Nat} {c : Nat → Int} {X : Nat → Nat → Int} {P : Nat → Nat → Nat → Int} {X0 : Nat → Int} {P0 : Nat → Nat → Int} (hc : Ch n c 0) (h0 : MayV X0 P0)
  (hX : ∀ k, k < n → c k ≠ 0 → ∀ i, i < 6 → X k i = X0 i) (hP : ∀ k, k < n → c k ≠ 0 → ∀ i j, i < 6 → j < 6 → P k i j = P0 i j)
include hc
include h0 hX
include hP
end
end Mx
end Go.Proofs.YtoglokgkgonmdaaGreatDoor
