/-
  The document's answer of layer 8 (radomeref08): May, Eye, Turn, Alike, Apply, Mul.
-/
import Derived.Test.YtoglokgkgonmdaaM7
import Derived.Test.YtoglokgkgonmdaaM5
import Derived.Deep.RegionHeld3
import Derived.Deep.CutRange
import Derived.Deep.DeepCutAuto
import Derived.Test.YtoglokgkgonmdaaM3
import Derived.Test.YtoglokgkgonmdaaM1
import Derived.Test.YtoglokgkgonmdaaM2
import Derived.BigQuiet
set_option linter.unusedSimpArgs false
set_option linter.unusedVariables false
namespace Go.Proofs.Ytoglokgkgonmdaa
open Go.RowKit Vc Mt Dt

end Go.Proofs.Ytoglokgkgonmdaa

/-
  The document's answer of layer 8 (radomeref08): Add, less or not; Outer; Even. (By py/MtS.py.)
-/
set_option linter.unusedSimpArgs false
set_option linter.unusedVariables false
namespace Go.Proofs.Ytoglokgkgonmdaa
open Go.RowKit Vc Mt Dt





end Go.Proofs.Ytoglokgkgonmdaa

/-
  The document's answer of layer 8 (radomeref08): Even, its rows the call's own.
-/
set_option linter.unusedSimpArgs false
set_option linter.unusedVariables false
namespace Go.Proofs.Ytoglokgkgonmdaa
open Go.RowKit Vc Mt Dt

end Go.Proofs.Ytoglokgkgonmdaa

/-
  The document's answer of layer 12 (radomeref12): Six, In, Next.
-/
set_option linter.unusedSimpArgs false
set_option linter.unusedVariables false
namespace Go.Proofs.Ytoglokgkgonmdaa
open Go.RowKit Vc St Mt Dt
attribute [local go_sem ↓] Go.wp_at_zero Go.wp_at_succ

namespace Pr
theorem Hid.mkP {p : Prop} (h : p) : Hid p := h
theorem isRs : Is 32 2 := ⟨by kernel_rfl, ⟨_, Try.underlying32, rfl⟩⟩
/-- A state after a step F, with the noise Q: number by number. -/
def nX (F : Nat → Nat → Int) (X : Nat → Int) : Nat → Int := fun i => Qn.clamp (Qn.rne (dk (F i) X 6) (2 ^ 20))
def nY (F P : Nat → Nat → Int) : Nat → Nat → Int := fun i j => Qn.clamp (Qn.rne (dk (fun k => P k j) (F i) 6) (2 ^ 20))
def nZ (F P : Nat → Nat → Int) : Nat → Nat → Int := fun i j => Qn.clamp (Qn.rne (dk (fun k => F j k) (nY F P i) 6) (2 ^ 20))
def nW (F P Q : Nat → Nat → Int) : Nat → Nat → Int := fun i j => Qn.clamp (nZ F P i j + Q i j)
def nE (F P Q : Nat → Nat → Int) : Nat → Nat → Int := fun i j => Qn.clamp (Qn.rne (nW F P Q i j + nW F P Q j i) (2 ^ 1))
def nP (F P Q : Nat → Nat → Int) : Nat → Nat → Int := fun i j => if i = j ∧ nE F P Q i j < 0 then 0 else nE F P Q i j
def oX (F : Nat → Nat → Int) (X : Nat → Int) : Bool := anyb (fun i => Qn.great (Qn.rne (dk (F i) X 6) (2 ^ 20))) 6
def oY (F P : Nat → Nat → Int) : Bool := any2 (fun i j => Qn.great (Qn.rne (dk (fun k => P k j) (F i) 6) (2 ^ 20))) 6 6
def oZ (F P : Nat → Nat → Int) : Bool := any2 (fun i j => Qn.great (Qn.rne (dk (fun k => F j k) (nY F P i) 6) (2 ^ 20))) 6 6
def oW (F P Q : Nat → Nat → Int) : Bool := any2 (fun i j => Qn.great (nZ F P i j + Q i j)) 6 6
def oE (F P Q : Nat → Nat → Int) : Bool := any2 (fun i j => Qn.great (Qn.rne (nW F P Q i j + nW F P Q j i) (2 ^ 1))) 6 6
def oP (F : Nat → Nat → Int) (X : Nat → Int) (P Q : Nat → Nat → Int) : Bool := oX F X || oY F P || oZ F P || oW F P Q || oE F P Q
theorem cl_b2 (R : Nat → Nat → Int) : B2 (fun i j => Qn.clamp (R i j)) := fun i j => by show _ ≤ Qn.clamp (R i j) ∧ Qn.clamp (R i j) ≤ _; unfold Qn.clamp; constructor <;> (repeat' split) <;> omega
/-- The first k of the diagonal are not below 0. -/
def nD (E : Nat → Nat → Int) (k : Nat) : Nat → Nat → Int := fun i j => if i = j ∧ i < k ∧ E i j < 0 then 0 else E i j
theorem nD_zero (E : Nat → Nat → Int) (i j : Nat) : E i j = nD E 0 i j := by unfold nD; rw [if_neg (by omega)]
theorem nD_skip (E : Nat → Nat → Int) (k : Nat) (h : ¬ E k k < 0) (i j : Nat) : nD E k i j = nD E (k + 1) i j := by
  unfold nD
  by_cases e : i = j ∧ i < k ∧ E i j < 0
  · rw [if_pos e, if_pos ⟨e.1, by omega, e.2.2⟩]
  · rw [if_neg e, if_neg]
    rintro ⟨a, b, c⟩
    by_cases q : i = k
    · subst q; subst a; exact h c
    · exact e ⟨a, by omega, c⟩
theorem nD_put (E : Nat → Nat → Int) (k : Nat) (h : E k k < 0) (i j : Nat) : put2 (nD E k) k k 0 i j = nD E (k + 1) i j := by
  unfold put2 nD
  by_cases q : i = k ∧ j = k
  · obtain ⟨rfl, rfl⟩ := q
    rw [if_pos ⟨rfl, rfl⟩, if_pos ⟨rfl, by omega, h⟩]
  · rw [if_neg q]
    by_cases e : i = j ∧ i < k ∧ E i j < 0
    · rw [if_pos e, if_pos ⟨e.1, by omega, e.2.2⟩]
    · rw [if_neg e, if_neg]
      rintro ⟨a, b, c⟩
      exact e ⟨a, by omega, c⟩
theorem nD_at (E : Nat → Nat → Int) (k : Nat) : nD E k k k = E k k := by unfold nD; rw [if_neg (by omega)]
theorem nD_end (E : Nat → Nat → Int) {i : Nat} (j : Nat) (hi : i < 6) : nD E 6 i j = if i = j ∧ E i j < 0 then 0 else E i j := by
  unfold nD
  by_cases e : i = j ∧ E i j < 0
  · rw [if_pos ⟨e.1, hi, e.2⟩, if_pos e]
  · rw [if_neg (fun q => e ⟨q.1, q.2.2⟩), if_neg e]
end Pr
open Pr

end Go.Proofs.Ytoglokgkgonmdaa

/-
  States mixed (layer 15), plain: how much of each comes to one, states joined.
-/
set_option linter.unusedSimpArgs false
set_option linter.unusedVariables false
namespace Go.Proofs.Ytoglokgkgonmdaa
open Vc Cn Pr Dt Mt Qn
namespace Mx
theorem cl_inV (n : Int) : InV (Qn.clamp n) := by unfold InV Qn.clamp; split <;> (try split) <;> omega
theorem cl_id {n : Int} (h : InV n) : Qn.clamp n = n := Qn.clamp_in (Qn.great_iff.2 h)
theorem gr_id {n : Int} (h : InV n) : Qn.great n = false := Qn.great_iff.2 h
/-- What comes of each to t. -/
def wt (n : Nat) (z : Nat → Int) (R : Nat → Nat → Int) (t : Nat) : Nat → Int := fun i => if i < n then z i * R i t else 0
/-- How much of each comes to t. -/
def shr (n : Nat) (z : Nat → Int) (R : Nat → Nat → Int) (t : Nat) : Nat → Int := fun k => if k < n then (if tot (wt n z R t) n = 0 then (if k = t then 1073741824 else 0) else sh 1073741824 (wt n z R t) n k) else 0
theorem shr_is {n : Nat} {z : Nat → Int} {R : Nat → Nat → Int} {t k : Nat} (hk : k < n) : shr n z R t k = if tot (wt n z R t) n = 0 then (if k = t then 1073741824 else 0) else sh 1073741824 (wt n z R t) n k := by unfold shr; rw [if_pos hk]
section
variable {n m : Nat} {z : Nat → Int} {L : Nat → Nat} {R : Nat → Nat → Int} (h : MayX n z m L R)
include h
theorem wt_in {t : Nat} (ht : t < n) (i : Nat) : 0 ≤ wt n z R t i ∧ wt n z R t i ≤ 1152921504606846976 := by
  unfold wt
  by_cases hi : i < n
  · rw [if_pos hi]
    have a1 := h.ch.nn hi
    have a2 := (h.row i hi).2.nn ht
    exact ⟨Int.mul_nonneg a1.1 a2.1, Int.mul_le_mul a1.2 a2.2 a2.1 (by omega)⟩
  · rw [if_neg hi]; omega
theorem wt_may {t : Nat} (ht : t < n) : MayW n (wt n z R t) 0 := ⟨h.ch.one, h.ch.four, by omega, by omega, fun k _ => by have := wt_in h ht k; omega⟩
theorem shr_ch {t : Nat} (ht : t < n) : Ch n (shr n z R t) 0 := by
  have t0 := tot_nn (a := wt n z R t) (n := n) (fun k _ => (wt_in h ht k).1)
  refine ⟨h.ch.one, h.ch.four, by omega, by omega, fun k hk => ?_, ?_⟩
  · rw [shr_is hk]
    by_cases e : tot (wt n z R t) n = 0
    · rw [if_pos e]; split <;> omega
    · rw [if_neg e]
      exact sh_nn (by omega) (fun i _ => (wt_in h ht i).1) (by omega) hk
  · by_cases e : tot (wt n z R t) n = 0
    · have q : tot (shr n z R t) n = tot (fun k => if k = t then 1073741824 else (fun _ => (0 : Int)) k) n := tot_congr fun k hk => by rw [shr_is hk, if_pos e]
      rw [q, tot_set (a := fun _ => (0 : Int)) 1073741824 ht, tot_const]; omega
    · have q : tot (shr n z R t) n = tot (sh 1073741824 (wt n z R t) n) n := tot_congr fun k hk => by rw [shr_is hk, if_neg e]
      rw [q]; exact sh_tot (by omega)
theorem shr_b64 {t : Nat} (ht : t < n) (k : Nat) : -9223372036854775808 ≤ shr n z R t k ∧ shr n z R t k ≤ 9223372036854775807 := by
  by_cases hk : k < n
  · have := (shr_ch h ht).nn hk; omega
  · unfold shr; rw [if_neg hk]; omega
end
section
variable (n : Nat) (c : Nat → Int) (X : Nat → Nat → Int) (P : Nat → Nat → Nat → Int)
def jx (p : Nat) : Int := Qn.rne (dk (fun k => X k p) c n) (2 ^ 30)
def jX : Nat → Int := fun p => Qn.clamp (jx n c X p)
def jXo : Bool := anyb (fun p => Qn.great (jx n c X p)) 6
def jd (k : Nat) : Nat → Int := fun p => Qn.clamp (X k p - jX n c X p)
def jdo (k : Nat) : Bool := anyb (fun p => Qn.great (X k p - jX n c X p)) 6
def ju (k : Nat) : Nat → Nat → Int := fun i j => Qn.clamp (Qn.rne (jd n c X k i * jd n c X k j) (2 ^ 20))
def juo (k : Nat) : Bool := any2 (fun i j => Qn.great (Qn.rne (jd n c X k i * jd n c X k j) (2 ^ 20))) 6 6
def jm (k : Nat) : Nat → Nat → Int := fun i j => Qn.clamp (P k i j + ju n c X k i j)
def jmo (k : Nat) : Bool := any2 (fun i j => Qn.great (P k i j + ju n c X k i j)) 6 6
def ja : Nat → Nat → Int := fun i j => Qn.clamp (Qn.rne (dk (fun k => jm n c X P k i j) c n) (2 ^ 30))
def jao (i : Nat) : Bool := anyb (fun j => Qn.great (Qn.rne (dk (fun k => jm n c X P k i j) c n) (2 ^ 30))) 6
def je : Nat → Nat → Int := fun i j => Qn.clamp (Qn.rne (ja n c X P i j + ja n c X P j i) (2 ^ 1))
def jeo : Bool := any2 (fun i j => Qn.great (Qn.rne (ja n c X P i j + ja n c X P j i) (2 ^ 1))) 6 6
def jP : Nat → Nat → Int := fun i j => if i = j ∧ je n c X P i j < 0 then 0 else je n c X P i j
/-- Whether one of the first k was too great on its way. -/
def jko (k : Nat) : Bool := anyb (fun k => jdo n c X k || juo n c X k || jmo n c X P k) k
def jO : Bool := ((jXo n c X || jko n c X P n) || anyb (jao n c X P) 6) || jeo n c X P
theorem je_even (i j : Nat) : je n c X P i j = je n c X P j i := by unfold je; rw [Int.add_comm]
theorem jP_even (i j : Nat) : jP n c X P i j = jP n c X P j i := by
  unfold jP
  by_cases e : i = j
  · rw [e]
  · rw [if_neg (fun q => e q.1), if_neg (fun q => e q.1.symm), je_even]
theorem jP_in (i j : Nat) : InV (jP n c X P i j) := by
  unfold jP
  split
  · unfold InV; omega
  · exact cl_inV _
theorem jP_nn (i : Nat) : 0 ≤ jP n c X P i i := by
  unfold jP
  by_cases e : je n c X P i i < 0
  · rw [if_pos ⟨rfl, e⟩]; omega
  · rw [if_neg (fun q => e q.2)]; omega
/-- What comes of it may be. -/
theorem join_may : MayV (jX n c X) (jP n c X P) := fun i _ => ⟨cl_inV _, jP_nn n c X P i, fun j _ => ⟨jP_in n c X P i j, jP_even n c X P i j⟩⟩
end
/-- Whether anything was too great, of all. -/
def aO (n : Nat) (z : Nat → Int) (R : Nat → Nat → Int) (X : Nat → Nat → Int) (P : Nat → Nat → Nat → Int) : Bool := anyb (fun t => jO n (shr n z R t) X P) n
/-- Numbers of which all that counts are the same. -/
theorem dk_same {a c : Nat → Int} {v : Int} : ∀ {n : Nat}, (∀ k, k < n → c k ≠ 0 → a k = v) → dk a c n = v * tot c n
  | 0, _ => by show (0 : Int) = v * 0; omega
  | n + 1, h => by
    show dk a c n + a n * c n = v * (tot c n + c n)
    rw [dk_same fun k hk => h k (by omega), Int.mul_add]
    by_cases e : c n = 0
    · rw [e, Int.mul_zero, Int.mul_zero]
    · rw [h n (by omega) e]
section
variable {n : Nat} {c : Nat → Int} {X : Nat → Nat → Int} {P : Nat → Nat → Nat → Int} {X0 : Nat → Int} {P0 : Nat → Nat → Int} (hc : Ch n c 0) (h0 : MayV X0 P0)
  (hX : ∀ k, k < n → c k ≠ 0 → ∀ i, i < 6 → X k i = X0 i) (hP : ∀ k, k < n → c k ≠ 0 → ∀ i j, i < 6 → j < 6 → P k i j = P0 i j)
include hc
theorem rne_all {a : Nat → Int} {v : Int} (h : ∀ k, k < n → c k ≠ 0 → a k = v) : Qn.rne (dk a c n) (2 ^ 30) = v := by
  rw [dk_same h, hc.sum]; exact Qn.rne_mul v (2 ^ 30) (by decide)
include h0 hX
omit h0 in
theorem same_jx {i : Nat} (hi : i < 6) : jx n c X i = X0 i := rne_all hc fun k hk e => hX k hk e i hi
theorem same_jX {i : Nat} (hi : i < 6) : jX n c X i = X0 i := by unfold jX; rw [same_jx hc hX hi]; exact cl_id (h0 i hi).1
theorem same_jd {k : Nat} (hk : k < n) (e : c k ≠ 0) {i : Nat} (hi : i < 6) : jd n c X k i = 0 := by
  unfold jd; rw [same_jX hc h0 hX hi, hX k hk e i hi, Int.sub_self]; rfl
theorem same_ju {k : Nat} (hk : k < n) (e : c k ≠ 0) {i j : Nat} (hi : i < 6) (hj : j < 6) : ju n c X k i j = 0 := by
  unfold ju; rw [same_jd hc h0 hX hk e hi, Int.zero_mul]; decide +kernel
include hP
theorem same_jm {k : Nat} (hk : k < n) (e : c k ≠ 0) {i j : Nat} (hi : i < 6) (hj : j < 6) : jm n c X P k i j = P0 i j := by
  unfold jm; rw [same_ju hc h0 hX hk e hi hj, hP k hk e i j hi hj, Int.add_zero]; exact cl_id ((h0 i hi).2.2 j hj).1
theorem same_row {i j : Nat} (hi : i < 6) (hj : j < 6) : Qn.rne (dk (fun k => jm n c X P k i j) c n) (2 ^ 30) = P0 i j := rne_all hc fun k hk e => same_jm hc h0 hX hP hk e hi hj
theorem same_ja {i j : Nat} (hi : i < 6) (hj : j < 6) : ja n c X P i j = P0 i j := by
  unfold ja; rw [same_row hc h0 hX hP hi hj]; exact cl_id ((h0 i hi).2.2 j hj).1
theorem same_two {i j : Nat} (hi : i < 6) (hj : j < 6) : Qn.rne (ja n c X P i j + ja n c X P j i) (2 ^ 1) = P0 i j := by
  rw [same_ja hc h0 hX hP hi hj, same_ja hc h0 hX hP hj hi, ← ((h0 i hi).2.2 j hj).2, show P0 i j + P0 i j = P0 i j * 2 ^ 1 by omega]
  exact Qn.rne_mul _ (2 ^ 1) (by decide)
theorem same_je {i j : Nat} (hi : i < 6) (hj : j < 6) : je n c X P i j = P0 i j := by
  unfold je; rw [same_two hc h0 hX hP hi hj]; exact cl_id ((h0 i hi).2.2 j hj).1
/-- States of which all that count are one: that one. -/
theorem same_jP {i j : Nat} (hi : i < 6) (hj : j < 6) : jP n c X P i j = P0 i j := by
  unfold jP
  rw [same_je hc h0 hX hP hi hj]
  by_cases e : i = j
  · subst e; rw [if_neg (fun q => by have := (h0 i hi).2.1; omega)]
  · rw [if_neg (fun q => e q.1)]
end
/-- States that are all one: nothing is too great. -/
theorem same_jO {n : Nat} {c : Nat → Int} {X : Nat → Nat → Int} {P : Nat → Nat → Nat → Int} {X0 : Nat → Int} {P0 : Nat → Nat → Int} (hc : Ch n c 0) (h0 : MayV X0 P0)
    (hX : ∀ k, k < n → ∀ i, i < 6 → X k i = X0 i) (hP : ∀ k, k < n → ∀ i j, i < 6 → j < 6 → P k i j = P0 i j) : jO n c X P = false := by
  have hX' := fun k (hk : k < n) (_ : c k ≠ 0) => hX k hk
  have hP' := fun k (hk : k < n) (_ : c k ≠ 0) => hP k hk
  have d0 : ∀ k, k < n → ∀ i, i < 6 → X k i - jX n c X i = 0 := fun k hk i hi => by rw [same_jX hc h0 hX' hi, hX k hk i hi, Int.sub_self]
  have d1 : ∀ k, k < n → ∀ i, i < 6 → jd n c X k i = 0 := fun k hk i hi => by unfold jd; rw [d0 k hk i hi]; rfl
  have u1 : ∀ k, k < n → ∀ i j, i < 6 → j < 6 → ju n c X k i j = 0 := fun k hk i j hi hj => by unfold ju; rw [d1 k hk i hi, Int.zero_mul]; decide +kernel
  unfold jO
  rw [Bool.or_eq_false_iff, Bool.or_eq_false_iff, Bool.or_eq_false_iff]
  refine ⟨⟨⟨?_, ?_⟩, ?_⟩, ?_⟩
  · exact anyb_false.2 fun i hi => by rw [same_jx hc hX' hi]; exact gr_id (h0 i hi).1
  · refine anyb_false.2 fun k hk => ?_
    rw [Bool.or_eq_false_iff, Bool.or_eq_false_iff]
    refine ⟨⟨anyb_false.2 fun i hi => ?_, any2_false.2 fun i j hi hj => ?_⟩, any2_false.2 fun i j hi hj => ?_⟩
    · rw [d0 k hk i hi]; decide +kernel
    · rw [d1 k hk i hi, Int.zero_mul]; decide +kernel
    · rw [u1 k hk i j hi hj, hP k hk i j hi hj, Int.add_zero]; exact gr_id ((h0 i hi).2.2 j hj).1
  · exact anyb_false.2 fun i hi => anyb_false.2 fun j hj => by rw [same_row hc h0 hX' hP' hi hj]; exact gr_id ((h0 i hi).2.2 j hj).1
  · exact any2_false.2 fun i j hi hj => by rw [same_two hc h0 hX' hP' hi hj]; exact gr_id ((h0 i hi).2.2 j hj).1
end Mx
end Go.Proofs.Ytoglokgkgonmdaa

/-
  The document's answer of layer 12 (radomeref12): In, Six, May.
-/
set_option linter.unusedSimpArgs false
set_option linter.unusedVariables false
namespace Go.Proofs.Ytoglokgkgonmdaa
open Go.RowKit Vc St Mt Dt
attribute [local go_sem ↓] Go.wp_at_zero Go.wp_at_succ

open Pr

end Go.Proofs.Ytoglokgkgonmdaa

/-
  The plain part of layer 12's laws: a state after a step may be; a step of ones changes nothing; more noise is never less spread; a state of small numbers.
-/
set_option linter.unusedSimpArgs false
set_option linter.unusedVariables false
namespace Go.Proofs.Ytoglokgkgonmdaa
open Vc Mt Dt Pr Qn
namespace Pd

theorem rne_up {a b d : Int} (hd : 0 < d) (h : a ≤ b) : rne a d ≤ rne b d := by
  have e1 := Int.mul_ediv_add_emod a d
  have e2 := Int.mul_ediv_add_emod b d
  have h1 := Int.emod_nonneg a (by omega : d ≠ 0)
  have h2 := Int.emod_lt_of_pos a hd
  have h3 := Int.emod_nonneg b (by omega : d ≠ 0)
  have h4 := Int.emod_lt_of_pos b hd
  have h5 : a / d ≤ b / d := Int.ediv_le_ediv hd h
  rcases Int.lt_or_le (a / d) (b / d) with h6 | h6
  · unfold rne; split <;> split <;> omega
  · have h7 : a / d = b / d := by omega
    rw [h7] at e1
    unfold rne
    rw [h7]
    split <;> split <;> omega
theorem clamp_up {a b : Int} (h : a ≤ b) : clamp a ≤ clamp b := by
  unfold clamp; (repeat' split) <;> omega
theorem clamp_inV (n : Int) : InV (clamp n) := by unfold InV clamp; split <;> (try split) <;> omega
theorem clamp_id {n : Int} (h : InV n) : clamp n = n := clamp_in (great_iff.2 h)
theorem great_id {n : Int} (h : InV n) : great n = false := great_iff.2 h

theorem nE_even (F P Q : Nat → Nat → Int) (i j : Nat) : nE F P Q i j = nE F P Q j i := by unfold nE; rw [Int.add_comm]
theorem nP_even (F P Q : Nat → Nat → Int) (i j : Nat) : nP F P Q i j = nP F P Q j i := by
  by_cases e : i = j
  · subst e; rfl
  · unfold nP
    rw [if_neg (fun h => e h.1), if_neg (fun h => e h.1.symm), nE_even]
theorem nP_in (F P Q : Nat → Nat → Int) (i j : Nat) : InV (nP F P Q i j) := by
  unfold nP
  split
  · exact ⟨by omega, by omega⟩
  · exact clamp_inV _
theorem nP_nn (F P Q : Nat → Nat → Int) (i : Nat) : 0 ≤ nP F P Q i i := by
  unfold nP
  by_cases h : nE F P Q i i < 0
  · rw [if_pos ⟨rfl, h⟩]; omega
  · rw [if_neg (fun q => h q.2)]; omega
/-- A state after a step may be. -/
theorem next_may (F : Nat → Nat → Int) (X : Nat → Int) (P Q : Nat → Nat → Int) : MayV (nX F X) (nP F P Q) :=
  fun i _ => ⟨clamp_inV _, nP_nn F P Q i, fun j _ => ⟨nP_in F P Q i j, nP_even F P Q i j⟩⟩
/-- More noise on the diagonal is never less spread there. -/
theorem nP_more (F P : Nat → Nat → Int) {Q Q' : Nat → Nat → Int} {i : Nat} (h : Q i i ≤ Q' i i) : nP F P Q i i ≤ nP F P Q' i i := by
  have h1 : nW F P Q i i ≤ nW F P Q' i i := clamp_up (by omega)
  have h2 : nE F P Q i i ≤ nE F P Q' i i := clamp_up (rne_up (by decide) (by omega))
  unfold nP
  by_cases a : nE F P Q i i < 0
  · rw [if_pos ⟨rfl, a⟩]
    by_cases b : nE F P Q' i i < 0
    · rw [if_pos ⟨rfl, b⟩]; omega
    · rw [if_neg (fun q => b q.2)]; omega
  · rw [if_neg (fun q => a q.2), if_neg (fun q => by have := q.2; omega)]; exact h2

theorem rne_eye (x : Int) : rne (x * 2 ^ 20) (2 ^ 20) = x := rne_mul x (2 ^ 20) (by decide)
def noQ : Nat → Nat → Int := fun _ _ => 0
section
variable {X : Nat → Int} {P : Nat → Nat → Int} (h : MayV X P) {i j : Nat} (hi : i < 6) (hj : j < 6)
include h hi
end
/-- A state of small numbers: of the numbers z (l of them) and the rows Z (m of them, K r long). -/
def soX (l : Nat) (z : Nat → Int) : Nat → Int := fun i => if i < l then (z i).tmod 68719476736 else 0
def soN (m : Nat) (K : Nat → Nat) (Z : Nat → Nat → Int) : Nat → Nat → Int := fun a b => if a < m ∧ b < K a then (Z a b).tmod 1073741824 else 0
def soP (m : Nat) (K : Nat → Nat) (Z : Nat → Nat → Int) : Nat → Nat → Int := fun i j => if i = j then (if soN m K Z i i < 0 then -soN m K Z i i else soN m K Z i i) + 68719476736 else soN m K Z (max i j) (min i j)
theorem tmod_in (x : Int) {d : Int} (hd : 0 < d) : -d < x.tmod d ∧ x.tmod d < d := by
  have h1 := Int.tmod_lt_of_pos x hd
  have h2 : -d < x.tmod d := by
    have := Int.tmod_lt_of_pos (-x) hd
    rw [Int.neg_tmod] at this
    omega
  exact ⟨h2, h1⟩
theorem soX_in (l : Nat) (z : Nat → Int) (i : Nat) : -68719476736 < soX l z i ∧ soX l z i < 68719476736 := by
  unfold soX
  split
  · exact tmod_in _ (by decide)
  · omega
theorem soN_in (m : Nat) (K : Nat → Nat) (Z : Nat → Nat → Int) (a b : Nat) : -1073741824 < soN m K Z a b ∧ soN m K Z a b < 1073741824 := by
  unfold soN
  split
  · exact tmod_in _ (by decide)
  · omega
theorem soP_in (m : Nat) (K : Nat → Nat) (Z : Nat → Nat → Int) (i j : Nat) : -1073741824 < soP m K Z i j ∧ soP m K Z i j < 69793218560 := by
  unfold soP
  split
  · have := soN_in m K Z i i
    split <;> omega
  · have := soN_in m K Z (max i j) (min i j)
    omega
theorem so_may (l m : Nat) (z : Nat → Int) (K : Nat → Nat) (Z : Nat → Nat → Int) : MayV (soX l z) (soP m K Z) := fun i _ => by
  have h1 := soX_in l z i
  have h2 := soN_in m K Z i i
  refine ⟨⟨by omega, by omega⟩, ?_, fun j _ => ?_⟩
  · unfold soP
    rw [if_pos rfl]
    split <;> omega
  · have h3 := soP_in m K Z i j
    refine ⟨⟨by omega, by omega⟩, ?_⟩
    by_cases e : i = j
    · subst e; rfl
    · unfold soP
      rw [if_neg e, if_neg (fun q => e q.symm), Nat.max_comm, Nat.min_comm]
end Pd
end Go.Proofs.Ytoglokgkgonmdaa
