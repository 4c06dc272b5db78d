/-
  The document's answer of layer 8 (radomeref08): May, Eye, Turn, Alike, Apply, Mul.
-/
import Derived.Test.YtbdcbobmfkdalaaM4
import Derived.Test.YtbdcbobmfkdalaaM8
import Derived.Deep.RegionHeld3
import Derived.Test.YtbdcbobmfkdalaaM2
import Derived.Test.YtbdcbobmfkdalaaM6
import Derived.BigQuiet
import Derived.Deep.CutRange
import Derived.Deep.DeepCutAuto
set_option linter.unusedSimpArgs false
set_option linter.unusedVariables false
namespace Go.Proofs.Ytbdcbobmfkdalaa
open Go.RowKit Vc Mt Dt

set_option maxRecDepth 10000 in
set_option maxHeartbeats 1000000 in
theorem rmay_yes (n m cm : Nat) (lo : Option Addr) (A : Nat → Option Addr) (C : Nat → Nat) (w : World) (h : Sls w lo n cm A (fun _ => m) C) (h1 : 1 ≤ n) (h2 : n ≤ 6) (h3 : 1 ≤ m) (h4 : m ≤ 6) :
    Calls Try.prog 18 #[.slice lo n cm] w fun e w' => e = .returned (.bool true) ∧ Below w.heap.size w w' := by
  obtain ⟨x, hlo, hcl⟩ := h.get
  obtain rfl := hlo (by omega)
  have c0 : w.cell? x = some (.slice (A 0) m (C 0)) := hcl 0 (by omega)
  have l1 := h.le
  have l2 := h.cap
  have HC := Hid.mkV hcl
  have e1 : decide ((n : Int) < 1) = false := decide_eq_false (by omega)
  have e2 : decide ((n : Int) > 6) = false := decide_eq_false (by omega)
  have e3 : decide ((m : Int) < 1) = false := decide_eq_false (by omega)
  have e4 : decide ((m : Int) > 6) = false := decide_eq_false (by omega)
  clear h hlo hcl
  go_enter Try.func18, Try.ntmps18
  go_wp2
  go_loopw [3] (fun i wr => ∃ k : Nat, k ≤ n ∧ i = .int .i64 (k : Int) ∧ Below w.heap.size w wr) (fun i _ => n - (intOf i).toNat)
  case atStart => exact ⟨0, by omega, rfl, Below.refl _ _⟩
  case round =>
    obtain ⟨k, hk, rfl, hbel⟩ := hrel
    by_cases h : k < n
    · have c1 := keep_cell hbel (HC.out k h)
      have c0' := keep_cell hbel c0
      go_wp2
      go_quiet (fail)
      go_wp2
      go_roundw
      case rel => exact ⟨k + 1, by omega, by go_num, Vc.below_drewN hbel _⟩
      case measure => simp [intOf]; omega
    · obtain rfl : k = n := by omega
      go_wp2
      go_ret
      exact ⟨rfl, hbel⟩

set_option maxRecDepth 10000 in
set_option maxHeartbeats 1000000 in
theorem rmay_rows (n cm : Nat) (lo : Option Addr) (w : World) (hn : n ≤ 9223372036854775807) (h : n < 1 ∨ 6 < n) :
    Calls Try.prog 18 #[.slice lo n cm] w fun e w' => e = .returned (.bool false) ∧ Below w.heap.size w w' := by
  by_cases h0 : n < 1
  · have e1 : decide ((n : Int) < 1) = true := decide_eq_true (by omega)
    go_enter Try.func18, Try.ntmps18
    go_wp2
    go_ret
    exact ⟨rfl, Below.refl _ _⟩
  · have e1 : decide ((n : Int) < 1) = false := decide_eq_false (by omega)
    have e2 : decide ((n : Int) > 6) = true := decide_eq_true (by omega)
    clear h h0
    go_enter Try.func18, Try.ntmps18
    go_wp2
    go_ret
    exact ⟨rfl, Below.refl _ _⟩

set_option maxRecDepth 10000 in
set_option maxHeartbeats 1000000 in
theorem rmay_cols (n cm : Nat) (lo : Option Addr) (A : Nat → Option Addr) (L C : Nat → Nat) (w : World) (h : Sls w lo n cm A L C) (h1 : 1 ≤ n) (h2 : n ≤ 6) (hL : L 0 ≤ 9223372036854775807) (hb : L 0 < 1 ∨ 6 < L 0) :
    Calls Try.prog 18 #[.slice lo n cm] w fun e w' => e = .returned (.bool false) ∧ Below w.heap.size w w' := by
  obtain ⟨x, hlo, hcl⟩ := h.get
  obtain rfl := hlo (by omega)
  have c0 : w.cell? x = some (.slice (A 0) (L 0) (C 0)) := hcl 0 (by omega)
  have l1 := h.le
  have l2 := h.cap
  have e1 : decide ((n : Int) < 1) = false := decide_eq_false (by omega)
  have e2 : decide ((n : Int) > 6) = false := decide_eq_false (by omega)
  obtain ⟨m, hm⟩ : ∃ m, m = L 0 := ⟨_, rfl⟩
  rw [← hm] at c0 hL hb
  clear h hlo hcl hm
  by_cases h0 : m < 1
  · have e3 : decide ((m : Int) < 1) = true := decide_eq_true (by omega)
    clear h0 hb
    go_enter Try.func18, Try.ntmps18
    go_wp2
    go_ret
    exact ⟨rfl, Below.refl _ _⟩
  · have e3 : decide ((m : Int) < 1) = false := decide_eq_false (by omega)
    have e4 : decide ((m : Int) > 6) = true := decide_eq_true (by omega)
    clear h0 hb
    go_enter Try.func18, Try.ntmps18
    go_wp2
    go_ret
    exact ⟨rfl, Below.refl _ _⟩

set_option maxRecDepth 10000 in
set_option maxHeartbeats 1000000 in
theorem rmay_other (n cm q : Nat) (lo : Option Addr) (A : Nat → Option Addr) (L C : Nat → Nat) (w : World) (h : Sls w lo n cm A L C) (h1 : 1 ≤ n) (h2 : n ≤ 6) (h3 : 1 ≤ L 0) (h4 : L 0 ≤ 6) (hl : ∀ k, k < n → L k ≤ 9223372036854775807) (hq : q < n) (hbad : L q ≠ L 0) (hok : ∀ k, k < q → L k = L 0) :
    Calls Try.prog 18 #[.slice lo n cm] w fun e w' => e = .returned (.bool false) ∧ Below w.heap.size w w' := by
  obtain ⟨x, hlo, hcl⟩ := h.get
  obtain rfl := hlo (by omega)
  have c0 : w.cell? x = some (.slice (A 0) (L 0) (C 0)) := hcl 0 (by omega)
  have l1 := h.le
  have l2 := h.cap
  have HC := Hid.mkV hcl
  have HL := Hid.mkV hl
  have HBAD := Hid.mkV hbad
  have HOK := Hid.mkV hok
  obtain ⟨m, hm⟩ : ∃ m, m = L 0 := ⟨_, rfl⟩
  rw [← hm] at c0 h3 h4
  have HN := Hid.mkV hm
  have e1 : decide ((n : Int) < 1) = false := decide_eq_false (by omega)
  have e2 : decide ((n : Int) > 6) = false := decide_eq_false (by omega)
  have e3 : decide ((m : Int) < 1) = false := decide_eq_false (by omega)
  have e4 : decide ((m : Int) > 6) = false := decide_eq_false (by omega)
  clear h hlo hcl hm hl hbad hok
  go_enter Try.func18, Try.ntmps18
  go_wp2
  go_loopw [3] (fun i wr => ∃ k : Nat, k ≤ q ∧ i = .int .i64 (k : Int) ∧ Below w.heap.size w wr) (fun i _ => n - (intOf i).toNat)
  case atStart => exact ⟨0, by omega, rfl, Below.refl _ _⟩
  case round =>
    obtain ⟨k, hk, rfl, hbel⟩ := hrel
    have h : k < n := by omega
    have c1 := keep_cell hbel (HC.out k h)
    have c0' := keep_cell hbel c0
    have b1 := HL.out k h
    by_cases hkq : k = q
    · have hh := HBAD.out
      rw [← HN.out, ← hkq] at hh
      obtain ⟨l, hl⟩ : ∃ l, l = L k := ⟨_, rfl⟩
      rw [← hl] at c1 b1 hh
      have e4 : (((l : Nat) : Int) != ((m : Nat) : Int)) = true := by rw [bne_iff_ne]; omega
      clear hl hkq hh
      go_wp2
      go_quiet (fail)
      go_wp2
      go_ret
      exact ⟨rfl, Vc.below_drewN hbel _⟩
    · have hh := HOK.out k (by omega)
      rw [hh, ← HN.out] at c1
      clear hh
      go_wp2
      go_quiet (fail)
      go_wp2
      go_roundw
      case rel => exact ⟨k + 1, by omega, by go_num, Vc.below_drewN hbel _⟩
      case measure => simp [intOf]; omega






end Go.Proofs.Ytbdcbobmfkdalaa

/-
  The document's answer of layer 12 (radomeref12): In, Six, May.
-/
set_option linter.unusedSimpArgs false
set_option linter.unusedVariables false
namespace Go.Proofs.Ytbdcbobmfkdalaa
open Go.RowKit Vc St Mt Dt
attribute [local go_sem ↓] Go.wp_at_zero Go.wp_at_succ

open Pr

set_option maxRecDepth 10000 in
set_option maxHeartbeats 1000000 in
/-- Rows that are no matrix. -/
theorem rsix12_not (n cm : Nat) (lo : Option Addr) (w : World) (h : Calls Try.prog 18 #[.slice lo n cm] w fun e w' => e = .returned (.bool false) ∧ Below w.heap.size w w') :
    Calls Try.prog 9 #[.slice lo n cm] w fun e w' => e = .returned (.bool false) ∧ Below w.heap.size w w' := by
  have H := Hid.mkQ h
  clear h
  go_enter Try.func9, Try.ntmps9
  go_wp2_with fail
  refine H.out.mono ?_
  rintro e w1 ⟨rfl, k1⟩
  go_wp2
  go_ret
  exact ⟨rfl, k1⟩

set_option maxRecDepth 10000 in
set_option maxHeartbeats 1000000 in
/-- Rows that are a matrix. -/
theorem rsix12_grid (n m cm : Nat) (lo : Option Addr) (F : Nat → Nat → Int) (w : World) (h1 : 1 ≤ n) (h2 : n ≤ 6) (h3 : 1 ≤ m) (h4 : m ≤ 6) (hF : Grid w lo n cm m F) :
    Calls Try.prog 9 #[.slice lo n cm] w fun e w' => e = .returned (.bool (decide (n = 6 ∧ m = 6))) ∧ Below w.heap.size w w' := by
  obtain ⟨A, C, hS, hR⟩ := hF
  have H := Hid.mkQ (rmay_yes n m cm lo A C w hS h1 h2 h3 h4)
  have HS := Hid.mkQ hS
  clear hS hR
  by_cases e6 : n = 6
  · subst e6
    by_cases m6 : m = 6
    · subst m6
      have e0 : decide ((6 : Nat) = 6 ∧ (6 : Nat) = 6) = true := by decide
      rw [e0]
      go_enter Try.func9, Try.ntmps9
      go_wp2_with fail
      refine H.out.mono ?_
      rintro e w1 ⟨rfl, k1⟩
      obtain ⟨x, hlo, hcl⟩ := (HS.out.keep k1).get
      obtain rfl := hlo (by omega)
      have c0 : w1.cell? x = some (.slice (A 0) 6 (C 0)) := hcl 0 (by omega)
      clear hcl hlo
      go_wp2
      go_ret
      exact ⟨rfl, k1⟩
    · have e0 : decide ((6 : Nat) = 6 ∧ m = 6) = false := decide_eq_false (fun h => m6 h.2)
      have e1 : ((m : Int) == 6) = false := by rw [beq_eq_false_iff_ne]; omega
      have e2 : decide ((m : Int) = 6) = false := decide_eq_false (by omega)
      rw [e0]
      go_enter Try.func9, Try.ntmps9
      go_wp2_with fail
      refine H.out.mono ?_
      rintro e w1 ⟨rfl, k1⟩
      obtain ⟨x, hlo, hcl⟩ := (HS.out.keep k1).get
      obtain rfl := hlo (by omega)
      have c0 : w1.cell? x = some (.slice (A 0) m (C 0)) := hcl 0 (by omega)
      clear hcl hlo
      go_wp2
      go_ret
      exact ⟨rfl, k1⟩
  · have e0 : decide (n = 6 ∧ m = 6) = false := decide_eq_false (fun h => e6 h.1)
    have e1 : ((n : Int) == 6) = false := by rw [beq_eq_false_iff_ne]; omega
    have e2 : decide ((n : Int) = 6) = false := decide_eq_false (by omega)
    rw [e0]
    go_enter Try.func9, Try.ntmps9
    go_wp2_with fail
    refine H.out.mono ?_
    rintro e w1 ⟨rfl, k1⟩
    go_wp2
    go_ret
    exact ⟨rfl, k1⟩

end Go.Proofs.Ytbdcbobmfkdalaa

/-
  The document's answer of layer 8 (radomeref08): Add, less or not; Outer; Even. (By py/MtS.py.)
-/
set_option linter.unusedSimpArgs false
set_option linter.unusedVariables false
namespace Go.Proofs.Ytbdcbobmfkdalaa
open Go.RowKit Vc Mt Dt





end Go.Proofs.Ytbdcbobmfkdalaa

/-
  The document's answer of layer 8 (radomeref08): Even, its rows the call's own.
-/
set_option linter.unusedSimpArgs false
set_option linter.unusedVariables false
namespace Go.Proofs.Ytbdcbobmfkdalaa
open Go.RowKit Vc Mt Dt

end Go.Proofs.Ytbdcbobmfkdalaa

/-
  The document's answer of layer 12 (radomeref12): Six, In, Next.
-/
set_option linter.unusedSimpArgs false
set_option linter.unusedVariables false
namespace Go.Proofs.Ytbdcbobmfkdalaa
open Go.RowKit Vc St Mt Dt
attribute [local go_sem ↓] Go.wp_at_zero Go.wp_at_succ

namespace Pr
theorem Hid.mkP {p : Prop} (h : p) : Hid p := h
theorem isRs : Is 32 2 := ⟨by kernel_rfl, ⟨_, Try.underlying32, rfl⟩⟩
/-- A state after a step F, with the noise Q: number by number. -/
def nX (F : Nat → Nat → Int) (X : Nat → Int) : Nat → Int := fun i => Qn.clamp (Qn.rne (dk (F i) X 6) (2 ^ 20))
def nY (F P : Nat → Nat → Int) : Nat → Nat → Int := fun i j => Qn.clamp (Qn.rne (dk (fun k => P k j) (F i) 6) (2 ^ 20))
def nZ (F P : Nat → Nat → Int) : Nat → Nat → Int := fun i j => Qn.clamp (Qn.rne (dk (fun k => F j k) (nY F P i) 6) (2 ^ 20))
def nW (F P Q : Nat → Nat → Int) : Nat → Nat → Int := fun i j => Qn.clamp (nZ F P i j + Q i j)
def nE (F P Q : Nat → Nat → Int) : Nat → Nat → Int := fun i j => Qn.clamp (Qn.rne (nW F P Q i j + nW F P Q j i) (2 ^ 1))
def nP (F P Q : Nat → Nat → Int) : Nat → Nat → Int := fun i j => if i = j ∧ nE F P Q i j < 0 then 0 else nE F P Q i j
def oX (F : Nat → Nat → Int) (X : Nat → Int) : Bool := anyb (fun i => Qn.great (Qn.rne (dk (F i) X 6) (2 ^ 20))) 6
def oY (F P : Nat → Nat → Int) : Bool := any2 (fun i j => Qn.great (Qn.rne (dk (fun k => P k j) (F i) 6) (2 ^ 20))) 6 6
def oZ (F P : Nat → Nat → Int) : Bool := any2 (fun i j => Qn.great (Qn.rne (dk (fun k => F j k) (nY F P i) 6) (2 ^ 20))) 6 6
def oW (F P Q : Nat → Nat → Int) : Bool := any2 (fun i j => Qn.great (nZ F P i j + Q i j)) 6 6
def oE (F P Q : Nat → Nat → Int) : Bool := any2 (fun i j => Qn.great (Qn.rne (nW F P Q i j + nW F P Q j i) (2 ^ 1))) 6 6
def oP (F : Nat → Nat → Int) (X : Nat → Int) (P Q : Nat → Nat → Int) : Bool := oX F X || oY F P || oZ F P || oW F P Q || oE F P Q
theorem cl_b2 (R : Nat → Nat → Int) : B2 (fun i j => Qn.clamp (R i j)) := fun i j => by show _ ≤ Qn.clamp (R i j) ∧ Qn.clamp (R i j) ≤ _; unfold Qn.clamp; constructor <;> (repeat' split) <;> omega
/-- The first k of the diagonal are not below 0. -/
def nD (E : Nat → Nat → Int) (k : Nat) : Nat → Nat → Int := fun i j => if i = j ∧ i < k ∧ E i j < 0 then 0 else E i j
theorem nD_zero (E : Nat → Nat → Int) (i j : Nat) : E i j = nD E 0 i j := by unfold nD; rw [if_neg (by omega)]
theorem nD_skip (E : Nat → Nat → Int) (k : Nat) (h : ¬ E k k < 0) (i j : Nat) : nD E k i j = nD E (k + 1) i j := by
  unfold nD
  by_cases e : i = j ∧ i < k ∧ E i j < 0
  · rw [if_pos e, if_pos ⟨e.1, by omega, e.2.2⟩]
  · rw [if_neg e, if_neg]
    rintro ⟨a, b, c⟩
    by_cases q : i = k
    · subst q; subst a; exact h c
    · exact e ⟨a, by omega, c⟩
theorem nD_put (E : Nat → Nat → Int) (k : Nat) (h : E k k < 0) (i j : Nat) : put2 (nD E k) k k 0 i j = nD E (k + 1) i j := by
  unfold put2 nD
  by_cases q : i = k ∧ j = k
  · obtain ⟨rfl, rfl⟩ := q
    rw [if_pos ⟨rfl, rfl⟩, if_pos ⟨rfl, by omega, h⟩]
  · rw [if_neg q]
    by_cases e : i = j ∧ i < k ∧ E i j < 0
    · rw [if_pos e, if_pos ⟨e.1, by omega, e.2.2⟩]
    · rw [if_neg e, if_neg]
      rintro ⟨a, b, c⟩
      exact e ⟨a, by omega, c⟩
theorem nD_at (E : Nat → Nat → Int) (k : Nat) : nD E k k k = E k k := by unfold nD; rw [if_neg (by omega)]
theorem nD_end (E : Nat → Nat → Int) {i : Nat} (j : Nat) (hi : i < 6) : nD E 6 i j = if i = j ∧ E i j < 0 then 0 else E i j := by
  unfold nD
  by_cases e : i = j ∧ E i j < 0
  · rw [if_pos ⟨e.1, hi, e.2⟩, if_pos e]
  · rw [if_neg (fun q => e ⟨q.1, q.2.2⟩), if_neg e]
end Pr
open Pr

end Go.Proofs.Ytbdcbobmfkdalaa

/-
  The plain part of layer 12's laws: a state after a step may be; a step of ones changes nothing; more noise is never less spread; a state of small numbers.
-/
set_option linter.unusedSimpArgs false
set_option linter.unusedVariables false
namespace Go.Proofs.Ytbdcbobmfkdalaa
open Vc Mt Dt Pr Qn
namespace Pd

theorem rne_up {a b d : Int} (hd : 0 < d) (h : a ≤ b) : rne a d ≤ rne b d := by
  have e1 := Int.mul_ediv_add_emod a d
  have e2 := Int.mul_ediv_add_emod b d
  have h1 := Int.emod_nonneg a (by omega : d ≠ 0)
  have h2 := Int.emod_lt_of_pos a hd
  have h3 := Int.emod_nonneg b (by omega : d ≠ 0)
  have h4 := Int.emod_lt_of_pos b hd
  have h5 : a / d ≤ b / d := Int.ediv_le_ediv hd h
  rcases Int.lt_or_le (a / d) (b / d) with h6 | h6
  · unfold rne; split <;> split <;> omega
  · have h7 : a / d = b / d := by omega
    rw [h7] at e1
    unfold rne
    rw [h7]
    split <;> split <;> omega
theorem clamp_up {a b : Int} (h : a ≤ b) : clamp a ≤ clamp b := by
  unfold clamp; (repeat' split) <;> omega
theorem clamp_inV (n : Int) : InV (clamp n) := by unfold InV clamp; split <;> (try split) <;> omega
theorem clamp_id {n : Int} (h : InV n) : clamp n = n := clamp_in (great_iff.2 h)
theorem great_id {n : Int} (h : InV n) : great n = false := great_iff.2 h

theorem nE_even (F P Q : Nat → Nat → Int) (i j : Nat) : nE F P Q i j = nE F P Q j i := by unfold nE; rw [Int.add_comm]
theorem nP_even (F P Q : Nat → Nat → Int) (i j : Nat) : nP F P Q i j = nP F P Q j i := by
  by_cases e : i = j
  · subst e; rfl
  · unfold nP
    rw [if_neg (fun h => e h.1), if_neg (fun h => e h.1.symm), nE_even]
theorem nP_in (F P Q : Nat → Nat → Int) (i j : Nat) : InV (nP F P Q i j) := by
  unfold nP
  split
  · exact ⟨by omega, by omega⟩
  · exact clamp_inV _
theorem nP_nn (F P Q : Nat → Nat → Int) (i : Nat) : 0 ≤ nP F P Q i i := by
  unfold nP
  by_cases h : nE F P Q i i < 0
  · rw [if_pos ⟨rfl, h⟩]; omega
  · rw [if_neg (fun q => h q.2)]; omega
/-- A state after a step may be. -/
theorem next_may (F : Nat → Nat → Int) (X : Nat → Int) (P Q : Nat → Nat → Int) : MayV (nX F X) (nP F P Q) :=
  fun i _ => ⟨clamp_inV _, nP_nn F P Q i, fun j _ => ⟨nP_in F P Q i j, nP_even F P Q i j⟩⟩
/-- More noise on the diagonal is never less spread there. -/
theorem nP_more (F P : Nat → Nat → Int) {Q Q' : Nat → Nat → Int} {i : Nat} (h : Q i i ≤ Q' i i) : nP F P Q i i ≤ nP F P Q' i i := by
  have h1 : nW F P Q i i ≤ nW F P Q' i i := clamp_up (by omega)
  have h2 : nE F P Q i i ≤ nE F P Q' i i := clamp_up (rne_up (by decide) (by omega))
  unfold nP
  by_cases a : nE F P Q i i < 0
  · rw [if_pos ⟨rfl, a⟩]
    by_cases b : nE F P Q' i i < 0
    · rw [if_pos ⟨rfl, b⟩]; omega
    · rw [if_neg (fun q => b q.2)]; omega
  · rw [if_neg (fun q => a q.2), if_neg (fun q => by have := q.2; omega)]; exact h2

theorem dk_eye (X : Nat → Int) {i : Nat} (hi : i < 6) : dk (eyeF i) X 6 = X i * 2 ^ 20 := by
  match i, hi with
  | 0, _ => simp [dk, eyeF]; omega
  | 1, _ => simp [dk, eyeF]; omega
  | 2, _ => simp [dk, eyeF]; omega
  | 3, _ => simp [dk, eyeF]; omega
  | 4, _ => simp [dk, eyeF]; omega
  | 5, _ => simp [dk, eyeF]; omega
theorem rne_eye (x : Int) : rne (x * 2 ^ 20) (2 ^ 20) = x := rne_mul x (2 ^ 20) (by decide)
def noQ : Nat → Nat → Int := fun _ _ => 0
section
variable {X : Nat → Int} {P : Nat → Nat → Int} (h : MayV X P) {i j : Nat} (hi : i < 6) (hj : j < 6)
include h hi
theorem eye_nX : nX eyeF X i = X i := by unfold nX; rw [dk_eye X hi, rne_eye]; exact clamp_id (h i hi).1
include hj
theorem eye_nY : nY eyeF P i j = P i j := by unfold nY; rw [dk_comm, dk_eye (fun k => P k j) hi, rne_eye]; exact clamp_id ((h i hi).2.2 j hj).1
theorem eye_nZ : nZ eyeF P i j = P i j := by
  unfold nZ
  rw [dk_eye (nY eyeF P i) hj, rne_eye, eye_nY h hi hj]; exact clamp_id ((h i hi).2.2 j hj).1
theorem eye_nW : nW eyeF P noQ i j = P i j := by
  unfold nW noQ
  rw [eye_nZ h hi hj, Int.add_zero]; exact clamp_id ((h i hi).2.2 j hj).1
theorem eye_two : rne (nW eyeF P noQ i j + nW eyeF P noQ j i) (2 ^ 1) = P i j := by
  rw [eye_nW h hi hj, eye_nW h hj hi, ← ((h i hi).2.2 j hj).2, show P i j + P i j = P i j * 2 by omega, show (2 : Int) ^ 1 = 2 from rfl]
  exact rne_mul _ 2 (by decide)
theorem eye_nE : nE eyeF P noQ i j = P i j := by
  unfold nE
  rw [eye_two h hi hj]; exact clamp_id ((h i hi).2.2 j hj).1
theorem eye_nP : nP eyeF P noQ i j = P i j := by
  unfold nP
  rw [eye_nE h hi hj]
  refine if_neg ?_
  rintro ⟨rfl, k⟩
  have := (h i hi).2.1
  omega
end
theorem eye_oP {X : Nat → Int} {P : Nat → Nat → Int} (h : MayV X P) : oP eyeF X P noQ = false := by
  have h1 : oX eyeF X = false := anyb_false.2 fun i hi => by
    show great (rne (dk (eyeF i) X 6) (2 ^ 20)) = false
    rw [dk_eye X hi, rne_eye]; exact great_id (h i hi).1
  have h2 : oY eyeF P = false := any2_false.2 fun i j hi hj => by
    show great (rne (dk (fun k => P k j) (eyeF i) 6) (2 ^ 20)) = false
    rw [dk_comm, dk_eye (fun k => P k j) hi, rne_eye]; exact great_id ((h i hi).2.2 j hj).1
  have h3 : oZ eyeF P = false := any2_false.2 fun i j hi hj => by
    show great (rne (dk (eyeF j) (nY eyeF P i) 6) (2 ^ 20)) = false
    rw [dk_eye _ hj, rne_eye, eye_nY h hi hj]; exact great_id ((h i hi).2.2 j hj).1
  have h4 : oW eyeF P noQ = false := any2_false.2 fun i j hi hj => by
    show great (nZ eyeF P i j + 0) = false
    rw [Int.add_zero, eye_nZ h hi hj]; exact great_id ((h i hi).2.2 j hj).1
  have h5 : oE eyeF P noQ = false := any2_false.2 fun i j hi hj => by
    show great (rne (nW eyeF P noQ i j + nW eyeF P noQ j i) (2 ^ 1)) = false
    rw [eye_two h hi hj]; exact great_id ((h i hi).2.2 j hj).1
  unfold oP
  rw [h1, h2, h3, h4, h5]; rfl

/-- A state of small numbers: of the numbers z (l of them) and the rows Z (m of them, K r long). -/
def soX (l : Nat) (z : Nat → Int) : Nat → Int := fun i => if i < l then (z i).tmod 68719476736 else 0
def soN (m : Nat) (K : Nat → Nat) (Z : Nat → Nat → Int) : Nat → Nat → Int := fun a b => if a < m ∧ b < K a then (Z a b).tmod 1073741824 else 0
def soP (m : Nat) (K : Nat → Nat) (Z : Nat → Nat → Int) : Nat → Nat → Int := fun i j => if i = j then (if soN m K Z i i < 0 then -soN m K Z i i else soN m K Z i i) + 68719476736 else soN m K Z (max i j) (min i j)
theorem tmod_in (x : Int) {d : Int} (hd : 0 < d) : -d < x.tmod d ∧ x.tmod d < d := by
  have h1 := Int.tmod_lt_of_pos x hd
  have h2 : -d < x.tmod d := by
    have := Int.tmod_lt_of_pos (-x) hd
    rw [Int.neg_tmod] at this
    omega
  exact ⟨h2, h1⟩
theorem soX_in (l : Nat) (z : Nat → Int) (i : Nat) : -68719476736 < soX l z i ∧ soX l z i < 68719476736 := by
  unfold soX
  split
  · exact tmod_in _ (by decide)
  · omega
theorem soN_in (m : Nat) (K : Nat → Nat) (Z : Nat → Nat → Int) (a b : Nat) : -1073741824 < soN m K Z a b ∧ soN m K Z a b < 1073741824 := by
  unfold soN
  split
  · exact tmod_in _ (by decide)
  · omega
theorem soP_in (m : Nat) (K : Nat → Nat) (Z : Nat → Nat → Int) (i j : Nat) : -1073741824 < soP m K Z i j ∧ soP m K Z i j < 69793218560 := by
  unfold soP
  split
  · have := soN_in m K Z i i
    split <;> omega
  · have := soN_in m K Z (max i j) (min i j)
    omega
theorem so_may (l m : Nat) (z : Nat → Int) (K : Nat → Nat) (Z : Nat → Nat → Int) : MayV (soX l z) (soP m K Z) := fun i _ => by
  have h1 := soX_in l z i
  have h2 := soN_in m K Z i i
  refine ⟨⟨by omega, by omega⟩, ?_, fun j _ => ?_⟩
  · unfold soP
    rw [if_pos rfl]
    split <;> omega
  · have h3 := soP_in m K Z i j
    refine ⟨⟨by omega, by omega⟩, ?_⟩
    by_cases e : i = j
    · subst e; rfl
    · unfold soP
      rw [if_neg e, if_neg (fun q => e q.symm), Nat.max_comm, Nat.min_comm]
end Pd
end Go.Proofs.Ytbdcbobmfkdalaa
