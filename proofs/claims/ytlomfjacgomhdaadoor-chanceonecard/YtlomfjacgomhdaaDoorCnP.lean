/-
  Chances (layer 14), plain: which are chances, which weights may be, what comes of a change.
-/
import Derived.Test.YtlomfjacgomhdaaDoorCnV
set_option linter.unusedSimpArgs false
set_option linter.unusedVariables false
namespace Go.Proofs.YtlomfjacgomhdaaDoor
namespace Cn
/-- Chances, none below a floor that may be. -/
structure Ch (n : Nat) (z : Nat → Int) (fl : Int) : Prop where
  one : 1 ≤ n
  four : n ≤ 4
  lo : 0 ≤ fl
  hi : fl ≤ 67108864
  each : ∀ k, k < n → fl ≤ z k
  sum : tot z n = 1073741824
/-- Weights that may be. -/
structure MayW (n : Nat) (z : Nat → Int) (fl : Int) : Prop where
  one : 1 ≤ n
  four : n ≤ 4
  lo : 0 ≤ fl
  hi : fl ≤ 67108864
  each : ∀ k, k < n → 0 ≤ z k ∧ z k ≤ 4611686018427387903
/-- A change that may be: as many rows, each of as many chances. -/
structure MayX (n : Nat) (z : Nat → Int) (m : Nat) (L : Nat → Nat) (R : Nat → Nat → Int) : Prop where
  ch : Ch n z 0
  rows : m = n
  row : ∀ i, i < n → L i = n ∧ Ch n (R i) 0
/-- What comes to each. -/
def mxw (n : Nat) (z : Nat → Int) (R : Nat → Nat → Int) (j : Nat) : Int := tot (fun i => z i * R i j) n
theorem tot_up' {a : Nat → Int} : ∀ {n k : Nat}, (∀ j, j < n → 0 ≤ a j) → k ≤ n → tot a k ≤ tot a n
  | 0, k, _, h => by (obtain rfl : k = 0 := by omega); exact Int.le_refl _
  | n + 1, k, h0, h => by
    by_cases e : k = n + 1
    · rw [e]; exact Int.le_refl _
    · have h1 := tot_up' (n := n) (k := k) (fun j hj => h0 j (by omega)) (by omega)
      have h2 := h0 n (by omega)
      show tot a k ≤ tot a n + a n; omega
theorem Ch.le {n : Nat} {z : Nat → Int} {fl : Int} (h : Ch n z fl) {k : Nat} (hk : k ≤ n) : tot z k ≤ 1073741824 := by
  have := tot_up' (a := z) (n := n) (k := k) (fun j hj => Int.le_trans h.lo (h.each j hj)) hk
  rw [h.sum] at this; exact this
theorem Ch.nn {n : Nat} {z : Nat → Int} {fl : Int} (h : Ch n z fl) {k : Nat} (hk : k < n) : 0 ≤ z k ∧ z k ≤ 1073741824 := by
  have h1 := h.each k hk
  have h2 := h.lo
  have h3 := tot_le_each (a := z) (n := n) (fun j hj => Int.le_trans h.lo (h.each j hj)) hk
  rw [h.sum] at h3; omega
theorem mul_four {fl : Int} {n : Nat} (h0 : 0 ≤ fl) (h1 : fl ≤ 67108864) (hn : n ≤ 4) : 0 ≤ fl * (n : Int) ∧ fl * (n : Int) ≤ 268435456 := by
  rcases (by omega : n = 0 ∨ n = 1 ∨ n = 2 ∨ n = 3 ∨ n = 4) with rfl | rfl | rfl | rfl | rfl <;> omega
theorem tot_swap (f : Nat → Nat → Int) (n : Nat) : ∀ m, tot (fun j => tot (fun i => f i j) n) m = tot (fun i => tot (fun j => f i j) m) n
  | 0 => by
    show (0 : Int) = tot (fun i => 0) n
    rw [tot_const, Int.zero_mul]
  | m + 1 => by
    show tot (fun j => tot (fun i => f i j) n) m + tot (fun i => f i m) n = tot (fun i => tot (fun j => f i j) m + f i m) n
    rw [tot_swap f n m, tot_add (fun i => tot (fun j => f i j) m) (fun i => f i m)]
theorem tot_mulr (c : Int) (a : Nat → Int) : ∀ n, tot (fun k => a k * c) n = tot a n * c
  | 0 => (Int.zero_mul c).symm
  | n + 1 => by show tot (fun k => a k * c) n + a n * c = (tot a n + a n) * c; rw [tot_mulr c a n, Int.add_mul]
section
variable {n m : Nat} {z : Nat → Int} {L : Nat → Nat} {R : Nat → Nat → Int} (h : MayX n z m L R)
include h
theorem mxw_nn {j : Nat} (hj : j < n) : 0 ≤ mxw n z R j := tot_nn fun i hi => Int.mul_nonneg (h.ch.nn hi).1 ((h.row i hi).2.nn hj).1
/-- All that comes sums to the whole by the whole. -/
theorem mxw_tot : tot (mxw n z R) n = 1152921504606846976 := by
  show tot (fun j => tot (fun i => z i * R i j) n) n = _
  rw [tot_swap (fun i j => z i * R i j) n n]
  rw [tot_congr (b := fun i => z i * 1073741824) (fun i hi => by
    show tot (fun j => z i * R i j) n = _
    rw [tot_mul (z i) (R i) n, (h.row i hi).2.sum])]
  rw [tot_mulr, h.ch.sum]; rfl
theorem mxw_le {j : Nat} (hj : j < n) : mxw n z R j ≤ 1152921504606846976 := by
  have := tot_le_each (a := mxw n z R) (n := n) (fun k hk => mxw_nn h hk) hj
  rw [mxw_tot h] at this; exact this
/-- What has come by the first rows. -/
theorem mxp_in {i j : Nat} (hi : i ≤ n) (hj : j < n) : 0 ≤ tot (fun i => z i * R i j) i ∧ tot (fun i => z i * R i j) i ≤ 1152921504606846976 := by
  have h0 : ∀ k, k < n → 0 ≤ z k * R k j := fun k hk => Int.mul_nonneg (h.ch.nn hk).1 ((h.row k hk).2.nn hj).1
  exact ⟨tot_nn fun k hk => h0 k (by omega), Int.le_trans (tot_up' h0 hi) (mxw_le h hj)⟩
end
end Cn
end Go.Proofs.YtlomfjacgomhdaaDoor
