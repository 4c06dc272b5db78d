/-
  Plain facts on decimal digits, going on: multiplying, digit by digit. No program is named here.
-/
import Derived.Test.YtmijmfdamommaaaDoorMath
set_option linter.unusedSimpArgs false
set_option linter.unusedVariables false
namespace Go.Proofs.YtmijmfdamommaaaDoor
namespace Dec

theorem val_set : ∀ (l : List Nat) (p d : Nat), p < l.length → val (l.set p d) + 10 ^ p * l.getD p 0 = val l + 10 ^ p * d
  | [], _, _, h => by simp at h
  | a :: r, 0, d, _ => by simp [val]; omega
  | a :: r, p + 1, d, h => by
    have ih := val_set r p d (by simpa using h)
    simp only [List.set_cons_succ, val_cons, List.getD_cons_succ, Nat.pow_succ]
    have e1 : 10 ^ p * 10 * r.getD p 0 = 10 * (10 ^ p * r.getD p 0) := by rw [Nat.mul_comm (10 ^ p) 10, Nat.mul_assoc]
    have e2 : 10 ^ p * 10 * d = 10 * (10 ^ p * d) := by rw [Nat.mul_comm (10 ^ p) 10, Nat.mul_assoc]
    rw [e1, e2]
    omega

theorem small_set {l : List Nat} (h : Small l) (p d : Nat) (hd : d < 10) : Small (l.set p d) := by
  intro i
  have := h i
  simp only [List.getD, List.getElem?_set] at *
  split
  · split
    · simpa using hd
    · simp
  · exact this

theorem val_replicate (n : Nat) : val (List.replicate n 0) = 0 := by
  induction n with
  | zero => rfl
  | succ n ih => rw [List.replicate_succ, val_cons, ih]

theorem small_replicate (n : Nat) : Small (List.replicate n 0) := by
  intro i
  simp only [List.getD, List.getElem?_replicate]
  split <;> simp

/-- In round i, behind j digits of y: what is laid, and what is carried. -/
def MulAt (x y : List Nat) (i j : Nat) (L : List Nat) (c : Nat) : Prop :=
  L.length = x.length + y.length + 1 ∧ Small L ∧ c ≤ 9 ∧ val L + 10 ^ (i + j) * c = val (x.take i) * val y + 10 ^ i * (x.getD i 0 * val (y.take j))

theorem mulAt_start (x y : List Nat) : MulAt x y 0 0 (List.replicate (x.length + y.length + 1) 0) 0 :=
  ⟨by simp, small_replicate _, by omega, by rw [val_replicate]; simp [val]⟩

theorem mulAt_step {x y L : List Nat} {i j c v : Nat} (h : MulAt x y i j L c) (hx : Small x) (hy : Small y) (hp : i + j < L.length) (hv : v = L.getD (i + j) 0 + c + x.getD i 0 * y.getD j 0) :
    MulAt x y i (j + 1) (L.set (i + j) (v % 10)) (v / 10) := by
  obtain ⟨h1, h2, h3, h4⟩ := h
  refine ⟨by simpa using h1, small_set h2 _ _ (by omega), ?_, ?_⟩
  · have a1 := h2 (i + j)
    have a2 : x.getD i 0 * y.getD j 0 ≤ 9 * 9 := Nat.mul_le_mul (by have := hx i; omega) (by have := hy j; omega)
    omega
  · have e := val_set L (i + j) (v % 10) hp
    rw [take_step]
    have e1 : 10 ^ (i + (j + 1)) * (v / 10) = 10 ^ (i + j) * (10 * (v / 10)) := by rw [← Nat.add_assoc, Nat.pow_succ, Nat.mul_assoc]
    have e2 : 10 ^ (i + j) * (v % 10) + 10 ^ (i + j) * (10 * (v / 10)) = 10 ^ (i + j) * v := by rw [← Nat.mul_add]; congr 1; omega
    have e3 : 10 ^ (i + j) * v = 10 ^ (i + j) * L.getD (i + j) 0 + 10 ^ (i + j) * c + 10 ^ (i + j) * (x.getD i 0 * y.getD j 0) := by rw [hv, Nat.mul_add, Nat.mul_add]
    have e4 : 10 ^ i * (x.getD i 0 * (val (y.take j) + 10 ^ j * y.getD j 0)) = 10 ^ i * (x.getD i 0 * val (y.take j)) + 10 ^ (i + j) * (x.getD i 0 * y.getD j 0) := by
      rw [Nat.mul_add, Nat.mul_add, Nat.pow_add]
      congr 1
      rw [Nat.mul_assoc, Nat.mul_left_comm (x.getD i 0)]
    rw [e1, e4]
    omega

theorem mulAt_next {x y L : List Nat} {i c : Nat} (h : MulAt x y i (y.length + 1) L c) (hx : Small x) (hy : Small y) : MulAt x y (i + 1) 0 L 0 := by
  obtain ⟨h1, h2, h3, h4⟩ := h
  rw [take_all (show y.length ≤ y.length + 1 by omega)] at h4
  have e : val (x.take i) * val y + 10 ^ i * (x.getD i 0 * val y) = val (x.take (i + 1)) * val y := by
    rw [take_step, Nat.add_mul, Nat.mul_assoc]
  rw [e] at h4
  have hlt : val (x.take (i + 1)) * val y < 10 ^ (i + (y.length + 1)) := by
    have a1 : val (x.take (i + 1)) < 10 ^ (i + 1) := by
      refine Nat.lt_of_lt_of_le (val_lt (small_take hx _)) (Nat.pow_le_pow_right (by omega) ?_)
      simp; omega
    have a2 := val_lt hy
    have a3 : 10 ^ (i + (y.length + 1)) = 10 ^ (i + 1) * 10 ^ y.length := by rw [← Nat.pow_add]; congr 1; omega
    rw [a3]
    rcases Nat.eq_zero_or_pos (val y) with hz | hz
    · rw [hz, Nat.mul_zero]; exact Nat.mul_pos (Nat.pow_pos (by omega)) (Nat.pow_pos (by omega))
    · exact Nat.lt_of_lt_of_le (Nat.mul_lt_mul_of_pos_right a1 hz) (Nat.mul_le_mul_left _ (by omega))
  have hc : c = 0 := by
    rcases Nat.eq_zero_or_pos c with hz | hz
    · exact hz
    · have : 10 ^ (i + (y.length + 1)) * 1 ≤ 10 ^ (i + (y.length + 1)) * c := Nat.mul_le_mul_left _ hz
      omega
  subst hc
  refine ⟨h1, h2, by omega, ?_⟩
  simp only [Nat.mul_zero, Nat.add_zero, List.take_zero, val_nil] at h4 ⊢
  exact h4

theorem mulAt_end {x y L : List Nat} {i : Nat} (h : MulAt x y i 0 L 0) (hi : x.length ≤ i) : Small L ∧ val L = val x * val y ∧ L.length = x.length + y.length + 1 := by
  obtain ⟨h1, h2, h3, h4⟩ := h
  refine ⟨h2, ?_, h1⟩
  rw [take_all hi] at h4
  simpa [val] using h4

end Dec
end Go.Proofs.YtmijmfdamommaaaDoor
