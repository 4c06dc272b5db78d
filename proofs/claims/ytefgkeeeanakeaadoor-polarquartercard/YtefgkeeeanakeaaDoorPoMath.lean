/-
  Places by range and angle: sine and cosine make one; how great, how the rounded spreads go.
-/
import Derived.Test.YtefgkeeeanakeaaDoorTgB
set_option linter.unusedSimpArgs false
set_option linter.unusedVariables false
namespace Go.Proofs.YtefgkeeeanakeaaDoor
namespace Po
open Qn Tg

theorem rne_near (n : Int) {d : Int} (hd : 0 < d) : 2 * (d * rne n d) ≤ 2 * n + d ∧ 2 * n - d ≤ 2 * (d * rne n d) := by
  have h1 := Int.emod_nonneg n (by omega : d ≠ 0)
  have h2 := Int.emod_lt_of_pos n hd
  have h3 := Int.mul_ediv_add_emod n d
  unfold rne
  split
  · omega
  · rw [Int.mul_add, Int.mul_one]; omega
theorem rne_up {a b d : Int} (hd : 0 < d) (h : a ≤ b) : rne a d ≤ rne b d := by
  have e1 := Int.mul_ediv_add_emod a d
  have e2 := Int.mul_ediv_add_emod b d
  have h1 := Int.emod_nonneg a (by omega : d ≠ 0)
  have h2 := Int.emod_lt_of_pos a hd
  have h3 := Int.emod_nonneg b (by omega : d ≠ 0)
  have h4 := Int.emod_lt_of_pos b hd
  have h5 : a / d ≤ b / d := Int.ediv_le_ediv hd h
  rcases Int.lt_or_le (a / d) (b / d) with h6 | h6
  · unfold rne; split <;> split <;> omega
  · have h7 : a / d = b / d := by omega
    rw [h7] at e1
    unfold rne
    rw [h7]
    split <;> split <;> omega
theorem rne_nought {d : Int} (hd : 0 < d) : rne 0 d = 0 := by unfold rne; rw [Int.zero_emod, Int.zero_ediv, if_pos (Or.inl (by omega))]
theorem rne_nn {n d : Int} (hd : 0 < d) (h : 0 ≤ n) : 0 ≤ rne n d := by
  have := rne_up hd h
  rwa [rne_nought hd] at this
theorem sq_nn (x : Int) : 0 ≤ x * x := by
  rcases Int.le_total 0 x with h | h
  · exact Int.mul_nonneg h h
  · exact Int.mul_nonneg_of_nonpos_of_nonpos h h
/-- A rest by a quotient is no greater than the number. -/
theorem rest_bd {y q r s M B : Int} (hM : 0 < M) (e : M * q + r = y) (hr0 : 0 ≤ r) (hr1 : r < M) (hs0 : 0 ≤ s) (hs1 : s < M) (hy0 : -B ≤ y) (hy1 : y ≤ B) : -(B + M) ≤ s * q ∧ s * q ≤ B + M := by
  rcases Int.le_total 0 q with h | h
  · have h1 : 0 ≤ s * q := Int.mul_nonneg hs0 h
    have h2 : s * q ≤ M * q := Int.mul_le_mul_of_nonneg_right (by omega) h
    omega
  · have h1 : s * q ≤ 0 := Int.mul_nonpos_of_nonneg_of_nonpos hs0 h
    have h2 : M * q ≤ s * q := Int.mul_le_mul_of_nonpos_right (by omega) h
    omega
/-- A quotient's square. -/
theorem sq_cut {x p s M B : Int} (hM : 0 < M) (e : M * p + s = x) (hs0 : 0 ≤ s) (hs1 : s < M) (hx0 : -B ≤ x) (hx1 : x ≤ B) : x * x - (2 * B + M) * M ≤ M * M * (p * p) ∧ M * M * (p * p) ≤ x * x + (2 * B + M) * M := by
  have e1 : M * M * (p * p) = (x - s) * (x - s) := by
    rw [show x - s = M * p by omega]
    simp only [Int.mul_assoc, Int.mul_left_comm, Int.mul_comm]
  have e2 : (x - s) * (x - s) = x * x - (2 * x - s) * s := by
    rw [Int.sub_mul, Int.mul_sub, Int.mul_sub, Int.sub_mul, Int.mul_comm s x, Int.mul_assoc 2 x s]; omega
  have hB : 0 ≤ B := by omega
  have u1 : (2 * x - s) * s ≤ (2 * B + M) * s := Int.mul_le_mul_of_nonneg_right (by omega) hs0
  have u2 : (2 * B + M) * s ≤ (2 * B + M) * M := Int.mul_le_mul_of_nonneg_left (by omega) (by omega)
  have u3 : (-(2 * B + M)) * s ≤ (2 * x - s) * s := Int.mul_le_mul_of_nonneg_right (by omega) hs0
  rw [Int.neg_mul] at u3
  omega
/-- How a step changes a pair's length. -/
theorem step_len {x y : Int} (k : Nat) {n B : Int} (hx0 : -B ≤ x) (hx1 : x ≤ B) (hy0 : -B ≤ y) (hy1 : y ≤ B) (hk : (2 : Int) ^ k ≤ 549755813888)
    (sg : Int) (hs : sg = 1 ∨ sg = -1) (hn : n = x * x + y * y) :
    n + n / (2 ^ k * 2 ^ k) - (8 * B + 3000000000000) ≤ (x - sg * fl y k) * (x - sg * fl y k) + (y + sg * fl x k) * (y + sg * fl x k) ∧
      (x - sg * fl y k) * (x - sg * fl y k) + (y + sg * fl x k) * (y + sg * fl x k) ≤ n + n / (2 ^ k * 2 ^ k) + (8 * B + 3000000000000) := by
  have hM : (0 : Int) < 2 ^ k := Int.pow_pos (by omega)
  have ex := Int.mul_ediv_add_emod x (2 ^ k)
  have ey := Int.mul_ediv_add_emod y (2 ^ k)
  have s0 := Int.emod_nonneg x (by omega : (2 : Int) ^ k ≠ 0)
  have s1 := Int.emod_lt_of_pos x hM
  have r0 := Int.emod_nonneg y (by omega : (2 : Int) ^ k ≠ 0)
  have r1 := Int.emod_lt_of_pos y hM
  unfold fl
  generalize (2 : Int) ^ k = M at *
  generalize x / M = p at *
  generalize y / M = q at *
  generalize x % M = s at *
  generalize y % M = r at *
  have a1 := rest_bd hM ey r0 r1 s0 s1 hy0 hy1
  have a2 := rest_bd hM ex s0 s1 r0 r1 hx0 hx1
  have b1 := sq_cut hM ex s0 s1 hx0 hx1
  have b2 := sq_cut hM ey r0 r1 hy0 hy1
  have hMM : 0 < M * M := Int.mul_pos hM hM
  have e3 := Int.mul_ediv_add_emod n (M * M)
  have t0 := Int.emod_nonneg n (by omega : M * M ≠ 0)
  have t1 := Int.emod_lt_of_pos n hMM
  generalize n / (M * M) = c at *
  generalize n % (M * M) = t at *
  have hB : 0 ≤ B := by omega
  have c1 : (2 * B + M) * M + (2 * B + M) * M ≤ M * M * (4 * B + 2) := by
    have : 1 * (4 * B * M) ≤ M * (4 * B * M) := Int.mul_le_mul_of_nonneg_right (by omega) (Int.mul_nonneg (by omega) (by omega))
    have e4 : M * (4 * B * M) = M * M * (4 * B) := by simp only [Int.mul_assoc, Int.mul_left_comm, Int.mul_comm]
    have e5 : 4 * B * M = 2 * (2 * B * M) := by rw [← Int.mul_assoc, ← Int.mul_assoc]; rfl
    rw [Int.mul_add, Int.add_mul]
    omega
  have d0 : M * M * (p * p + q * q) = M * M * (p * p) + M * M * (q * q) := Int.mul_add _ _ _
  have d1 : c - (4 * B + 2) ≤ p * p + q * q := by
    refine Int.le_of_mul_le_mul_left (a := M * M) ?_ hMM
    rw [Int.mul_sub]; omega
  have d2 : p * p + q * q ≤ c + 1 + (4 * B + 2) := by
    refine Int.le_of_mul_le_mul_left (a := M * M) ?_ hMM
    rw [Int.mul_add, Int.mul_add (M * M) (c + 1), Int.mul_add (M * M) c 1, Int.mul_one]; omega
  have f1 : x * q - y * p = s * q - r * p := by
    rw [← ex, ← ey, Int.add_mul, Int.add_mul]
    have : M * p * q = M * q * p := by simp only [Int.mul_assoc, Int.mul_left_comm, Int.mul_comm]
    omega
  rcases hs with rfl | rfl
  · have g : (x - 1 * q) * (x - 1 * q) + (y + 1 * p) * (y + 1 * p) = x * x + y * y + (p * p + q * q) - 2 * (x * q - y * p) := by
      rw [Int.one_mul, Int.one_mul, Int.sub_mul, Int.mul_sub, Int.mul_sub, Int.add_mul, Int.mul_add, Int.mul_add, Int.mul_comm q x, Int.mul_comm p y]; omega
    rw [g, f1, ← hn]
    omega
  · have g : (x - -1 * q) * (x - -1 * q) + (y + -1 * p) * (y + -1 * p) = x * x + y * y + (p * p + q * q) + 2 * (x * q - y * p) := by
      rw [show x - -1 * q = x + q by omega, show y + -1 * p = y - p by omega, Int.sub_mul, Int.mul_sub, Int.mul_sub, Int.add_mul, Int.mul_add, Int.mul_add, Int.mul_comm q x, Int.mul_comm p y]; omega
    rw [g, f1, ← hn]
    omega
/-- How short, how long a pair is, ahead of step k. -/
def lo : Nat → Int
  | 0 => 490160967727836282507484465352458658
  | k + 1 => lo k + lo k / (2 ^ k * 2 ^ k) - 50000000000000000000
def hi : Nat → Int
  | 0 => 490160967727836282507484465352458658
  | k + 1 => hi k + hi k / (2 ^ k * 2 ^ k) + 50000000000000000000
theorem pow_le {k : Nat} (h : k < 40) : (2 : Int) ^ k ≤ 549755813888 := by
  have : ∀ j, j < 40 → (2 : Int) ^ j ≤ 549755813888 := by decide
  exact this k h
theorem len_in (t : Int) : ∀ {k : Nat}, k ≤ 40 → lo k ≤ (bst (beg t) k).x * (bst (beg t) k).x + (bst (beg t) k).y * (bst (beg t) k).y ∧ (bst (beg t) k).x * (bst (beg t) k).x + (bst (beg t) k).y * (bst (beg t) k).y ≤ hi k
  | 0, _ => by
    show lo 0 ≤ 495056041134655927 * 495056041134655927 + 495056041134655927 * 495056041134655927 ∧ 495056041134655927 * 495056041134655927 + 495056041134655927 * 495056041134655927 ≤ hi 0
    decide
  | k + 1, hk => by
    have ih := len_in t (k := k) (by omega)
    have bd := ((beg_ok t).bst (k := k) (by omega)).bd (by omega)
    have hp := pow_le (k := k) (by omega)
    have e1 : lo (k + 1) = lo k + lo k / (2 ^ k * 2 ^ k) - 50000000000000000000 := rfl
    have e2 : hi (k + 1) = hi k + hi k / (2 ^ k * 2 ^ k) + 50000000000000000000 := rfl
    have hM : (0 : Int) < 2 ^ k * 2 ^ k := Int.mul_pos (Int.pow_pos (by omega)) (Int.pow_pos (by omega))
    have ha := Int.ediv_le_ediv hM ih.1
    have hb := Int.ediv_le_ediv hM ih.2
    unfold bst
    generalize bst (beg t) k = s at *
    obtain ⟨x, y, z⟩ := s
    simp only at ih bd ha hb ⊢
    split
    · have h := step_len (x := x) (y := y) k (n := x * x + y * y) (B := 5600000000000000000) bd.1.1 bd.1.2 bd.2.1.1 bd.2.1.2 hp 1 (.inl rfl) rfl
      rw [Int.one_mul, Int.one_mul] at h
      show lo (k + 1) ≤ (x - fl y k) * (x - fl y k) + (y + fl x k) * (y + fl x k) ∧ (x - fl y k) * (x - fl y k) + (y + fl x k) * (y + fl x k) ≤ hi (k + 1)
      omega
    · have h := step_len (x := x) (y := y) k (n := x * x + y * y) (B := 5600000000000000000) bd.1.1 bd.1.2 bd.2.1.1 bd.2.1.2 hp (-1) (.inr rfl) rfl
      rw [show x - -1 * fl y k = x + fl y k by omega, show y + -1 * fl x k = y - fl x k by omega] at h
      show lo (k + 1) ≤ (x + fl y k) * (x + fl y k) + (y - fl x k) * (y - fl x k) ∧ (x + fl y k) * (x + fl y k) + (y - fl x k) * (y - fl x k) ≤ hi (k + 1)
      omega
theorem lo_hi : 1329227995784900000000000000000000000 ≤ lo 40 ∧ hi 40 ≤ 1329227995784930000000000000000000000 := by decide +kernel
/-- A square, rounded. -/
theorem sq_round {x c D H : Int} (hD : D = 1073741824) (h0 : 2 * (D * c) ≤ 2 * x + D) (h1 : 2 * x - D ≤ 2 * (D * c)) (hx0 : -5600000000000000000 ≤ x) (hx1 : x ≤ 5600000000000000000) :
    x * x - 7000000000000000000000000000 ≤ D * D * (c * c) ∧ D * D * (c * c) ≤ x * x + 7000000000000000000000000000 := by
  obtain ⟨e, he⟩ : ∃ e, e = D * c - x := ⟨_, rfl⟩
  have e1 : D * D * (c * c) = (x + e) * (x + e) := by
    rw [show x + e = D * c by omega]
    simp only [Int.mul_left_comm, Int.mul_comm]
  have e2 : (x + e) * (x + e) = x * x + (2 * x + e) * e := by
    rw [Int.add_mul, Int.mul_add, Int.mul_add, Int.add_mul, Int.mul_comm e x, Int.mul_assoc 2 x e]; omega
  have he0 : -536870912 ≤ e := by omega
  have he1 : e ≤ 536870912 := by omega
  rw [e1, e2]
  rcases Int.le_total 0 e with h | h
  · have u1 : (2 * x + e) * e ≤ 11200000001000000000 * e := Int.mul_le_mul_of_nonneg_right (by omega) h
    have u2 : -11200000001000000000 * e ≤ (2 * x + e) * e := Int.mul_le_mul_of_nonneg_right (by omega) h
    omega
  · have u1 : 11200000001000000000 * e ≤ (2 * x + e) * e := Int.mul_le_mul_of_nonpos_right (by omega) h
    have u2 : (2 * x + e) * e ≤ -11200000001000000000 * e := Int.mul_le_mul_of_nonpos_right (by omega) h
    omega
theorem rd_near {n : Int} (h0 : -5600000000000000000 ≤ n) (h1 : n ≤ 5600000000000000000) : 2 * (1073741824 * rd n) ≤ 2 * n + 1073741824 ∧ 2 * n - 1073741824 ≤ 2 * (1073741824 * rd n) := by
  have h := rne_near n (d := 1073741824) (by omega)
  have e : rd n = rne n 1073741824 := by
    unfold rd clamp
    rw [if_neg (by omega), if_neg (by omega)]
  rw [e]; exact h
theorem one_in (t : Int) : 1152921490000000000 ≤ cs t * cs t + sn t * sn t ∧ cs t * cs t + sn t * sn t ≤ 1152921520000000000 := by
  have bd := ((beg_ok t).bst (k := 40) (by omega)).bd (by omega)
  have hl := len_in t (k := 40) (by omega)
  have hh := lo_hi
  unfold cs sn
  generalize bst (beg t) 40 = s at *
  obtain ⟨x, y, z⟩ := s
  simp only at bd hl ⊢
  have hx := rd_near bd.1.1 bd.1.2
  have hy := rd_near bd.2.1.1 bd.2.1.2
  have a := sq_round (H := 0) rfl hx.1 hx.2 bd.1.1 bd.1.2
  have b := sq_round (H := 0) rfl hy.1 hy.2 bd.2.1.1 bd.2.1.2
  generalize rd x * rd x = u at *
  generalize rd y * rd y = v at *
  omega
/-- Sine and cosine of any direction. -/
theorem circle (t : Int) : 1152921490000000000 ≤ sine t * sine t + cosine t * cosine t ∧ sine t * sine t + cosine t * cosine t ≤ 1152921520000000000 := by
  have h := one_in t
  have n1 : -sn t * -sn t = sn t * sn t := Int.neg_mul_neg _ _
  have n2 : -cs t * -cs t = cs t * cs t := Int.neg_mul_neg _ _
  unfold sine cosine
  split
  · omega
  · split
    · rw [n1]; omega
    · split
      · rw [n1, n2]; omega
      · rw [n2]; omega
end Po
end Go.Proofs.YtefgkeeeanakeaaDoor
