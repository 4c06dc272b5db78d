/-
  Plain facts on numbers of eight words of 32 bits: no program is named here.
-/
set_option linter.unusedSimpArgs false
set_option linter.unusedVariables false
namespace Go.Proofs.YtmijmfdamommaaaDoor
namespace Lg

/-- The k-th word of 32 bits. -/
def wd : Nat → Int → Int
  | 0, n => n % 4294967296
  | k + 1, n => wd k (n / 4294967296)

theorem wd_bd : ∀ (k : Nat) (n : Int), 0 ≤ wd k n ∧ wd k n ≤ 4294967295
  | 0, n => by unfold wd; omega
  | k + 1, n => wd_bd k (n / 4294967296)

/-- A number within the eight words. -/
def In8 (n : Int) : Prop := 0 ≤ n ∧ n < 115792089237316195423570985008687907853269984665640564039457584007913129639936

theorem words8 {n : Int} (h : In8 n) : n = wd 0 n + 4294967296 * wd 1 n + 18446744073709551616 * wd 2 n + 79228162514264337593543950336 * wd 3 n + 340282366920938463463374607431768211456 * wd 4 n + 1461501637330902918203684832716283019655932542976 * wd 5 n + 6277101735386680763835789423207666416102355444464034512896 * wd 6 n + 26959946667150639794667015087019630673637144422540572481103610249216 * wd 7 n := by
  unfold In8 at h
  simp only [wd]
  omega
theorem wd_zero : wd 0 0 = 0 ∧ wd 1 0 = 0 ∧ wd 2 0 = 0 ∧ wd 3 0 = 0 ∧ wd 4 0 = 0 ∧ wd 5 0 = 0 ∧ wd 6 0 = 0 ∧ wd 7 0 = 0 := by decide

/-- One word of a sum, and the carry. -/
def sS (x y c : Int) : Int := (x + y + c) % 4294967296
def sC (x y c : Int) : Int := (x + y + c) / 4294967296
theorem sC_bd {x y c : Int} (hx : 0 ≤ x ∧ x ≤ 4294967295) (hy : 0 ≤ y ∧ y ≤ 4294967295) (hc : 0 ≤ c ∧ c ≤ 1) : 0 ≤ sC x y c ∧ sC x y c ≤ 1 := by unfold sC; omega
theorem sum_step (k : Nat) : ∀ (a b c : Int), 0 ≤ c → c ≤ 1 → ∃ c' : Int, 0 ≤ c' ∧ c' ≤ 1 ∧ wd k (a + b + c) = sS (wd k a) (wd k b) c' := by
  induction k with
  | zero => intro a b c h0 h1; exact ⟨c, h0, h1, by simp only [wd, sS]; omega⟩
  | succ k ih =>
    intro a b c h0 h1
    simp only [wd]
    have e : (a + b + c) / 4294967296 = a / 4294967296 + b / 4294967296 + (a % 4294967296 + b % 4294967296 + c) / 4294967296 := by omega
    rw [e]
    exact ih _ _ _ (by omega) (by omega)
/-- The words of a sum, one behind the other: each carry is told by the words below. -/
theorem sum_words (a b : Int) : ∃ c1 c2 c3 c4 c5 c6 c7 : Int,
    (wd 0 a + wd 0 b) / 4294967296 = c1 ∧ (wd 1 a + wd 1 b + c1) / 4294967296 = c2 ∧ (wd 2 a + wd 2 b + c2) / 4294967296 = c3 ∧ (wd 3 a + wd 3 b + c3) / 4294967296 = c4 ∧ (wd 4 a + wd 4 b + c4) / 4294967296 = c5 ∧ (wd 5 a + wd 5 b + c5) / 4294967296 = c6 ∧ (wd 6 a + wd 6 b + c6) / 4294967296 = c7 ∧
    (wd 0 a + wd 0 b) % 4294967296 = wd 0 (a + b) ∧ (wd 1 a + wd 1 b + c1) % 4294967296 = wd 1 (a + b) ∧ (wd 2 a + wd 2 b + c2) % 4294967296 = wd 2 (a + b) ∧ (wd 3 a + wd 3 b + c3) % 4294967296 = wd 3 (a + b) ∧ (wd 4 a + wd 4 b + c4) % 4294967296 = wd 4 (a + b) ∧ (wd 5 a + wd 5 b + c5) % 4294967296 = wd 5 (a + b) ∧ (wd 6 a + wd 6 b + c6) % 4294967296 = wd 6 (a + b) ∧ (wd 7 a + wd 7 b + c7) % 4294967296 = wd 7 (a + b) := by
  have st : ∀ (x y z c : Int), z = x + y + c → z % 4294967296 = (x % 4294967296 + y % 4294967296 + c) % 4294967296 ∧ z / 4294967296 = x / 4294967296 + y / 4294967296 + (x % 4294967296 + y % 4294967296 + c) / 4294967296 := by
    intro x y z c h; omega
  obtain ⟨m0, q0⟩ := st a b (a + b) 0 (by omega)
  rw [Int.add_zero] at m0 q0
  obtain ⟨m1, q1⟩ := st _ _ _ _ q0
  obtain ⟨m2, q2⟩ := st _ _ _ _ q1
  obtain ⟨m3, q3⟩ := st _ _ _ _ q2
  obtain ⟨m4, q4⟩ := st _ _ _ _ q3
  obtain ⟨m5, q5⟩ := st _ _ _ _ q4
  obtain ⟨m6, q6⟩ := st _ _ _ _ q5
  obtain ⟨m7, q7⟩ := st _ _ _ _ q6
  simp only [wd]
  exact ⟨_, _, _, _, _, _, _, rfl, rfl, rfl, rfl, rfl, rfl, rfl, m0.symm, m1.symm, m2.symm, m3.symm, m4.symm, m5.symm, m6.symm, m7.symm⟩
/-- The words of a difference: each borrow is told by the words below. -/
theorem diff_words (a b : Int) : ∃ c1 c2 c3 c4 c5 c6 c7 : Int,
    1 - (4294967296 + wd 0 a - wd 0 b) / 4294967296 = c1 ∧ 1 - (4294967296 + wd 1 a - wd 1 b - c1) / 4294967296 = c2 ∧ 1 - (4294967296 + wd 2 a - wd 2 b - c2) / 4294967296 = c3 ∧ 1 - (4294967296 + wd 3 a - wd 3 b - c3) / 4294967296 = c4 ∧ 1 - (4294967296 + wd 4 a - wd 4 b - c4) / 4294967296 = c5 ∧ 1 - (4294967296 + wd 5 a - wd 5 b - c5) / 4294967296 = c6 ∧ 1 - (4294967296 + wd 6 a - wd 6 b - c6) / 4294967296 = c7 ∧
    (4294967296 + wd 0 a - wd 0 b) % 4294967296 = wd 0 (a - b) ∧ (4294967296 + wd 1 a - wd 1 b - c1) % 4294967296 = wd 1 (a - b) ∧ (4294967296 + wd 2 a - wd 2 b - c2) % 4294967296 = wd 2 (a - b) ∧ (4294967296 + wd 3 a - wd 3 b - c3) % 4294967296 = wd 3 (a - b) ∧ (4294967296 + wd 4 a - wd 4 b - c4) % 4294967296 = wd 4 (a - b) ∧ (4294967296 + wd 5 a - wd 5 b - c5) % 4294967296 = wd 5 (a - b) ∧ (4294967296 + wd 6 a - wd 6 b - c6) % 4294967296 = wd 6 (a - b) ∧ (4294967296 + wd 7 a - wd 7 b - c7) % 4294967296 = wd 7 (a - b) := by
  have st : ∀ (x y z c : Int), z = x - y - c → z % 4294967296 = (4294967296 + x % 4294967296 - y % 4294967296 - c) % 4294967296 ∧ z / 4294967296 = x / 4294967296 - y / 4294967296 - (1 - (4294967296 + x % 4294967296 - y % 4294967296 - c) / 4294967296) := by
    intro x y z c h; omega
  obtain ⟨m0, q0⟩ := st a b (a - b) 0 (by omega)
  rw [Int.sub_zero] at m0 q0
  obtain ⟨m1, q1⟩ := st _ _ _ _ q0
  obtain ⟨m2, q2⟩ := st _ _ _ _ q1
  obtain ⟨m3, q3⟩ := st _ _ _ _ q2
  obtain ⟨m4, q4⟩ := st _ _ _ _ q3
  obtain ⟨m5, q5⟩ := st _ _ _ _ q4
  obtain ⟨m6, q6⟩ := st _ _ _ _ q5
  obtain ⟨m7, q7⟩ := st _ _ _ _ q6
  simp only [wd]
  exact ⟨_, _, _, _, _, _, _, rfl, rfl, rfl, rfl, rfl, rfl, rfl, m0.symm, m1.symm, m2.symm, m3.symm, m4.symm, m5.symm, m6.symm, m7.symm⟩
end Lg
end Go.Proofs.YtmijmfdamommaaaDoor
