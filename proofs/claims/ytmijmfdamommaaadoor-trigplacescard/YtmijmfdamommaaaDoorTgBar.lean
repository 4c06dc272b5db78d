/-
  Of a place in the first quarter the steps end between nothing and a quarter, but for few parts of 2^62: a barrier goes with the pair; where the pair turns the other way than the barrier would, a new one begins.
-/
import Derived.Test.YtmijmfdamommaaaDoorTgMath
set_option linter.unusedSimpArgs false
set_option linter.unusedVariables false
namespace Go.Proofs.YtmijmfdamommaaaDoor
namespace Tg
/-- Two to the power of sixty. -/
abbrev o60 : Int := 1152921504606846976
/-- The next barrier of a slope q (by 2^60): turned with the step that the slope takes itself, and a little lower. -/
def nxt (k : Nat) (q : Int) : Int := if q ≤ 0 then (q * 2 ^ k + o60) * o60 / (o60 * 2 ^ k - q) - 8 else (q * 2 ^ k - o60) * o60 / (o60 * 2 ^ k + q) - 8
/-- May a slope be followed by another one, behind a step the one way (d = 1) or the other (d = -1)? -/
def okq (k : Nat) (d q r : Int) : Bool := decide (-o60 ≤ r) && decide (r ≤ o60) && decide (4 * 2 ^ k * o60 ≤ q * 2 ^ k * o60 - d * q * r - d * o60 * o60 - 2 ^ k * o60 * r)
/-- From a slope q at step k, with c turned so far at least: nothing ends below -607395. -/
def good : Nat → Nat → Int → Int → Bool
  | 0, _, _, c => decide (-607395 ≤ c)
  | f + 1, k, q, c => if q ≤ 0 then decide (0 ≤ c) && (okq k (-1) q (nxt k q) && good f (k + 1) (nxt k q) (c - ang k)) else okq k 1 q (nxt k q) && good f (k + 1) (nxt k q) (c + ang k)

theorem good_start : good 39 1 o60 (-576460752303423488) = true := by decide +kernel
theorem good_all : ∀ k, k < 40 → good (39 - k) (k + 1) (-(2 ^ (60 - k)) - 4) (ang k) = true := by decide +kernel

theorem turn_keep {K O u w q r d u' w' : Int} (hK : 1 ≤ K) (hO : 0 < O) (hd : d = 1 ∨ d = -1) (hq0 : -O ≤ r) (hq1 : r ≤ O) (hu : O ≤ 2 * u) (h1 : K * w - d * u - K ≤ K * w') (h2a : K * u' ≤ K * u + d * w + K) (h2b : K * u + d * w - K ≤ K * u')
    (hX : 4 * K * O ≤ q * K * O - d * q * r - d * O * O - K * O * r) (hs : q * u ≤ w * O) : r * u' ≤ w' * O := by
  have a1 : (K * w - d * u - K) * O ≤ K * w' * O := Int.mul_le_mul_of_nonneg_right h1 (by omega)
  have kO : O ≤ K * O := by
    have := Int.mul_le_mul_of_nonneg_right hK (show 0 ≤ O by omega)
    omega
  have kk : 0 ≤ K * O - d * r := by
    rcases hd with rfl | rfl <;> omega
  have a3 : q * u * (K * O - d * r) ≤ w * O * (K * O - d * r) := Int.mul_le_mul_of_nonneg_right hs kk
  have a4 : 4 * K * O * u ≤ (q * K * O - d * q * r - d * O * O - K * O * r) * u := Int.mul_le_mul_of_nonneg_right hX (by omega)
  have a5 : 2 * K * O * O ≤ 4 * K * O * u := by
    have : K * O * O ≤ K * O * (2 * u) := Int.mul_le_mul_of_nonneg_left hu (Int.mul_nonneg (by omega) (by omega))
    grind
  have a6 : K * r * u' ≤ r * (K * u + d * w) + K * O := by
    rcases Int.le_total 0 r with h | h
    · have := Int.mul_le_mul_of_nonneg_left h2a h
      have := Int.mul_le_mul_of_nonneg_left hq1 (show 0 ≤ K by omega)
      grind
    · have := Int.mul_le_mul_of_nonpos_left h h2b
      have := Int.mul_le_mul_of_nonneg_left hq0 (show 0 ≤ K by omega)
      grind
  have a7 : 0 ≤ K * O * (w' * O - r * u') := by
    have := Int.mul_le_mul_of_nonneg_right a6 (show 0 ≤ O by omega)
    have := Int.mul_le_mul_of_nonneg_right a1 (show 0 ≤ O by omega)
    rcases hd with rfl | rfl <;> grind
  have a8 : 0 < K * O := Int.mul_pos (by omega) hO
  have := Int.nonneg_of_mul_nonneg_right a7 a8
  omega

/-- A step of a pair (u, w) as whole numbers: the one way (d = 1), where w is not below 0, the other (d = -1), where it is not above. -/
structure Stp (k : Nat) (d u w u' w' : Int) : Prop where
  dd : d = 1 ∧ 0 ≤ w ∨ d = -1 ∧ w ≤ 0
  grow : u ≤ u'
  w1 : 2 ^ k * w - d * u - 2 ^ k ≤ 2 ^ k * w'
  u1 : 2 ^ k * u' ≤ 2 ^ k * u + d * w + 2 ^ k
  u2 : 2 ^ k * u + d * w - 2 ^ k ≤ 2 ^ k * u'

/-- So far: a barrier below the pair, and no less turned than it bears. -/
def Inv (f k : Nat) (u w z : Int) : Prop := o60 ≤ 2 * u ∧ ∃ q c, good f k q c = true ∧ q * u ≤ w * o60 ∧ c ≤ z

theorem inv_step {f k : Nat} {d u w z u' w' : Int} (hk : 1 ≤ k) (hk2 : k + f = 39) (h : Inv (f + 1) k u w z) (s : Stp k d u w u' w') : Inv f (k + 1) u' w' (z + d * ang k) := by
  obtain ⟨hu, q, c, hg, hs, hc⟩ := h
  have hu' : o60 ≤ 2 * u' := by have := s.grow; omega
  refine ⟨hu', ?_⟩
  have hK : (1 : Int) ≤ 2 ^ k := by
    have : (0 : Int) < 2 ^ k := Int.pow_pos (by omega)
    omega
  unfold good at hg
  by_cases hq : q ≤ 0
  · rw [if_pos hq] at hg
    simp only [Bool.and_eq_true, decide_eq_true_eq] at hg
    obtain ⟨hc0, hok, hg⟩ := hg
    rcases s.dd with ⟨rfl, hw⟩ | ⟨rfl, hw⟩
    · -- a new barrier
      have ga := good_all k (by omega)
      rw [show 39 - k = f by omega] at ga
      refine ⟨_, _, ga, ?_, by omega⟩
      have e : (2 : Int) ^ k * 2 ^ (60 - k) = o60 := by rw [← Int.pow_add, show k + (60 - k) = 60 by omega]; decide
      have hp : (2 : Int) ≤ 2 ^ k := by
        obtain ⟨j, rfl⟩ : ∃ j, k = j + 1 := ⟨k - 1, by omega⟩
        have : (0 : Int) < 2 ^ j := Int.pow_pos (by omega)
        rw [Int.pow_succ]; omega
      obtain ⟨K, hKe⟩ : ∃ K, (2 : Int) ^ k = K := ⟨_, rfl⟩
      obtain ⟨D, hDe⟩ : ∃ D, (2 : Int) ^ (60 - k) = D := ⟨_, rfl⟩
      have hw1 := s.w1
      have hu2 := s.u2
      have hgr := s.grow
      rw [hKe] at hw1 hu2 e hp hK
      rw [hDe] at e ⊢
      have hD0 : 0 < D := by rw [← hDe]; exact Int.pow_pos (by omega)
      -- K * (w' * o + (D + 4) * u') is not below 0
      have f1 : (K * w - 1 * u - K) * o60 ≤ K * w' * o60 := Int.mul_le_mul_of_nonneg_right hw1 (by decide)
      have f2 : 0 ≤ K * w * o60 := Int.mul_nonneg (Int.mul_nonneg (by omega) hw) (by decide)
      have f3 : K * u * 4 ≤ K * u' * 4 := Int.mul_le_mul_of_nonneg_right (Int.mul_le_mul_of_nonneg_left hgr (by omega)) (by decide)
      have f4 : o60 * u ≤ o60 * u' := Int.mul_le_mul_of_nonneg_left hgr (by decide)
      have f5 : K * o60 ≤ K * (2 * u) := Int.mul_le_mul_of_nonneg_left hu (by omega)
      have f6 : 0 ≤ K * (w' * o60 - (-D - 4) * u') := by
        have e2 : K * (w' * o60 - (-D - 4) * u') = K * w' * o60 + (K * D) * u' + K * u' * 4 := by grind
        rw [e2, e]
        grind
      have := Int.nonneg_of_mul_nonneg_right f6 (show 0 < K by omega)
      omega
    · simp only [okq, Bool.and_eq_true, decide_eq_true_eq] at hok
      refine ⟨_, _, hg, turn_keep hK (by decide) (.inr rfl) hok.1.1 hok.1.2 hu s.w1 s.u1 s.u2 hok.2 hs, by omega⟩
  · rw [if_neg hq] at hg
    simp only [Bool.and_eq_true] at hg
    obtain ⟨hok, hg⟩ := hg
    simp only [okq, Bool.and_eq_true, decide_eq_true_eq] at hok
    rcases s.dd with ⟨rfl, hw⟩ | ⟨rfl, hw⟩
    · exact ⟨_, _, hg, turn_keep hK (by decide) (.inl rfl) hok.1.1 hok.1.2 hu s.w1 s.u1 s.u2 hok.2 hs, by omega⟩
    · exfalso
      have : 0 < q * u := Int.mul_pos (by omega) (by unfold o60 at hu; omega)
      have : w * o60 ≤ 0 := Int.mul_nonpos_of_nonpos_of_nonneg hw (by decide)
      omega
theorem inv_end {k : Nat} {u w z : Int} (h : Inv 0 k u w z) : -607395 ≤ z := by
  obtain ⟨_, q, c, hg, _, hc⟩ := h
  unfold good at hg
  have := of_decide_eq_true hg
  omega

theorem fl_le (n : Int) (k : Nat) : 2 ^ k * fl n k ≤ n ∧ n < 2 ^ k * fl n k + 2 ^ k := by
  have hp : (0 : Int) < 2 ^ k := Int.pow_pos (by omega)
  unfold fl
  have h1 := Int.mul_ediv_add_emod n (2 ^ k)
  have h2 := Int.emod_nonneg n (show (2 : Int) ^ k ≠ 0 by omega)
  have h3 := Int.emod_lt_of_pos n hp
  omega
theorem fl_pos {n : Int} (k : Nat) (h : 0 ≤ n) : 0 ≤ fl n k := Int.ediv_nonneg h (Int.le_of_lt (Int.pow_pos (by omega)))
theorem fl_neg {n : Int} (k : Nat) (h : n ≤ 0) : fl n k ≤ 0 := by
  have := (fl_le n k).1
  have hp : (0 : Int) < 2 ^ k := Int.pow_pos (by omega)
  rcases Int.lt_or_le 0 (fl n k) with c | c
  · have := Int.mul_pos hp c; omega
  · exact c

/-- A step of the place's pair, as it is. -/
theorem stp_vst (s : St) (k : Nat) : ∃ d, Stp k d (vst s k).x (vst s k).y (vst s (k + 1)).x (vst s (k + 1)).y ∧ (vst s (k + 1)).z = (vst s k).z + d * ang k := by
  obtain ⟨t, ht⟩ : ∃ t, t = vst s k := ⟨_, rfl⟩
  have e : vst s (k + 1) = if 0 < t.y then rt k t else lf k t := by rw [ht]; rfl
  rw [e, ← ht]
  have a := fl_le t.x k
  have b := fl_le t.y k
  by_cases h : 0 < t.y
  · rw [if_pos h]
    have := fl_pos k (show 0 ≤ t.y by omega)
    refine ⟨1, ⟨.inl ⟨rfl, by omega⟩, by simp only [rt]; omega, ?_, ?_, ?_⟩, by simp only [rt]; omega⟩ <;> simp only [rt] <;> grind
  · rw [if_neg h]
    have := fl_neg k (show t.y ≤ 0 by omega)
    refine ⟨-1, ⟨.inr ⟨rfl, by omega⟩, by simp only [lf]; omega, ?_, ?_, ?_⟩, by simp only [lf]; omega⟩ <;> simp only [lf] <;> grind
/-- The same, seen in a mirror. -/
theorem stp_mir (s : St) (k : Nat) : ∃ d, Stp k d (vst s k).x (-(vst s k).y) (vst s (k + 1)).x (-(vst s (k + 1)).y) ∧ -(vst s (k + 1)).z = -(vst s k).z + d * ang k := by
  obtain ⟨t, ht⟩ : ∃ t, t = vst s k := ⟨_, rfl⟩
  have e : vst s (k + 1) = if 0 < t.y then rt k t else lf k t := by rw [ht]; rfl
  rw [e, ← ht]
  have a := fl_le t.x k
  have b := fl_le t.y k
  by_cases h : 0 < t.y
  · rw [if_pos h]
    have := fl_pos k (show 0 ≤ t.y by omega)
    refine ⟨-1, ⟨.inr ⟨rfl, by omega⟩, by simp only [rt]; omega, ?_, ?_, ?_⟩, by simp only [rt]; omega⟩ <;> simp only [rt] <;> grind
  · rw [if_neg h]
    have := fl_neg k (show t.y ≤ 0 by omega)
    refine ⟨1, ⟨.inl ⟨rfl, by omega⟩, by simp only [lf]; omega, ?_, ?_, ?_⟩, by simp only [lf]; omega⟩ <;> simp only [lf] <;> grind

theorem low_run {s : St} (h : Inv 39 1 (vst s 1).x (vst s 1).y (vst s 1).z) : ∀ j, j ≤ 39 → Inv (39 - j) (1 + j) (vst s (1 + j)).x (vst s (1 + j)).y (vst s (1 + j)).z
  | 0, _ => h
  | j + 1, hj => by
    have ih := low_run h j (by omega)
    rw [show 39 - j = (39 - (j + 1)) + 1 by omega] at ih
    obtain ⟨d, st, hz⟩ := stp_vst s (1 + j)
    have := inv_step (by omega) (by omega) ih st
    rw [← hz] at this
    exact this
theorem high_run {s : St} {c : Int} (h : Inv 39 1 (vst s 1).x (-(vst s 1).y) (-(vst s 1).z + c)) : ∀ j, j ≤ 39 → Inv (39 - j) (1 + j) (vst s (1 + j)).x (-(vst s (1 + j)).y) (-(vst s (1 + j)).z + c)
  | 0, _ => h
  | j + 1, hj => by
    have ih := high_run h j (by omega)
    rw [show 39 - j = (39 - (j + 1)) + 1 by omega] at ih
    obtain ⟨d, st, hz⟩ := stp_mir s (1 + j)
    have := inv_step (by omega) (by omega) ih st
    rw [show -(vst s (1 + j)).z + c + d * ang (1 + j) = -(vst s (1 + (j + 1))).z + c by have : (1 + (j + 1)) = 1 + j + 1 := rfl; rw [this, hz]; omega] at this
    exact this

/-- What is turned of a place in the first quarter: no less than nothing, no more than a quarter, but for some parts of 2^62. -/
theorem place_ends {u v : Int} (hu0 : 0 ≤ u) (hv0 : 0 ≤ v) (h : 576460752303423488 ≤ u ∨ 576460752303423488 ≤ v) :
    -607395 ≤ (vst ⟨u, v, 0⟩ 40).z ∧ (vst ⟨u, v, 0⟩ 40).z ≤ 1152921504606846976 + 607395 := by
  have a0 : ang 0 = 576460752303423488 := rfl
  have g1 := good_all 0 (by omega)
  have fz : ∀ n, fl n 0 = n := fun n => by unfold fl; rw [Int.pow_zero, Int.ediv_one]
  have e1 : vst ⟨u, v, 0⟩ 1 = if 0 < v then ⟨u + v, v - u, 576460752303423488⟩ else ⟨u - v, v + u, -576460752303423488⟩ := by
    show (if 0 < v then rt 0 ⟨u, v, 0⟩ else lf 0 ⟨u, v, 0⟩) = _
    unfold rt lf
    simp only [fz, a0]
    split
    · congr 1
    · congr 1
  have p0 : (2 : Int) ^ (60 - 0) = o60 := by decide
  rw [p0, a0] at g1
  constructor
  · refine inv_end (low_run (s := ⟨u, v, 0⟩) ?_ 39 (by omega))
    rw [e1]
    by_cases hv : 0 < v
    · rw [if_pos hv]
      refine ⟨by unfold o60; simp only; omega, _, _, g1, ?_, by simp only; omega⟩
      simp only
      unfold o60
      have : 0 ≤ v * 2 := by omega
      omega
    · rw [if_neg hv]
      refine ⟨by unfold o60; simp only; omega, _, _, good_start, ?_, by simp only; omega⟩
      simp only
      unfold o60
      omega
  · have := inv_end (high_run (s := ⟨u, v, 0⟩) (c := 1152921504606846976) ?_ 39 (by omega))
    · have e40 : 1 + 39 = 40 := rfl
      rw [e40] at this
      omega
    · rw [e1]
      by_cases hv : 0 < v
      · rw [if_pos hv]
        refine ⟨by unfold o60; simp only; omega, _, _, g1, ?_, by simp only; omega⟩
        simp only
        unfold o60
        omega
      · rw [if_neg hv]
        refine ⟨by unfold o60; simp only; omega, _, _, g1, ?_, by simp only; omega⟩
        simp only
        unfold o60
        omega

end Tg
end Go.Proofs.YtmijmfdamommaaaDoor
