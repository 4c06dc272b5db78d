/-
  Powers and logarithms by their series: the terms, the sums, how great they become.
-/
import Derived.Test.YtfgjigkgfflofaaDoorRPure
set_option linter.unusedSimpArgs false
set_option linter.unusedVariables false
namespace Go.Proofs.YtfgjigkgfflofaaDoorR
namespace Gw
open Qn

theorem rne_le {n d A : Int} (hd : 0 < d) (h : n ≤ A * d) : rne n d ≤ A := by
  have e := Int.mul_ediv_add_emod n d
  have e0 := Int.emod_nonneg n (show d ≠ 0 by omega)
  have q : n / d ≤ A := Int.ediv_le_of_le_mul hd h
  unfold rne
  split
  · exact q
  · rename_i c
    rcases Int.lt_or_le (n / d) A with k | k
    · omega
    · have ek : n / d = A := by omega
      have hc := Int.mul_comm d A
      rw [ek] at e
      have : n % d = 0 := by omega
      omega
theorem rne_ge {n d A : Int} (hd : 0 < d) (h : -(A * d) ≤ n) : -A ≤ rne n d := by
  have h2 := rne_le (n := -n) (A := A) hd (by omega)
  rw [rne_neg n d hd] at h2
  omega
theorem clamp_small {n A : Int} (h0 : -A ≤ n) (h1 : n ≤ A) (hA : A ≤ 4611686018427387903) : clamp n = n ∧ great n = false := by
  have : great n = false := great_iff.2 ⟨by omega, by omega⟩
  exact ⟨clamp_in this, this⟩

/-- A product by 2^50, rounded (and bounded). -/
def tim (a b : Int) : Int := clamp (rne (a * b) (2 ^ 50))
theorem tim_neg (a b : Int) : tim (-a) b = -tim a b := by
  unfold tim; rw [Int.neg_mul, rne_neg _ _ (by decide), clamp_neg]
theorem tim_neg' (a b : Int) : tim a (-b) = -tim a b := by
  unfold tim; rw [Int.mul_neg, rne_neg _ _ (by decide), clamp_neg]
theorem prod_bd {a b A B : Int} (ha0 : -A ≤ a) (ha1 : a ≤ A) (hb0 : -B ≤ b) (hb1 : b ≤ B) : -(A * B) ≤ a * b ∧ a * b ≤ A * B := by
  have hA : 0 ≤ A := by omega
  have h : a.natAbs * b.natAbs ≤ A.toNat * B.toNat := Nat.mul_le_mul (by omega) (by omega)
  have h2 : (a * b).natAbs = a.natAbs * b.natAbs := Int.natAbs_mul a b
  have h3 : A * B = ((A.toNat * B.toNat : Nat) : Int) := by
    rw [Int.natCast_mul, Int.toNat_of_nonneg hA, Int.toNat_of_nonneg (by omega)]
  omega
theorem tim_eq {a b A : Int} (ha0 : -A ≤ a) (ha1 : a ≤ A) (hb0 : -1125899906842624 ≤ b) (hb1 : b ≤ 1125899906842624) (hA : A ≤ 4611686018427387903) : tim a b = rne (a * b) (2 ^ 50) ∧ -A ≤ tim a b ∧ tim a b ≤ A := by
  have hp := prod_bd ha0 ha1 hb0 hb1
  have h0 := rne_ge (n := a * b) (d := 2 ^ 50) (A := A) (by decide) (by rw [show (2 : Int) ^ 50 = 1125899906842624 from rfl]; omega)
  have h1 := rne_le (n := a * b) (d := 2 ^ 50) (A := A) (by decide) (by rw [show (2 : Int) ^ 50 = 1125899906842624 from rfl]; omega)
  have hc := (clamp_small h0 h1 hA).1
  unfold tim
  rw [hc]
  exact ⟨rfl, h0, h1⟩
theorem tdiv_bd {a A : Int} (n : Nat) (h0 : -A ≤ a) (h1 : a ≤ A) : -A ≤ a.tdiv n ∧ a.tdiv n ≤ A := by
  have h : a.natAbs / (n : Int).natAbs ≤ a.natAbs := Nat.div_le_self _ _
  have e : (a.tdiv n).natAbs = a.natAbs / (n : Int).natAbs := Int.natAbs_tdiv a n
  rw [← e] at h
  omega

/-- The terms of a power, with their signs. -/
def tp (r : Int) : Nat → Int
  | 0 => 1125899906842624
  | n + 1 => (tim (tp r n) (-r)).tdiv ((n + 1 : Nat) : Int)
/-- The terms of a power, without. -/
def td (r : Int) : Nat → Int
  | 0 => 1125899906842624
  | n + 1 => (tim (td r n) r).tdiv ((n + 1 : Nat) : Int)
theorem tp_td (r : Int) : ∀ n, tp r n = if n % 2 = 0 then td r n else -td r n
  | 0 => rfl
  | n + 1 => by
    have ih := tp_td r n
    unfold tp td
    rw [tim_neg', ih]
    split
    · rw [if_neg (by omega), Int.neg_tdiv]
    · rw [if_pos (by omega), tim_neg, Int.neg_neg]
/-- So many of its first terms together. -/
def ps (r : Int) : Nat → Int
  | 0 => 0
  | n + 1 => ps r n + tp r n
theorem ps_one (r : Int) : ps r 1 = 1125899906842624 := by unfold ps ps tp; rfl
theorem ps_step (r : Int) (n : Nat) : ps r (n + 1) = ps r n + tp r n := rfl
theorem ps_even (r : Int) (n : Nat) (h : n % 2 = 0) : ps r n + td r n = ps r (n + 1) := by rw [ps_step, tp_td, if_pos h]
theorem ps_odd (r : Int) (n : Nat) (h : ¬ n % 2 = 0) : ps r n - td r n = ps r (n + 1) := by rw [ps_step, tp_td, if_neg h]; omega
theorem tp_bd {r : Int} (h0 : 0 ≤ r) (h1 : r ≤ 1125899906842624) : ∀ n, -1125899906842624 ≤ tp r n ∧ tp r n ≤ 1125899906842624
  | 0 => by unfold tp; omega
  | n + 1 => by
    have ih := tp_bd h0 h1 n
    have := (tim_eq (b := -r) ih.1 ih.2 (by omega) (by omega) (by omega)).2
    exact tdiv_bd _ this.1 this.2
theorem td_bd {r : Int} (h0 : 0 ≤ r) (h1 : r ≤ 1125899906842624) : ∀ n, -1125899906842624 ≤ td r n ∧ td r n ≤ 1125899906842624
  | 0 => by unfold td; omega
  | n + 1 => by
    have ih := td_bd h0 h1 n
    have := (tim_eq (b := r) ih.1 ih.2 (by omega) (by omega) (by omega)).2
    exact tdiv_bd _ this.1 this.2
theorem ps_bd {r : Int} (h0 : 0 ≤ r) (h1 : r ≤ 1125899906842624) : ∀ n : Nat, -((n : Int) * 1125899906842624) ≤ ps r n ∧ ps r n ≤ (n : Int) * 1125899906842624
  | 0 => by unfold ps; omega
  | n + 1 => by
    have ih := ps_bd h0 h1 n
    have := tp_bd h0 h1 n
    rw [ps_step]
    omega

/-- How often a number's power is halved, and the rest. -/
def hv (x : Int) : Int := (-x * 1073741824) / 780414346020670
def rs (x : Int) : Int := (-x * 1073741824) % 780414346020670
theorem hv_bd {x : Int} (h0 : x ≤ 0) (h1 : -47185920 ≤ x) : 0 ≤ hv x ∧ hv x ≤ 64 := by unfold hv; omega
theorem rs_bd (x : Int) : 0 ≤ rs x ∧ rs x < 780414346020670 := by unfold rs; omega
/-- e to the power of a number. -/
def ex (x : Int) : Int := if x < -47185920 then 0 else rne (ps (rs x) 21) (2 ^ (20 + (hv x).toNat))
theorem ps21_bd (x : Int) : -23643898043695104 ≤ ps (rs x) 21 ∧ ps (rs x) 21 ≤ 23643898043695104 := by
  have := rs_bd x
  have := ps_bd (r := rs x) (by omega) (by omega) 21
  omega
theorem rne_zero {n d : Int} (h0 : 2 * n < d) (h1 : -d < 2 * n) : rne n d = 0 := by
  have hd : 0 < d := by omega
  unfold rne
  rcases Int.lt_or_le n 0 with k | k
  · have e : n / d = -1 := by
      have a := Int.ediv_lt_of_lt_mul hd (show n < 0 * d by omega)
      have b : -1 ≤ n / d := Int.le_ediv_of_mul_le hd (by omega)
      omega
    have m := Int.mul_ediv_add_emod n d
    rw [e] at m ⊢
    rw [if_neg (by omega)]
    omega
  · rw [Int.ediv_eq_zero_of_lt k (by omega), Int.emod_eq_of_lt k (by omega), if_pos (by omega)]
/-- By 2 to the power of 62 nothing is left. -/
theorem ex_down {x : Int} (h0 : x ≤ 0) (h1 : -47185920 ≤ x) (D : Nat) (hD : (D : Int) = min (20 + hv x) 62) : rne (ps (rs x) 21) (2 ^ D) = ex x := by
  have b := ps21_bd x
  have hb := hv_bd h0 h1
  unfold ex
  rw [if_neg (by omega)]
  by_cases h : 20 + hv x ≤ 62
  · have : D = 20 + (hv x).toNat := by omega
    rw [this]
  · have : D = 62 := by omega
    rw [this]
    have hp : (2 : Nat) ^ 62 ≤ 2 ^ (20 + (hv x).toNat) := Nat.pow_le_pow_right (by omega) (by omega)
    have hc : ((2 ^ (20 + (hv x).toNat) : Nat) : Int) = (2 : Int) ^ (20 + (hv x).toNat) := by simp
    have h62 : (2 : Int) ^ 62 = 4611686018427387904 := rfl
    have h62n : (2 : Nat) ^ 62 = 4611686018427387904 := rfl
    rw [rne_zero (by omega) (by omega), rne_zero (by omega) (by omega)]
theorem ex_bd {x : Int} (h0 : x ≤ 0) (h1 : -47185920 ≤ x) : -22548578304 ≤ ex x ∧ ex x ≤ 22548578304 := by
  have b := ps21_bd x
  have hb := hv_bd h0 h1
  unfold ex
  rw [if_neg (by omega)]
  have hp : (2 : Nat) ^ 20 ≤ 2 ^ (20 + (hv x).toNat) := Nat.pow_le_pow_right (by omega) (by omega)
  have hc : ((2 ^ (20 + (hv x).toNat) : Nat) : Int) = (2 : Int) ^ (20 + (hv x).toNat) := by simp
  have h20n : (2 : Nat) ^ 20 = 1048576 := rfl
  obtain ⟨d, hd⟩ : ∃ d : Int, (2 : Int) ^ (20 + (hv x).toNat) = d := ⟨_, rfl⟩
  rw [hd] at hc ⊢
  refine ⟨rne_ge (by omega) ?_, rne_le (by omega) ?_⟩ <;> omega
theorem ex_bd' {x : Int} (h0 : x ≤ 0) : -22548578304 ≤ ex x ∧ ex x ≤ 22548578304 := by
  by_cases h : x < -47185920
  · unfold ex; rw [if_pos h]; omega
  · exact ex_bd h0 (by omega)

/-- What a logarithm's row begins with: m less one, by m and one. -/
def s0 (m : Int) : Int := rne ((m - 1125899906842624) * 2 ^ 50) (m + 1125899906842624)
theorem s0_bd {m : Int} (h0 : 1125899906842624 ≤ m) (h1 : m < 2251799813685248) : 0 ≤ s0 m ∧ s0 m ≤ 562949953421312 := by
  unfold s0
  rw [show (2 : Int) ^ 50 = 1125899906842624 from rfl]
  constructor
  · have := rne_ge (n := (m - 1125899906842624) * 1125899906842624) (d := m + 1125899906842624) (A := 0) (by omega) (by omega)
    omega
  · exact rne_le (by omega) (by omega)
def us (m : Int) : Nat → Int
  | 0 => s0 m
  | n + 1 => tim (us m n) (tim (s0 m) (s0 m))
def ls (m : Int) : Nat → Int
  | 0 => 0
  | n + 1 => ls m n + (us m n).tdiv ((2 * n + 1 : Nat) : Int)
theorem ls_step (m : Int) (n : Nat) : ls m (n + 1) = ls m n + (us m n).tdiv ((2 * n + 1 : Nat) : Int) := rfl
theorem sq_bd {m : Int} (h0 : 1125899906842624 ≤ m) (h1 : m < 2251799813685248) : -562949953421312 ≤ tim (s0 m) (s0 m) ∧ tim (s0 m) (s0 m) ≤ 562949953421312 := by
  have := s0_bd h0 h1
  exact (tim_eq (a := s0 m) (b := s0 m) (A := 562949953421312) (by omega) (by omega) (by omega) (by omega) (by omega)).2
theorem us_bd {m : Int} (h0 : 1125899906842624 ≤ m) (h1 : m < 2251799813685248) : ∀ n, -562949953421312 ≤ us m n ∧ us m n ≤ 562949953421312
  | 0 => by have := s0_bd h0 h1; unfold us; omega
  | n + 1 => by
    have ih := us_bd h0 h1 n
    have := sq_bd h0 h1
    exact (tim_eq ih.1 ih.2 (by omega) (by omega) (by omega)).2
theorem ls_bd {m : Int} (h0 : 1125899906842624 ≤ m) (h1 : m < 2251799813685248) : ∀ n : Nat, -((n : Int) * 562949953421312) ≤ ls m n ∧ ls m n ≤ (n : Int) * 562949953421312
  | 0 => by unfold ls; omega
  | n + 1 => by
    have ih := ls_bd h0 h1 n
    have hu := us_bd h0 h1 n
    have := tdiv_bd (2 * n + 1) hu.1 hu.2
    rw [ls_step]
    omega
/-- The logarithm of m times 2 to the power of e. -/
def lg (m e : Int) : Int := rne (2 * ls m 20 + e * 780414346020670) (2 ^ 30)
theorem lg_in {m e : Int} (h0 : 1125899906842624 ≤ m) (h1 : m < 2251799813685248) (e0 : -100 ≤ e) (e1 : e ≤ 100) : -100583439434973184 ≤ 2 * ls m 20 + e * 780414346020670 ∧ 2 * ls m 20 + e * 780414346020670 ≤ 100583439434973184 := by
  have := ls_bd h0 h1 20
  omega
theorem lg_bd {m e : Int} (h0 : 1125899906842624 ≤ m) (h1 : m < 2251799813685248) (e0 : -100 ≤ e) (e1 : e ≤ 100) : -93675630 ≤ lg m e ∧ lg m e ≤ 93675630 := by
  have := lg_in h0 h1 e0 e1
  unfold lg
  rw [show (2 : Int) ^ 30 = 1073741824 from rfl]
  exact ⟨rne_ge (by omega) (by omega), rne_le (by omega) (by omega)⟩

/-- A number moved down by so many bits (up, where they are below 0). -/
def mo (x d : Int) : Int := if d < 0 then x * 2 ^ (-d).toNat else x / 2 ^ d.toNat
/-- By how many bits a number is moved down to be from one on, below two. -/
def Dn (x d : Int) : Prop := -50 ≤ d ∧ d ≤ 11 ∧ 2 ^ (50 + d).toNat ≤ x ∧ x < 2 ^ (51 + d).toNat
theorem two_add (a b : Nat) : (2 : Int) ^ (a + b) = 2 ^ a * 2 ^ b := Int.pow_add 2 a b
theorem mo_bd {x d : Int} (h : Dn x d) : 1125899906842624 ≤ mo x d ∧ mo x d < 2251799813685248 := by
  obtain ⟨h0, h1, h2, h3⟩ := h
  have p50 : (2 : Int) ^ 50 = 1125899906842624 := rfl
  have p51 : (2 : Int) ^ 51 = 2251799813685248 := rfl
  unfold mo
  split
  · obtain ⟨k, hk⟩ : ∃ k : Nat, k = (-d).toNat := ⟨_, rfl⟩
    rw [← hk]
    have a1 : (2 : Int) ^ 50 = 2 ^ (50 + d).toNat * 2 ^ k := by rw [← two_add]; congr 1; omega
    have a2 : (2 : Int) ^ 51 = 2 ^ (51 + d).toNat * 2 ^ k := by rw [← two_add]; congr 1; omega
    have hp : (0 : Int) < 2 ^ k := Int.pow_pos (by omega)
    have b1 := Int.mul_le_mul_of_nonneg_right h2 (Int.le_of_lt hp)
    have b2 := Int.mul_lt_mul_of_pos_right h3 hp
    omega
  · obtain ⟨k, hk⟩ : ∃ k : Nat, k = d.toNat := ⟨_, rfl⟩
    rw [← hk]
    have a1 : (2 : Int) ^ (50 + d).toNat = 2 ^ 50 * 2 ^ k := by rw [← two_add]; congr 1; omega
    have a2 : (2 : Int) ^ (51 + d).toNat = 2 ^ 51 * 2 ^ k := by rw [← two_add]; congr 1; omega
    have hp : (0 : Int) < 2 ^ k := Int.pow_pos (by omega)
    constructor
    · exact Int.le_ediv_of_mul_le hp (by omega)
    · exact Int.ediv_lt_of_lt_mul hp (by omega)
/-- While it is moved down: whether it must be moved on. -/
theorem mo_more {x d : Int} (h : Dn x d) (j : Nat) (hj : (j : Int) ≤ d) : 2251799813685248 ≤ x / 2 ^ j ↔ (j : Int) < d := by
  obtain ⟨h0, h1, h2, h3⟩ := h
  have p51 : (2 : Int) ^ 51 = 2251799813685248 := rfl
  have hp : (0 : Int) < 2 ^ j := Int.pow_pos (by omega)
  have hpn : (0 : Int) < 2 ^ 51 * 2 ^ j := Int.mul_pos (by decide) hp
  constructor
  · intro k
    have := Int.mul_le_of_le_ediv hp k
    rcases Int.lt_or_le (j : Int) d with c | c
    · exact c
    · have a : (2 : Int) ^ (51 + d).toNat = 2 ^ 51 * 2 ^ j := by rw [← two_add]; congr 1; omega
      omega
  · intro k
    refine Int.le_ediv_of_mul_le hp ?_
    have a : (2 : Int) ^ (50 + d).toNat = 2 ^ ((50 + d).toNat - 51 - j) * (2 ^ 51 * 2 ^ j) := by rw [← two_add, ← two_add]; congr 1; omega
    have b0 : (0 : Int) < 2 ^ ((50 + d).toNat - 51 - j) := Int.pow_pos (by omega)
    have b : (1 : Int) ≤ 2 ^ ((50 + d).toNat - 51 - j) := b0
    have c := Int.mul_le_mul_of_nonneg_right b (Int.le_of_lt hpn)
    omega
theorem mo_less {x d : Int} (h : Dn x d) (j : Nat) (hj : (j : Int) ≤ -d) : x * 2 ^ j < 1125899906842624 ↔ (j : Int) < -d := by
  obtain ⟨h0, h1, h2, h3⟩ := h
  have p50 : (2 : Int) ^ 50 = 1125899906842624 := rfl
  have hp : (0 : Int) < 2 ^ j := Int.pow_pos (by omega)
  constructor
  · intro k
    rcases Int.lt_or_le (j : Int) (-d) with c | c
    · exact c
    · have a : (2 : Int) ^ 50 = 2 ^ (50 + d).toNat * 2 ^ j := by rw [← two_add]; congr 1; omega
      have b := Int.mul_le_mul_of_nonneg_right h2 (Int.le_of_lt hp)
      omega
  · intro k
    have a : (2 : Int) ^ 50 = 2 ^ ((51 + d).toNat) * 2 ^ j * 2 ^ (50 - (51 + d).toNat - j) := by rw [← two_add, ← two_add]; congr 1; omega
    have b0 : (0 : Int) < 2 ^ (50 - (51 + d).toNat - j) := Int.pow_pos (by omega)
    have b : (1 : Int) ≤ 2 ^ (50 - (51 + d).toNat - j) := b0
    have c := Int.mul_lt_mul_of_pos_right h3 hp
    have hq : (0 : Int) < 2 ^ (51 + d).toNat * 2 ^ j := Int.mul_pos (Int.pow_pos (by omega)) hp
    have e := Int.mul_le_mul_of_nonneg_left b (Int.le_of_lt hq)
    omega
/-- The logarithm of a number with so many bits behind the point, moved so. -/
def lgb (x d : Int) (b : Int) : Int := lg (mo x d) (d - b + 50)
end Gw
end Go.Proofs.YtfgjigkgfflofaaDoorR
