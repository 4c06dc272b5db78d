/-
  Powers and logarithms rise: by the program's own steps (roundings and divisions rise; the powers' terms by how far two may differ).
-/
import Derived.Test.YtjhjboplbliggaaDoorGwMath
import Derived.Test.YtjhjboplbliggaaDoorTMath
set_option linter.unusedSimpArgs false
set_option linter.unusedVariables false
namespace Go.Proofs.YtjhjboplbliggaaDoor
namespace Gw
open Qn

theorem rne_mono {a b d : Int} (hd : 0 < d) (h : a ≤ b) : rne a d ≤ rne b d := by
  have e1 := Int.mul_ediv_add_emod a d
  have e2 := Int.mul_ediv_add_emod b d
  have q := Int.ediv_le_ediv hd h
  unfold rne
  rcases Int.lt_or_le (a / d) (b / d) with k | k
  · split <;> split <;> omega
  · have ek : a / d = b / d := by omega
    rw [ek] at e1 ⊢
    split <;> split <;> omega
theorem rne_cross {n1 d1 n2 d2 : Int} (h1 : 0 < d1) (h2 : 0 < d2) (h : n1 * d2 ≤ n2 * d1) : rne n1 d1 ≤ rne n2 d2 := by
  have e1 : rne (n1 * d2) (d1 * d2) = rne n1 d1 := Tn.rne_scale n1 d1 d2 h1 h2
  have e2 : rne (n2 * d1) (d2 * d1) = rne n2 d2 := Tn.rne_scale n2 d2 d1 h2 h1
  rw [← e1, ← e2, Int.mul_comm d2 d1]
  exact rne_mono (Int.mul_pos h1 h2) h
/-- How far a rounded number is off. -/
theorem rne_err (n : Int) {d : Int} (hd : 0 < d) : 2 * (d * rne n d) ≤ 2 * n + d ∧ 2 * n - d ≤ 2 * (d * rne n d) := by
  have e := Int.mul_ediv_add_emod n d
  have r0 := Int.emod_nonneg n (show d ≠ 0 by omega)
  have r1 := Int.emod_lt_of_pos n hd
  unfold rne
  split
  · omega
  · rw [Int.mul_add, Int.mul_one]; omega
theorem clamp_mono {a b : Int} (h : a ≤ b) : clamp a ≤ clamp b := by
  unfold clamp
  split <;> split <;> (try split) <;> (try split) <;> omega
theorem tim_mono {a b a2 b2 : Int} (ha0 : 0 ≤ a) (ha : a ≤ a2) (hb0 : 0 ≤ b) (hb : b ≤ b2) : tim a b ≤ tim a2 b2 :=
  clamp_mono (rne_mono (by decide) (Int.mul_le_mul ha hb hb0 (by omega)))
theorem tim_nn {a b : Int} (ha : 0 ≤ a) (hb : 0 ≤ b) : 0 ≤ tim a b := by
  have h := tim_mono (a := 0) (b := 0) (a2 := a) (b2 := b) (by omega) ha (by omega) hb
  have e : tim 0 0 = 0 := by decide
  omega
theorem tdiv_mono {a b : Int} (n : Nat) (ha : 0 ≤ a) (h : a ≤ b) : 0 ≤ a.tdiv n ∧ a.tdiv n ≤ b.tdiv n := by
  rw [Int.tdiv_eq_ediv_of_nonneg ha, Int.tdiv_eq_ediv_of_nonneg (show 0 ≤ b by omega)]
  refine ⟨Int.ediv_nonneg ha (Int.natCast_nonneg n), ?_⟩
  rcases Nat.eq_zero_or_pos n with k | k
  · subst k; simp
  · exact Int.ediv_le_ediv (by omega) h

/-! The powers -/
theorem td_mono {r s : Int} (h0 : 0 ≤ r) (h : r ≤ s) : ∀ n, 0 ≤ td r n ∧ td r n ≤ td s n
  | 0 => by unfold td; omega
  | n + 1 => by
    have ih := td_mono h0 h n
    have := tim_mono ih.1 ih.2 h0 h
    exact tdiv_mono _ (tim_nn ih.1 h0) this
theorem td_one {r : Int} (h0 : 0 ≤ r) (h1 : r ≤ 1125899906842624) : td r 1 = r := by
  have e : tim 1125899906842624 r = r := by
    have := (tim_eq (a := r) (b := 1125899906842624) (A := 1125899906842624) (by omega) (by omega) (by omega) (by omega) (by omega)).1
    have hc : tim 1125899906842624 r = tim r 1125899906842624 := by unfold tim; rw [Int.mul_comm]
    rw [hc, this]
    exact rne_mul r (2 ^ 50) (by decide)
  show (tim 1125899906842624 r).tdiv ((0 + 1 : Nat) : Int) = r
  rw [e]
  exact Int.tdiv_one r
/-- What a next term has to do with the one before it. -/
theorem td_next {r : Int} (n : Nat) (h0 : 0 ≤ r) (h1 : r ≤ 1125899906842624) :
    2251799813685248 * (((n : Int) + 1) * td r (n + 1)) ≤ 2 * (td r n * r) + 1125899906842624 ∧
    2 * (td r n * r) - 1125899906842624 ≤ 2251799813685248 * (((n : Int) + 1) * td r (n + 1) + n) := by
  have b := td_bd h0 h1 n
  have t0 := (td_mono h0 (Int.le_refl r) n).1
  have q := (tim_eq (a := td r n) (b := r) (A := 1125899906842624) b.1 b.2 (by omega) h1 (by omega)).1
  have q0 := tim_nn t0 h0
  have e := rne_err (td r n * r) (d := 2 ^ 50) (by decide)
  rw [← q, show (2 : Int) ^ 50 = 1125899906842624 from rfl] at e
  have hv : td r (n + 1) = (tim (td r n) r) / ((n + 1 : Nat) : Int) := Int.tdiv_eq_ediv_of_nonneg q0
  obtain ⟨Q, hQ⟩ : ∃ Q, Q = tim (td r n) r := ⟨_, rfl⟩
  rw [← hQ] at e q0 hv
  have m := Int.mul_ediv_add_emod Q ((n + 1 : Nat) : Int)
  have m0 := Int.emod_nonneg Q (show ((n + 1 : Nat) : Int) ≠ 0 by omega)
  have m1 := Int.emod_lt_of_pos Q (show (0 : Int) < ((n + 1 : Nat) : Int) by omega)
  rw [← hv, show ((n + 1 : Nat) : Int) = (n : Int) + 1 by omega] at m
  rw [show ((n + 1 : Nat) : Int) = (n : Int) + 1 by omega] at m0 m1
  omega
/-- In parts of a million: no term of r is above so much, no two terms differ by more than so much of what their numbers differ by. -/
def ta : Nat → Int
  | 0 => 1000000
  | n + 1 => ta n * 7 / (10 * ((n : Int) + 1)) + 1
def al : Nat → Int
  | 0 => 0
  | 1 => 1000000
  | n + 2 => (7 * al (n + 1) + 10 * ta (n + 1)) / (10 * ((n : Int) + 2)) + 1
theorem ta_nn : ∀ n, 0 ≤ ta n
  | 0 => by unfold ta; omega
  | n + 1 => by
    have := ta_nn n
    unfold ta
    have := Int.ediv_nonneg (a := ta n * 7) (b := 10 * ((n : Int) + 1)) (by omega) (by omega)
    omega
theorem al_nn : ∀ n, 0 ≤ al n
  | 0 => by unfold al; omega
  | 1 => by unfold al; omega
  | n + 2 => by
    have := al_nn (n + 1)
    have := ta_nn (n + 1)
    unfold al
    have := Int.ediv_nonneg (a := 7 * al (n + 1) + 10 * ta (n + 1)) (b := 10 * ((n : Int) + 2)) (by omega) (by omega)
    omega
theorem up_div (a b : Int) (hb : 0 < b) : a ≤ b * (a / b + 1) := by
  have e := Int.mul_ediv_add_emod a b
  have := Int.emod_lt_of_pos a hb
  rw [Int.mul_add, Int.mul_one]
  omega
theorem td_ta {r : Int} (h0 : 0 ≤ r) (h1 : 10 * r ≤ 7881299347898368) : ∀ n, 1000000 * td r n ≤ ta n * 1125899906842624 + 2000000
  | 0 => by unfold td ta; omega
  | n + 1 => by
    have ih := td_ta h0 h1 n
    have nx := (td_next n h0 (by omega)).1
    have tn := ta_nn n
    obtain ⟨A, hA⟩ : ∃ A, A = ta n * 1125899906842624 + 2000000 := ⟨_, rfl⟩
    rw [← hA] at ih
    have p1 : 1000000 * td r n * r ≤ A * r := Int.mul_le_mul_of_nonneg_right ih h0
    have p2 : A * (10 * r) ≤ A * 7881299347898368 := Int.mul_le_mul_of_nonneg_left h1 (by omega)
    have p3 : A * (10 * r) = 10 * (A * r) := by rw [← Int.mul_assoc, Int.mul_comm A 10, Int.mul_assoc]
    have p4 : 1000000 * td r n * r = 1000000 * (td r n * r) := Int.mul_assoc _ _ _
    have u := up_div (ta n * 7) (10 * ((n : Int) + 1)) (by omega)
    have e : ta (n + 1) = ta n * 7 / (10 * ((n : Int) + 1)) + 1 := rfl
    rw [← e] at u
    have u2 : 10 * ((n : Int) + 1) * ta (n + 1) = 10 * (((n : Int) + 1) * ta (n + 1)) := Int.mul_assoc _ _ _
    have key : ((n : Int) + 1) * (1000000 * td r (n + 1)) ≤ ((n : Int) + 1) * (ta (n + 1) * 1125899906842624 + 2000000) := by
      have f1 : ((n : Int) + 1) * (1000000 * td r (n + 1)) = 1000000 * (((n : Int) + 1) * td r (n + 1)) := by rw [← Int.mul_assoc, Int.mul_comm _ 1000000, Int.mul_assoc]
      have f2 : ((n : Int) + 1) * (ta (n + 1) * 1125899906842624 + 2000000) = 1125899906842624 * (((n : Int) + 1) * ta (n + 1)) + 2000000 * ((n : Int) + 1) := by
        rw [Int.mul_add, ← Int.mul_assoc, Int.mul_comm _ 1125899906842624, Int.mul_comm _ 2000000]
      rw [f1, f2]
      omega
    exact Int.le_of_mul_le_mul_left key (by omega)
theorem td_al {r s : Int} (h0 : 0 ≤ r) (hrs : r ≤ s) (h1 : 10 * s ≤ 7881299347898368) : ∀ n, 1 ≤ n → 1000000 * (td s n - td r n) ≤ al n * (s - r) + 3000000
  | 0, h => absurd h (by omega)
  | 1, _ => by
    rw [td_one h0 (by omega), td_one (by omega) (by omega)]
    show _ ≤ 1000000 * (s - r) + 3000000
    omega
  | n + 2, _ => by
    have ih := td_al h0 hrs h1 (n + 1) (by omega)
    have t1 := (td_next (n + 1) h0 (by omega)).2
    have t2 := (td_next (n + 1) (r := s) (by omega) (by omega)).1
    have mo := td_mono h0 hrs (n + 1)
    have ht := td_ta h0 (show 10 * r ≤ 7881299347898368 by omega) (n + 1)
    have tn := ta_nn (n + 1)
    have an := al_nn (n + 1)
    obtain ⟨δ, hδ⟩ : ∃ δ, δ = s - r := ⟨_, rfl⟩
    have d0 : 0 ≤ δ := by omega
    have d1 : 10 * δ ≤ 7881299347898368 := by omega
    rw [← hδ] at ih ⊢
    obtain ⟨t, ht'⟩ : ∃ t, t = td r (n + 1) := ⟨_, rfl⟩
    obtain ⟨u, hu⟩ : ∃ u, u = td s (n + 1) := ⟨_, rfl⟩
    rw [← ht'] at ih t1 mo ht
    rw [← hu] at ih t2 mo
    have hs : s = r + δ := by omega
    have hp : u * s - t * r = (u - t) * s + t * δ := by
      rw [Int.sub_mul, hs, Int.mul_add t]; omega
    obtain ⟨A, hA⟩ : ∃ A, A = al (n + 1) * δ + 3000000 := ⟨_, rfl⟩
    rw [← hA] at ih
    have hA0 : 0 ≤ A := by have := Int.mul_nonneg an d0; omega
    have p1 : 1000000 * (u - t) * s ≤ A * s := Int.mul_le_mul_of_nonneg_right ih (by omega)
    have p2 : A * (10 * s) ≤ A * 7881299347898368 := Int.mul_le_mul_of_nonneg_left h1 hA0
    have p3 : A * (10 * s) = 10 * (A * s) := by rw [← Int.mul_assoc, Int.mul_comm A 10, Int.mul_assoc]
    have p4 : 1000000 * (u - t) * s = 1000000 * ((u - t) * s) := Int.mul_assoc _ _ _
    have p5 : 1000000 * t * δ ≤ (ta (n + 1) * 1125899906842624 + 2000000) * δ := Int.mul_le_mul_of_nonneg_right ht d0
    have p6 : 1000000 * t * δ = 1000000 * (t * δ) := Int.mul_assoc _ _ _
    have p7 : (ta (n + 1) * 1125899906842624 + 2000000) * δ = 1125899906842624 * (ta (n + 1) * δ) + 2000000 * δ := by
      rw [Int.add_mul, Int.mul_comm (ta (n + 1)), Int.mul_assoc]
    have e : al (n + 2) = (7 * al (n + 1) + 10 * ta (n + 1)) / (10 * ((n : Int) + 2)) + 1 := rfl
    have w := up_div (7 * al (n + 1) + 10 * ta (n + 1)) (10 * ((n : Int) + 2)) (by omega)
    rw [← e] at w
    have w1 := Int.mul_le_mul_of_nonneg_right w d0
    have w2 : (7 * al (n + 1) + 10 * ta (n + 1)) * δ = 7 * (al (n + 1) * δ) + 10 * (ta (n + 1) * δ) := by rw [Int.add_mul, Int.mul_assoc, Int.mul_assoc]
    have w3 : 10 * ((n : Int) + 2) * al (n + 2) * δ = 10 * (((n : Int) + 2) * (al (n + 2) * δ)) := by rw [Int.mul_assoc, Int.mul_assoc]
    have c1 : ((n + 1 : Nat) : Int) + 1 = (n : Int) + 2 := by omega
    have c2 : ((n + 1 : Nat) : Int) = (n : Int) + 1 := by omega
    rw [c1] at t1 t2
    rw [c2] at t1
    rw [show n + 1 + 1 = n + 2 from rfl] at t1 t2
    have key : ((n : Int) + 2) * (1000000 * (td s (n + 2) - td r (n + 2))) ≤ ((n : Int) + 2) * (al (n + 2) * δ + 3000000) := by
      have f1 : ((n : Int) + 2) * (1000000 * (td s (n + 2) - td r (n + 2))) = 1000000 * (((n : Int) + 2) * td s (n + 2)) - 1000000 * (((n : Int) + 2) * td r (n + 2)) := by
        rw [← Int.mul_assoc, Int.mul_comm _ 1000000, Int.mul_assoc, Int.mul_sub, Int.mul_sub]
      have f2 : ((n : Int) + 2) * (al (n + 2) * δ + 3000000) = ((n : Int) + 2) * (al (n + 2) * δ) + 3000000 * ((n : Int) + 2) := by
        rw [Int.mul_add, Int.mul_comm _ 3000000]
      rw [f1, f2]
      omega
    exact Int.le_of_mul_le_mul_left key (by omega)
theorem ps21 (r : Int) : ps r 21 = td r 0 - td r 1 + td r 2 - td r 3 + td r 4 - td r 5 + td r 6 - td r 7 + td r 8 - td r 9 + td r 10 - td r 11 + td r 12 - td r 13 + td r 14 - td r 15 + td r 16 - td r 17 + td r 18 - td r 19 + td r 20 := by
  have h0 : ps r 0 = 0 := rfl
  have e0 : ps r 0 + td r 0 = ps r 1 := ps_even r 0 (by omega)
  have e1 : ps r 1 - td r 1 = ps r 2 := ps_odd r 1 (by omega)
  have e2 : ps r 2 + td r 2 = ps r 3 := ps_even r 2 (by omega)
  have e3 : ps r 3 - td r 3 = ps r 4 := ps_odd r 3 (by omega)
  have e4 : ps r 4 + td r 4 = ps r 5 := ps_even r 4 (by omega)
  have e5 : ps r 5 - td r 5 = ps r 6 := ps_odd r 5 (by omega)
  have e6 : ps r 6 + td r 6 = ps r 7 := ps_even r 6 (by omega)
  have e7 : ps r 7 - td r 7 = ps r 8 := ps_odd r 7 (by omega)
  have e8 : ps r 8 + td r 8 = ps r 9 := ps_even r 8 (by omega)
  have e9 : ps r 9 - td r 9 = ps r 10 := ps_odd r 9 (by omega)
  have e10 : ps r 10 + td r 10 = ps r 11 := ps_even r 10 (by omega)
  have e11 : ps r 11 - td r 11 = ps r 12 := ps_odd r 11 (by omega)
  have e12 : ps r 12 + td r 12 = ps r 13 := ps_even r 12 (by omega)
  have e13 : ps r 13 - td r 13 = ps r 14 := ps_odd r 13 (by omega)
  have e14 : ps r 14 + td r 14 = ps r 15 := ps_even r 14 (by omega)
  have e15 : ps r 15 - td r 15 = ps r 16 := ps_odd r 15 (by omega)
  have e16 : ps r 16 + td r 16 = ps r 17 := ps_even r 16 (by omega)
  have e17 : ps r 17 - td r 17 = ps r 18 := ps_odd r 17 (by omega)
  have e18 : ps r 18 + td r 18 = ps r 19 := ps_even r 18 (by omega)
  have e19 : ps r 19 - td r 19 = ps r 20 := ps_odd r 19 (by omega)
  have e20 : ps r 20 + td r 20 = ps r 21 := ps_even r 20 (by omega)
  omega
theorem al_vals : al 2 = 700001 ∧ al 4 = 57167 ∧ al 6 = 1401 ∧ al 8 ≤ 30 ∧ al 10 ≤ 10 ∧ al 12 ≤ 10 ∧ al 14 ≤ 10 ∧ al 16 ≤ 10 ∧ al 18 ≤ 10 ∧ al 20 ≤ 10 := by decide
/-- The sums fall, but for thirty last bits of fifty. -/
theorem ps_fall {r s : Int} (h0 : 0 ≤ r) (hrs : r ≤ s) (h1 : 10 * s ≤ 7881299347898368) : ps s 21 ≤ ps r 21 + 30 := by
  have m := fun n => td_mono h0 hrs n
  have d := fun n h => td_al h0 hrs h1 n h
  have z : ∀ x, td x 0 = 1125899906842624 := fun _ => rfl
  obtain ⟨v2, v4, v6, v8, v10, v12, v14, v16, v18, v20⟩ := al_vals
  have dd : 0 ≤ s - r := by omega
  have g : ∀ (n : Nat) (c : Int), 1 ≤ n → al n ≤ c → 1000000 * (td s n - td r n) ≤ c * (s - r) + 3000000 := fun n c hn hc => by
    have := d n hn
    have := Int.mul_le_mul_of_nonneg_right hc dd
    omega
  have g2 := g 2 700001 (by omega) (by omega); have g4 := g 4 57167 (by omega) (by omega); have g6 := g 6 1401 (by omega) (by omega); have g8 := g 8 30 (by omega) (by omega); have g10 := g 10 10 (by omega) (by omega)
  have g12 := g 12 10 (by omega) (by omega); have g14 := g 14 10 (by omega) (by omega); have g16 := g 16 10 (by omega) (by omega); have g18 := g 18 10 (by omega) (by omega); have g20 := g 20 10 (by omega) (by omega)
  rw [ps21 r, ps21 s, z r, z s, td_one h0 (by omega), td_one (by omega) (by omega)]
  have m3 := m 3; have m5 := m 5; have m7 := m 7; have m9 := m 9; have m11 := m 11; have m13 := m 13; have m15 := m 15; have m17 := m 17; have m19 := m 19
  omega
theorem ps_low : ps 0 21 = 1125899906842624 := by decide +kernel
theorem ps_high : ps 780414346020670 21 = 562949953421312 := by decide +kernel
theorem ps_in {r : Int} (h0 : 0 ≤ r) (h1 : r ≤ 780414346020670) : 562949953421282 ≤ ps r 21 ∧ ps r 21 ≤ 1125899906842654 := by
  have a := ps_fall h0 h1 (by omega)
  have b := ps_fall (r := 0) (s := r) (by omega) h0 (by omega)
  rw [ps_high] at a
  rw [ps_low] at b
  omega
/-- A greater number has no lesser power, but for two last bits. -/
theorem ex_rise {x y : Int} (hxy : x ≤ y) (hy : y ≤ 0) : ex x ≤ ex y + 2 := by
  have nn : ∀ z, z ≤ 0 → 0 ≤ ex z := fun z hz => by
    unfold ex
    split
    · omega
    · have := ps_in (rs_bd z).1 (Int.le_of_lt (rs_bd z).2)
      have hp : (0 : Int) < 2 ^ (20 + (hv z).toNat) := Int.pow_pos (by omega)
      have := rne_ge (n := ps (rs z) 21) (d := 2 ^ (20 + (hv z).toNat)) (A := 0) hp (by omega)
      omega
  by_cases hx : x < -47185920
  · have e : ex x = 0 := by unfold ex; rw [if_pos hx]
    have := nn y hy
    omega
  · have bx := hv_bd (x := x) (by omega) (by omega)
    have by' := hv_bd (x := y) hy (by omega)
    have hk : hv y ≤ hv x := by unfold hv; omega
    have rx := rs_bd x
    have ry := rs_bd y
    have sx := ps_in rx.1 (Int.le_of_lt rx.2)
    have sy := ps_in ry.1 (Int.le_of_lt ry.2)
    have hfall : hv y = hv x → ps (rs x) 21 ≤ ps (rs y) 21 + 30 := fun e => by
      refine ps_fall ry.1 ?_ (by omega)
      unfold hv at e
      unfold rs
      omega
    have ex1 : ex x = rne (ps (rs x) 21) (2 ^ (20 + (hv x).toNat)) := by unfold ex; rw [if_neg hx]
    have ey1 : ex y = rne (ps (rs y) 21) (2 ^ (20 + (hv y).toNat)) := by unfold ex; rw [if_neg (by omega)]
    rw [ex1, ey1]
    obtain ⟨X, hX⟩ : ∃ X, X = ps (rs x) 21 := ⟨_, rfl⟩
    obtain ⟨Y, hY⟩ : ∃ Y, Y = ps (rs y) 21 := ⟨_, rfl⟩
    rw [← hX] at sx hfall ⊢
    rw [← hY] at sy hfall ⊢
    obtain ⟨j, hj⟩ : ∃ j : Nat, j = (hv y).toNat := ⟨_, rfl⟩
    obtain ⟨i, hi⟩ : ∃ i : Nat, (hv x).toNat = j + i := ⟨(hv x).toNat - j, by omega⟩
    rw [hi, ← hj]
    have hD : (1048576 : Int) ≤ 2 ^ (20 + j) := by
      have h1 : (2 : Nat) ^ 20 ≤ 2 ^ (20 + j) := Nat.pow_le_pow_right (by omega) (by omega)
      have h2 : ((2 ^ (20 + j) : Nat) : Int) = (2 : Int) ^ (20 + j) := by simp
      have h3 : (2 : Nat) ^ 20 = 1048576 := rfl
      omega
    have hDD : (2 : Int) ^ (20 + (j + i)) = 2 ^ (20 + j) * 2 ^ i := by rw [← Int.pow_add]; congr 1; omega
    obtain ⟨D, hDe⟩ : ∃ D, D = (2 : Int) ^ (20 + j) := ⟨_, rfl⟩
    rw [hDD, ← hDe]
    rw [← hDe] at hD
    cases i with
    | zero =>
      have hf := hfall (by omega)
      rw [Int.pow_zero, Int.mul_one]
      have e1 := (rne_err X (d := D) (by omega)).1
      have e2 := (rne_err Y (d := D) (by omega)).2
      obtain ⟨a, ha⟩ : ∃ a, a = rne X D := ⟨_, rfl⟩
      obtain ⟨b, hb⟩ : ∃ b, b = rne Y D := ⟨_, rfl⟩
      rw [← ha] at e1 ⊢
      rw [← hb] at e2 ⊢
      rcases Int.lt_or_le (b + 2) a with k | k
      · exfalso
        have f1 : D * (b + 3) ≤ D * a := Int.mul_le_mul_of_nonneg_left (by omega) (by omega)
        rw [Int.mul_add] at f1
        omega
      · exact k
    | succ i =>
      have hc : (2 : Int) ^ (i + 1) = 2 * 2 ^ i := by rw [Int.pow_succ, Int.mul_comm]
      have hi0 : (1 : Int) ≤ 2 ^ i := by have : (0 : Int) < 2 ^ i := Int.pow_pos (by omega)
                                         omega
      rw [hc]
      obtain ⟨c, hce⟩ : ∃ c : Int, c = 2 ^ i := ⟨_, rfl⟩
      rw [← hce] at hi0 ⊢
      have e1 := (rne_err X (d := D * (2 * c)) (Int.mul_pos (by omega) (by omega))).1
      have e2 := (rne_err Y (d := D) (by omega)).2
      obtain ⟨a, ha⟩ : ∃ a, a = rne X (D * (2 * c)) := ⟨_, rfl⟩
      obtain ⟨b, hb⟩ : ∃ b, b = rne Y D := ⟨_, rfl⟩
      rw [← ha] at e1 ⊢
      rw [← hb] at e2 ⊢
      rcases Int.lt_or_le (b + 2) a with k | k
      · exfalso
        have f1 : D * (2 * c) * (b + 3) ≤ D * (2 * c) * a := Int.mul_le_mul_of_nonneg_left (by omega) (Int.le_of_lt (Int.mul_pos (by omega) (by omega)))
        have f2 : D * (2 * c) * (b + 3) = c * (2 * (D * b)) + 3 * (D * (2 * c)) := by
          grind
        have f3 : c * (2 * Y - D) ≤ c * (2 * (D * b)) := Int.mul_le_mul_of_nonneg_left e2 (by omega)
        have f4 : c * (2 * Y - D) = 2 * (c * Y) - c * D := by rw [Int.mul_sub, ← Int.mul_assoc, Int.mul_comm c 2, Int.mul_assoc]
        have f5 : D * (2 * c) = 2 * (c * D) := by rw [Int.mul_comm, Int.mul_assoc]
        have f6 : 1 * Y ≤ c * Y := Int.mul_le_mul_of_nonneg_right hi0 (by omega)
        have f7 : 1 * D ≤ c * D := Int.mul_le_mul_of_nonneg_right hi0 (by omega)
        omega
      · exact k

/-! The logarithms -/
theorem s0_mono {m n : Int} (h0 : 1125899906842624 ≤ m) (h : m ≤ n) : s0 m ≤ s0 n := by
  unfold s0
  refine rne_cross (by omega) (by omega) ?_
  have e1 : (m - 1125899906842624) * 2 ^ 50 * (n + 1125899906842624) = ((m - 1125899906842624) * (n + 1125899906842624)) * 2 ^ 50 := by grind
  have e2 : (n - 1125899906842624) * 2 ^ 50 * (m + 1125899906842624) = ((n - 1125899906842624) * (m + 1125899906842624)) * 2 ^ 50 := by grind
  rw [e1, e2]
  refine Int.mul_le_mul_of_nonneg_right ?_ (by decide)
  have f1 : (m - 1125899906842624) * (n + 1125899906842624) = m * n + 1125899906842624 * m - 1125899906842624 * n - 1125899906842624 * 1125899906842624 := by grind
  have f2 : (n - 1125899906842624) * (m + 1125899906842624) = m * n + 1125899906842624 * n - 1125899906842624 * m - 1125899906842624 * 1125899906842624 := by grind
  rw [f1, f2]
  omega
theorem us_mono {m n : Int} (h0 : 1125899906842624 ≤ m) (h : m ≤ n) (h1 : n < 2251799813685248) : ∀ k, 0 ≤ us m k ∧ us m k ≤ us n k
  | 0 => ⟨(s0_bd h0 (by omega)).1, s0_mono h0 h⟩
  | k + 1 => by
    have ih := us_mono h0 h h1 k
    have s := (s0_bd h0 (show m < 2251799813685248 by omega)).1
    have s2 := s0_mono h0 h
    have q := tim_mono s s2 s s2
    have q0 := tim_nn s s
    exact ⟨tim_nn ih.1 q0, tim_mono ih.1 ih.2 q0 q⟩
theorem ls_mono {m n : Int} (h0 : 1125899906842624 ≤ m) (h : m ≤ n) (h1 : n < 2251799813685248) : ∀ k, ls m k ≤ ls n k
  | 0 => Int.le_refl _
  | k + 1 => by
    have ih := ls_mono h0 h h1 k
    have u := us_mono h0 h h1 k
    have := (tdiv_mono (2 * k + 1) u.1 u.2).2
    rw [ls_step, ls_step]
    omega
theorem ls_low : ls 1125899906842624 20 = 0 := by decide +kernel
theorem ls_high : 2 * ls 2251799813685247 20 = 780414346020660 := by decide +kernel
theorem ls_in {m : Int} (h0 : 1125899906842624 ≤ m) (h1 : m < 2251799813685248) : 0 ≤ ls m 20 ∧ 2 * ls m 20 ≤ 780414346020660 := by
  have a := ls_mono (m := 1125899906842624) (n := m) (by omega) h0 h1 20
  have b := ls_mono (m := m) (n := 2251799813685247) h0 (by omega) (by omega) 20
  have c := ls_high
  rw [ls_low] at a
  omega
theorem two_lt {a b : Nat} (h : (2 : Int) ^ a < 2 ^ b) : a < b := by
  rcases Nat.lt_or_ge a b with k | k
  · exact k
  · have h1 : (2 : Nat) ^ b ≤ 2 ^ a := Nat.pow_le_pow_right (by omega) k
    have h2 : ((2 ^ b : Nat) : Int) = (2 : Int) ^ b := by simp
    have h3 : ((2 ^ a : Nat) : Int) = (2 : Int) ^ a := by simp
    omega
theorem dn_mono {x y d e : Int} (hx : Dn x d) (hy : Dn y e) (h : x ≤ y) : d ≤ e := by
  obtain ⟨a0, a1, a2, a3⟩ := hx
  obtain ⟨b0, b1, b2, b3⟩ := hy
  have := two_lt (a := (50 + d).toNat) (b := (51 + e).toNat) (by omega)
  omega
theorem mo_mono {x y d : Int} (h : x ≤ y) : mo x d ≤ mo y d := by
  unfold mo
  split
  · exact Int.mul_le_mul_of_nonneg_right h (Int.pow_nonneg (by omega))
  · exact Int.ediv_le_ediv (Int.pow_pos (by omega)) h
theorem near_two {A B D : Int} (hD : 1000 ≤ D) (h : A ≤ B + 30) : rne A D ≤ rne B D + 2 := by
  have e1 := (rne_err A (d := D) (by omega)).1
  have e2 := (rne_err B (d := D) (by omega)).2
  obtain ⟨a, ha⟩ : ∃ a, a = rne A D := ⟨_, rfl⟩
  obtain ⟨b, hb⟩ : ∃ b, b = rne B D := ⟨_, rfl⟩
  rw [← ha] at e1 ⊢
  rw [← hb] at e2 ⊢
  rcases Int.lt_or_le (b + 2) a with k | k
  · exfalso
    have f1 : D * (b + 3) ≤ D * a := Int.mul_le_mul_of_nonneg_left (by omega) (by omega)
    rw [Int.mul_add] at f1
    omega
  · exact k
/-- A greater number has no lesser logarithm, but for two last bits. -/
theorem lgb_rise {x y d e : Int} (b : Int) (hx : Dn x d) (hy : Dn y e) (h : x ≤ y) : lgb x d b ≤ lgb y e b + 2 := by
  have mx := mo_bd hx
  have my := mo_bd hy
  have hd := dn_mono hx hy h
  unfold lgb lg
  refine near_two (by decide) ?_
  rcases Int.lt_or_le d e with k | k
  · have a := (ls_in mx.1 mx.2).2
    have c := (ls_in my.1 my.2).1
    omega
  · obtain rfl : d = e := by omega
    have := ls_mono mx.1 (mo_mono (d := d) h) my.2 20
    omega
theorem dn_twice {x d : Int} (hx : Dn x d) (hx1 : x ≤ 1152921504606846976) : Dn (2 * x) (d + 1) := by
  obtain ⟨a0, a1, a2, a3⟩ := hx
  have hd : d ≤ 10 := by
    have h60 : (2 : Int) ^ 61 = 2305843009213693952 := rfl
    have := two_lt (a := (50 + d).toNat) (b := 61) (by omega)
    omega
  have e1 : (50 + (d + 1)).toNat = (50 + d).toNat + 1 := by omega
  have e2 : (51 + (d + 1)).toNat = (51 + d).toNat + 1 := by omega
  refine ⟨by omega, by omega, ?_, ?_⟩
  · rw [e1, Int.pow_succ]; omega
  · rw [e2, Int.pow_succ]; omega
theorem mo_twice {x d : Int} (hd : -50 ≤ d) : mo (2 * x) (d + 1) = mo x d := by
  unfold mo
  rcases Int.lt_or_le d 0 with k | k
  · rw [if_pos k]
    obtain ⟨j, hj⟩ : ∃ j : Nat, (-d).toNat = j + 1 := ⟨(-d).toNat - 1, by omega⟩
    rw [hj, Int.pow_succ]
    split
    · rw [show (-(d + 1)).toNat = j by omega]; grind
    · rw [show (d + 1).toNat = 0 by omega, show j = 0 by omega, Int.pow_zero, Int.ediv_one]; grind
  · rw [if_neg (by omega), if_neg (by omega), show (d + 1).toNat = d.toNat + 1 by omega, Int.pow_succ, Int.mul_comm 2 x, Int.mul_ediv_mul_of_pos_left _ _ (by omega)]
/-- Twice a number has the logarithm of two more, but for two last bits. -/
theorem lgb_twice {x d : Int} (b : Int) (hx : Dn x d) : lgb (2 * x) (d + 1) b - lgb x d b - 726817 ≤ 2 ∧ -2 ≤ lgb (2 * x) (d + 1) b - lgb x d b - 726817 := by
  unfold lgb lg
  rw [mo_twice hx.1, show d + 1 - b + 50 = (d - b + 50) + 1 by omega]
  obtain ⟨S, hS⟩ : ∃ S, S = 2 * ls (mo x d) 20 + (d - b + 50) * 780414346020670 := ⟨_, rfl⟩
  have e : 2 * ls (mo x d) 20 + (d - b + 50 + 1) * 780414346020670 = S + 780414346020670 := by omega
  rw [e, ← hS, show (2 : Int) ^ 30 = 1073741824 from rfl]
  have a := rne_err S (d := 1073741824) (by omega)
  have c := rne_err (S + 780414346020670) (d := 1073741824) (by omega)
  omega
end Gw
end Go.Proofs.YtjhjboplbliggaaDoor
