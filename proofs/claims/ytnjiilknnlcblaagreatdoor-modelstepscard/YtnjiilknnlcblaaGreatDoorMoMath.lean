/-
  How things move (model): what is reckoned, how great it is; plain mathematics.
-/
import Derived.Test.YtnjiilknnlcblaaGreatDoorM13
import Derived.Test.YtnjiilknnlcblaaGreatDoorM14
set_option linter.unusedSimpArgs false
set_option linter.unusedVariables false
namespace Go.Proofs.YtnjiilknnlcblaaGreatDoor
namespace Mo
open Qn Tg Po

theorem pw : (2 : Int) ^ 20 = 1048576 := by decide
theorem clampId {n : Int} (h0 : -4611686018427387903 ≤ n) (h1 : n ≤ 4611686018427387903) : clamp n = n := by
  unfold clamp; rw [if_neg (by omega), if_neg (by omega)]
theorem greatNo {n : Int} (h0 : -4611686018427387903 ≤ n) (h1 : n ≤ 4611686018427387903) : great n = false := by
  unfold great; rw [decide_eq_false (by omega), decide_eq_false (by omega)]; rfl

/-- A product with twenty bits behind the point. -/
def ml (a b : Int) : Int := clamp (rne (a * b) (2 ^ 20))
def mlO (a b : Int) : Bool := great (rne (a * b) (2 ^ 20))
theorem ml_bd (a b : Int) : -4611686018427387903 ≤ ml a b ∧ ml a b ≤ 4611686018427387903 := clamp_bd _
theorem ml_in {a b A B C : Int} (a0 : 0 ≤ a) (a1 : a ≤ A) (b0 : 0 ≤ b) (b1 : b ≤ B) (h : A * B ≤ C * 1048576) (hC : C ≤ 4611686018427387903) :
    mlO a b = false ∧ ml a b = rne (a * b) (2 ^ 20) ∧ 0 ≤ ml a b ∧ ml a b ≤ C := by
  have m0 : 0 ≤ a * b := Int.mul_nonneg a0 b0
  have m1 : a * b ≤ A * B := Int.mul_le_mul a1 b1 b0 (by omega)
  have hn := rne_near (a * b) (d := 2 ^ 20) (by decide)
  have h0 := rne_nn (n := a * b) (d := 2 ^ 20) (by decide) m0
  unfold ml mlO
  rw [pw] at *
  generalize A * B = M at *
  generalize a * b = n at *
  generalize rne n 1048576 = r at *
  rw [clampId (by omega) (by omega)]
  exact ⟨greatNo (by omega) (by omega), rfl, by omega, by omega⟩
theorem ml_up {a b a' b' : Int} (a0 : 0 ≤ a) (b0 : 0 ≤ b) (h : a ≤ a') (k : b ≤ b') (e : ml a b = rne (a * b) (2 ^ 20)) (e' : ml a' b' = rne (a' * b') (2 ^ 20)) : ml a b ≤ ml a' b' := by
  rw [e, e']
  exact rne_up (by decide) (Int.mul_le_mul h k b0 (by omega))
theorem ml_comm (a b : Int) : ml a b = ml b a := by unfold ml; rw [Int.mul_comm]

/-- The half of a time squared. -/
def hf (d : Int) : Int := ml (ml d d) 524288
/-- May a time be? -/
def MayT (d : Int) : Prop := 1 ≤ d ∧ d ≤ 67108864
theorem sq_in {d : Int} (h : MayT d) : mlO d d = false ∧ ml d d = rne (d * d) (2 ^ 20) ∧ 0 ≤ ml d d ∧ ml d d ≤ 4294967296 :=
  ml_in (A := 67108864) (B := 67108864) (by have := h.1; omega) h.2 (by have := h.1; omega) h.2 (by decide) (by decide)
theorem hf_in {d : Int} (h : MayT d) : mlO (ml d d) 524288 = false ∧ ml (ml d d) 524288 = rne (ml d d * 524288) (2 ^ 20) ∧ 0 ≤ hf d ∧ hf d ≤ 2147483648 :=
  ml_in (A := 4294967296) (B := 524288) (sq_in h).2.2.1 (sq_in h).2.2.2 (by decide) (by decide) (by decide) (by decide)
theorem hf_up {d e : Int} (h : MayT d) (k : MayT e) (hde : d ≤ e) : hf d ≤ hf e :=
  ml_up (sq_in h).2.2.1 (by decide) (ml_up (by have := h.1; omega) (by have := h.1; omega) hde hde (sq_in h).2.1 (sq_in k).2.1) (Int.le_refl _) (hf_in h).2.1 (hf_in k).2.1

/-- The three numbers that a noise is made of. -/
def gv (K d : Int) : Nat → Int := fun i => if i = 0 then hf d else if i = 1 then d else if K = 1 then 1048576 else 0
theorem gv_in (K : Int) {d : Int} (h : MayT d) (i : Nat) : 0 ≤ gv K d i ∧ gv K d i ≤ 2147483648 := by
  have h2 := (hf_in h).2.2
  obtain ⟨h0, h1⟩ := h
  unfold gv
  split
  · exact h2
  · split
    · omega
    · split <;> omega
theorem gv_up (K : Int) {d e : Int} (h : MayT d) (k : MayT e) (hde : d ≤ e) (i : Nat) : gv K d i ≤ gv K e i := by
  unfold gv
  split
  · exact hf_up h k hde
  · split
    · exact hde
    · exact Int.le_refl _
theorem gg_in (K : Int) {d : Int} (h : MayT d) (i j : Nat) : mlO (gv K d i) (gv K d j) = false ∧ ml (gv K d i) (gv K d j) = rne (gv K d i * gv K d j) (2 ^ 20) ∧ 0 ≤ ml (gv K d i) (gv K d j) ∧ ml (gv K d i) (gv K d j) ≤ 4398046511104 :=
  ml_in (A := 2147483648) (B := 2147483648) (gv_in K h i).1 (gv_in K h i).2 (gv_in K h j).1 (gv_in K h j).2 (by decide) (by decide)
/-- May a noise be? -/
def MayN (N : Int) : Prop := 1 ≤ N ∧ N ≤ 1073741824
/-- How much less sure: without what comes to the diagonal. -/
def ng (K d N : Int) (i j : Nat) : Int := ml (ml (gv K d i) (gv K d j)) N
theorem ng_in (K : Int) {d N : Int} (h : MayT d) (n : MayN N) (i j : Nat) : mlO (ml (gv K d i) (gv K d j)) N = false ∧ ml (ml (gv K d i) (gv K d j)) N = rne (ml (gv K d i) (gv K d j) * N) (2 ^ 20) ∧ 0 ≤ ng K d N i j ∧ ng K d N i j ≤ 4503599627370496 :=
  ml_in (A := 4398046511104) (B := 1073741824) (gg_in K h i j).2.2.1 (gg_in K h i j).2.2.2 (by have := n.1; omega) n.2 (by decide) (by decide)
theorem ng_up (K : Int) {d e N : Int} (h : MayT d) (k : MayT e) (n : MayN N) (hde : d ≤ e) (i j : Nat) : ng K d N i j ≤ ng K e N i j :=
  ml_up (gg_in K h i j).2.2.1 (by have := n.1; omega) (ml_up (gv_in K h i).1 (gv_in K h j).1 (gv_up K h k hde i) (gv_up K h k hde j) (gg_in K h i j).2.1 (gg_in K k i j).2.1) (Int.le_refl _) (ng_in K h n i j).2.1 (ng_in K k n i j).2.1
theorem ng_comm (K d N : Int) (i j : Nat) : ng K d N i j = ng K d N j i := by unfold ng; rw [ml_comm (gv K d i)]
/-- A noise's three by three numbers. -/
def nz (K d N : Int) (i j : Nat) : Int := ng K d N i j + if i = j then 16 else 0
theorem nz_in (K : Int) {d N : Int} (h : MayT d) (n : MayN N) (i j : Nat) : 0 ≤ nz K d N i j ∧ nz K d N i j ≤ 4503599627370512 := by
  have := (ng_in K h n i j).2.2
  unfold nz; split <;> omega
theorem nz_comm (K d N : Int) (i j : Nat) : nz K d N i j = nz K d N j i := by
  unfold nz; rw [ng_comm]
  by_cases e : i = j
  · rw [if_pos e, if_pos e.symm]
  · rw [if_neg e, if_neg (fun h => e h.symm)]

/-- Three by three numbers for x, and the same for y. -/
def tw (b : Nat → Nat → Int) : Nat → Nat → Int := fun i j => if i / 3 = j / 3 then b (i % 3) (j % 3) else 0
/-- Six numbers. -/
def row6 (a b c d e f : Int) : Nat → Int
  | 0 => a
  | 1 => b
  | 2 => c
  | 3 => d
  | 4 => e
  | 5 => f
  | _ => 0
/-- What a turn makes of a state. -/
def arcF (s c p q : Int) : Nat → Nat → Int
  | 0 => row6 1048576 p 0 0 q 0
  | 1 => row6 0 c 0 0 s 0
  | 3 => row6 0 (-q) 0 1048576 p 0
  | 4 => row6 0 (-s) 0 0 c 0
  | _ => row6 0 0 0 0 0 0
/-- What no turn makes of one, for x or y. -/
def stF (K d : Int) : Nat → Nat → Int
  | 0, 0 => 1048576
  | 0, 1 => d
  | 0, 2 => if K = 1 then hf d else 0
  | 1, 1 => 1048576
  | 1, 2 => if K = 1 then d else 0
  | 2, 2 => if K = 1 then 1048576 else 0
  | _, _ => 0

/-- A turn. -/
def MayR (R : Int) : Prop := 1048576 ≤ R ∧ R ≤ 268435456
def tn (R d : Int) : Int := R * d / 1048576 % 4294967296
def sV (R d : Int) : Int := clamp (rne (sine (tn R d) * 2 ^ (20 - 30)) (2 ^ (30 - 20)))
def cV (R d : Int) : Int := clamp (rne (cosine (tn R d) * 2 ^ (20 - 30)) (2 ^ (30 - 20)))
def wV (R : Int) : Int := Tn.rad R 20
def dv (a b : Int) : Int := signed a b (clamp (rne ((a.natAbs : Int) * 2 ^ 20) b.natAbs))
def dvO (a b : Int) : Bool := great (rne ((a.natAbs : Int) * 2 ^ 20) b.natAbs)
def pV (R d : Int) : Int := dv (sV R d) (wV R)
def qV (R d : Int) : Int := dv (1048576 - cV R d) (wV R)
theorem tn_bd (R d : Int) : 0 ≤ tn R d ∧ tn R d ≤ 4294967295 := by unfold tn; omega
theorem mv_eq (a : Int) : rne (a * 2 ^ (20 - 30)) (2 ^ (30 - 20)) = rne a 1024 := by
  have e1 : (2 : Int) ^ (20 - 30 : Nat) = 1 := by decide
  have e2 : (2 : Int) ^ (30 - 20 : Nat) = 1024 := by decide
  rw [e1, e2, Int.mul_one]
theorem mv_in {a : Int} (h0 : -5215406418 ≤ a) (h1 : a ≤ 5215406418) : great (rne (a * 2 ^ (20 - 30)) (2 ^ (30 - 20))) = false ∧ clamp (rne (a * 2 ^ (20 - 30)) (2 ^ (30 - 20))) = rne a 1024 ∧ -5093171 ≤ rne a 1024 ∧ rne a 1024 ≤ 5093171 := by
  rw [mv_eq]
  have hn := rne_near a (d := 1024) (by decide)
  generalize rne a 1024 = r at *
  exact ⟨greatNo (by omega) (by omega), clampId (by omega) (by omega), by omega, by omega⟩
theorem sV_in (R d : Int) : great (rne (sine (tn R d) * 2 ^ (20 - 30)) (2 ^ (30 - 20))) = false ∧ sV R d = rne (sine (tn R d)) 1024 ∧ -5093171 ≤ sV R d ∧ sV R d ≤ 5093171 := by
  have h := mv_in (sine_bd (tn R d)).1 (sine_bd (tn R d)).2
  have e : sV R d = rne (sine (tn R d)) 1024 := h.2.1
  rw [e]
  exact ⟨h.1, rfl, h.2.2⟩
theorem cV_in (R d : Int) : great (rne (cosine (tn R d) * 2 ^ (20 - 30)) (2 ^ (30 - 20))) = false ∧ cV R d = rne (cosine (tn R d)) 1024 ∧ -5093171 ≤ cV R d ∧ cV R d ≤ 5093171 := by
  have h := mv_in (cosine_bd (tn R d)).1 (cosine_bd (tn R d)).2
  have e : cV R d = rne (cosine (tn R d)) 1024 := h.2.1
  rw [e]
  exact ⟨h.1, rfl, h.2.2⟩
theorem wV_in {R : Int} (h : MayR R) : 1600 ≤ wV R ∧ wV R ≤ 500000 := by
  obtain ⟨h0, h1⟩ := h
  have e2 : (18446744073709551616 : Int) * 2 ^ (60 - 20) = 20282409603651670423947251286016 := by decide
  have e3 : R * 4294967296 * 7244019458077122842 / 18446744073709551616 * 18446744073709551616 + R * 4294967296 * 7244019458077122842 % 18446744073709551616 = R * 4294967296 * 7244019458077122842 := by omega
  have e4 : wV R = rne (R * 4294967296 * 7244019458077122842) 20282409603651670423947251286016 := by
    show rne (R * 4294967296 * 7244019458077122842 / 18446744073709551616 * 18446744073709551616 + R * 4294967296 * 7244019458077122842 % 18446744073709551616) (18446744073709551616 * 2 ^ (60 - 20)) = _
    rw [e2, e3]
  have hn := rne_near (R * 4294967296 * 7244019458077122842) (d := 20282409603651670423947251286016) (by decide)
  rw [← e4] at hn
  omega
theorem dv_in {a w : Int} (a0 : -6141747 ≤ a) (a1 : a ≤ 6141747) (w0 : 1600 ≤ w) : dvO a w = false ∧ -4100000000 ≤ dv a w ∧ dv a w ≤ 4100000000 := by
  have hw : (w.natAbs : Int) = w := by omega
  obtain ⟨n, hN⟩ : ∃ n : Int, n = (a.natAbs : Int) * 2 ^ 20 := ⟨_, rfl⟩
  have n0 : 0 ≤ n ∧ n ≤ 6440088502272 := by rw [hN, pw]; omega
  have hn := rne_near n (d := w) (by omega)
  have h0 := rne_nn (n := n) (d := w) (by omega) n0.1
  unfold dvO dv
  rw [hw, ← hN]
  generalize rne n w = r at hn h0 ⊢
  have h2 : r ≤ 4100000000 := by
    rcases Int.lt_or_le 4100000000 r with h | h
    · exfalso
      have h4 : w * (r - 1) = w * r - w := by rw [Int.mul_sub, Int.mul_one]
      have h5 : 1600 * (r - 1) ≤ w * (r - 1) := Int.mul_le_mul_of_nonneg_right w0 (by omega)
      omega
    · exact h
  rw [clampId (by omega) (by omega)]
  refine ⟨greatNo (by omega) (by omega), ?_, ?_⟩ <;> (unfold signed; split <;> omega)
theorem pV_in {R d : Int} (h : MayR R) : dvO (sV R d) (wV R) = false ∧ -4100000000 ≤ pV R d ∧ pV R d ≤ 4100000000 := by
  have := (sV_in R d).2.2
  exact dv_in (by omega) (by omega) (wV_in h).1
theorem qV_in {R d : Int} (h : MayR R) : dvO (1048576 - cV R d) (wV R) = false ∧ -4100000000 ≤ qV R d ∧ qV R d ≤ 4100000000 := by
  have := (cV_in R d).2.2
  exact dv_in (by omega) (by omega) (wV_in h).1

/-- Both squares make one, but for few last bits. -/
theorem sq_near {x r : Int} (h0 : 2 * (1024 * r) ≤ 2 * x + 1024) (h1 : 2 * x - 1024 ≤ 2 * (1024 * r)) (b0 : -1100000000 ≤ x) (b1 : x ≤ 1100000000) :
    x * x - 1200000000000 ≤ 1048576 * (r * r) ∧ 1048576 * (r * r) ≤ x * x + 1200000000000 := by
  obtain ⟨e, he⟩ : ∃ e, e = 1024 * r - x := ⟨_, rfl⟩
  have e0 : -512 ≤ e := by omega
  have e1 : e ≤ 512 := by omega
  have hx : 1024 * r = x + e := by omega
  have hq : 1048576 * (r * r) = x * x + e * (2 * x + e) := by
    have : 1048576 * (r * r) = (1024 * r) * (1024 * r) := by grind
    rw [this, hx]; grind
  have k1 : e * (2 * x + e) ≤ 512 * 2200000512 := by
    rcases Int.le_total 0 e with h | h
    · exact Int.le_trans (Int.mul_le_mul_of_nonneg_left (by omega : 2 * x + e ≤ 2200000512) h) (Int.mul_le_mul_of_nonneg_right e1 (by omega))
    · have : e * (2 * x + e) = (-e) * (-(2 * x + e)) := by rw [Int.neg_mul_neg]
      rw [this]
      exact Int.le_trans (Int.mul_le_mul_of_nonneg_left (by omega : -(2 * x + e) ≤ 2200000512) (by omega)) (Int.mul_le_mul_of_nonneg_right (by omega) (by omega))
  have k2 : -(512 * 2200000512) ≤ e * (2 * x + e) := by
    rcases Int.le_total 0 e with h | h
    · have h3 : e * (-(2 * x + e)) ≤ 512 * 2200000512 := Int.le_trans (Int.mul_le_mul_of_nonneg_left (by omega : -(2 * x + e) ≤ 2200000512) h) (Int.mul_le_mul_of_nonneg_right e1 (by omega))
      rw [Int.mul_neg] at h3; omega
    · have h3 : (-e) * (2 * x + e) ≤ 512 * 2200000512 := Int.le_trans (Int.mul_le_mul_of_nonneg_left (by omega : 2 * x + e ≤ 2200000512) (by omega)) (Int.mul_le_mul_of_nonneg_right (by omega) (by omega))
      rw [Int.neg_mul] at h3; omega
  omega
theorem abs_of_sq {x : Int} (h : x * x ≤ 1152921520000000000) : -1100000000 ≤ x ∧ x ≤ 1100000000 := by
  constructor
  · rcases Int.lt_or_le x (-1100000000) with k | k
    · exfalso
      have : 1100000000 * 1100000000 ≤ (-x) * (-x) := Int.mul_le_mul (by omega) (by omega) (by omega) (by omega)
      rw [Int.neg_mul_neg] at this; omega
    · exact k
  · rcases Int.lt_or_le 1100000000 x with k | k
    · exfalso
      have : 1100000000 * 1100000000 ≤ x * x := Int.mul_le_mul (by omega) (by omega) (by omega) (by omega)
      omega
    · exact k
theorem one_near (R d : Int) : -16777216 ≤ sV R d * sV R d + cV R d * cV R d - 1099511627776 ∧ sV R d * sV R d + cV R d * cV R d - 1099511627776 ≤ 16777216 := by
  have h := circle (tn R d)
  have s0 := sq_nn (sine (tn R d))
  have c0 := sq_nn (cosine (tn R d))
  have bs := abs_of_sq (x := sine (tn R d)) (by omega)
  have bc := abs_of_sq (x := cosine (tn R d)) (by omega)
  have ns := rne_near (sine (tn R d)) (d := 1024) (by decide)
  have nc := rne_near (cosine (tn R d)) (d := 1024) (by decide)
  rw [(sV_in R d).2.1, (cV_in R d).2.1]
  have k1 := sq_near ns.1 ns.2 bs.1 bs.2
  have k2 := sq_near nc.1 nc.2 bc.1 bc.2
  generalize rne (sine (tn R d)) 1024 * rne (sine (tn R d)) 1024 = a at *
  generalize rne (cosine (tn R d)) 1024 * rne (cosine (tn R d)) 1024 = b at *
  generalize sine (tn R d) * sine (tn R d) = x at *
  generalize cosine (tn R d) * cosine (tn R d) = y at *
  omega
end Mo
end Go.Proofs.YtnjiilknnlcblaaGreatDoor
