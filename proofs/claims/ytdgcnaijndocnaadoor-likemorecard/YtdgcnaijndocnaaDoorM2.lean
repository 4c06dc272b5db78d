/-
  What all texts of this seat's walks lean on: worlds that grow, cells that stay, results.
-/
import Derived.Test.YtdgcnaijndocnaaDoorProg
import Derived.WalkKit
import Derived.Deep.QuietTactic
import Derived.BigQuiet
import Derived.WalkSpells
import Derived.WalkLawsBesides
import Derived.Laws.Bits64b
import Derived.Laws.BitsAllLaws
import Derived.Test.YtdgcnaijndocnaaDoorM1
import Derived.Maps.AppendAt
import Derived.OwnWalk
import Derived.Laws.Rows
import Derived.Laws.Tables
import Derived.Laws.ResultCell
set_option linter.unusedSimpArgs false
set_option linter.unusedVariables false
namespace Go.Proofs.YtdgcnaijndocnaaDoor
open Go.RowKit
/-- Behind a new block. -/
theorem below_al {a w : World} (h : Below a.heap.size a w) (o : Obj) : Below a.heap.size a (w.alloc o) := h.alloc h.size o
/-- Two steps. -/
theorem below_tr {a b c : World} (h : Below a.heap.size a b) (k : Below b.heap.size b c) : Below a.heap.size a c := h.trans (k.mono h.size)

/-- A cell that is there stays. -/
theorem keep_cell {W w1 : World} (hb : Below W.heap.size W w1) {a : Addr} {v : Value} (h : W.cell? a = some v) : w1.cell? a = some v := (hb.cell (World.block_lt_of_cell? W _ h)).trans h

theorem keep_free {W w1 : World} (hb : Below W.heap.size W w1) {a : Addr} {v : Value} (h : W.cell? a = some v) (hf : W.frozen? a = false) : w1.frozen? a = false := (hb.frozen (World.block_lt_of_cell? W _ h)).trans hf

namespace Dec
theorem ret_bool {a b : Bool} (h : a = b) : Ending.returned (.bool a) = .returned (.bool b) := by rw [h]
theorem ret_int {k : IntKind} {a b : Int} (h : a = b) : Ending.returned (.int k a) = .returned (.int k b) := by rw [h]
end Dec

end Go.Proofs.YtdgcnaijndocnaaDoor

/-
  Plain facts on words that are shifted and rounded: no program is named here but Go's own or.
-/
set_option linter.unusedSimpArgs false
set_option linter.unusedVariables false
namespace Go.Proofs.YtdgcnaijndocnaaDoor
open Go.RowKit
namespace Tn

/-- n by d, rounded: a half to the even one. -/
def rne (n d : Int) : Int := if 2 * (n % d) < d ∨ 2 * (n % d) = d ∧ n / d % 2 = 0 then n / d else n / d + 1

theorem rne_scale (n d c : Int) (hd : 0 < d) (hc : 0 < c) : rne (n * c) (d * c) = rne n d := by
  have h1 : n * c / (d * c) = n / d := Int.mul_ediv_mul_of_pos_left n d hc
  have h2 : n * c % (d * c) = n % d * c := by
    rw [Int.mul_comm n c, Int.mul_comm d c, Int.mul_emod_mul_of_pos _ _ hc, Int.mul_comm]
  unfold rne
  rw [h1, h2]
  have e1 : 2 * (n % d * c) < d * c ↔ 2 * (n % d) < d := by
    rw [← Int.mul_assoc]; exact ⟨fun h => Int.lt_of_mul_lt_mul_right h (Int.le_of_lt hc), fun h => Int.mul_lt_mul_of_pos_right h hc⟩
  have e2 : 2 * (n % d * c) = d * c ↔ 2 * (n % d) = d := by
    rw [← Int.mul_assoc]; exact ⟨fun h => Int.eq_of_mul_eq_mul_right (by omega) h, fun h => by rw [h]⟩
  simp only [e1, e2]

/-- One word of what is shifted down: the lower part out of it, the higher part out of the next one. -/
theorem shift_word (X D E : Int) (hD : 0 < D) (hE : 0 < E) (hDE : D * E = 18446744073709551616) :
    X % 18446744073709551616 / D + X / 18446744073709551616 % 18446744073709551616 * E % 18446744073709551616 = X / D % 18446744073709551616 ∧ X % 18446744073709551616 / D < E ∧ 0 ≤ X % 18446744073709551616 / D ∧ ∃ k : Int, 0 ≤ k ∧ X / 18446744073709551616 % 18446744073709551616 * E % 18446744073709551616 = E * k := by
  have hX : X = D * (E * (X / 18446744073709551616)) + X % 18446744073709551616 := by
    rw [← Int.mul_assoc, hDE]; omega
  generalize hY : X / 18446744073709551616 = Y at *
  generalize hr : X % 18446744073709551616 = r at *
  have hr0 : 0 ≤ r := by omega
  have hr1 : r < 18446744073709551616 := by omega
  have e1 : X / D = E * Y + r / D := by
    rw [hX, Int.add_comm, Int.add_mul_ediv_left _ _ (by omega), Int.add_comm]
  have hlt : r / D < E := Int.ediv_lt_of_lt_mul hD (by rw [Int.mul_comm, hDE]; exact hr1)
  have h0 : 0 ≤ r / D := Int.ediv_nonneg hr0 (by omega)
  have e2 : Y % 18446744073709551616 * E % 18446744073709551616 = E * (Y % D) := by
    have : Y % 18446744073709551616 * E % 18446744073709551616 = Y * E % 18446744073709551616 := by
      rw [Int.mul_emod, Int.emod_emod_of_dvd _ (Int.dvd_refl _), ← Int.mul_emod]
    rw [this, ← hDE, Int.mul_comm D E, Int.mul_comm Y E, Int.mul_emod_mul_of_pos _ _ hE]
  have hm0 : 0 ≤ Y % D := Int.emod_nonneg _ (by omega)
  have hm1 : Y % D < D := Int.emod_lt_of_pos _ hD
  refine ⟨?_, hlt, h0, Y % D, hm0, e2⟩
  rw [e2, e1]
  have e3 : (E * Y + r / D) % 18446744073709551616 = E * (Y % D) + r / D := by
    have hb : E * (Y % D) + r / D < 18446744073709551616 := by
      have : E * (Y % D + 1) ≤ E * D := Int.mul_le_mul_of_nonneg_left (by omega) (by omega)
      rw [Int.mul_add, Int.mul_comm E D, hDE] at this
      omega
    have hb0 : 0 ≤ E * (Y % D) := Int.mul_nonneg (by omega) hm0
    have : E * Y + r / D = E * (Y % D) + r / D + 18446744073709551616 * (Y / D) := by
      have := Int.emod_add_mul_ediv Y D
      have h2 : E * Y = E * (Y % D) + E * (D * (Y / D)) := by rw [← Int.mul_add, this]
      rw [h2, ← Int.mul_assoc E D, Int.mul_comm E D, hDE]
      omega
    rw [this, Int.add_mul_emod_self_left]
    exact Int.emod_eq_of_lt (by omega) hb
  rw [e3]; omega

theorem or_word (a b E : Int) (q : Nat) (hE : (2 : Int) ^ q = E) (ha0 : 0 ≤ a) (ha : a < E) (hb0 : 0 ≤ b) (hb1 : b < 18446744073709551616) (hEW : E ≤ 18446744073709551616) (hk : ∃ k : Int, 0 ≤ k ∧ b = E * k) : bits .or .u64 a b = a + b := by
  obtain ⟨k, hk0, hk⟩ := hk
  obtain ⟨A, rfl⟩ := Int.eq_ofNat_of_zero_le ha0
  obtain ⟨B, rfl⟩ := Int.eq_ofNat_of_zero_le hb0
  obtain ⟨K, rfl⟩ := Int.eq_ofNat_of_zero_le hk0
  have hE' : E = ((2 ^ q : Nat) : Int) := by rw [← hE]; simp
  subst hE'
  rw [bits_or_u64_nat A B (by omega) (by omega)]
  have hB : B = 2 ^ q * K := by have := hk; rw [← Int.natCast_mul] at this; omega
  rw [Nat.or_comm, nat_join q B A (by rw [hB]; exact Nat.mul_mod_right _ _) (by omega)]
  omega


/-- What 'lowered' does: two words, shifted down by p places, rounded. -/
theorem low_facts (a b : Int) (p q : Nat) (D E : Int) (ha0 : 0 ≤ a) (ha : a < 18446744073709551616) (hb0 : 0 ≤ b) (hb : b < 18446744073709551616) (hpq : p + q = 64) (hD : (2 : Int) ^ p = D) (hE : (2 : Int) ^ q = E) :
    ∃ rest last : Int, bits .or .u64 (IntKind.u64.wrap (a * E)) (b / D) = rest ∧ IntKind.u64.wrap (b * E) = last ∧ 0 ≤ rest ∧ rest < 18446744073709551616 ∧ 0 ≤ last ∧
      rne (a * 18446744073709551616 + b) (18446744073709551616 * D) = if 9223372036854775808 < rest ∨ rest = 9223372036854775808 ∧ (last ≠ 0 ∨ a / D % 2 = 1) then a / D + 1 else a / D := by
  have hD0 : 0 < D := by rw [← hD]; exact Int.pow_pos (by omega)
  have hE0 : 0 < E := by rw [← hE]; exact Int.pow_pos (by omega)
  have hDE : D * E = 18446744073709551616 := by rw [← hD, ← hE, ← Int.pow_add, hpq]; rfl
  have hEW : E ≤ 18446744073709551616 := by
    have : 1 * E ≤ D * E := Int.mul_le_mul_of_nonneg_right (by omega) (by omega)
    omega
  generalize hX : a * 18446744073709551616 + b = X
  have hXa : X / 18446744073709551616 = a := by omega
  have hXb : X % 18446744073709551616 = b := by omega
  obtain ⟨h1, h2, h3, k, hk0, h4⟩ := shift_word X D E hD0 hE0 hDE
  rw [hXa, hXb, Int.emod_eq_of_lt ha0 ha] at h1
  rw [hXb] at h2 h3
  rw [hXa, Int.emod_eq_of_lt ha0 ha] at h4
  have o1 : bits .or .u64 (b / D) (IntKind.u64.wrap (a * E)) = X / D % 18446744073709551616 := by
    rw [IntKind.wrap_u64, or_word _ _ E q hE h3 h2 (by omega) (by omega) hEW ⟨k, hk0, h4⟩, h1]
  have oc : bits .or .u64 (IntKind.u64.wrap (a * E)) (b / D) = bits .or .u64 (b / D) (IntKind.u64.wrap (a * E)) := by
    have hx0 : 0 ≤ IntKind.u64.wrap (a * E) := by rw [IntKind.wrap_u64]; omega
    have hx1 : IntKind.u64.wrap (a * E) < 18446744073709551616 := by rw [IntKind.wrap_u64]; omega
    generalize IntKind.u64.wrap (a * E) = u at *
    obtain ⟨U, rfl⟩ := Int.eq_ofNat_of_zero_le hx0
    have h6 : b / D < 18446744073709551616 := by omega
    generalize b / D = v at *
    obtain ⟨V, rfl⟩ := Int.eq_ofNat_of_zero_le h3
    rw [bits_or_u64_nat U V (by omega) (by omega), bits_or_u64_nat V U (by omega) (by omega), Nat.or_comm]
  refine ⟨X / D % 18446744073709551616, _, by rw [oc, o1], rfl, by omega, by omega, by rw [IntKind.wrap_u64]; omega, ?_⟩
  have hl : IntKind.u64.wrap (b * E) = E * (b % D) := by
    rw [IntKind.wrap_u64]
    have : (18446744073709551616 : Int) = E * D := by rw [Int.mul_comm]; exact hDE.symm
    rw [Int.mul_comm b E, this, Int.mul_emod_mul_of_pos _ _ hE0]
  have hbD : b % D = X % D := by
    rw [← hXb]
    exact Int.emod_emod_of_dvd X ⟨E, hDE.symm⟩
  have hl0 : IntKind.u64.wrap (b * E) ≠ 0 ↔ X % D ≠ 0 := by
    rw [hl, hbD]
    constructor
    · intro h e; rw [e] at h; simp at h
    · intro h e; rcases Int.mul_eq_zero.1 e with e | e <;> omega
  have hm0 : 0 ≤ X % D := Int.emod_nonneg _ (by omega)
  have hm1 : X % D < D := Int.emod_lt_of_pos _ hD0
  have hq : X / (18446744073709551616 * D) = a / D := by
    rw [← hXa, Int.ediv_ediv, if_neg (fun h => absurd h.1 (by omega)), Int.sub_zero]
  have hr : X % (18446744073709551616 * D) = (X / D % 18446744073709551616) * D + X % D := by
    have e1 := Int.emod_add_mul_ediv X D
    have e2 := Int.emod_add_mul_ediv (X / D) 18446744073709551616
    have e3 := Int.emod_add_mul_ediv X (18446744073709551616 * D)
    have e4 : X / D / 18446744073709551616 = X / (18446744073709551616 * D) := by
      rw [Int.ediv_ediv, if_neg (fun h => absurd h.1 (by omega)), Int.mul_comm, Int.sub_zero]
    rw [e4] at e2
    generalize X / (18446744073709551616 * D) = Y at *
    generalize hZ : X / D % 18446744073709551616 = Z at *
    have e5 : D * (X / D) = D * (Z + 18446744073709551616 * Y) := by rw [e2]
    have e6 : D * (Z + 18446744073709551616 * Y) = Z * D + 18446744073709551616 * D * Y := by
      rw [Int.mul_add, Int.mul_comm D Z, ← Int.mul_assoc, Int.mul_comm D]
    omega
  unfold rne
  rw [hq, hr]
  simp only [hl0]
  generalize hR : X / D % 18446744073709551616 = R at *
  generalize X % D = r at *
  have hR0 : 0 ≤ R := by omega
  rcases Int.lt_trichotomy R 9223372036854775808 with c | c | c
  · have : (R + 1) * D ≤ 9223372036854775808 * D := Int.mul_le_mul_of_nonneg_right (by omega) (by omega)
    rw [Int.add_mul] at this
    rw [if_pos (Or.inl (by omega)), if_neg (by omega)]
  · subst c
    by_cases c2 : r = 0
    · subst c2
      by_cases c3 : a / D % 2 = 0
      · rw [if_pos (Or.inr ⟨by omega, c3⟩), if_neg (by omega)]
      · rw [if_neg (by omega), if_pos (by omega)]
    · rw [if_neg (by omega), if_pos (by omega)]
  · have : 9223372036854775809 * D ≤ R * D := Int.mul_le_mul_of_nonneg_right (by omega) (by omega)
    rw [if_neg (by omega), if_pos (Or.inl c)]

end Tn
end Go.Proofs.YtdgcnaijndocnaaDoor

/-
  Powers and logarithms rise: by the program's own steps (roundings and divisions rise; the powers' terms by how far two may differ).
-/
set_option linter.unusedSimpArgs false
set_option linter.unusedVariables false
namespace Go.Proofs.YtdgcnaijndocnaaDoor
namespace Gw
open Qn

theorem rne_mono {a b d : Int} (hd : 0 < d) (h : a ≤ b) : rne a d ≤ rne b d := by
  have e1 := Int.mul_ediv_add_emod a d
  have e2 := Int.mul_ediv_add_emod b d
  have q := Int.ediv_le_ediv hd h
  unfold rne
  rcases Int.lt_or_le (a / d) (b / d) with k | k
  · split <;> split <;> omega
  · have ek : a / d = b / d := by omega
    rw [ek] at e1 ⊢
    split <;> split <;> omega
theorem rne_cross {n1 d1 n2 d2 : Int} (h1 : 0 < d1) (h2 : 0 < d2) (h : n1 * d2 ≤ n2 * d1) : rne n1 d1 ≤ rne n2 d2 := by
  have e1 : rne (n1 * d2) (d1 * d2) = rne n1 d1 := Tn.rne_scale n1 d1 d2 h1 h2
  have e2 : rne (n2 * d1) (d2 * d1) = rne n2 d2 := Tn.rne_scale n2 d2 d1 h2 h1
  rw [← e1, ← e2, Int.mul_comm d2 d1]
  exact rne_mono (Int.mul_pos h1 h2) h
/-- How far a rounded number is off. -/
theorem rne_err (n : Int) {d : Int} (hd : 0 < d) : 2 * (d * rne n d) ≤ 2 * n + d ∧ 2 * n - d ≤ 2 * (d * rne n d) := by
  have e := Int.mul_ediv_add_emod n d
  have r0 := Int.emod_nonneg n (show d ≠ 0 by omega)
  have r1 := Int.emod_lt_of_pos n hd
  unfold rne
  split
  · omega
  · rw [Int.mul_add, Int.mul_one]; omega
theorem clamp_mono {a b : Int} (h : a ≤ b) : clamp a ≤ clamp b := by
  unfold clamp
  split <;> split <;> (try split) <;> (try split) <;> omega
theorem tim_mono {a b a2 b2 : Int} (ha0 : 0 ≤ a) (ha : a ≤ a2) (hb0 : 0 ≤ b) (hb : b ≤ b2) : tim a b ≤ tim a2 b2 :=
  clamp_mono (rne_mono (by decide) (Int.mul_le_mul ha hb hb0 (by omega)))
theorem tim_nn {a b : Int} (ha : 0 ≤ a) (hb : 0 ≤ b) : 0 ≤ tim a b := by
  have h := tim_mono (a := 0) (b := 0) (a2 := a) (b2 := b) (by omega) ha (by omega) hb
  have e : tim 0 0 = 0 := by decide
  omega
theorem tdiv_mono {a b : Int} (n : Nat) (ha : 0 ≤ a) (h : a ≤ b) : 0 ≤ a.tdiv n ∧ a.tdiv n ≤ b.tdiv n := by
  rw [Int.tdiv_eq_ediv_of_nonneg ha, Int.tdiv_eq_ediv_of_nonneg (show 0 ≤ b by omega)]
  refine ⟨Int.ediv_nonneg ha (Int.natCast_nonneg n), ?_⟩
  rcases Nat.eq_zero_or_pos n with k | k
  · subst k; simp
  · exact Int.ediv_le_ediv (by omega) h

/-! The powers -/
theorem td_mono {r s : Int} (h0 : 0 ≤ r) (h : r ≤ s) : ∀ n, 0 ≤ td r n ∧ td r n ≤ td s n
  | 0 => by unfold td; omega
  | n + 1 => by
    have ih := td_mono h0 h n
    have := tim_mono ih.1 ih.2 h0 h
    exact tdiv_mono _ (tim_nn ih.1 h0) this
theorem td_one {r : Int} (h0 : 0 ≤ r) (h1 : r ≤ 1125899906842624) : td r 1 = r := by
  have e : tim 1125899906842624 r = r := by
    have := (tim_eq (a := r) (b := 1125899906842624) (A := 1125899906842624) (by omega) (by omega) (by omega) (by omega) (by omega)).1
    have hc : tim 1125899906842624 r = tim r 1125899906842624 := by unfold tim; rw [Int.mul_comm]
    rw [hc, this]
    exact rne_mul r (2 ^ 50) (by decide)
  show (tim 1125899906842624 r).tdiv ((0 + 1 : Nat) : Int) = r
  rw [e]
  exact Int.tdiv_one r
/-- What a next term has to do with the one before it. -/
theorem td_next {r : Int} (n : Nat) (h0 : 0 ≤ r) (h1 : r ≤ 1125899906842624) :
    2251799813685248 * (((n : Int) + 1) * td r (n + 1)) ≤ 2 * (td r n * r) + 1125899906842624 ∧
    2 * (td r n * r) - 1125899906842624 ≤ 2251799813685248 * (((n : Int) + 1) * td r (n + 1) + n) := by
  have b := td_bd h0 h1 n
  have t0 := (td_mono h0 (Int.le_refl r) n).1
  have q := (tim_eq (a := td r n) (b := r) (A := 1125899906842624) b.1 b.2 (by omega) h1 (by omega)).1
  have q0 := tim_nn t0 h0
  have e := rne_err (td r n * r) (d := 2 ^ 50) (by decide)
  rw [← q, show (2 : Int) ^ 50 = 1125899906842624 from rfl] at e
  have hv : td r (n + 1) = (tim (td r n) r) / ((n + 1 : Nat) : Int) := Int.tdiv_eq_ediv_of_nonneg q0
  obtain ⟨Q, hQ⟩ : ∃ Q, Q = tim (td r n) r := ⟨_, rfl⟩
  rw [← hQ] at e q0 hv
  have m := Int.mul_ediv_add_emod Q ((n + 1 : Nat) : Int)
  have m0 := Int.emod_nonneg Q (show ((n + 1 : Nat) : Int) ≠ 0 by omega)
  have m1 := Int.emod_lt_of_pos Q (show (0 : Int) < ((n + 1 : Nat) : Int) by omega)
  rw [← hv, show ((n + 1 : Nat) : Int) = (n : Int) + 1 by omega] at m
  rw [show ((n + 1 : Nat) : Int) = (n : Int) + 1 by omega] at m0 m1
  omega
/-- In parts of a million: no term of r is above so much, no two terms differ by more than so much of what their numbers differ by. -/
def ta : Nat → Int
  | 0 => 1000000
  | n + 1 => ta n * 7 / (10 * ((n : Int) + 1)) + 1
def al : Nat → Int
  | 0 => 0
  | 1 => 1000000
  | n + 2 => (7 * al (n + 1) + 10 * ta (n + 1)) / (10 * ((n : Int) + 2)) + 1
theorem ta_nn : ∀ n, 0 ≤ ta n
  | 0 => by unfold ta; omega
  | n + 1 => by
    have := ta_nn n
    unfold ta
    have := Int.ediv_nonneg (a := ta n * 7) (b := 10 * ((n : Int) + 1)) (by omega) (by omega)
    omega
theorem al_nn : ∀ n, 0 ≤ al n
  | 0 => by unfold al; omega
  | 1 => by unfold al; omega
  | n + 2 => by
    have := al_nn (n + 1)
    have := ta_nn (n + 1)
    unfold al
    have := Int.ediv_nonneg (a := 7 * al (n + 1) + 10 * ta (n + 1)) (b := 10 * ((n : Int) + 2)) (by omega) (by omega)
    omega
theorem up_div (a b : Int) (hb : 0 < b) : a ≤ b * (a / b + 1) := by
  have e := Int.mul_ediv_add_emod a b
  have := Int.emod_lt_of_pos a hb
  rw [Int.mul_add, Int.mul_one]
  omega
theorem td_ta {r : Int} (h0 : 0 ≤ r) (h1 : 10 * r ≤ 7881299347898368) : ∀ n, 1000000 * td r n ≤ ta n * 1125899906842624 + 2000000
  | 0 => by unfold td ta; omega
  | n + 1 => by
    have ih := td_ta h0 h1 n
    have nx := (td_next n h0 (by omega)).1
    have tn := ta_nn n
    obtain ⟨A, hA⟩ : ∃ A, A = ta n * 1125899906842624 + 2000000 := ⟨_, rfl⟩
    rw [← hA] at ih
    have p1 : 1000000 * td r n * r ≤ A * r := Int.mul_le_mul_of_nonneg_right ih h0
    have p2 : A * (10 * r) ≤ A * 7881299347898368 := Int.mul_le_mul_of_nonneg_left h1 (by omega)
    have p3 : A * (10 * r) = 10 * (A * r) := by rw [← Int.mul_assoc, Int.mul_comm A 10, Int.mul_assoc]
    have p4 : 1000000 * td r n * r = 1000000 * (td r n * r) := Int.mul_assoc _ _ _
    have u := up_div (ta n * 7) (10 * ((n : Int) + 1)) (by omega)
    have e : ta (n + 1) = ta n * 7 / (10 * ((n : Int) + 1)) + 1 := rfl
    rw [← e] at u
    have u2 : 10 * ((n : Int) + 1) * ta (n + 1) = 10 * (((n : Int) + 1) * ta (n + 1)) := Int.mul_assoc _ _ _
    have key : ((n : Int) + 1) * (1000000 * td r (n + 1)) ≤ ((n : Int) + 1) * (ta (n + 1) * 1125899906842624 + 2000000) := by
      have f1 : ((n : Int) + 1) * (1000000 * td r (n + 1)) = 1000000 * (((n : Int) + 1) * td r (n + 1)) := by rw [← Int.mul_assoc, Int.mul_comm _ 1000000, Int.mul_assoc]
      have f2 : ((n : Int) + 1) * (ta (n + 1) * 1125899906842624 + 2000000) = 1125899906842624 * (((n : Int) + 1) * ta (n + 1)) + 2000000 * ((n : Int) + 1) := by
        rw [Int.mul_add, ← Int.mul_assoc, Int.mul_comm _ 1125899906842624, Int.mul_comm _ 2000000]
      rw [f1, f2]
      omega
    exact Int.le_of_mul_le_mul_left key (by omega)
theorem td_al {r s : Int} (h0 : 0 ≤ r) (hrs : r ≤ s) (h1 : 10 * s ≤ 7881299347898368) : ∀ n, 1 ≤ n → 1000000 * (td s n - td r n) ≤ al n * (s - r) + 3000000
  | 0, h => absurd h (by omega)
  | 1, _ => by
    rw [td_one h0 (by omega), td_one (by omega) (by omega)]
    show _ ≤ 1000000 * (s - r) + 3000000
    omega
  | n + 2, _ => by
    have ih := td_al h0 hrs h1 (n + 1) (by omega)
    have t1 := (td_next (n + 1) h0 (by omega)).2
    have t2 := (td_next (n + 1) (r := s) (by omega) (by omega)).1
    have mo := td_mono h0 hrs (n + 1)
    have ht := td_ta h0 (show 10 * r ≤ 7881299347898368 by omega) (n + 1)
    have tn := ta_nn (n + 1)
    have an := al_nn (n + 1)
    obtain ⟨δ, hδ⟩ : ∃ δ, δ = s - r := ⟨_, rfl⟩
    have d0 : 0 ≤ δ := by omega
    have d1 : 10 * δ ≤ 7881299347898368 := by omega
    rw [← hδ] at ih ⊢
    obtain ⟨t, ht'⟩ : ∃ t, t = td r (n + 1) := ⟨_, rfl⟩
    obtain ⟨u, hu⟩ : ∃ u, u = td s (n + 1) := ⟨_, rfl⟩
    rw [← ht'] at ih t1 mo ht
    rw [← hu] at ih t2 mo
    have hs : s = r + δ := by omega
    have hp : u * s - t * r = (u - t) * s + t * δ := by
      rw [Int.sub_mul, hs, Int.mul_add t]; omega
    obtain ⟨A, hA⟩ : ∃ A, A = al (n + 1) * δ + 3000000 := ⟨_, rfl⟩
    rw [← hA] at ih
    have hA0 : 0 ≤ A := by have := Int.mul_nonneg an d0; omega
    have p1 : 1000000 * (u - t) * s ≤ A * s := Int.mul_le_mul_of_nonneg_right ih (by omega)
    have p2 : A * (10 * s) ≤ A * 7881299347898368 := Int.mul_le_mul_of_nonneg_left h1 hA0
    have p3 : A * (10 * s) = 10 * (A * s) := by rw [← Int.mul_assoc, Int.mul_comm A 10, Int.mul_assoc]
    have p4 : 1000000 * (u - t) * s = 1000000 * ((u - t) * s) := Int.mul_assoc _ _ _
    have p5 : 1000000 * t * δ ≤ (ta (n + 1) * 1125899906842624 + 2000000) * δ := Int.mul_le_mul_of_nonneg_right ht d0
    have p6 : 1000000 * t * δ = 1000000 * (t * δ) := Int.mul_assoc _ _ _
    have p7 : (ta (n + 1) * 1125899906842624 + 2000000) * δ = 1125899906842624 * (ta (n + 1) * δ) + 2000000 * δ := by
      rw [Int.add_mul, Int.mul_comm (ta (n + 1)), Int.mul_assoc]
    have e : al (n + 2) = (7 * al (n + 1) + 10 * ta (n + 1)) / (10 * ((n : Int) + 2)) + 1 := rfl
    have w := up_div (7 * al (n + 1) + 10 * ta (n + 1)) (10 * ((n : Int) + 2)) (by omega)
    rw [← e] at w
    have w1 := Int.mul_le_mul_of_nonneg_right w d0
    have w2 : (7 * al (n + 1) + 10 * ta (n + 1)) * δ = 7 * (al (n + 1) * δ) + 10 * (ta (n + 1) * δ) := by rw [Int.add_mul, Int.mul_assoc, Int.mul_assoc]
    have w3 : 10 * ((n : Int) + 2) * al (n + 2) * δ = 10 * (((n : Int) + 2) * (al (n + 2) * δ)) := by rw [Int.mul_assoc, Int.mul_assoc]
    have c1 : ((n + 1 : Nat) : Int) + 1 = (n : Int) + 2 := by omega
    have c2 : ((n + 1 : Nat) : Int) = (n : Int) + 1 := by omega
    rw [c1] at t1 t2
    rw [c2] at t1
    rw [show n + 1 + 1 = n + 2 from rfl] at t1 t2
    have key : ((n : Int) + 2) * (1000000 * (td s (n + 2) - td r (n + 2))) ≤ ((n : Int) + 2) * (al (n + 2) * δ + 3000000) := by
      have f1 : ((n : Int) + 2) * (1000000 * (td s (n + 2) - td r (n + 2))) = 1000000 * (((n : Int) + 2) * td s (n + 2)) - 1000000 * (((n : Int) + 2) * td r (n + 2)) := by
        rw [← Int.mul_assoc, Int.mul_comm _ 1000000, Int.mul_assoc, Int.mul_sub, Int.mul_sub]
      have f2 : ((n : Int) + 2) * (al (n + 2) * δ + 3000000) = ((n : Int) + 2) * (al (n + 2) * δ) + 3000000 * ((n : Int) + 2) := by
        rw [Int.mul_add, Int.mul_comm _ 3000000]
      rw [f1, f2]
      omega
    exact Int.le_of_mul_le_mul_left key (by omega)
theorem ps21 (r : Int) : ps r 21 = td r 0 - td r 1 + td r 2 - td r 3 + td r 4 - td r 5 + td r 6 - td r 7 + td r 8 - td r 9 + td r 10 - td r 11 + td r 12 - td r 13 + td r 14 - td r 15 + td r 16 - td r 17 + td r 18 - td r 19 + td r 20 := by
  have h0 : ps r 0 = 0 := rfl
  have e0 : ps r 0 + td r 0 = ps r 1 := ps_even r 0 (by omega)
  have e1 : ps r 1 - td r 1 = ps r 2 := ps_odd r 1 (by omega)
  have e2 : ps r 2 + td r 2 = ps r 3 := ps_even r 2 (by omega)
  have e3 : ps r 3 - td r 3 = ps r 4 := ps_odd r 3 (by omega)
  have e4 : ps r 4 + td r 4 = ps r 5 := ps_even r 4 (by omega)
  have e5 : ps r 5 - td r 5 = ps r 6 := ps_odd r 5 (by omega)
  have e6 : ps r 6 + td r 6 = ps r 7 := ps_even r 6 (by omega)
  have e7 : ps r 7 - td r 7 = ps r 8 := ps_odd r 7 (by omega)
  have e8 : ps r 8 + td r 8 = ps r 9 := ps_even r 8 (by omega)
  have e9 : ps r 9 - td r 9 = ps r 10 := ps_odd r 9 (by omega)
  have e10 : ps r 10 + td r 10 = ps r 11 := ps_even r 10 (by omega)
  have e11 : ps r 11 - td r 11 = ps r 12 := ps_odd r 11 (by omega)
  have e12 : ps r 12 + td r 12 = ps r 13 := ps_even r 12 (by omega)
  have e13 : ps r 13 - td r 13 = ps r 14 := ps_odd r 13 (by omega)
  have e14 : ps r 14 + td r 14 = ps r 15 := ps_even r 14 (by omega)
  have e15 : ps r 15 - td r 15 = ps r 16 := ps_odd r 15 (by omega)
  have e16 : ps r 16 + td r 16 = ps r 17 := ps_even r 16 (by omega)
  have e17 : ps r 17 - td r 17 = ps r 18 := ps_odd r 17 (by omega)
  have e18 : ps r 18 + td r 18 = ps r 19 := ps_even r 18 (by omega)
  have e19 : ps r 19 - td r 19 = ps r 20 := ps_odd r 19 (by omega)
  have e20 : ps r 20 + td r 20 = ps r 21 := ps_even r 20 (by omega)
  omega
theorem al_vals : al 2 = 700001 ∧ al 4 = 57167 ∧ al 6 = 1401 ∧ al 8 ≤ 30 ∧ al 10 ≤ 10 ∧ al 12 ≤ 10 ∧ al 14 ≤ 10 ∧ al 16 ≤ 10 ∧ al 18 ≤ 10 ∧ al 20 ≤ 10 := by decide
/-- The sums fall, but for thirty last bits of fifty. -/
theorem ps_fall {r s : Int} (h0 : 0 ≤ r) (hrs : r ≤ s) (h1 : 10 * s ≤ 7881299347898368) : ps s 21 ≤ ps r 21 + 30 := by
  have m := fun n => td_mono h0 hrs n
  have d := fun n h => td_al h0 hrs h1 n h
  have z : ∀ x, td x 0 = 1125899906842624 := fun _ => rfl
  obtain ⟨v2, v4, v6, v8, v10, v12, v14, v16, v18, v20⟩ := al_vals
  have dd : 0 ≤ s - r := by omega
  have g : ∀ (n : Nat) (c : Int), 1 ≤ n → al n ≤ c → 1000000 * (td s n - td r n) ≤ c * (s - r) + 3000000 := fun n c hn hc => by
    have := d n hn
    have := Int.mul_le_mul_of_nonneg_right hc dd
    omega
  have g2 := g 2 700001 (by omega) (by omega); have g4 := g 4 57167 (by omega) (by omega); have g6 := g 6 1401 (by omega) (by omega); have g8 := g 8 30 (by omega) (by omega); have g10 := g 10 10 (by omega) (by omega)
  have g12 := g 12 10 (by omega) (by omega); have g14 := g 14 10 (by omega) (by omega); have g16 := g 16 10 (by omega) (by omega); have g18 := g 18 10 (by omega) (by omega); have g20 := g 20 10 (by omega) (by omega)
  rw [ps21 r, ps21 s, z r, z s, td_one h0 (by omega), td_one (by omega) (by omega)]
  have m3 := m 3; have m5 := m 5; have m7 := m 7; have m9 := m 9; have m11 := m 11; have m13 := m 13; have m15 := m 15; have m17 := m 17; have m19 := m 19
  omega
theorem ps_low : ps 0 21 = 1125899906842624 := by decide +kernel
theorem ps_high : ps 780414346020670 21 = 562949953421312 := by decide +kernel
theorem ps_in {r : Int} (h0 : 0 ≤ r) (h1 : r ≤ 780414346020670) : 562949953421282 ≤ ps r 21 ∧ ps r 21 ≤ 1125899906842654 := by
  have a := ps_fall h0 h1 (by omega)
  have b := ps_fall (r := 0) (s := r) (by omega) h0 (by omega)
  rw [ps_high] at a
  rw [ps_low] at b
  omega
/-- A greater number has no lesser power, but for two last bits. -/
theorem ex_rise {x y : Int} (hxy : x ≤ y) (hy : y ≤ 0) : ex x ≤ ex y + 2 := by
  have nn : ∀ z, z ≤ 0 → 0 ≤ ex z := fun z hz => by
    unfold ex
    split
    · omega
    · have := ps_in (rs_bd z).1 (Int.le_of_lt (rs_bd z).2)
      have hp : (0 : Int) < 2 ^ (20 + (hv z).toNat) := Int.pow_pos (by omega)
      have := rne_ge (n := ps (rs z) 21) (d := 2 ^ (20 + (hv z).toNat)) (A := 0) hp (by omega)
      omega
  by_cases hx : x < -47185920
  · have e : ex x = 0 := by unfold ex; rw [if_pos hx]
    have := nn y hy
    omega
  · have bx := hv_bd (x := x) (by omega) (by omega)
    have by' := hv_bd (x := y) hy (by omega)
    have hk : hv y ≤ hv x := by unfold hv; omega
    have rx := rs_bd x
    have ry := rs_bd y
    have sx := ps_in rx.1 (Int.le_of_lt rx.2)
    have sy := ps_in ry.1 (Int.le_of_lt ry.2)
    have hfall : hv y = hv x → ps (rs x) 21 ≤ ps (rs y) 21 + 30 := fun e => by
      refine ps_fall ry.1 ?_ (by omega)
      unfold hv at e
      unfold rs
      omega
    have ex1 : ex x = rne (ps (rs x) 21) (2 ^ (20 + (hv x).toNat)) := by unfold ex; rw [if_neg hx]
    have ey1 : ex y = rne (ps (rs y) 21) (2 ^ (20 + (hv y).toNat)) := by unfold ex; rw [if_neg (by omega)]
    rw [ex1, ey1]
    obtain ⟨X, hX⟩ : ∃ X, X = ps (rs x) 21 := ⟨_, rfl⟩
    obtain ⟨Y, hY⟩ : ∃ Y, Y = ps (rs y) 21 := ⟨_, rfl⟩
    rw [← hX] at sx hfall ⊢
    rw [← hY] at sy hfall ⊢
    obtain ⟨j, hj⟩ : ∃ j : Nat, j = (hv y).toNat := ⟨_, rfl⟩
    obtain ⟨i, hi⟩ : ∃ i : Nat, (hv x).toNat = j + i := ⟨(hv x).toNat - j, by omega⟩
    rw [hi, ← hj]
    have hD : (1048576 : Int) ≤ 2 ^ (20 + j) := by
      have h1 : (2 : Nat) ^ 20 ≤ 2 ^ (20 + j) := Nat.pow_le_pow_right (by omega) (by omega)
      have h2 : ((2 ^ (20 + j) : Nat) : Int) = (2 : Int) ^ (20 + j) := by simp
      have h3 : (2 : Nat) ^ 20 = 1048576 := rfl
      omega
    have hDD : (2 : Int) ^ (20 + (j + i)) = 2 ^ (20 + j) * 2 ^ i := by rw [← Int.pow_add]; congr 1; omega
    obtain ⟨D, hDe⟩ : ∃ D, D = (2 : Int) ^ (20 + j) := ⟨_, rfl⟩
    rw [hDD, ← hDe]
    rw [← hDe] at hD
    cases i with
    | zero =>
      have hf := hfall (by omega)
      rw [Int.pow_zero, Int.mul_one]
      have e1 := (rne_err X (d := D) (by omega)).1
      have e2 := (rne_err Y (d := D) (by omega)).2
      obtain ⟨a, ha⟩ : ∃ a, a = rne X D := ⟨_, rfl⟩
      obtain ⟨b, hb⟩ : ∃ b, b = rne Y D := ⟨_, rfl⟩
      rw [← ha] at e1 ⊢
      rw [← hb] at e2 ⊢
      rcases Int.lt_or_le (b + 2) a with k | k
      · exfalso
        have f1 : D * (b + 3) ≤ D * a := Int.mul_le_mul_of_nonneg_left (by omega) (by omega)
        rw [Int.mul_add] at f1
        omega
      · exact k
    | succ i =>
      have hc : (2 : Int) ^ (i + 1) = 2 * 2 ^ i := by rw [Int.pow_succ, Int.mul_comm]
      have hi0 : (1 : Int) ≤ 2 ^ i := by have : (0 : Int) < 2 ^ i := Int.pow_pos (by omega)
                                         omega
      rw [hc]
      obtain ⟨c, hce⟩ : ∃ c : Int, c = 2 ^ i := ⟨_, rfl⟩
      rw [← hce] at hi0 ⊢
      have e1 := (rne_err X (d := D * (2 * c)) (Int.mul_pos (by omega) (by omega))).1
      have e2 := (rne_err Y (d := D) (by omega)).2
      obtain ⟨a, ha⟩ : ∃ a, a = rne X (D * (2 * c)) := ⟨_, rfl⟩
      obtain ⟨b, hb⟩ : ∃ b, b = rne Y D := ⟨_, rfl⟩
      rw [← ha] at e1 ⊢
      rw [← hb] at e2 ⊢
      rcases Int.lt_or_le (b + 2) a with k | k
      · exfalso
        have f1 : D * (2 * c) * (b + 3) ≤ D * (2 * c) * a := Int.mul_le_mul_of_nonneg_left (by omega) (Int.le_of_lt (Int.mul_pos (by omega) (by omega)))
        have f2 : D * (2 * c) * (b + 3) = c * (2 * (D * b)) + 3 * (D * (2 * c)) := by
          grind
        have f3 : c * (2 * Y - D) ≤ c * (2 * (D * b)) := Int.mul_le_mul_of_nonneg_left e2 (by omega)
        have f4 : c * (2 * Y - D) = 2 * (c * Y) - c * D := by rw [Int.mul_sub, ← Int.mul_assoc, Int.mul_comm c 2, Int.mul_assoc]
        have f5 : D * (2 * c) = 2 * (c * D) := by rw [Int.mul_comm, Int.mul_assoc]
        have f6 : 1 * Y ≤ c * Y := Int.mul_le_mul_of_nonneg_right hi0 (by omega)
        have f7 : 1 * D ≤ c * D := Int.mul_le_mul_of_nonneg_right hi0 (by omega)
        omega
      · exact k

/-! The logarithms -/
theorem s0_mono {m n : Int} (h0 : 1125899906842624 ≤ m) (h : m ≤ n) : s0 m ≤ s0 n := by
  unfold s0
  refine rne_cross (by omega) (by omega) ?_
  have e1 : (m - 1125899906842624) * 2 ^ 50 * (n + 1125899906842624) = ((m - 1125899906842624) * (n + 1125899906842624)) * 2 ^ 50 := by grind
  have e2 : (n - 1125899906842624) * 2 ^ 50 * (m + 1125899906842624) = ((n - 1125899906842624) * (m + 1125899906842624)) * 2 ^ 50 := by grind
  rw [e1, e2]
  refine Int.mul_le_mul_of_nonneg_right ?_ (by decide)
  have f1 : (m - 1125899906842624) * (n + 1125899906842624) = m * n + 1125899906842624 * m - 1125899906842624 * n - 1125899906842624 * 1125899906842624 := by grind
  have f2 : (n - 1125899906842624) * (m + 1125899906842624) = m * n + 1125899906842624 * n - 1125899906842624 * m - 1125899906842624 * 1125899906842624 := by grind
  rw [f1, f2]
  omega
theorem us_mono {m n : Int} (h0 : 1125899906842624 ≤ m) (h : m ≤ n) (h1 : n < 2251799813685248) : ∀ k, 0 ≤ us m k ∧ us m k ≤ us n k
  | 0 => ⟨(s0_bd h0 (by omega)).1, s0_mono h0 h⟩
  | k + 1 => by
    have ih := us_mono h0 h h1 k
    have s := (s0_bd h0 (show m < 2251799813685248 by omega)).1
    have s2 := s0_mono h0 h
    have q := tim_mono s s2 s s2
    have q0 := tim_nn s s
    exact ⟨tim_nn ih.1 q0, tim_mono ih.1 ih.2 q0 q⟩
theorem ls_mono {m n : Int} (h0 : 1125899906842624 ≤ m) (h : m ≤ n) (h1 : n < 2251799813685248) : ∀ k, ls m k ≤ ls n k
  | 0 => Int.le_refl _
  | k + 1 => by
    have ih := ls_mono h0 h h1 k
    have u := us_mono h0 h h1 k
    have := (tdiv_mono (2 * k + 1) u.1 u.2).2
    rw [ls_step, ls_step]
    omega
theorem ls_low : ls 1125899906842624 20 = 0 := by decide +kernel
theorem ls_high : 2 * ls 2251799813685247 20 = 780414346020660 := by decide +kernel
theorem ls_in {m : Int} (h0 : 1125899906842624 ≤ m) (h1 : m < 2251799813685248) : 0 ≤ ls m 20 ∧ 2 * ls m 20 ≤ 780414346020660 := by
  have a := ls_mono (m := 1125899906842624) (n := m) (by omega) h0 h1 20
  have b := ls_mono (m := m) (n := 2251799813685247) h0 (by omega) (by omega) 20
  have c := ls_high
  rw [ls_low] at a
  omega
theorem two_lt {a b : Nat} (h : (2 : Int) ^ a < 2 ^ b) : a < b := by
  rcases Nat.lt_or_ge a b with k | k
  · exact k
  · have h1 : (2 : Nat) ^ b ≤ 2 ^ a := Nat.pow_le_pow_right (by omega) k
    have h2 : ((2 ^ b : Nat) : Int) = (2 : Int) ^ b := by simp
    have h3 : ((2 ^ a : Nat) : Int) = (2 : Int) ^ a := by simp
    omega
theorem dn_mono {x y d e : Int} (hx : Dn x d) (hy : Dn y e) (h : x ≤ y) : d ≤ e := by
  obtain ⟨a0, a1, a2, a3⟩ := hx
  obtain ⟨b0, b1, b2, b3⟩ := hy
  have := two_lt (a := (50 + d).toNat) (b := (51 + e).toNat) (by omega)
  omega
theorem mo_mono {x y d : Int} (h : x ≤ y) : mo x d ≤ mo y d := by
  unfold mo
  split
  · exact Int.mul_le_mul_of_nonneg_right h (Int.pow_nonneg (by omega))
  · exact Int.ediv_le_ediv (Int.pow_pos (by omega)) h
theorem near_two {A B D : Int} (hD : 1000 ≤ D) (h : A ≤ B + 30) : rne A D ≤ rne B D + 2 := by
  have e1 := (rne_err A (d := D) (by omega)).1
  have e2 := (rne_err B (d := D) (by omega)).2
  obtain ⟨a, ha⟩ : ∃ a, a = rne A D := ⟨_, rfl⟩
  obtain ⟨b, hb⟩ : ∃ b, b = rne B D := ⟨_, rfl⟩
  rw [← ha] at e1 ⊢
  rw [← hb] at e2 ⊢
  rcases Int.lt_or_le (b + 2) a with k | k
  · exfalso
    have f1 : D * (b + 3) ≤ D * a := Int.mul_le_mul_of_nonneg_left (by omega) (by omega)
    rw [Int.mul_add] at f1
    omega
  · exact k
/-- A greater number has no lesser logarithm, but for two last bits. -/
theorem lgb_rise {x y d e : Int} (b : Int) (hx : Dn x d) (hy : Dn y e) (h : x ≤ y) : lgb x d b ≤ lgb y e b + 2 := by
  have mx := mo_bd hx
  have my := mo_bd hy
  have hd := dn_mono hx hy h
  unfold lgb lg
  refine near_two (by decide) ?_
  rcases Int.lt_or_le d e with k | k
  · have a := (ls_in mx.1 mx.2).2
    have c := (ls_in my.1 my.2).1
    omega
  · obtain rfl : d = e := by omega
    have := ls_mono mx.1 (mo_mono (d := d) h) my.2 20
    omega
theorem dn_twice {x d : Int} (hx : Dn x d) (hx1 : x ≤ 1152921504606846976) : Dn (2 * x) (d + 1) := by
  obtain ⟨a0, a1, a2, a3⟩ := hx
  have hd : d ≤ 10 := by
    have h60 : (2 : Int) ^ 61 = 2305843009213693952 := rfl
    have := two_lt (a := (50 + d).toNat) (b := 61) (by omega)
    omega
  have e1 : (50 + (d + 1)).toNat = (50 + d).toNat + 1 := by omega
  have e2 : (51 + (d + 1)).toNat = (51 + d).toNat + 1 := by omega
  refine ⟨by omega, by omega, ?_, ?_⟩
  · rw [e1, Int.pow_succ]; omega
  · rw [e2, Int.pow_succ]; omega
theorem mo_twice {x d : Int} (hd : -50 ≤ d) : mo (2 * x) (d + 1) = mo x d := by
  unfold mo
  rcases Int.lt_or_le d 0 with k | k
  · rw [if_pos k]
    obtain ⟨j, hj⟩ : ∃ j : Nat, (-d).toNat = j + 1 := ⟨(-d).toNat - 1, by omega⟩
    rw [hj, Int.pow_succ]
    split
    · rw [show (-(d + 1)).toNat = j by omega]; grind
    · rw [show (d + 1).toNat = 0 by omega, show j = 0 by omega, Int.pow_zero, Int.ediv_one]; grind
  · rw [if_neg (by omega), if_neg (by omega), show (d + 1).toNat = d.toNat + 1 by omega, Int.pow_succ, Int.mul_comm 2 x, Int.mul_ediv_mul_of_pos_left _ _ (by omega)]
/-- Twice a number has the logarithm of two more, but for two last bits. -/
theorem lgb_twice {x d : Int} (b : Int) (hx : Dn x d) : lgb (2 * x) (d + 1) b - lgb x d b - 726817 ≤ 2 ∧ -2 ≤ lgb (2 * x) (d + 1) b - lgb x d b - 726817 := by
  unfold lgb lg
  rw [mo_twice hx.1, show d + 1 - b + 50 = (d - b + 50) + 1 by omega]
  obtain ⟨S, hS⟩ : ∃ S, S = 2 * ls (mo x d) 20 + (d - b + 50) * 780414346020670 := ⟨_, rfl⟩
  have e : 2 * ls (mo x d) 20 + (d - b + 50 + 1) * 780414346020670 = S + 780414346020670 := by omega
  rw [e, ← hS, show (2 : Int) ^ 30 = 1073741824 from rfl]
  have a := rne_err S (d := 1073741824) (by omega)
  have c := rne_err (S + 780414346020670) (d := 1073741824) (by omega)
  omega
end Gw
end Go.Proofs.YtdgcnaijndocnaaDoor

/-
  Layer 16, plain: powers rise, exactly (by a whole step of a number the sums fall by far more than they are off); what had no weight has no share.
-/
set_option linter.unusedSimpArgs false
set_option linter.unusedVariables false
set_option linter.unusedSectionVars false
namespace Go.Proofs.YtdgcnaijndocnaaDoor
namespace Gw
open Qn

/-- The sums fall by more than a fifth of what the numbers differ by, but for thirty last bits. -/
theorem ps_drop {r s : Int} (h0 : 0 ≤ r) (hrs : r ≤ s) (h1 : 10 * s ≤ 7881299347898368) : 5 * ps s 21 + (s - r) ≤ 5 * ps r 21 + 150 := by
  have m := fun n => td_mono h0 hrs n
  have d := fun n h => td_al h0 hrs h1 n h
  have z : ∀ x, td x 0 = 1125899906842624 := fun _ => rfl
  obtain ⟨v2, v4, v6, v8, v10, v12, v14, v16, v18, v20⟩ := al_vals
  have dd : 0 ≤ s - r := by omega
  have g : ∀ (n : Nat) (c : Int), 1 ≤ n → al n ≤ c → 1000000 * (td s n - td r n) ≤ c * (s - r) + 3000000 := fun n c hn hc => by
    have := d n hn
    have := Int.mul_le_mul_of_nonneg_right hc dd
    omega
  have g2 := g 2 700001 (by omega) (by omega); have g4 := g 4 57167 (by omega) (by omega); have g6 := g 6 1401 (by omega) (by omega); have g8 := g 8 30 (by omega) (by omega); have g10 := g 10 10 (by omega) (by omega)
  have g12 := g 12 10 (by omega) (by omega); have g14 := g 14 10 (by omega) (by omega); have g16 := g 16 10 (by omega) (by omega); have g18 := g 18 10 (by omega) (by omega); have g20 := g 20 10 (by omega) (by omega)
  rw [ps21 r, ps21 s, z r, z s, td_one h0 (by omega), td_one (by omega) (by omega)]
  have m3 := m 3; have m5 := m 5; have m7 := m 7; have m9 := m 9; have m11 := m 11; have m13 := m 13; have m15 := m 15; have m17 := m 17; have m19 := m 19
  omega
theorem ex_nn {z : Int} (hz : z ≤ 0) : 0 ≤ ex z := by
  unfold ex
  split
  · omega
  · have := ps_in (rs_bd z).1 (Int.le_of_lt (rs_bd z).2)
    have hp : (0 : Int) < 2 ^ (20 + (hv z).toNat) := Int.pow_pos (by omega)
    have := rne_ge (n := ps (rs z) 21) (d := 2 ^ (20 + (hv z).toNat)) (A := 0) hp (by omega)
    omega
/-- A greater number has no lesser power. -/
theorem ex_mono {x y : Int} (hxy : x ≤ y) (hy : y ≤ 0) : ex x ≤ ex y := by
  by_cases he : x = y
  · rw [he]; exact Int.le_refl _
  by_cases hx : x < -47185920
  · have e : ex x = 0 := by unfold ex; rw [if_pos hx]
    have := ex_nn hy
    omega
  · have bx := hv_bd (x := x) (by omega) (by omega)
    have by' := hv_bd (x := y) hy (by omega)
    have hk : hv y ≤ hv x := by unfold hv; omega
    have rx := rs_bd x
    have ry := rs_bd y
    have sx := ps_in rx.1 (Int.le_of_lt rx.2)
    have sy := ps_in ry.1 (Int.le_of_lt ry.2)
    have qx : -x * 1073741824 = 780414346020670 * hv x + rs x := by unfold hv rs; omega
    have qy : -y * 1073741824 = 780414346020670 * hv y + rs y := by unfold hv rs; omega
    have ex1 : ex x = rne (ps (rs x) 21) (2 ^ (20 + (hv x).toNat)) := by unfold ex; rw [if_neg hx]
    have ey1 : ex y = rne (ps (rs y) 21) (2 ^ (20 + (hv y).toNat)) := by unfold ex; rw [if_neg (by omega)]
    have low := ps_drop (r := rs y) (s := 780414346020670) ry.1 (by omega) (by omega)
    have high := ps_drop (r := 0) (s := rs x) (by omega) rx.1 (by omega)
    rw [ps_high] at low
    rw [ps_low] at high
    have hfall : hv y = hv x → ps (rs x) 21 ≤ ps (rs y) 21 := fun e => by
      have := ps_drop (r := rs y) (s := rs x) ry.1 (by omega) (by omega)
      omega
    have hone : hv x = hv y + 1 → ps (rs x) 21 ≤ 2 * ps (rs y) 21 := fun e => by omega
    rw [ex1, ey1]
    obtain ⟨X, hX⟩ : ∃ X, X = ps (rs x) 21 := ⟨_, rfl⟩
    obtain ⟨Y, hY⟩ : ∃ Y, Y = ps (rs y) 21 := ⟨_, rfl⟩
    rw [← hX] at sx hfall hone ⊢
    rw [← hY] at sy hfall hone ⊢
    clear low high ex1 ey1 hX hY
    obtain ⟨j, hj⟩ : ∃ j : Nat, j = (hv y).toNat := ⟨_, rfl⟩
    obtain ⟨i, hi⟩ : ∃ i : Nat, (hv x).toNat = j + i := ⟨(hv x).toNat - j, by omega⟩
    rw [hi, ← hj]
    have hD : (0 : Int) < 2 ^ (20 + j) := Int.pow_pos (by omega)
    have hDD : (2 : Int) ^ (20 + (j + i)) = 2 ^ (20 + j) * 2 ^ i := by rw [← Int.pow_add]; congr 1; omega
    obtain ⟨D, hDe⟩ : ∃ D, D = (2 : Int) ^ (20 + j) := ⟨_, rfl⟩
    rw [hDD, ← hDe]
    rw [← hDe] at hD
    have key : ∀ c : Int, 0 < c → X ≤ c * Y → rne X (D * c) ≤ rne Y D := fun c hc h => by
      refine rne_cross (Int.mul_pos hD hc) hD ?_
      have := Int.mul_le_mul_of_nonneg_right h (Int.le_of_lt hD)
      have e : c * Y * D = Y * (D * c) := by rw [Int.mul_comm c Y, Int.mul_assoc, Int.mul_comm c D]
      omega
    match i, hi with
    | 0, hi => exact key (2 ^ 0) (by decide) (by have := hfall (by omega); rw [Int.pow_zero, Int.one_mul]; exact this)
    | 1, hi => exact key (2 ^ 1) (by decide) (by have := hone (by omega); rw [Int.pow_one]; exact this)
    | i + 2, hi =>
      have h4 : (1 : Int) ≤ 2 ^ i := by have : (0 : Int) < 2 ^ i := Int.pow_pos (by omega)
                                        omega
      have e4 : (2 : Int) ^ (i + 2) = 4 * 2 ^ i := by rw [Int.pow_add, Int.mul_comm]; rfl
      rw [e4]
      refine key _ (by omega) ?_
      have f : 1 * Y ≤ 2 ^ i * Y := Int.mul_le_mul_of_nonneg_right h4 (by omega)
      rw [Int.mul_assoc]
      omega
theorem ex_zero : ex 0 = 1073741824 := by decide +kernel
theorem ex_in {z : Int} (hz : z ≤ 0) : 0 ≤ ex z ∧ ex z ≤ 1073741824 := ⟨ex_nn hz, by have := ex_mono hz (Int.le_refl 0); rw [ex_zero] at this; exact this⟩
end Gw
namespace Cn
section
variable {n : Nat} {m : Int} {a : Nat → Int} (hS : 0 < tot a n)
include hS
/-- What weighs no more has no greater share, but for one. -/
theorem sh_near {i j : Nat} (hm : 0 ≤ m) (hi : i < n) (hj : j < n) (h : a j ≤ a i) : sh m a n j ≤ sh m a n i + 1 := by
  have q : qt m a n j ≤ qt m a n i := Int.ediv_le_ediv hS (Int.mul_le_mul_of_nonneg_left h hm)
  rcases sh_cases (m := m) hS hi with ⟨_, e⟩ | ⟨_, e⟩ <;> rcases sh_cases (m := m) hS hj with ⟨_, f⟩ | ⟨_, f⟩ <;> omega
/-- What weighs nothing has nothing. -/
theorem sh_none {i : Nat} (hi : i < n) (h : a i = 0) : sh m a n i = 0 := by
  have q : qt m a n i = 0 := by unfold qt; rw [h, Int.mul_zero, Int.zero_ediv]
  have r : rt m a n i = 0 := by unfold rt; rw [h, Int.mul_zero, Int.zero_emod]
  rcases sh_cases (m := m) hS hi with ⟨_, e⟩ | ⟨e1, e⟩
  · omega
  · exfalso
    have L := lf_in (m := m) hS
    have rn : ∀ k, k < n → 0 ≤ rt m a n k := fun k _ => (rt_in (m := m) hS k).1
    obtain ⟨g1, g2, g3⟩ := give_inv (n := n) (o := qt m a n) (c := rt m a n) rn (lf m a n).toNat (by omega)
    obtain ⟨G, hG⟩ : ∃ G, G = got n (qt m a n) (rt m a n) (lf m a n).toNat := ⟨_, rfl⟩
    rw [← hG] at g1
    have gi : G i = 1 := by rw [hG]; unfold got; rw [if_pos e1]
    have gk : ∀ k, k < n → 0 < rt m a n k → G k = 1 := fun k hk h0 => by
      rw [hG]; unfold got; rw [if_pos (g3 k i hk hi e1 (by omega))]
    have g0 : ∀ k, 0 ≤ G k := fun k => by rw [hG]; unfold got; split <;> omega
    -- each share's rest is below the whole, and nothing where none is given
    have up : ∀ k, k < n → rt m a n k ≤ tot a n * (if k = i then 0 else G k) := fun k hk => by
      by_cases e : k = i
      · rw [if_pos e, e, r]; omega
      · rw [if_neg e]
        rcases Int.lt_or_le 0 (rt m a n k) with p | p
        · rw [gk k hk p, Int.mul_one]; exact Int.le_of_lt (rt_in (m := m) hS k).2
        · have := Int.mul_nonneg (Int.le_of_lt hS) (g0 k); omega
    have t1 : tot (rt m a n) n ≤ tot (fun k => tot a n * (if k = i then 0 else G k)) n := tot_le up
    rw [tot_mul, tot_set 0 hi, gi, g1, ← lf_is hS] at t1
    have t2 := Int.mul_sub (tot a n) (((lf m a n).toNat : Int)) 1
    have e3 : (((lf m a n).toNat : Nat) : Int) = lf m a n := by omega
    have e4 : ((((lf m a n).toNat : Nat) : Int) + (0 - 1)) = lf m a n - 1 := by omega
    rw [e4, Int.mul_sub, Int.mul_one] at t1
    omega
where
  tot_le {n : Nat} {a b : Nat → Int} (h : ∀ k, k < n → a k ≤ b k) : tot a n ≤ tot b n := by
    induction n with
    | zero => exact Int.le_refl _
    | succ n ih =>
      have h1 := ih (fun k hk => h k (by omega))
      have h2 := h n (by omega)
      show tot a n + a n ≤ tot b n + b n
      omega
end
end Cn
end Go.Proofs.YtdgcnaijndocnaaDoor

/-
  Layer 16, plain: the greatest logarithm of those that have a chance, the weights by it, and what becomes of them.
-/
set_option linter.unusedSimpArgs false
set_option linter.unusedVariables false
namespace Go.Proofs.YtdgcnaijndocnaaDoor
namespace Lk
open Qn Gw Cn
/-- The place of the greatest logarithm of those whose chance is above 0; -1, if there is none. -/
def bl (l c : Nat → Int) : Nat → Int
  | 0 => -1
  | k + 1 => if 0 < c k ∧ (bl l c k < 0 ∨ l (bl l c k).toNat < l k) then (k : Int) else bl l c k
theorem bl_spec (l c : Nat → Int) : ∀ n, (bl l c n = -1 ∧ ∀ i, i < n → c i ≤ 0) ∨ (0 ≤ bl l c n ∧ (bl l c n).toNat < n ∧ 0 < c (bl l c n).toNat ∧ ∀ i, i < n → 0 < c i → l i ≤ l (bl l c n).toNat)
  | 0 => Or.inl ⟨rfl, fun i hi => by omega⟩
  | n + 1 => by
    have ih := bl_spec l c n
    have u : bl l c (n + 1) = if 0 < c n ∧ (bl l c n < 0 ∨ l (bl l c n).toNat < l n) then (n : Int) else bl l c n := rfl
    by_cases h : 0 < c n ∧ (bl l c n < 0 ∨ l (bl l c n).toNat < l n)
    · rw [u, if_pos h]
      refine Or.inr ⟨by omega, by omega, by rw [Int.toNat_natCast]; exact h.1, fun i hi h0 => ?_⟩
      rw [Int.toNat_natCast]
      by_cases e : i = n
      · subst e; omega
      · rcases ih with ⟨_, h2⟩ | ⟨h1, _, _, h4⟩
        · have := h2 i (by omega); omega
        · have := h4 i (by omega) h0; omega
    · rw [u, if_neg h]
      rcases ih with ⟨h1, h2⟩ | ⟨h1, h2, h3, h4⟩
      · refine Or.inl ⟨h1, fun i hi => ?_⟩
        by_cases e : i = n
        · subst e; omega
        · exact h2 i (by omega)
      · refine Or.inr ⟨h1, by omega, h3, fun i hi h0 => ?_⟩
        by_cases e : i = n
        · subst e; omega
        · exact h4 i (by omega) h0
theorem bl_lo (l c : Nat → Int) (n : Nat) : -1 ≤ bl l c n ∧ bl l c n < n := by
  rcases bl_spec l c n with ⟨e, _⟩ | ⟨e1, e, _⟩ <;> omega
theorem bl_yes {l c : Nat → Int} {k : Nat} (h1 : 0 < c k) (h2 : bl l c k < 0 ∨ l (bl l c k).toNat < l k) : bl l c (k + 1) = (k : Int) := if_pos ⟨h1, h2⟩
theorem bl_no {l c : Nat → Int} {k : Nat} (h : ¬ (0 < c k ∧ (bl l c k < 0 ∨ l (bl l c k).toNat < l k))) : bl l c (k + 1) = bl l c k := if_neg h
/-- The weights. -/
def wz (l c : Nat → Int) (n : Nat) (i : Nat) : Int := if c i = 0 ∨ n ≤ i then 0 else ex (clamp (l i - l (bl l c n).toNat)) * c i
/-- Was a difference too great? -/
def wo (l c : Nat → Int) (n : Nat) : Nat → Bool
  | 0 => false
  | k + 1 => wo l c n k || (!decide (c k = 0) && great (l k - l (bl l c n).toNat))
/-- What may be handed in. -/
structure MayL (n : Nat) (l c : Nat → Int) (fl : Int) : Prop where
  ch : Ch n c 0
  lo : 0 ≤ fl
  hi : fl ≤ 67108864
  each : ∀ k, k < n → -4611686018427387903 ≤ l k ∧ l k ≤ 4611686018427387903
theorem clamp_neg {d : Int} (h : d ≤ 0) : clamp d ≤ 0 := by have := clamp_mono h; have e : clamp 0 = 0 := by decide
                                                            omega
section
variable {n : Nat} {l c : Nat → Int} {fl : Int} (h : MayL n l c fl)
include h
theorem bl_in : 0 ≤ bl l c n ∧ (bl l c n).toNat < n ∧ 0 < c (bl l c n).toNat ∧ ∀ i, i < n → 0 < c i → l i ≤ l (bl l c n).toNat := by
  rcases bl_spec l c n with ⟨_, h2⟩ | h1
  · exfalso
    have e : tot c n = tot (fun _ => 0) n := tot_congr fun k hk => by have := h2 k hk; have := (h.ch.nn hk).1; omega
    rw [h.ch.sum, tot_const, Int.zero_mul] at e
    omega
  · exact h1
theorem d_neg {i : Nat} (hi : i < n) (h0 : c i ≠ 0) : clamp (l i - l (bl l c n).toNat) ≤ 0 := clamp_neg (by
  have := (bl_in h).2.2.2 i hi (by have := (h.ch.nn hi).1; omega); omega)
theorem wz_in (i : Nat) : 0 ≤ wz l c n i ∧ wz l c n i ≤ 1152921504606846976 := by
  unfold wz
  split
  · omega
  · rename_i h0
    have hi : i < n := by omega
    have a := ex_in (d_neg h hi (by omega))
    have b := h.ch.nn hi
    exact ⟨Int.mul_nonneg a.1 b.1, Int.le_trans (Int.mul_le_mul a.2 b.2 b.1 (by omega)) (by omega)⟩
theorem wz_may : MayW n (wz l c n) fl := ⟨h.ch.one, h.ch.four, h.lo, h.hi, fun k hk => by have := wz_in h k; omega⟩
theorem wz_best : wz l c n (bl l c n).toNat = 1073741824 * c (bl l c n).toNat := by
  have b := bl_in h
  unfold wz
  rw [if_neg (by omega), Int.sub_self, show clamp 0 = 0 by decide, ex_zero]
theorem wz_pos : 0 < tot (wz l c n) n := by
  have b := bl_in h
  have e := tot_le_each (a := wz l c n) (n := n) (fun k hk => (wz_in h k).1) b.2.1
  rw [wz_best h] at e
  omega
theorem wz_mono {i j : Nat} (hi : i < n) (hj : j < n) (hc : c i = c j) (hl : l j < l i) : wz l c n j ≤ wz l c n i := by
  unfold wz
  rw [hc]
  by_cases h0 : c j = 0
  · rw [if_pos (Or.inl h0), if_pos (Or.inl h0)]; omega
  · rw [if_neg (by omega), if_neg (by omega)]
    refine Int.mul_le_mul_of_nonneg_right (ex_mono (clamp_mono (by omega)) (d_neg h hi (by omega))) (h.ch.nn hj).1
theorem ol_ch : Ch n (oc fl (wz l c n) n) fl := oc_ch (wz_may h) (wz_pos h)
theorem ol_near {i j : Nat} (hi : i < n) (hj : j < n) (hc : c i = c j) (hl : l j < l i) : oc fl (wz l c n) n j - 1 ≤ oc fl (wz l c n) n i := by
  have := sh_near (m := 1073741824 - fl * n) (wz_pos h) (by have := mul_four h.lo h.hi h.ch.four; omega) hi hj (wz_mono h hi hj hc hl)
  unfold oc
  omega
theorem ol_none {i : Nat} (hi : i < n) (hc : c i = 0) : oc fl (wz l c n) n i = fl := by
  unfold oc
  rw [sh_none (m := 1073741824 - fl * n) (wz_pos h) hi (by unfold wz; rw [if_pos (Or.inl hc)]), Int.zero_add]
end
section
variable {n : Nat} {c : Nat → Int} (h : Ch n c 0)
include h
theorem may0 : MayL n (fun _ => 0) c 0 := ⟨h, by omega, by omega, fun _ _ => by omega⟩
/-- All as likely stay as they are. -/
theorem ol_same {i : Nat} (hi : i < n) : oc 0 (wz (fun _ => 0) c n) n i = c i := by
  have e : ∀ k, k < n → wz (fun _ => 0) c n k = 1073741824 * c k := fun k hk => by
    unfold wz
    by_cases h0 : c k = 0
    · rw [if_pos (Or.inl h0), h0, Int.mul_zero]
    · rw [if_neg (by omega), Int.sub_self, show clamp 0 = 0 by decide, ex_zero]
  have t : tot (wz (fun _ => 0) c n) n = 1073741824 * 1073741824 := by
    rw [tot_congr e, tot_mul, h.sum]
  unfold oc
  rw [Int.zero_mul, Int.sub_zero, Int.add_zero]
  refine sh_whole (wz_pos (may0 h)) (p := c) (fun k hk => ?_) hi
  rw [e k hk, t, Int.mul_assoc]
omit h in
theorem wo_same : ∀ k, wo (fun _ => 0) c n k = false
  | 0 => rfl
  | k + 1 => by
    show (wo (fun _ => 0) c n k || _) = false
    rw [wo_same k, Int.sub_self, show great 0 = false by decide, Bool.and_false]; rfl
end
end Lk
end Go.Proofs.YtdgcnaijndocnaaDoor

/-
  Slices of numbers of 64 bits, their numbers a function of the place: read, made, stored into, appended to; and a slice of such slices.
-/
set_option linter.unusedSimpArgs false
set_option linter.unusedVariables false
namespace Go.Proofs.YtdgcnaijndocnaaDoor
open Go.RowKit
namespace Vc

theorem Hid.mkV {p : Prop} (h : p) : Hid p := h

theorem below_drewN {B : Nat} {a w : World} (h : Below B a w) (n : Nat) : Below B a (w.drewN n) := ⟨h.os, h.tape, h.output, h.size, h.block⟩

theorem below_drew' (w : World) : Below w.heap.size w w.drew := (Below.refl _ w).drew

theorem infoI64 : (Tryd.prog.info? 2).map (fun i => (i.zero, i.size, i.bytes)) = some (some (.int .i64 0), 1, 8) := by kernel_rfl

/-- The numbers as values. -/
def vals (n : Nat) (z : Nat → Int) : List Value := (List.range n).map fun k => Value.int .i64 (z k)
theorem vals_len (n : Nat) (z : Nat → Int) : (vals n z).length = n := by simp [vals]
theorem vals_at {n k : Nat} {z : Nat → Int} (h : k < n) : (vals n z)[k]? = some (.int .i64 (z k)) := by simp [vals, h]
theorem vals_push (n : Nat) (z : Nat → Int) : vals n z ++ [.int .i64 (z n)] = vals (n + 1) z := by simp [vals, List.range_succ]
theorem vals_congr {n : Nat} {z z' : Nat → Int} (h : ∀ k, k < n → z k = z' k) : vals n z = vals n z' := by
  unfold vals
  exact List.map_congr_left fun k hk => by rw [h k (List.mem_range.1 hk)]
theorem vals_set (n j : Nat) (x : Int) (z : Nat → Int) : (vals n z).set j (.int .i64 x) = vals n (fun k => if k = j then x else z k) := by
  apply List.ext_getElem?
  intro i
  by_cases hi : i < n
  · rw [vals_at hi, List.getElem?_set, vals_len]
    by_cases e : j = i
    · subst e; simp [hi]
    · rw [if_neg e, vals_at hi, if_neg (fun h => e h.symm)]
  · rw [List.getElem?_eq_none (by simp [vals_len]; omega), List.getElem?_eq_none (by rw [vals_len]; omega)]

/-- A slice of n numbers z. -/
structure Sl (w : World) (ao : Option Addr) (n ca : Nat) (z : Nat → Int) : Prop where
  le : n ≤ ca
  cap : ca ≤ 9223372036854775807
  at' : ∀ k, k < n → ∃ x, ao = some x ∧ w.cell? (x.add k) = some (.int .i64 (z k))

theorem Sl.get {w : World} {ao : Option Addr} {n ca : Nat} {z : Nat → Int} (h : Sl w ao n ca z) : ∃ x, (0 < n → ao = some x) ∧ ∀ k, k < n → w.cell? (x.add k) = some (.int .i64 (z k)) := by
  cases ao with
  | none => exact ⟨⟨0, 0, none⟩, fun h0 => (by obtain ⟨x, hx, _⟩ := h.at' 0 h0; cases hx), fun k hk => (by obtain ⟨x, hx, _⟩ := h.at' k hk; cases hx)⟩
  | some x => exact ⟨x, fun _ => rfl, fun k hk => by obtain ⟨y, hy, hc⟩ := h.at' k hk; cases hy; exact hc⟩

theorem Sl.keep {w w' : World} {ao : Option Addr} {n ca : Nat} {z : Nat → Int} (h : Sl w ao n ca z) (b : Below w.heap.size w w') : Sl w' ao n ca z :=
  ⟨h.le, h.cap, fun k hk => by obtain ⟨x, hx, hc⟩ := h.at' k hk; exact ⟨x, hx, keep_cell b hc⟩⟩
theorem Sl.congr {w : World} {ao : Option Addr} {n ca : Nat} {z z' : Nat → Int} (h : Sl w ao n ca z) (e : ∀ k, k < n → z k = z' k) : Sl w ao n ca z' :=
  ⟨h.le, h.cap, fun k hk => by rw [← e k hk]; exact h.at' k hk⟩
theorem Sl.mk' {w : World} {ao : Option Addr} {n ca : Nat} {z : Nat → Int} {x : Addr} (h1 : n ≤ ca) (h2 : ca ≤ 9223372036854775807) (h3 : 0 < n → ao = some x) (h4 : ∀ k, k < n → w.cell? (x.add k) = some (.int .i64 (z k))) : Sl w ao n ca z :=
  ⟨h1, h2, fun k hk => ⟨x, h3 (by omega), h4 k hk⟩⟩
theorem Sl.none (w : World) (z : Nat → Int) : Sl w none 0 0 z := ⟨Nat.le_refl _, by omega, fun k hk => by omega⟩

/-- Numbers of 64 bits. -/
def B64 (z : Nat → Int) : Prop := ∀ k, -9223372036854775808 ≤ z k ∧ z k ≤ 9223372036854775807

/-- Whether one of the first n is so. -/
def anyb (g : Nat → Bool) : Nat → Bool
  | 0 => false
  | k + 1 => anyb g k || g k

theorem anyb_congr {g h : Nat → Bool} : ∀ {n : Nat}, (∀ k, k < n → g k = h k) → anyb g n = anyb h n
  | 0, _ => rfl
  | n + 1, e => by unfold anyb; rw [anyb_congr fun k hk => e k (by omega), e n (by omega)]
theorem anyb_false {g : Nat → Bool} : ∀ {n : Nat}, anyb g n = false ↔ ∀ k, k < n → g k = false
  | 0 => ⟨fun _ k hk => by omega, fun _ => rfl⟩
  | n + 1 => by
    unfold anyb
    rw [Bool.or_eq_false_iff, anyb_false]
    refine ⟨fun h k hk => ?_, fun h => ⟨fun k hk => h k (by omega), h n (by omega)⟩⟩
    rcases Nat.lt_or_ge k n with c | c
    · exact h.1 k c
    · obtain rfl : k = n := by omega
      exact h.2

/-- v is a slice of the call's own that holds the numbers; below B nothing has turned since w0. -/
structure Own (B : Nat) (w0 w : World) (v : Value) (n : Nat) (z : Nat → Int) : Prop where
  row : w.ownsRow B 2 1 v n (vals n z)
  below : Below B w0 w
  base : B ≤ w.heap.size

theorem Own.nil {B : Nat} {w0 w : World} (h : Below B w0 w) (hB : B ≤ w.heap.size) (z : Nat → Int) : Own B w0 w (.slice none 0 0) 0 z := ⟨World.ownsRow_nil _ _ _ _, h, hB⟩

theorem Own.sl {B : Nat} {w0 w : World} {v : Value} {n : Nat} {z : Nat → Int} (h : Own B w0 w v n z) : ∃ ao ca, v = .slice ao n ca ∧ Sl w ao n ca z := by
  obtain ⟨⟨h1, h2⟩, _, _⟩ := h
  rcases h2 with ⟨rfl, rfl⟩ | ⟨g, cap, cur, rfl, hb, hg, hn, hc, hs, ht⟩
  · exact ⟨_, _, rfl, Sl.none _ _⟩
  · refine ⟨_, _, rfl, hn, hc, fun k hk => ⟨_, rfl, ?_⟩⟩
    have e := vals_at (z := z) hk
    rw [← ht] at e
    have e2 : cur[k]? = some (.int .i64 (z k)) := by
      rw [List.getElem?_take] at e
      split at e
      · simpa using e
      · cases e
    rw [Addr.add_lit, Nat.zero_add]
    simp [World.cell?, hg, e2]

theorem row_keep {w w' : World} {B : Nat} {t : TypeId} {s : Nat} {v : Value} {n : Nat} {xs : List Value} (h : w.ownsRow B t s v n xs) (b : Below w.heap.size w w') : w'.ownsRow B t s v n xs := by
  obtain ⟨h1, h2⟩ := h
  refine ⟨h1, ?_⟩
  rcases h2 with h2 | ⟨g, cap, cur, rfl, hb, hg, hn, hc, hs, ht⟩
  · exact Or.inl h2
  · refine Or.inr ⟨g, cap, cur, rfl, hb, ?_, hn, hc, hs, ht⟩
    have hlt : g < w.heap.size := by
      rcases Nat.lt_or_ge g w.heap.size with k | k
      · exact k
      · rw [Array.getElem?_eq_none k] at hg; cases hg
    exact (b.block g hlt).trans hg

theorem Own.keep {B : Nat} {w0 w w' : World} {v : Value} {n : Nat} {z : Nat → Int} (h : Own B w0 w v n z) (b : Below w.heap.size w w') : Own B w0 w' v n z :=
  ⟨row_keep h.row b, h.below.trans (b.mono h.base), Nat.le_trans h.base b.size⟩
theorem Own.alloc {B : Nat} {w0 w : World} {v : Value} {n : Nat} {z : Nat → Int} (h : Own B w0 w v n z) (o : Obj) : Own B w0 (w.alloc o) v n z := h.keep (below_al (Below.refl _ _) o)
theorem Own.drew {B : Nat} {w0 w : World} {v : Value} {n : Nat} {z : Nat → Int} (h : Own B w0 w v n z) : Own B w0 w.drew v n z := ⟨h.row, h.below.drew, h.base⟩
theorem Own.cell {B : Nat} {w0 w : World} {g n c : Nat} {z : Nat → Int} (h : Own B w0 w (.slice (some ⟨g, 0, none⟩) n c) n z) {j : Nat} (hj : j < n) : w.cell? ⟨g, j, none⟩ = some (.int .i64 (z j)) := by
  rw [h.row.cellAt j (by omega)]
  exact vals_at hj
theorem Own.free {B : Nat} {w0 w : World} {g n c : Nat} {z : Nat → Int} (h : Own B w0 w (.slice (some ⟨g, 0, none⟩) n c) n z) (j : Nat) : w.frozen? ⟨g, j, none⟩ = false := h.row.frozenAt j
theorem Own.set {B : Nat} {w0 w : World} {g n c : Nat} {z : Nat → Int} (h : Own B w0 w (.slice (some ⟨g, 0, none⟩) n c) n z) (j : Nat) (x : Int) : Own B w0 (w.setCell ⟨g, j, none⟩ (.int .i64 x)) (.slice (some ⟨g, 0, none⟩) n c) n (fun k => if k = j then x else z k) := by
  obtain ⟨h1, h2⟩ := h.row.stored j (.int .i64 x)
  rw [vals_set] at h1
  exact ⟨h1, h.below.grown h2 h.base (fun k hk => by cases hk; exact (h.row.lt g rfl).1), Nat.le_trans h.base h2.size⟩
theorem Own.congr {B : Nat} {w0 w : World} {v : Value} {n : Nat} {z z' : Nat → Int} (h : Own B w0 w v n z) (e : ∀ k, k < n → z k = z' k) : Own B w0 w v n z' := ⟨by rw [← vals_congr e]; exact h.row, h.below, h.base⟩
/-- Another world to begin with. -/
theorem Own.from {B B' : Nat} {w0 w1 w : World} {v : Value} {n : Nat} {z : Nat → Int} (h : Own B w1 w v n z) (b : Below B' w0 w1) (hB : B' ≤ B) : Below B' w0 w := b.trans (h.below.mono hB)

/-- What 'make' lays. -/
theorem own_made {B : Nat} {w0 w : World} {g n : Nat} (h : w.ownsRow B 2 1 (.slice (some ⟨g, 0, none⟩) n n) n (madeCells #[Value.int .i64 0] n).toList) (hg : w0.grownBy w none) (hB : B ≤ w0.heap.size) :
    Own B w0 w (.slice (some ⟨g, 0, none⟩) n n) n (fun _ => 0) := by
  refine ⟨?_, (Below.refl _ _).grown hg hB (by intro k hk; cases hk), by have := hg.size; omega⟩
  have e : (madeCells #[Value.int .i64 0] n).toList = vals n (fun _ => 0) := by
    rw [toList_madeCells_one]
    apply List.ext_getElem?
    intro i
    by_cases hi : i < n
    · rw [vals_at hi, List.getElem?_replicate, if_pos hi]
    · rw [List.getElem?_eq_none (by simp; omega), List.getElem?_eq_none (by rw [vals_len]; omega)]
  rw [e] at h
  exact h

theorem wpList_push {ops : Array Oper} {rest : List Oper} {o : Oper} {a : Act} {Q : Exit → Act → World → Prop} {wr : World} (hgd : o.guard = none) (s x : Operand)
    (ho : o.op = .call { callee := .builtin .append, args := #[s, x], argTypes := #[22, 22] }) (B : Nat) (w0 : World) (v : Value) (n : Nat) (z : Nat → Int) (hs : a.eval s = v) (hown : Own B w0 wr v n z) (hl : n ≤ 2000000) (y : Int) (hy : y = z n)
    (hx : a.eval x = .slice (some ⟨wr.heap.size, 0, none⟩) 1 1)
    (h : ∀ v' w', Own B w0 w' v' (n + 1) z → wpList Tryd.prog ops Q rest (a.put o.dst v') w') : wpList Tryd.prog ops Q (o :: rest) a (wr.alloc (.cells #[.int .i64 y] 2)) := by
  obtain ⟨i0, hi, hz0, hz1, hz2⟩ := info_parts infoI64
  subst hy
  refine wpList_append_own _ hgd s x 22 ho B 2 i0 (.int .i64 0) 1 8 Tryd.underlying22 hi hz0 hz1 hz2 rfl (by decide) v n (vals n z) hs (hown.row.alloc _) ⟨wr.heap.size, 0, none⟩ 1 1 [.int .i64 (z n)] hx rfl (cell_one_new _ _ _) (by intro u hu; simp at hu; subst hu; rfl) (by unfold maxLen; omega) (by omega) (by have := hown.base; simp; omega) ?_
  intro v' w' h1 h2 _
  rw [vals_push] at h1
  refine h v' w' ⟨h1, ?_, Nat.le_trans (by have := hown.base; simp; omega) h2.size⟩
  refine (hown.below.alloc hown.base _).grown h2 (by have := hown.base; simp; omega) ?_
  intro k hk
  exact (hown.row.lt k hk).1

/-- A slice of m slices. -/
structure Sls (w : World) (lo : Option Addr) (m cm : Nat) (A : Nat → Option Addr) (L C : Nat → Nat) : Prop where
  le : m ≤ cm
  cap : cm ≤ 9223372036854775807
  at' : ∀ j, j < m → ∃ x, lo = some x ∧ w.cell? (x.add j) = some (.slice (A j) (L j) (C j))
theorem Sls.get {w : World} {lo : Option Addr} {m cm : Nat} {A : Nat → Option Addr} {L C : Nat → Nat} (h : Sls w lo m cm A L C) : ∃ x, (0 < m → lo = some x) ∧ ∀ k, k < m → w.cell? (x.add k) = some (.slice (A k) (L k) (C k)) := by
  cases lo with
  | none => exact ⟨⟨0, 0, none⟩, fun h0 => (by obtain ⟨x, hx, _⟩ := h.at' 0 h0; cases hx), fun k hk => (by obtain ⟨x, hx, _⟩ := h.at' k hk; cases hx)⟩
  | some x => exact ⟨x, fun _ => rfl, fun k hk => by obtain ⟨y, hy, hc⟩ := h.at' k hk; cases hy; exact hc⟩
theorem Sls.keep {w w' : World} {lo : Option Addr} {m cm : Nat} {A : Nat → Option Addr} {L C : Nat → Nat} (h : Sls w lo m cm A L C) (b : Below w.heap.size w w') : Sls w' lo m cm A L C :=
  ⟨h.le, h.cap, fun k hk => by obtain ⟨x, hx, hc⟩ := h.at' k hk; exact ⟨x, hx, keep_cell b hc⟩⟩

end Vc
end Go.Proofs.YtdgcnaijndocnaaDoor

/-
  What a slice of ints reads as (a list of digits), and what the small functions of the document's answer (radomeref01) do: trim, Less.
-/
set_option linter.unusedSimpArgs false
set_option linter.unusedVariables false
namespace Go.Proofs.YtdgcnaijndocnaaDoor
open Go.RowKit
namespace Dec

/-- A block of integers. -/
def Tg (w : World) (b : Nat) : Prop := ∃ cs fz, w.heap[b]? = some (.cells cs 3 fz)
theorem Tg.lt {w : World} {b : Nat} (h : Tg w b) : b < w.heap.size := by
  obtain ⟨cs, fz, e⟩ := h
  rcases Nat.lt_or_ge b w.heap.size with k | k
  · exact k
  · rw [Array.getElem?_eq_none k] at e; cases e
theorem Tg.below {w w' : World} {b B : Nat} (h : Tg w b) (hb : Below B w w') (hB : b < B) : Tg w' b := by
  obtain ⟨cs, fz, e⟩ := h
  exact ⟨cs, fz, (hb.block b hB).trans e⟩
theorem Tg.set {w : World} {b : Nat} (h : Tg w b) (p : Addr) (u : Value) : Tg (w.setCell p u) b := by
  obtain ⟨cs, fz, e⟩ := h
  by_cases k : p.block = b
  · subst k
    refine ⟨if p.spot.isSome then cs else cs.setIfInBounds p.off u, fz, ?_⟩
    simp only [World.setCell, Array.getElem?_modify, e]
    simp
  · refine ⟨cs, fz, ?_⟩
    simp only [World.setCell, Array.getElem?_modify]
    rw [if_neg k]
    exact e
/-- The slice value v reads as the digits l. -/
def Rd (w : World) (v : Value) (l : List Nat) : Prop :=
  (v = .slice none 0 0 ∧ l = []) ∨ ∃ b off cap : Nat, v = .slice (some ⟨b, off, none⟩) l.length cap ∧ l.length ≤ cap ∧ Tg w b ∧ ∀ t, t < l.length → w.cell? ⟨b, off + t, none⟩ = some (.int .i64 ((l.getD t 0 : Nat) : Int))

theorem Rd.below {w w' : World} {v : Value} {l : List Nat} {B : Nat} (h : Rd w v l) (hb : Below B w w') (hB : w.heap.size ≤ B) : Rd w' v l := by
  rcases h with h | ⟨b, off, cap, hv, hc, hlt, hcell⟩
  · exact Or.inl h
  · exact Or.inr ⟨b, off, cap, hv, hc, hlt.below hb (Nat.lt_of_lt_of_le hlt.lt hB), fun t ht => (hb.cell (p := ⟨b, off + t, none⟩) (show b < B from Nat.lt_of_lt_of_le hlt.lt hB)).trans (hcell t ht)⟩

end Dec
open Dec

/-! ### Less -/

end Go.Proofs.YtdgcnaijndocnaaDoor

/-
  What the document's answer (radomeref01) does to sizes: plus and minus of two lists of digits make the digits of the sum and of the difference.
-/
set_option linter.unusedSimpArgs false
set_option linter.unusedVariables false
namespace Go.Proofs.YtdgcnaijndocnaaDoor
open Go.RowKit
namespace Dec

theorem Tryd.infoInt : (Tryd.prog.info? 3).map (fun i => (i.zero, i.size, i.bytes)) = some (some (.int .i64 0), 1, 8) := by kernel_rfl

/-- The digits as values. -/
def vals (l : List Nat) : List Value := l.map fun d => Value.int .i64 ((d : Nat) : Int)

/-- v is a slice of the call's own that holds the digits l; below B nothing has turned since w0. -/
structure Own (B : Nat) (w0 w : World) (v : Value) (l : List Nat) : Prop where
  row : w.ownsRow B 3 1 v l.length (vals l)
  below : Below B w0 w
  base : B ≤ w.heap.size

theorem Own.nil {B : Nat} {w0 w : World} (h : Below B w0 w) (hB : B ≤ w.heap.size) : Own B w0 w (.slice none 0 0) [] := ⟨World.ownsRow_nil _ _ _ _, h, hB⟩

theorem Own.rd {B : Nat} {w0 w : World} {v : Value} {l : List Nat} (h : Own B w0 w v l) : Rd w v l := by
  obtain ⟨⟨h1, h2⟩, _, _⟩ := h
  rcases h2 with ⟨rfl, h0⟩ | ⟨g, cap, cur, rfl, hb, hg, hn, hc, hs, ht⟩
  · exact Or.inl ⟨rfl, List.length_eq_zero_iff.1 h0⟩
  · have hlt : g < w.heap.size := by
      rcases Nat.lt_or_ge g w.heap.size with k | k
      · exact k
      · rw [Array.getElem?_eq_none k] at hg; cases hg
    refine Or.inr ⟨g, 0, cap, rfl, hn, ⟨_, _, hg⟩, fun t htl => ?_⟩
    have e : (vals l)[t]? = some (.int .i64 ((l.getD t 0 : Nat) : Int)) := by
      simp [vals, List.getD, List.getElem?_eq_getElem htl]
    rw [← ht] at e
    have e2 : cur[t]? = some (.int .i64 ((l.getD t 0 : Nat) : Int)) := by
      rw [List.getElem?_take] at e
      split at e
      · simpa using e
      · cases e
    simp [World.cell?, hg, e2]

end Dec
open Dec

/-- The slice as the walks take it. -/
theorem Dec.Rd.shape {w : World} {v : Value} {l : List Nat} (h : Rd w v l) : ∃ ao b off cap, v = .slice ao l.length cap ∧ l.length ≤ cap ∧ (ao = some ⟨b, off, none⟩ ∨ (ao = none ∧ l.length = 0)) ∧
    ∀ t, t < l.length → b < w.heap.size ∧ w.cell? ⟨b, off + t, none⟩ = some (.int .i64 ((l.getD t 0 : Nat) : Int)) := by
  rcases h with ⟨rfl, rfl⟩ | ⟨b, off, cap, rfl, hlc, hlt, hc⟩
  · exact ⟨none, 0, 0, 0, rfl, Nat.le_refl _, Or.inr ⟨rfl, rfl⟩, fun t ht => by simp at ht⟩
  · exact ⟨_, b, off, cap, rfl, hlc, Or.inl rfl, fun t ht => ⟨hlt.lt, hc t ht⟩⟩

end Go.Proofs.YtdgcnaijndocnaaDoor

/-
  lower of the document's answer of layer 3: whether a size of eight words is below another one.
-/
set_option linter.unusedSimpArgs false
set_option linter.unusedVariables false
namespace Go.Proofs.YtdgcnaijndocnaaDoor
open Go.RowKit Lg Dec

end Go.Proofs.YtdgcnaijndocnaaDoor

/-
  A number of the document's answer of layer 3 (a sign and eight words) as a block of nine cells: loads, stores, results.
-/
set_option linter.unusedSimpArgs false
set_option linter.unusedVariables false
namespace Go.Proofs.YtdgcnaijndocnaaDoor
open Go.RowKit Lg Dec
namespace Lg
section
end
theorem below_setRow {B g : Nat} {w0 w : World} (hb : Below B w0 w) (hBg : B ≤ g) (cs : Array Value) : Below B w0 (w.setRow g cs) :=
  hb.trans ⟨rfl, rfl, rfl, by simp, fun k hk => setRow_other w g k cs (by omega)⟩
end Lg
end Go.Proofs.YtdgcnaijndocnaaDoor

/-
  Numbers of eight words of 32 bits as functions of their places: a block that holds one, sums and differences word by word.
-/
set_option linter.unusedSimpArgs false
set_option linter.unusedVariables false
namespace Go.Proofs.YtdgcnaijndocnaaDoor
open Go.RowKit
namespace Lg

theorem keep_set {w : World} {a p : Addr} {v : Value} (h : w.cell? a = some v) (hne : a.block ≠ p.block) (u : Value) : (w.setCell p u).cell? a = some v :=
  (World.cell?_of_block (Below.heap_setCell w p u a.block hne)).trans h

/-- The first K words of one, the others of another one. -/
def mixf (K : Nat) (f g : Nat → Int) : Nat → Int := fun j => if j < K then f j else g j

/-- What is carried into word k. -/
def cr : Int → Int → Int → Nat → Int
  | _, _, c, 0 => c
  | a, b, c, k + 1 => cr (a / 4294967296) (b / 4294967296) ((a % 4294967296 + b % 4294967296 + c) / 4294967296) k
theorem cr_bd : ∀ (k : Nat) (a b c : Int), 0 ≤ c → c ≤ 1 → 0 ≤ cr a b c k ∧ cr a b c k ≤ 1
  | 0, _, _, c, h0, h1 => ⟨h0, h1⟩
  | k + 1, a, b, c, h0, h1 => cr_bd k _ _ _ (by omega) (by omega)
theorem cr_next : ∀ (k : Nat) (a b c : Int), cr a b c (k + 1) = (wd k a + wd k b + cr a b c k) / 4294967296
  | 0, a, b, c => rfl
  | k + 1, a, b, c => cr_next k (a / 4294967296) (b / 4294967296) ((a % 4294967296 + b % 4294967296 + c) / 4294967296)
theorem cr_word : ∀ (k : Nat) (a b c : Int), 0 ≤ c → c ≤ 1 → wd k (a + b + c) = (wd k a + wd k b + cr a b c k) % 4294967296
  | 0, a, b, c, _, _ => by show (a + b + c) % 4294967296 = (a % 4294967296 + b % 4294967296 + c) % 4294967296; omega
  | k + 1, a, b, c, h0, h1 => by
    have := cr_word k (a / 4294967296) (b / 4294967296) ((a % 4294967296 + b % 4294967296 + c) / 4294967296) (by omega) (by omega)
    have e : (a + b + c) / 4294967296 = a / 4294967296 + b / 4294967296 + (a % 4294967296 + b % 4294967296 + c) / 4294967296 := by omega
    show wd k ((a + b + c) / 4294967296) = _
    rw [e]; exact this

/-- What is borrowed from word k. -/
def br : Int → Int → Int → Nat → Int
  | _, _, c, 0 => c
  | a, b, c, k + 1 => br (a / 4294967296) (b / 4294967296) (1 - (4294967296 + a % 4294967296 - b % 4294967296 - c) / 4294967296) k
theorem br_bd : ∀ (k : Nat) (a b c : Int), 0 ≤ c → c ≤ 1 → 0 ≤ br a b c k ∧ br a b c k ≤ 1
  | 0, _, _, c, h0, h1 => ⟨h0, h1⟩
  | k + 1, a, b, c, h0, h1 => br_bd k _ _ _ (by omega) (by omega)
theorem br_next : ∀ (k : Nat) (a b c : Int), br a b c (k + 1) = 1 - (4294967296 + wd k a - wd k b - br a b c k) / 4294967296
  | 0, a, b, c => rfl
  | k + 1, a, b, c => br_next k (a / 4294967296) (b / 4294967296) (1 - (4294967296 + a % 4294967296 - b % 4294967296 - c) / 4294967296)
theorem br_word : ∀ (k : Nat) (a b c : Int), 0 ≤ c → c ≤ 1 → wd k (a - b - c) = (4294967296 + wd k a - wd k b - br a b c k) % 4294967296
  | 0, a, b, c, _, _ => by show (a - b - c) % 4294967296 = (4294967296 + a % 4294967296 - b % 4294967296 - c) % 4294967296; omega
  | k + 1, a, b, c, h0, h1 => by
    have := br_word k (a / 4294967296) (b / 4294967296) (1 - (4294967296 + a % 4294967296 - b % 4294967296 - c) / 4294967296) (by omega) (by omega)
    have e : (a - b - c) / 4294967296 = a / 4294967296 - b / 4294967296 - (1 - (4294967296 + a % 4294967296 - b % 4294967296 - c) / 4294967296) := by omega
    show wd k ((a - b - c) / 4294967296) = _
    rw [e]; exact this

end Lg
end Go.Proofs.YtdgcnaijndocnaaDoor

/-
  Layer 12, plain: numbers no greater than may be; states that may be.
-/
set_option linter.unusedSimpArgs false
set_option linter.unusedVariables false
namespace Go.Proofs.YtdgcnaijndocnaaDoor
open Go.RowKit Dt
namespace Pr
/-- A number no greater than may be. -/
def InV (z : Int) : Prop := -4611686018427387903 ≤ z ∧ z ≤ 4611686018427387903
instance (z : Int) : Decidable (InV z) := by unfold InV; infer_instance
/-- A state that may be. -/
def MayV (X : Nat → Int) (P : Nat → Nat → Int) : Prop := ∀ i, i < 6 → InV (X i) ∧ 0 ≤ P i i ∧ ∀ j, j < 6 → InV (P i j) ∧ P i j = P j i
theorem dk_comm (a b : Nat → Int) (n : Nat) : dk a b n = dk b a n := by
  induction n with
  | zero => rfl
  | succ n ih => unfold dk; rw [ih, Int.mul_comm (a n)]
theorem Hid.mkQ {p : Prop} (h : p) : Hid p := h
end Pr
end Go.Proofs.YtdgcnaijndocnaaDoor
