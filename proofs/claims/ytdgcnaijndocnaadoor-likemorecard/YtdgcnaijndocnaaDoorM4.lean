/-
  Two of the document's answer (radomeref01): two to a power.
-/
import Derived.Test.YtdgcnaijndocnaaDoorM3
import Derived.Deep.DeepCutAuto
import Derived.Deep.RegionWith
import Derived.RegionTactic
import Derived.ChangeAlike
import Derived.BigRegion
import Derived.Test.YtdgcnaijndocnaaDoorM1
import Derived.Deep.RegionHeld3
import Derived.Test.YtdgcnaijndocnaaDoorM2
set_option linter.unusedSimpArgs false
set_option linter.unusedVariables false
namespace Go.Proofs.YtdgcnaijndocnaaDoor
open Go.RowKit Dec
attribute [local go_sem ↓] Go.wp_at_zero Go.wp_at_succ

namespace Dec
theorem isNum_nat {w : World} {d : Value} {n : Nat} (h : Rd w d (digs n)) : IsNum w (.agg #[.bool false, d]) (n : Int) :=
  ⟨d, by rw [decide_eq_false (Int.not_lt.2 (Int.natCast_nonneg n))], by rw [Int.natAbs_natCast]; exact h⟩
theorem IsNum.nat {w : World} {v : Value} {n : Nat} (h : IsNum w v (n : Int)) : ∃ a c, v = .agg #[.bool false, .slice a (digs n).length c] ∧ Rd w (.slice a (digs n).length c) (digs n) := by
  obtain ⟨d, rfl, hd⟩ := h
  rw [Int.natAbs_natCast] at hd
  obtain ⟨a, c, rfl⟩ := hd.lt
  exact ⟨a, c, by rw [decide_eq_false (Int.not_lt.2 (Int.natCast_nonneg n))], hd⟩
theorem len_two (n : Nat) : (digs (2 ^ n)).length ≤ n + 1 := by
  refine length_digs_le (Nat.lt_of_lt_of_le (Nat.pow_lt_pow_right (a := 2) (by omega) (Nat.lt_succ_self n)) (Nat.pow_le_pow_left (by omega) _))
end Dec

end Go.Proofs.YtdgcnaijndocnaaDoor

/-
  By of the document's answer of layer 3 (radomeref03): a number of eight words by two to a power, rounded and bounded; by py/By.py.
-/
set_option linter.unusedSimpArgs false
set_option linter.unusedVariables false
namespace Go.Proofs.YtdgcnaijndocnaaDoor
open Go.RowKit Lg
attribute [local go_sem ↓] Go.wp_at_zero Go.wp_at_succ

namespace Lg
/-- What comes of a size with its sign: bounded, and whether it was. -/
def res (s : Bool) (Q : Int) : Value := .tuple #[.int .i64 (if Q < 4611686018427387904 then (if s then -Q else Q) else (if s then -4611686018427387903 else 4611686018427387903)), .bool (decide (¬ Q < 4611686018427387904))]
theorem res_low (s : Bool) (Q : Int) (h : Q < 4611686018427387904) : res s Q = .tuple #[.int .i64 (if s then -Q else Q), .bool false] := by
  unfold res; rw [if_pos h]; simp [h]
theorem res_high (s : Bool) (Q : Int) (h : ¬ Q < 4611686018427387904) : res s Q = .tuple #[.int .i64 (if s then -4611686018427387903 else 4611686018427387903), .bool true] := by
  unfold res; rw [if_neg h]; simp; omega
theorem ret_low (s : Bool) {Q z Z : Int} (hZ : Z = Q) (h : Q < 4611686018427387904) (hz : z = if s then -Q else Q) : Ending.returned (.tuple #[.int .i64 z, .bool false]) = .returned (res s Z) := by rw [hZ, res_low s Q h, hz]
theorem ret_high (s : Bool) {Q Z : Int} (hZ : Z = Q) (h : 4611686018427387904 ≤ Q) : Ending.returned (.tuple #[.int .i64 (if s then -4611686018427387903 else 4611686018427387903), .bool true]) = .returned (res s Z) := by rw [hZ, res_high s Q (by omega)]
theorem low_two {Q : Int} (h0 : 0 ≤ Q) (h : Q < 4611686018427387904) : wd 0 Q + wd 1 Q * 4294967296 = Q := by
  show Q % 4294967296 + Q / 4294967296 % 4294967296 * 4294967296 = Q
  omega
theorem high_two {Q : Int} (h0 : 0 ≤ Q) (h : Q < 4611686018427387904) : 0 ≤ wd 1 Q ∧ wd 1 Q ≤ 1073741823 := by
  show 0 ≤ Q / 4294967296 % 4294967296 ∧ Q / 4294967296 % 4294967296 ≤ 1073741823
  omega
end Lg

namespace Lg
theorem wrap_pow {v : Nat} {F : Int} (hv : v ≤ 31) (hF : (2 : Int) ^ v = F) : 0 < F ∧ F ≤ 2147483648 ∧ IntKind.u64.wrap F = F := by
  have h1 : (2 : Nat) ^ v ≤ 2 ^ 31 := Nat.pow_le_pow_right (by omega) hv
  have h2 : (2 : Int) ^ v = ((2 ^ v : Nat) : Int) := by simp
  have h3 := Nat.two_pow_pos v
  rw [hF] at h2
  refine ⟨by omega, by omega, ?_⟩
  rw [IntKind.wrap_u64]; omega
end Lg
end Go.Proofs.YtdgcnaijndocnaaDoor

/-
  By of the document's answer of layer 3 (radomeref03): a number of eight words by two to a power, rounded and bounded; by py/By.py.
-/
set_option linter.unusedSimpArgs false
set_option linter.unusedVariables false
namespace Go.Proofs.YtdgcnaijndocnaaDoor
open Go.RowKit Lg
attribute [local go_sem ↓] Go.wp_at_zero Go.wp_at_succ

end Go.Proofs.YtdgcnaijndocnaaDoor

/-
  By of the document's answer of layer 3 (radomeref03), of any bits that may be: rounded and bounded as the program's; by py/ByAny.py.
-/
set_option linter.unusedSimpArgs false
set_option linter.unusedVariables false
namespace Go.Proofs.YtdgcnaijndocnaaDoor
open Go.RowKit Lg

namespace Lg
theorem rne_half (A h : Int) (hh : 0 < h) (hA : 0 ≤ A) : Qn.rne A (2 * h) = if A / h % 2 = 1 ∧ (0 < A % h ∨ A / (2 * h) % 2 = 1) then A / (2 * h) + 1 else A / (2 * h) := by
  have e1 : A / (2 * h) = A / h / 2 := by
    rw [Int.ediv_ediv, if_neg (fun h => absurd h.1 (by omega)), Int.sub_zero, Int.mul_comm]
  have e2 : A % (2 * h) = A / h % 2 * h + A % h := by
    have a1 := Int.emod_add_mul_ediv A (2 * h)
    have a2 := Int.emod_add_mul_ediv A h
    have a3 := Int.emod_add_mul_ediv (A / h) 2
    rw [e1] at a1
    generalize A / h / 2 = y at *
    generalize A / h % 2 = z at *
    have : h * (A / h) = h * (z + 2 * y) := by rw [a3]
    rw [Int.mul_add, ← Int.mul_assoc, Int.mul_comm h 2, Int.mul_comm h z] at this
    omega
  have r0 := Int.emod_nonneg A (show h ≠ 0 by omega)
  have r1 := Int.emod_lt_of_pos A hh
  unfold Qn.rne
  rw [e2]
  rcases Int.emod_two_eq (A / h) with c | c
  · rw [c, Int.zero_mul, if_pos (Or.inl (by omega)), if_neg (by omega)]
  · rw [c, Int.one_mul]
    by_cases c2 : 0 < A % h
    · rw [if_neg (by omega), if_pos ⟨rfl, Or.inl c2⟩]
    · by_cases c3 : A / (2 * h) % 2 = 1
      · rw [if_neg (by omega), if_pos ⟨rfl, Or.inr c3⟩]
      · rw [if_pos (Or.inr ⟨by omega, by omega⟩), if_neg (by intro h; rcases h.2 with h | h <;> omega)]

theorem low_bit (X W F G : Int) (hF : 0 < F) (hW : F * (2 * G) = W) (hG : 0 < G) : X % W / F % 2 = X / F % 2 ∧ X % W % F = X % F := by
  constructor
  · have a1 := Int.emod_add_mul_ediv X W
    have e : X / F = X % W / F + 2 * G * (X / W) := by
      have : X = X % W + F * (2 * G * (X / W)) := by rw [← Int.mul_assoc, hW]; omega
      conv => lhs; rw [this]
      rw [Int.add_mul_ediv_left _ _ (by omega)]
    rw [e, Int.mul_assoc, Int.add_mul_emod_self_left]
  · exact Int.emod_emod_of_dvd X ⟨2 * G, hW.symm⟩

theorem res_any (s : Bool) (Z : Int) (hZ : 0 ≤ Z) : res s Z = .tuple #[.int .i64 (Qn.clamp (sgz s Z)), .bool (Qn.great (sgz s Z))] := by
  by_cases h : Z < 4611686018427387904
  · rw [res_low s Z h]
    cases s
    · have e1 : Qn.clamp (sgz false Z) = Z := by unfold sgz Qn.clamp; simp only [Bool.false_eq_true, if_false]; rw [if_neg (by omega), if_neg (by omega)]
      have e2 : Qn.great (sgz false Z) = false := by unfold sgz Qn.great; simp only [Bool.false_eq_true, if_false]; rw [decide_eq_false (by omega), decide_eq_false (by omega)]; rfl
      rw [e1, e2]; rfl
    · have e1 : Qn.clamp (sgz true Z) = -Z := by unfold sgz Qn.clamp; simp only [if_true]; rw [if_neg (by omega), if_neg (by omega)]
      have e2 : Qn.great (sgz true Z) = false := by unfold sgz Qn.great; simp only [if_true]; rw [decide_eq_false (by omega), decide_eq_false (by omega)]; rfl
      rw [e1, e2]; rfl
  · rw [res_high s Z h]
    cases s
    · have e1 : Qn.clamp (sgz false Z) = 4611686018427387903 := by unfold sgz Qn.clamp; simp only [Bool.false_eq_true, if_false]; rw [if_pos (by omega)]
      have e2 : Qn.great (sgz false Z) = true := by unfold sgz Qn.great; simp only [Bool.false_eq_true, if_false]; rw [decide_eq_true (by omega : (4611686018427387903 : Int) < Z)]; rfl
      rw [e1, e2]; rfl
    · have e1 : Qn.clamp (sgz true Z) = -4611686018427387903 := by unfold sgz Qn.clamp; simp only [if_true]; rw [if_neg (by omega), if_pos (by omega)]
      have e2 : Qn.great (sgz true Z) = true := by unfold sgz Qn.great; simp only [if_true]; rw [decide_eq_false (by omega : ¬ (4611686018427387903 : Int) < -Z), decide_eq_true (by omega : -Z < (-4611686018427387903 : Int))]; rfl
      rw [e1, e2]; rfl
end Lg

end Go.Proofs.YtdgcnaijndocnaaDoor

/-
  Dot of the document's answer of layer 3 (radomeref03): the sum of products, rounded once, and bounded; by py/Dots.py.
-/
set_option linter.unusedSimpArgs false
set_option linter.unusedVariables false
namespace Go.Proofs.YtdgcnaijndocnaaDoor
open Go.RowKit Lg Dt
attribute [local go_sem ↓] Go.wp_at_zero Go.wp_at_succ

namespace Lg
theorem sgz_bd {s : Bool} {A M : Int} (hA : 0 ≤ A) (h : -M ≤ sgz s A ∧ sgz s A ≤ M) : A ≤ M := by
  unfold sgz at h; split at h <;> omega
end Lg

end Go.Proofs.YtdgcnaijndocnaaDoor

/-
  The document's answer of layer 7 (radomeref07): Add, less or not.
-/
set_option linter.unusedSimpArgs false
set_option linter.unusedVariables false
namespace Go.Proofs.YtdgcnaijndocnaaDoor
open Go.RowKit Vc Dec

namespace Vc
theorem digs_short {z : Int} (h0 : -99999999999999999999 ≤ z) (h1 : z ≤ 99999999999999999999) : (digs z.natAbs).length ≤ 1000000 := by
  have := length_digs_le (show z.natAbs < 10 ^ 20 by omega)
  omega

end Vc

end Go.Proofs.YtdgcnaijndocnaaDoor

/-
  The document's answer of layer 7 (radomeref07): Scale, Check, Join.
-/
set_option linter.unusedSimpArgs false
set_option linter.unusedVariables false
namespace Go.Proofs.YtdgcnaijndocnaaDoor
open Go.RowKit Vc Dt
attribute [local go_sem ↓] Go.wp_at_zero Go.wp_at_succ

namespace Vc
theorem Sl.one {w : World} {x : Addr} {a : Int} (h : w.cell? x = some (.int .i64 a)) : Sl w (some x) 1 1 (fun _ => a) :=
  ⟨Nat.le_refl _, by omega, fun k hk => ⟨x, rfl, by obtain rfl : k = 0 := by omega
                                                    exact h⟩⟩
end Vc

end Go.Proofs.YtdgcnaijndocnaaDoor
