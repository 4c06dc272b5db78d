/-
  By of the document's answer of layer 3 (radomeref03), of any bits that may be: rounded and bounded as the program's; by py/ByAny.py.
-/
import Derived.Test.YtgmagehgnjopcaaDoorLgC
import Derived.Test.YtgmagehgnjopcaaDoorPure
set_option linter.unusedSimpArgs false
set_option linter.unusedVariables false
namespace Go.Proofs.YtgmagehgnjopcaaDoor
open Go.RowKit Lg

namespace Lg
theorem rne_half (A h : Int) (hh : 0 < h) (hA : 0 ≤ A) : Qn.rne A (2 * h) = if A / h % 2 = 1 ∧ (0 < A % h ∨ A / (2 * h) % 2 = 1) then A / (2 * h) + 1 else A / (2 * h) := by
  have e1 : A / (2 * h) = A / h / 2 := by
    rw [Int.ediv_ediv, if_neg (fun h => absurd h.1 (by omega)), Int.sub_zero, Int.mul_comm]
  have e2 : A % (2 * h) = A / h % 2 * h + A % h := by
    have a1 := Int.emod_add_mul_ediv A (2 * h)
    have a2 := Int.emod_add_mul_ediv A h
    have a3 := Int.emod_add_mul_ediv (A / h) 2
    rw [e1] at a1
    generalize A / h / 2 = y at *
    generalize A / h % 2 = z at *
    have : h * (A / h) = h * (z + 2 * y) := by rw [a3]
    rw [Int.mul_add, ← Int.mul_assoc, Int.mul_comm h 2, Int.mul_comm h z] at this
    omega
  have r0 := Int.emod_nonneg A (show h ≠ 0 by omega)
  have r1 := Int.emod_lt_of_pos A hh
  unfold Qn.rne
  rw [e2]
  rcases Int.emod_two_eq (A / h) with c | c
  · rw [c, Int.zero_mul, if_pos (Or.inl (by omega)), if_neg (by omega)]
  · rw [c, Int.one_mul]
    by_cases c2 : 0 < A % h
    · rw [if_neg (by omega), if_pos ⟨rfl, Or.inl c2⟩]
    · by_cases c3 : A / (2 * h) % 2 = 1
      · rw [if_neg (by omega), if_pos ⟨rfl, Or.inr c3⟩]
      · rw [if_pos (Or.inr ⟨by omega, by omega⟩), if_neg (by intro h; rcases h.2 with h | h <;> omega)]

theorem low_bit (X W F G : Int) (hF : 0 < F) (hW : F * (2 * G) = W) (hG : 0 < G) : X % W / F % 2 = X / F % 2 ∧ X % W % F = X % F := by
  constructor
  · have a1 := Int.emod_add_mul_ediv X W
    have e : X / F = X % W / F + 2 * G * (X / W) := by
      have : X = X % W + F * (2 * G * (X / W)) := by rw [← Int.mul_assoc, hW]; omega
      conv => lhs; rw [this]
      rw [Int.add_mul_ediv_left _ _ (by omega)]
    rw [e, Int.mul_assoc, Int.add_mul_emod_self_left]
  · exact Int.emod_emod_of_dvd X ⟨2 * G, hW.symm⟩

theorem res_any (s : Bool) (Z : Int) (hZ : 0 ≤ Z) : res s Z = .tuple #[.int .i64 (Qn.clamp (sgz s Z)), .bool (Qn.great (sgz s Z))] := by
  by_cases h : Z < 4611686018427387904
  · rw [res_low s Z h]
    cases s
    · have e1 : Qn.clamp (sgz false Z) = Z := by unfold sgz Qn.clamp; simp only [Bool.false_eq_true, if_false]; rw [if_neg (by omega), if_neg (by omega)]
      have e2 : Qn.great (sgz false Z) = false := by unfold sgz Qn.great; simp only [Bool.false_eq_true, if_false]; rw [decide_eq_false (by omega), decide_eq_false (by omega)]; rfl
      rw [e1, e2]; rfl
    · have e1 : Qn.clamp (sgz true Z) = -Z := by unfold sgz Qn.clamp; simp only [if_true]; rw [if_neg (by omega), if_neg (by omega)]
      have e2 : Qn.great (sgz true Z) = false := by unfold sgz Qn.great; simp only [if_true]; rw [decide_eq_false (by omega), decide_eq_false (by omega)]; rfl
      rw [e1, e2]; rfl
  · rw [res_high s Z h]
    cases s
    · have e1 : Qn.clamp (sgz false Z) = 4611686018427387903 := by unfold sgz Qn.clamp; simp only [Bool.false_eq_true, if_false]; rw [if_pos (by omega)]
      have e2 : Qn.great (sgz false Z) = true := by unfold sgz Qn.great; simp only [Bool.false_eq_true, if_false]; rw [decide_eq_true (by omega : (4611686018427387903 : Int) < Z)]; rfl
      rw [e1, e2]; rfl
    · have e1 : Qn.clamp (sgz true Z) = -4611686018427387903 := by unfold sgz Qn.clamp; simp only [if_true]; rw [if_neg (by omega), if_pos (by omega)]
      have e2 : Qn.great (sgz true Z) = true := by unfold sgz Qn.great; simp only [if_true]; rw [decide_eq_false (by omega : ¬ (4611686018427387903 : Int) < -Z), decide_eq_true (by omega : -Z < (-4611686018427387903 : Int))]; rfl
      rw [e1, e2]; rfl
end Lg

/-- By: rounded and bounded. -/
theorem lby_size (s : Bool) (A : Int) (b : Nat) (w : World) (hA0 : 0 ≤ A) (hA1 : A ≤ 1606938044258990275541962092341162602522202993782792835301376) (hb : b ≤ 62) :
    Calls Tryd.prog 62 #[(.agg #[.bool s, .int .u64 (wd 0 A), .int .u64 (wd 1 A), .int .u64 (wd 2 A), .int .u64 (wd 3 A), .int .u64 (wd 4 A), .int .u64 (wd 5 A), .int .u64 (wd 6 A), .int .u64 (wd 7 A)]), .int .i64 b] w fun e w' => e = .returned (res s (Qn.rne A (2 ^ b))) ∧ Below w.heap.size w w' := by
  have h8 : In8 A := by unfold In8; omega
  have hdiv : ∀ B : Int, 0 < B → In8 (A / B) ∧ In8 (A / B + 1) := by
    intro B hB
    have h1 := Int.ediv_nonneg hA0 (Int.le_of_lt hB)
    have h2 := Int.ediv_le_self B hA0
    unfold In8
    omega
  by_cases h32 : b < 32
  · obtain ⟨u, hu⟩ : ∃ u, b + u = 32 := ⟨32 - b, by omega⟩
    have hB : (0 : Int) < 2 ^ b := Int.pow_pos (by omega)
    by_cases h0 : b = 0
    · subst h0
      have h := by_zero s A 1 (2 ^ u) A 0 u w h8 h8 (by omega) hu (by decide) rfl (by show A = A / (4294967296 ^ 0 * 1); simp) rfl
      have e : Qn.rne A (2 ^ 0) = A := Qn.rne_one A
      rw [e]
      exact h
    · obtain ⟨v, rfl⟩ : ∃ v, b = v + 1 := ⟨b - 1, by omega⟩
      have hF : (0 : Int) < 2 ^ v := Int.pow_pos (by omega)
      have hBF : (2 : Int) ^ (v + 1) = 2 * 2 ^ v := by rw [Int.pow_succ, Int.mul_comm]
      have hG : (2 : Int) ^ v * (2 * 2 ^ (31 - v)) = 4294967296 := by
        rw [Int.mul_left_comm, ← Int.pow_add, show v + (31 - v) = 31 by omega]; decide
      obtain ⟨l1, l2⟩ := low_bit A 4294967296 (2 ^ v) (2 ^ (31 - v)) hF hG (Int.pow_pos (by omega))
      refine (by_low s A (2 ^ (v + 1)) (2 ^ u) (A / 2 ^ (v + 1)) (v + 1) u w h8 (hdiv _ hB).1 (by omega) hu rfl rfl (by show _ = A / (4294967296 ^ 0 * 2 ^ (v + 1)); simp) (2 ^ v) v (by omega) rfl (hdiv _ hB).2 (Qn.rne A (2 ^ (v + 1))) ?_ rfl)
      show _ = _
      rw [hBF, rne_half A (2 ^ v) hF hA0]
      have e0 : wd 0 A = A % 4294967296 := rfl
      have e1 : wd 0 (A / (2 * 2 ^ v)) % 2 = A / (2 * 2 ^ v) % 2 := by
        show A / (2 * 2 ^ v) % 4294967296 % 2 = _
        omega
      rw [e0, l1, l2, e1]
      simp only [false_or]
  · obtain ⟨sh, rfl⟩ : ∃ sh, b = 32 + sh := ⟨b - 32, by omega⟩
    obtain ⟨u, hu⟩ : ∃ u, sh + u = 32 := ⟨32 - sh, by omega⟩
    have hD : (0 : Int) < 2 ^ sh := Int.pow_pos (by omega)
    have hW : (2 : Int) ^ (32 + sh) = 4294967296 * 2 ^ sh := by rw [Int.pow_add]; rfl
    have hB : (0 : Int) < 4294967296 * 2 ^ sh := by omega
    have hcast : (((32 + sh : Nat)) : Int) = 32 + (sh : Int) := by omega
    rw [hW, hcast]
    by_cases h0 : sh = 0
    · have e32 : (4294967296 : Int) * 2 ^ sh = 2 * 2147483648 := by rw [h0]; decide
      obtain ⟨l1, l2⟩ := low_bit A 4294967296 2147483648 1 (by omega) (by omega) (by omega)
      refine (by_mid s A (2 ^ sh) (2 ^ u) (A / (4294967296 * 2 ^ sh)) sh u w h8 (hdiv _ hB).1 (by omega) hu rfl rfl (by show _ = A / (4294967296 ^ 1 * 2 ^ sh); simp) 2147483648 31 (by omega) (by decide) (hdiv _ hB).2 (Qn.rne A (4294967296 * 2 ^ sh)) ?_ ⟨h0, rfl⟩)
      show _ = _
      rw [e32, rne_half A 2147483648 (by omega) hA0]
      have e0 : wd 0 A = A % 4294967296 := rfl
      have e1 : wd 0 (A / (2 * 2147483648)) % 2 = A / (2 * 2147483648) % 2 := by
        show A / (2 * 2147483648) % 4294967296 % 2 = _
        omega
      rw [e0, l1, l2, e1]
      simp only [false_or]
    · obtain ⟨v, rfl⟩ : ∃ v, sh = v + 1 := ⟨sh - 1, by omega⟩
      have hF : (0 : Int) < 2 ^ v := Int.pow_pos (by omega)
      have hH : (0 : Int) < 4294967296 * 2 ^ v := by omega
      have hBF : (4294967296 : Int) * 2 ^ (v + 1) = 2 * (4294967296 * 2 ^ v) := by rw [Int.pow_succ]; omega
      have hG : (2 : Int) ^ v * (2 * 2 ^ (31 - v)) = 4294967296 := by
        rw [Int.mul_left_comm, ← Int.pow_add, show v + (31 - v) = 31 by omega]; decide
      obtain ⟨l1, l2⟩ := low_bit (A / 4294967296) 4294967296 (2 ^ v) (2 ^ (31 - v)) hF hG (Int.pow_pos (by omega))
      refine (by_high s A (2 ^ (v + 1)) (2 ^ u) (A / (4294967296 * 2 ^ (v + 1))) (v + 1) u w h8 (hdiv _ hB).1 (by omega) hu rfl rfl (by show _ = A / (4294967296 ^ 1 * 2 ^ (v + 1)); simp) (2 ^ v) v (by omega) rfl (hdiv _ hB).2 (Qn.rne A (4294967296 * 2 ^ (v + 1))) ?_ rfl)
      show _ = _
      rw [hBF, rne_half A (4294967296 * 2 ^ v) hH hA0]
      have e0 : wd 1 A = A / 4294967296 % 4294967296 := rfl
      have e1 : wd 0 (A / (2 * (4294967296 * 2 ^ v))) % 2 = A / (2 * (4294967296 * 2 ^ v)) % 2 := by
        show A / (2 * (4294967296 * 2 ^ v)) % 4294967296 % 2 = _
        omega
      have e2 : A / (4294967296 * 2 ^ v) = A / 4294967296 / 2 ^ v := by
        rw [Int.ediv_ediv, if_neg (fun h => absurd h.1 (by omega)), Int.sub_zero]
      have e3 : A % (4294967296 * 2 ^ v) = A % 4294967296 + 4294967296 * (A / 4294967296 % 2 ^ v) := by
        have a1 := Int.emod_add_mul_ediv A (4294967296 * 2 ^ v)
        have a2 := Int.emod_add_mul_ediv (A / 4294967296) (2 ^ v)
        rw [e2, Int.mul_assoc] at a1
        generalize 2 ^ v * (A / 4294967296 / 2 ^ v) = y at *
        omega
      have e4 : wd 0 A = A % 4294967296 := rfl
      have m0 := Int.emod_nonneg (A / 4294967296) (show (2 : Int) ^ v ≠ 0 by omega)
      have e5 : (0 < A % 4294967296 + 4294967296 * (A / 4294967296 % 2 ^ v)) ↔ (0 < A % 4294967296 ∨ 0 < A / 4294967296 % 2 ^ v) := by omega
      rw [e0, l1, l2, e1, e2, e3, e4]
      simp only [e5]

/-- By, with the sign: what the program's rounding and bounding give. -/
theorem lby_any (s : Bool) (A : Int) (b : Nat) (w : World) (hA0 : 0 ≤ A) (hA1 : A ≤ 1606938044258990275541962092341162602522202993782792835301376) (hb : b ≤ 62) :
    Calls Tryd.prog 62 #[(.agg #[.bool s, .int .u64 (wd 0 A), .int .u64 (wd 1 A), .int .u64 (wd 2 A), .int .u64 (wd 3 A), .int .u64 (wd 4 A), .int .u64 (wd 5 A), .int .u64 (wd 6 A), .int .u64 (wd 7 A)]), .int .i64 b] w fun e w' => e = .returned (.tuple #[.int .i64 (Qn.clamp (Qn.rne (sgz s A) (2 ^ b))), .bool (Qn.great (Qn.rne (sgz s A) (2 ^ b)))]) ∧ Below w.heap.size w w' := by
  have hB : (0 : Int) < 2 ^ b := Int.pow_pos (by omega)
  refine (lby_size s A b w hA0 hA1 hb).mono ?_
  rintro e w' ⟨rfl, h⟩
  refine ⟨?_, h⟩
  have hZ : 0 ≤ Qn.rne A (2 ^ b) := by
    have := Int.ediv_nonneg hA0 (Int.le_of_lt hB)
    unfold Qn.rne; split <;> omega
  have e : Qn.rne (sgz s A) (2 ^ b) = sgz s (Qn.rne A (2 ^ b)) := by
    cases s
    · rfl
    · exact Qn.rne_neg A (2 ^ b) hB
  rw [res_any s _ hZ, e]

end Go.Proofs.YtgmagehgnjopcaaDoor
