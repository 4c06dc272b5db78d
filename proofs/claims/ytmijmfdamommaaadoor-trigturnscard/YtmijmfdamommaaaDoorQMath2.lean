/-
  Plain facts on the long division of two words by one, digit by digit (32 bits each): no program is named here.
-/
set_option linter.unusedSimpArgs false
set_option linter.unusedVariables false
namespace Go.Proofs.YtmijmfdamommaaaDoor
namespace Qn

/-- A guess q of a digit, with the rest rh by the divisor's higher half: it is not below the digit. -/
def DAt (un y1 y0 u1 q rh : Int) : Prop := 0 ≤ q ∧ q ≤ 4294967298 ∧ 0 ≤ rh ∧ un = q * y1 + rh ∧ (un * 4294967296 + u1) / (y1 * 4294967296 + y0) ≤ q

theorem dig_mul (q y1 y0 : Int) : q * (y1 * 4294967296 + y0) = q * y1 * 4294967296 + q * y0 := by
  rw [Int.mul_add, ← Int.mul_assoc]

theorem dAt_start {un y1 y0 u1 : Int} (h0 : 0 ≤ un) (hy1 : 2147483648 ≤ y1) (hy2 : y1 < 4294967296) (hy0 : 0 ≤ y0) (hy3 : y0 < 4294967296) (hu0 : 0 ≤ u1) (hu1 : u1 < 4294967296) (hlt : un < y1 * 4294967296 + y0) :
    DAt un y1 y0 u1 (un / y1) (un - un / y1 * y1) := by
  have hm := Int.emod_add_mul_ediv un y1
  have hm0 := Int.emod_nonneg un (show y1 ≠ 0 by omega)
  have hm1 := Int.emod_lt_of_pos un (show 0 < y1 by omega)
  have hq0 : 0 ≤ un / y1 := Int.ediv_nonneg h0 (by omega)
  have hq : un / y1 < 4294967299 := Int.ediv_lt_of_lt_mul (by omega) (by omega)
  rw [Int.mul_comm] at hm
  refine ⟨hq0, by omega, by omega, by omega, ?_⟩
  have hpos : 0 < y1 * 4294967296 + y0 := by omega
  have : (un * 4294967296 + u1) / (y1 * 4294967296 + y0) < un / y1 + 1 := by
    refine Int.ediv_lt_of_lt_mul hpos ?_
    simp only [dig_mul, Int.add_mul, Int.one_mul]
    have hz : 0 ≤ un / y1 * y0 := Int.mul_nonneg hq0 hy0
    omega
  omega

theorem dAt_down {un y1 y0 u1 q rh : Int} (h : DAt un y1 y0 u1 q rh) (hy1 : 2147483648 ≤ y1) (hy0 : 0 ≤ y0) (hu0 : 0 ≤ u1) (hu1 : u1 < 4294967296) (hlt : un < y1 * 4294967296 + y0)
    (hc : 4294967296 ≤ q ∨ rh * 4294967296 + u1 < q * y0) : DAt un y1 y0 u1 (q - 1) (rh + y1) := by
  obtain ⟨h1, h2, h3, h4, h5⟩ := h
  have hpos : 0 < y1 * 4294967296 + y0 := by omega
  have hlt2 : (un * 4294967296 + u1) / (y1 * 4294967296 + y0) < q := by
    refine Int.ediv_lt_of_lt_mul hpos ?_
    rcases hc with hc | hc
    · have : 4294967296 * (y1 * 4294967296 + y0) ≤ q * (y1 * 4294967296 + y0) := Int.mul_le_mul_of_nonneg_right hc (by omega)
      omega
    · rw [dig_mul]
      omega
  have hq1 : 1 ≤ q := by
    have : 0 ≤ (un * 4294967296 + u1) / (y1 * 4294967296 + y0) := Int.ediv_nonneg (by
      have : 0 ≤ q * y1 := Int.mul_nonneg h1 (by omega)
      omega) (by omega)
    omega
  refine ⟨by omega, by omega, by omega, ?_, by omega⟩
  rw [Int.sub_mul, Int.one_mul]
  omega

theorem dAt_break {un y1 y0 u1 q rh : Int} (h : DAt un y1 y0 u1 q rh) (hq : q ≤ 4294967297) (hy0 : 0 ≤ y0) (hy3 : y0 < 4294967296) (hu0 : 0 ≤ u1) (hr : 4294967296 ≤ rh) : q * y0 ≤ rh * 4294967296 + u1 := by
  have h1 : q * y0 ≤ 4294967297 * y0 := Int.mul_le_mul_of_nonneg_right hq hy0
  omega

/-- Where the guess is not too great it is the digit. -/
theorem dAt_done {un y1 y0 u1 q rh : Int} (h : DAt un y1 y0 u1 q rh) (hy1 : 2147483648 ≤ y1) (hy0 : 0 ≤ y0) (hc : q * y0 ≤ rh * 4294967296 + u1) : q = (un * 4294967296 + u1) / (y1 * 4294967296 + y0) := by
  obtain ⟨h1, h2, h3, h4, h5⟩ := h
  have hpos : 0 < y1 * 4294967296 + y0 := by omega
  have : q ≤ (un * 4294967296 + u1) / (y1 * 4294967296 + y0) := by
    refine Int.le_ediv_of_mul_le hpos ?_
    rw [dig_mul]
    omega
  omega

/-- What is left behind a digit. -/
theorem dig_rest {un u1 Y q : Int} (hY : 0 < Y) (hYW : Y < 18446744073709551616) (hq : q = (un * 4294967296 + u1) / Y) :
    ((un * 4294967296 + u1) - q * Y) % 18446744073709551616 = (un * 4294967296 + u1) % Y := by
  have h := Int.emod_add_mul_ediv (un * 4294967296 + u1) Y
  have h0 := Int.emod_nonneg (un * 4294967296 + u1) (show Y ≠ 0 by omega)
  have h1 := Int.emod_lt_of_pos (un * 4294967296 + u1) hY
  rw [← hq, Int.mul_comm Y q] at h
  rw [show un * 4294967296 + u1 - q * Y = (un * 4294967296 + u1) % Y by omega]
  omega

theorem dig_lt {un u1 Y : Int} (h0 : 0 ≤ un) (hY : un < Y) (hu0 : 0 ≤ u1) (hu1 : u1 < 4294967296) : 0 ≤ (un * 4294967296 + u1) / Y ∧ (un * 4294967296 + u1) / Y < 4294967296 := by
  refine ⟨Int.ediv_nonneg (by omega) (by omega), Int.ediv_lt_of_lt_mul (by omega) ?_⟩
  omega

/-- Two digits are the quotient. -/
theorem two_digits {V U u1 u0 Y : Int} (hY : 0 < Y) (hV : V = (U * 4294967296 + u1) * 4294967296 + u0) :
    V / Y = (U * 4294967296 + u1) / Y * 4294967296 + ((U * 4294967296 + u1) % Y * 4294967296 + u0) / Y ∧ V % Y = ((U * 4294967296 + u1) % Y * 4294967296 + u0) % Y := by
  have h := Int.emod_add_mul_ediv (U * 4294967296 + u1) Y
  generalize hr : (U * 4294967296 + u1) % Y = r at *
  generalize hq : (U * 4294967296 + u1) / Y = q at *
  have e : V = r * 4294967296 + u0 + Y * (q * 4294967296) := by
    rw [hV, ← h, Int.add_mul, Int.mul_assoc]
    omega
  rw [e, Int.add_mul_ediv_left _ _ (by omega), Int.add_mul_emod_self_left]
  exact ⟨by omega, rfl⟩

/-- Shifted up both, the quotient is the same and the rest is shifted. -/
theorem shifted {h l y D E U L : Int} (hy : 0 < y) (hD : 0 < D) (hE : 0 < E) (hDE : D * E = 18446744073709551616) (hl : 0 ≤ l) (hU : U = h * D + l / E) (hL : L = l * D % 18446744073709551616) :
    (U * 18446744073709551616 + L) / (y * D) = (h * 18446744073709551616 + l) / y ∧ (U * 18446744073709551616 + L) % (y * D) / D = (h * 18446744073709551616 + l) % y := by
  have e : U * 18446744073709551616 + L = (h * 18446744073709551616 + l) * D := by
    have e1 : l * D / 18446744073709551616 = l / E := by
      rw [← hDE, Int.mul_comm l D, Int.mul_ediv_mul_of_pos _ _ hD]
    have e2 := Int.emod_add_mul_ediv (l * D) 18446744073709551616
    rw [e1] at e2
    rw [hU, hL, Int.add_mul, Int.add_mul, Int.mul_right_comm]
    omega
  rw [e]
  refine ⟨Int.mul_ediv_mul_of_pos_left _ _ hD, ?_⟩
  rw [Int.mul_comm _ D, Int.mul_comm y D, Int.mul_emod_mul_of_pos _ _ hD, Int.mul_ediv_cancel_left _ (by omega)]

end Qn
end Go.Proofs.YtmijmfdamommaaaDoor
