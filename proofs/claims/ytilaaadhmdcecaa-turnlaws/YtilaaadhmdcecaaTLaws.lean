/-
  What is proved: whatever two directions and plot's direction it is given, the law TurnLaws of layer 4 returns true, ends without a panic, and leaves what was there as it was; no condition.
-/
import Derived.Test.YtilaaadhmdcecaaTurnB
import Derived.Test.YtilaaadhmdcecaaFTurnLaws
set_option linter.unusedSimpArgs false
set_option linter.unusedVariables false
namespace Go.Proofs.Ytilaaadhmdcecaa
open Go.RowKit Tn
attribute [local go_sem ↓] Go.wp_at_zero Go.wp_at_succ

namespace Tn
theorem laws1 (x y : Int) (hx0 : 0 ≤ x) (hx1 : x ≤ 4294967295) (hy0 : 0 ≤ y) (hy1 : y ≤ 4294967295) :
    wrap32 (-sh (y - x)) = sh (x - y) ∧ (y + sh (x - y)) % 4294967296 = x := by
  unfold sh
  simp only [wrap32]
  constructor
  · split <;> split <;> omega
  · split <;> omega
theorem laws2 (x y m : Int) (hx0 : 0 ≤ x) (hx1 : x ≤ 4294967295) (hy0 : 0 ≤ y) (hy1 : y ≤ 4294967295) (hm : m = md (x + md (y - x) / 2)) :
    0 ≤ m ∧ m ≤ 4294967295 ∧ decide (md (m - x) ≤ md (y - x)) = true ∧ ((m - x) % 4294967296 = (y - m) % 4294967296 ∨ ((m - x) % 4294967296 + 1) % 4294967296 = (y - m) % 4294967296) := by
  unfold md at *
  obtain ⟨d, hd⟩ : ∃ d, (y - x) % 4294967296 = d := ⟨_, rfl⟩
  rw [hd] at hm
  have d0 : 0 ≤ d ∧ d ≤ 4294967295 := by omega
  have e1 : (m - x) % 4294967296 = d / 2 := by rw [hm]; omega
  have e2 : (y - m) % 4294967296 = d - d / 2 := by
    rw [hm]; omega
  rw [e1, e2, hd]
  refine ⟨by omega, by omega, ?_, ?_⟩
  · simp only [decide_eq_true_eq]; omega
  · omega
theorem laws3 (x y : Int) (hx0 : 0 ≤ x) (hx1 : x ≤ 4294967295) (hy0 : 0 ≤ y) (hy1 : y ≤ 4294967295) :
    decide (md (x - x) ≤ md (y - x)) = true ∧ decide (md (y - x) ≤ md (x - x)) = decide (x = y) := by
  unfold md
  rw [show x - x = 0 by omega]
  constructor
  · simp only [decide_eq_true_eq]; omega
  · rw [decide_eq_decide]; omega
end Tn

set_option maxHeartbeats 2000000 in
theorem laws_walk : FTurnLaws.Walk := by
  intro x y s w wx wy ws
  have bx : 0 ≤ x ∧ x ≤ 4294967295 := by exact bounds_u32 wx
  have by' : 0 ≤ y ∧ y ≤ 4294967295 := by exact bounds_u32 wy
  have bs : 0 ≤ s ∧ s ≤ 65535 := by exact bounds_u16 ws
  obtain ⟨x0, x1⟩ := bx
  obtain ⟨y0, y1⟩ := by'
  obtain ⟨s0, s1⟩ := bs
  obtain ⟨f1, f2⟩ := laws1 x y x0 x1 y0 y1
  obtain ⟨m, hm⟩ : ∃ m, m = md (x + md (y - x) / 2) := ⟨_, rfl⟩
  obtain ⟨m0, m1, g2, g6⟩ := laws2 x y m x0 x1 y0 y1 hm
  obtain ⟨g3, g5⟩ := laws3 x y x0 x1 y0 y1
  have g4 : decide (md (y - x) ≤ md (y - x)) = true := by simp
  have g1 : (s * 65536 + 32768) / 65536 % 65536 = s := by omega
  have Hm : Hid (m = md (x + md (y - x) / 2)) := hm
  have G6 : Hid ((m - x) % 4294967296 = (y - m) % 4294967296 ∨ ((m - x) % 4294967296 + 1) % 4294967296 = (y - m) % 4294967296) := g6
  clear hm g6
  go_enter Try.func4, Try.ntmps4
  go_wp2_with fail
  refine (tfrom_any x y _ x0 x1 y0 y1).mono ?_
  rintro e w1 ⟨rfl, rfl⟩
  go_wp2_with fail
  refine (tfrom_any y x _ y0 y1 x0 x1).mono ?_
  rintro e w1 ⟨rfl, rfl⟩
  go_wp2_with fail
  refine (tmiddle_any x y _ x0 x1 y0 y1).mono ?_
  rintro e w1 ⟨rfl, rfl⟩
  rw [← Hm.out]
  go_wp2_with fail
  refine (tof_any s _ s0 s1).mono ?_
  rintro e w1 ⟨rfl, rfl⟩
  go_wp2_with fail
  refine (tshort_any _ _ (by omega) (by omega)).mono ?_
  rintro e w1 ⟨rfl, rfl⟩
  rw [g1]
  go_wp2_with fail
  refine (tbetween_any m x y _ m0 m1 x0 x1 y0 y1).mono ?_
  rintro e w1 ⟨rfl, rfl⟩
  rw [g2]
  go_wp2_with fail
  refine (tbetween_any x x y _ x0 x1 x0 x1 y0 y1).mono ?_
  rintro e w1 ⟨rfl, rfl⟩
  rw [g3]
  go_wp2_with fail
  refine (tbetween_any y x y _ y0 y1 x0 x1 y0 y1).mono ?_
  rintro e w1 ⟨rfl, rfl⟩
  rw [g4]
  rcases G6.out with g6 | g6
  · go_wp2_with fail
    refine (tbetween_any y x x _ y0 y1 x0 x1 x0 x1).mono ?_
    rintro e w1 ⟨rfl, rfl⟩
    rw [g5]
    by_cases hxy : x = y
    · rw [decide_eq_true hxy]
      go_wp2_with fail
      refine (tsure_any _).mono ?_
      rintro e w2 ⟨rfl, k2⟩
      go_wp2
      go_ret
      exact ⟨rfl, k2⟩
    · have hxy' : (x == y) = false := by simpa using hxy
      rw [decide_eq_false hxy]
      go_wp2_with fail
      refine (tsure_any _).mono ?_
      rintro e w2 ⟨rfl, k2⟩
      go_wp2
      go_ret
      exact ⟨rfl, k2⟩
  · go_wp2_with fail
    refine (tbetween_any y x x _ y0 y1 x0 x1 x0 x1).mono ?_
    rintro e w1 ⟨rfl, rfl⟩
    rw [g5]
    by_cases hxy : x = y
    · rw [decide_eq_true hxy]
      go_wp2_with fail
      refine (tsure_any _).mono ?_
      rintro e w2 ⟨rfl, k2⟩
      go_wp2
      go_ret
      exact ⟨rfl, k2⟩
    · have hxy' : (x == y) = false := by simpa using hxy
      rw [decide_eq_false hxy]
      go_wp2_with fail
      refine (tsure_any _).mono ?_
      rintro e w2 ⟨rfl, k2⟩
      go_wp2
      go_ret
      exact ⟨rfl, k2⟩

/-- The law TurnLaws, of any input. -/
theorem turnlaws_holds : Rows.TurnLawsSaid := FTurnLaws.row laws_walk

end Go.Proofs.Ytilaaadhmdcecaa
