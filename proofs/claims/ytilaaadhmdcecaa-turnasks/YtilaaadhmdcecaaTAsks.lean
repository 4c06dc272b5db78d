/-
  What is proved: whatever three directions it is given, the law TurnAsks of layer 4 returns true, ends without a panic, and leaves what was there as it was; no condition.
-/
import Derived.Test.YtilaaadhmdcecaaRefT
import Derived.Test.YtilaaadhmdcecaaFTurnAsks
set_option linter.unusedSimpArgs false
set_option linter.unusedVariables false
namespace Go.Proofs.Ytilaaadhmdcecaa
open Go.RowKit Tn
attribute [local go_sem ↓] Go.wp_at_zero Go.wp_at_succ

set_option maxHeartbeats 2000000 in
theorem asks_walk : FTurnAsks.Walk := by
  intro x y z w wx wy wz
  obtain ⟨x0, x1⟩ := bounds_u32 wx
  obtain ⟨y0, y1⟩ := bounds_u32 wy
  obtain ⟨z0, z1⟩ := bounds_u32 wz
  have hs : -2147483648 ≤ sh (x - y) ∧ sh (x - y) ≤ 2147483647 := by unfold sh; split <;> omega
  have hm : 0 ≤ md (x + md (y - x) / 2) ∧ md (x + md (y - x) / 2) ≤ 4294967295 := by unfold md; omega
  obtain ⟨m, hmm⟩ : ∃ d, d = md (x + md (y - x) / 2) := ⟨_, rfl⟩
  obtain ⟨s, hss⟩ : ∃ d, d = sh (x - y) := ⟨_, rfl⟩
  obtain ⟨b, hbb⟩ : ∃ d, d = decide (md (x - y) ≤ md (z - y)) := ⟨_, rfl⟩
  rw [← hmm] at hm
  rw [← hss] at hs
  have M : Hid (m = md (x + md (y - x) / 2)) := hmm
  have S : Hid (s = sh (x - y)) := hss
  have B : Hid (b = decide (md (x - y) ≤ md (z - y))) := hbb
  clear hmm hss hbb
  go_enter Try.func3, Try.ntmps3
  go_wp2_with fail
  refine (tshort_any x _ x0 x1).mono ?_
  rintro e w1 ⟨rfl, rfl⟩
  go_wp2_with fail
  refine (rshort_any x _ x0 x1).mono ?_
  rintro e w1 ⟨rfl, rfl⟩
  go_wp2_with fail
  refine (tof_any (x % 65536) _ (by omega) (by omega)).mono ?_
  rintro e w1 ⟨rfl, rfl⟩
  have h3 : (x % 65536 * 65536 == 65536 * (x % 65536)) = true := by rw [Int.mul_comm]; simp
  go_wp2_with fail
  refine (tfrom_any x y _ x0 x1 y0 y1).mono ?_
  rintro e w1 ⟨rfl, rfl⟩
  rw [← S.out]
  go_wp2_with fail
  refine (rfrom_any x y _ x0 x1 y0 y1).mono ?_
  rintro e w1 ⟨rfl, rfl⟩
  rw [← S.out]
  go_wp2_with fail
  refine (tbetween_any x y z _ x0 x1 y0 y1 z0 z1).mono ?_
  rintro e w1 ⟨rfl, rfl⟩
  rw [← B.out]
  go_wp2_with fail
  refine (rbetween_any x y z _ x0 x1 y0 y1 z0 z1).mono ?_
  rintro e w1 ⟨rfl, rfl⟩
  rw [← B.out]
  go_wp2_with fail
  refine (tmiddle_any x y _ x0 x1 y0 y1).mono ?_
  rintro e w1 ⟨rfl, rfl⟩
  rw [← M.out]
  go_wp2_with fail
  refine (rmiddle_any x y _ x0 x1 y0 y1).mono ?_
  rintro e w1 ⟨rfl, rfl⟩
  rw [← M.out]
  go_wp2_with fail
  refine (tsure_any _).mono ?_
  rintro e w2 ⟨rfl, k2⟩
  go_wp2
  go_ret
  exact ⟨rfl, k2⟩

/-- The law TurnAsks, of any input. -/
theorem turnasks_holds : Rows.TurnAsksSaid := FTurnAsks.row asks_walk

end Go.Proofs.Ytilaaadhmdcecaa
