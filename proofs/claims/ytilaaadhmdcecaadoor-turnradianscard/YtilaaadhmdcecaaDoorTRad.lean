/-
  What is proved: whatever direction and bits it is given, the law TurnRadians of layer 4 returns true, ends without a panic, and leaves what was there as it was; its condition: the library's variable errors.errorType holds what the program's text lays there, which the card ties.
-/
import Derived.Test.YtilaaadhmdcecaaDoorRefK
import Derived.Test.YtilaaadhmdcecaaDoorRefS
import Derived.Test.YtilaaadhmdcecaaDoorErrA
import Derived.Test.YtilaaadhmdcecaaDoorFTurnRadians
set_option linter.unusedSimpArgs false
set_option linter.unusedVariables false
namespace Go.Proofs.YtilaaadhmdcecaaDoor
open Go.RowKit Tn
attribute [local go_sem ↓] Go.wp_at_zero Go.wp_at_succ

set_option maxHeartbeats 2000000 in
theorem rad_in (t : Int) (b : Nat) (w : World) (t0 : 0 ≤ t) (t1 : t ≤ 4294967295) (hb : b ≤ 60) :
    Calls Tryd.prog 3 #[.int .u32 t, .int .i64 b] w fun e w' => e = .returned (.bool true) ∧ Below w.heap.size w w' := by
  obtain ⟨T, rfl⟩ := Int.eq_ofNat_of_zero_le t0
  have b0 : (0 : Int) ≤ (b : Int) := by omega
  have b1 : (b : Int) ≤ 60 := by omega
  have hbd := rad_bd (T : Int) b t0 t1
  have hrr := rrad_any T b
  have hra := radians_any (T : Int) b
  obtain ⟨z, hz⟩ : ∃ z, z = rad (T : Int) b := ⟨_, rfl⟩
  rw [← hz] at hbd hrr hra
  clear hz
  have hsg : 0 ≤ z.sign := by
    rcases Int.lt_trichotomy z 0 with h | h | h
    · omega
    · subst h; decide
    · rw [Int.sign_eq_one_of_pos h]; omega
  have hlz : (Dec.digs z.natAbs).length ≤ 4000000 := by
    have := Dec.length_digs_le (show z.natAbs < 10 ^ 19 by omega)
    omega
  go_enter Tryd.func3, Tryd.ntmps3
  go_wp2_with fail
  refine (hra _ t0 t1 hb).mono ?_
  rintro e w1 ⟨rfl, k1⟩
  go_wp2_with fail
  refine (hrr _ (by omega) hb).mono ?_
  rintro e w2 ⟨v2, rfl, h2, k2⟩
  go_wp2_with fail
  refine (small_any _ z _ (by omega) (by omega) h2).mono ?_
  rintro e w3 ⟨rfl, k3⟩
  go_wp2_with fail
  refine (of_any z _ (by omega) (by omega)).mono ?_
  rintro e w4 ⟨v4, rfl, h4, k4⟩
  go_wp2_with fail
  refine (sign_any _ z _ hlz h4).mono ?_
  rintro e w5 ⟨rfl, k5⟩
  go_wp2_with fail
  refine (tsure_any _).mono ?_
  rintro e w6 ⟨rfl, k6⟩
  go_wp2
  go_ret
  exact ⟨rfl, below_tr (below_tr (below_tr (below_tr (below_tr k1 k2) k3) k4) k5) k6⟩

set_option maxHeartbeats 1000000 in
theorem rad_out (t b : Int) (w : World) (hg : ErrTab w) (hb : b < 0 ∨ 60 < b) :
    Calls Tryd.prog 3 #[.int .u32 t, .int .i64 b] w fun e w' => e = .returned (.bool true) ∧ Below w.heap.size w w' := by
  have hr := radians_err t b
  rcases hb with hb | hb
  · go_enter Tryd.func3, Tryd.ntmps3
    go_wp2_with fail
    refine (hr _ (Or.inl hb)).mono ?_
    rintro e w1 ⟨rfl, k1⟩
    go_wp2_with fail
    refine (num_err 1 _ (hg.below k1)).mono ?_
    rintro e w2 ⟨rfl, k2⟩
    go_wp2_with fail
    refine (tsure_any _).mono ?_
    rintro e w3 ⟨rfl, k3⟩
    go_wp2
    go_ret
    exact ⟨rfl, below_tr (below_tr k1 k2) k3⟩
  · go_enter Tryd.func3, Tryd.ntmps3
    go_wp2_with fail
    refine (hr _ (Or.inr hb)).mono ?_
    rintro e w1 ⟨rfl, k1⟩
    go_wp2_with fail
    refine (num_err 1 _ (hg.below k1)).mono ?_
    rintro e w2 ⟨rfl, k2⟩
    go_wp2_with fail
    refine (tsure_any _).mono ?_
    rintro e w3 ⟨rfl, k3⟩
    go_wp2
    go_ret
    exact ⟨rfl, below_tr (below_tr k1 k2) k3⟩

theorem rad_walk : FTurnRadians.Walk := by
  intro t b w wt wb hg
  obtain ⟨t0, t1⟩ := bounds_u32 wt
  by_cases hb : b < 0 ∨ 60 < b
  · exact rad_out t b w hg hb
  · obtain ⟨B, rfl⟩ := Int.eq_ofNat_of_zero_le (show 0 ≤ b by omega)
    exact rad_in t B w t0 t1 (by omega)

/-- The law TurnRadians, of any input. -/
theorem turnradians_holds : Rows.TurnRadiansCardSaid := FTurnRadians.card rad_walk

end Go.Proofs.YtilaaadhmdcecaaDoor
