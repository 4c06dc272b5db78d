/-
  What the document's answer of layer 4 (radomeref04) does to plain numbers: mod, Short, From, Between, Middle.
-/
import Derived.Test.YtilaaadhmdcecaaTurnB
set_option linter.unusedSimpArgs false
set_option linter.unusedVariables false
namespace Go.Proofs.Ytilaaadhmdcecaa
open Go.RowKit Tn
attribute [local go_sem ↓] Go.wp_at_zero Go.wp_at_succ

set_option maxHeartbeats 400000 in
theorem rmod_any (n : Int) (w : World) (h0 : -9223372036854775808 ≤ n) (h1 : n ≤ 9223372036854775807) :
    Calls Try.prog 15 #[.int .i64 n] w fun e w' => e = .returned (.int .i64 (md n)) ∧ w' = w := by
  have ht : n.tmod 4294967296 = if 0 ≤ n then n % 4294967296 else -((-n) % 4294967296) := by
    split
    · exact Int.tmod_eq_emod_of_nonneg (by assumption)
    · have : n = -(-n) := by omega
      rw [this, Int.neg_tmod, Int.tmod_eq_emod_of_nonneg (by omega)]; simp
  by_cases h : 0 ≤ n
  · rw [if_pos h] at ht
    go_enter Try.func15, Try.ntmps15
    go_wp2
    go_ret
    refine ⟨ret_int ?_, rfl⟩
    unfold md
    omega
  · rw [if_neg h] at ht
    go_enter Try.func15, Try.ntmps15
    go_wp2
    all_goals go_ret
    all_goals refine ⟨ret_int ?_, rfl⟩
    all_goals unfold md
    all_goals omega

set_option maxHeartbeats 400000 in
theorem rshort_any (t : Int) (w : World) (h0 : 0 ≤ t) (h1 : t ≤ 4294967295) :
    Calls Try.prog 6 #[.int .i64 t] w fun e w' => e = .returned (.int .i64 ((t + 32768) / 65536 % 65536)) ∧ w' = w := by
  go_enter Try.func6, Try.ntmps6
  go_wp2
  go_ret
  refine ⟨ret_int ?_, rfl⟩
  first | rfl | omega

set_option maxHeartbeats 400000 in
theorem rfrom_any (a b : Int) (w : World) (ha0 : 0 ≤ a) (ha1 : a ≤ 4294967295) (hb0 : 0 ≤ b) (hb1 : b ≤ 4294967295) :
    Calls Try.prog 9 #[.int .i64 a, .int .i64 b] w fun e w' => e = .returned (.int .i64 (sh (a - b))) ∧ w' = w := by
  have hd : 0 ≤ md (a - b) ∧ md (a - b) ≤ 4294967295 := by unfold md; omega
  obtain ⟨d, hdd⟩ : ∃ d, d = md (a - b) := ⟨_, rfl⟩
  have hs : sh (a - b) = if d < 2147483648 then d else d - 4294967296 := by rw [hdd]; rfl
  rw [← hdd] at hd
  rw [hs]
  have D : Hid (d = md (a - b)) := hdd
  clear hdd hs
  by_cases h : d < 2147483648
  · rw [if_pos h]
    go_enter Try.func9, Try.ntmps9
    go_wp2_with fail
    refine (rmod_any (a - b) _ (by omega) (by omega)).mono ?_
    rintro e w1 ⟨rfl, rfl⟩
    rw [← D.out]
    go_wp2
    go_ret
    exact ⟨rfl, rfl⟩
  · rw [if_neg h]
    go_enter Try.func9, Try.ntmps9
    go_wp2_with fail
    refine (rmod_any (a - b) _ (by omega) (by omega)).mono ?_
    rintro e w1 ⟨rfl, rfl⟩
    rw [← D.out]
    go_wp2
    go_ret
    exact ⟨rfl, rfl⟩

set_option maxHeartbeats 400000 in
theorem rbetween_any (t a b : Int) (w : World) (ht0 : 0 ≤ t) (ht1 : t ≤ 4294967295) (ha0 : 0 ≤ a) (ha1 : a ≤ 4294967295) (hb0 : 0 ≤ b) (hb1 : b ≤ 4294967295) :
    Calls Try.prog 11 #[.int .i64 t, .int .i64 a, .int .i64 b] w fun e w' => e = .returned (.bool (decide (md (t - a) ≤ md (b - a)))) ∧ w' = w := by
  go_enter Try.func11, Try.ntmps11
  go_wp2_with fail
  refine (rmod_any (t - a) _ (by omega) (by omega)).mono ?_
  rintro e w1 ⟨rfl, rfl⟩
  go_wp2_with fail
  refine (rmod_any (b - a) _ (by omega) (by omega)).mono ?_
  rintro e w1 ⟨rfl, rfl⟩
  go_wp2
  go_ret
  exact ⟨rfl, rfl⟩

set_option maxHeartbeats 400000 in
theorem rmiddle_any (a b : Int) (w : World) (ha0 : 0 ≤ a) (ha1 : a ≤ 4294967295) (hb0 : 0 ≤ b) (hb1 : b ≤ 4294967295) :
    Calls Try.prog 13 #[.int .i64 a, .int .i64 b] w fun e w' => e = .returned (.int .i64 (md (a + md (b - a) / 2))) ∧ w' = w := by
  have hd : 0 ≤ md (b - a) ∧ md (b - a) ≤ 4294967295 := by unfold md; omega
  obtain ⟨d, hdd⟩ : ∃ d, d = md (b - a) := ⟨_, rfl⟩
  rw [← hdd] at hd ⊢
  have D : Hid (d = md (b - a)) := hdd
  clear hdd
  go_enter Try.func13, Try.ntmps13
  go_wp2_with fail
  refine (rmod_any (b - a) _ (by omega) (by omega)).mono ?_
  rintro e w1 ⟨rfl, rfl⟩
  rw [← D.out]
  go_wp2_with fail
  refine (rmod_any (a + d / 2) _ (by omega) (by omega)).mono ?_
  rintro e w1 ⟨rfl, rfl⟩
  go_wp2
  go_ret
  exact ⟨rfl, rfl⟩

end Go.Proofs.Ytilaaadhmdcecaa
