/-
  The walk of the law QnumNear: it returns true at every input, and writes nothing that was there.
-/
import Derived.Test.YtddcipiojimgiaaQJ
import Derived.Test.YtddcipiojimgiaaQMath3
set_option linter.unusedSimpArgs false
set_option linter.unusedVariables false
namespace Go.Proofs.Ytddcipiojimgiaa
open Go.RowKit Qn

theorem clamp_is {a c : Int} {g : Bool} (h1 : clamp a = c) (h2 : great a = g) (w : World) : Calls Try.prog 7 #[.int .i64 a] w fun e w' => e = .returned (.tuple #[.int .i64 c, .bool g]) ∧ w' = w := by
  subst h1 h2
  exact clamp_any a w

set_option maxRecDepth 10000 in
set_option maxHeartbeats 1000000 in
/-- Where one of both numbers is too great. -/
theorem near_great (a b c : Int) (p : Nat) (w : World) (ha0 : -9223372036854775808 ≤ a) (ha1 : a ≤ 9223372036854775807) (hp : p ≤ 60) (hn : (IntKind.u64.wrap c).tmod 61 = (p : Int)) (hg : great a = true ∨ great b = true) :
    Calls Try.prog 4 #[.int .i64 a, .int .i64 b, .int .i64 c] w fun e w' => e = .returned (.bool true) ∧ Below w.heap.size w w' := by
  have hp0 : (0 : Int) ≤ (p : Int) := by omega
  have hp1 : (p : Int) ≤ 60 := by omega
  obtain ⟨D, hD⟩ : ∃ D, (2 : Int) ^ p = D := ⟨_, rfl⟩
  have hD0 : 0 < D := by rw [← hD]; exact pow_pos2 p
  have hD1 : D ≤ 4611686018427387904 := by rw [← hD]; exact pow_le62 (by omega)
  by_cases h1 : 4611686018427387903 < a
  · have e1 : Hid (clamp a = 4611686018427387903) := by unfold Hid clamp; rw [if_pos h1]
    have e2 : Hid (great a = true) := by unfold Hid great; rw [decide_eq_true h1]; rfl
    clear hg
    go_enter Try.func4, Try.ntmps4
    go_wp2_with fail
    refine (clamp_is e1.out e2.out _).mono ?_
    rintro e w' ⟨rfl, rfl⟩
    go_wp2_with fail
    refine (clamp_any b _).mono ?_
    rintro e w' ⟨rfl, rfl⟩
    go_wp2_with fail
    refine (sure_any _).mono ?_
    rintro e w1 ⟨rfl, k1⟩
    go_wp2
    go_ret
    exact ⟨rfl, k1⟩
  · by_cases h2 : a < -4611686018427387903
    · have e1 : Hid (clamp a = -4611686018427387903) := by unfold Hid clamp; rw [if_neg h1, if_pos h2]
      have e2 : Hid (great a = true) := by unfold Hid great; rw [decide_eq_true h2]; simp
      have e3 : ((-4611686018427387903 : Int) == a) = false := by simp; omega
      clear hg
      go_enter Try.func4, Try.ntmps4
      go_wp2_with fail
      refine (clamp_is e1.out e2.out _).mono ?_
      rintro e w' ⟨rfl, rfl⟩
      go_wp2_with fail
      refine (clamp_any b _).mono ?_
      rintro e w' ⟨rfl, rfl⟩
      go_wp2_with fail
      refine (sure_any _).mono ?_
      rintro e w1 ⟨rfl, k1⟩
      go_wp2
      go_ret
      exact ⟨rfl, k1⟩
    · have e2 : Hid (great a = false) := by unfold Hid great; rw [decide_eq_false h1, decide_eq_false h2]; rfl
      have e1 : Hid (clamp a = a) := clamp_in e2.out
      have g2 : Hid (great b = true) := by
        rcases hg with h | h
        · rw [e2.out] at h; cases h
        · exact h
      clear hg
      by_cases h3 : a = 4611686018427387903
      · have h3b : (a == 4611686018427387903) = true := by simpa using h3
        clear h3
        go_enter Try.func4, Try.ntmps4
        go_wp2_with fail
        refine (clamp_is e1.out e2.out _).mono ?_
        rintro e w' ⟨rfl, rfl⟩
        go_wp2_with fail
        refine (clamp_is rfl g2.out _).mono ?_
        rintro e w' ⟨rfl, rfl⟩
        go_wp2_with fail
        refine (sure_any _).mono ?_
        rintro e w1 ⟨rfl, k1⟩
        go_wp2
        go_ret
        exact ⟨rfl, k1⟩
      · have h3b : (a == 4611686018427387903) = false := by simpa using h3
        clear h3
        go_enter Try.func4, Try.ntmps4
        go_wp2_with fail
        refine (clamp_is e1.out e2.out _).mono ?_
        rintro e w' ⟨rfl, rfl⟩
        go_wp2_with fail
        refine (clamp_is rfl g2.out _).mono ?_
        rintro e w' ⟨rfl, rfl⟩
        go_wp2_with fail
        refine (sure_any _).mono ?_
        rintro e w1 ⟨rfl, k1⟩
        go_wp2
        go_ret
        exact ⟨rfl, k1⟩

end Go.Proofs.Ytddcipiojimgiaa
