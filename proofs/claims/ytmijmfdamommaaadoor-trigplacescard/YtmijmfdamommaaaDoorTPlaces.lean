/-
  The law TrigPlaces: the direction of any place, and how far it is, or the errors.
-/
import Derived.Test.YtmijmfdamommaaaDoorTgS
import Derived.Test.YtmijmfdamommaaaDoorTgQ
import Derived.Test.YtmijmfdamommaaaDoorTgW
import Derived.Test.YtmijmfdamommaaaDoorErrA
import Derived.Test.YtmijmfdamommaaaDoorFTrigPlaces
set_option linter.unusedSimpArgs false
set_option linter.unusedVariables false
namespace Go.Proofs.YtmijmfdamommaaaDoor
open Go.RowKit Tg
attribute [local go_sem ↓] Go.wp_at_zero Go.wp_at_succ

set_option maxHeartbeats 400000 in
theorem angle_err (x y : Int) (w : World) (h : Qn.great x = true ∨ Qn.great y = true) :
    Calls Tryd.prog 14 #[.int .i64 x, .int .i64 y] w fun e w' => e = .returned (.tuple #[.int .u32 0, .iface 57 (.int .i64 1)]) ∧ Below w.heap.size w w' := by
  cases hx : Qn.great x with
  | true =>
    go_enter Tryd.func14, Tryd.ntmps14
    go_wp2_with fail
    refine (great_any x _).mono ?_
    rintro e w1 ⟨rfl, rfl⟩
    rw [hx]
    go_wp2
    go_ret2
    exact ⟨rfl, Below.refl _ _⟩
  | false =>
    have hy : Qn.great y = true := by rcases h with h | h
                                      · rw [hx] at h; cases h
                                      · exact h
    go_enter Tryd.func14, Tryd.ntmps14
    go_wp2_with fail
    refine (great_any x _).mono ?_
    rintro e w1 ⟨rfl, rfl⟩
    rw [hx]
    go_wp2_with fail
    refine (great_any y _).mono ?_
    rintro e w1 ⟨rfl, rfl⟩
    rw [hy]
    go_wp2
    go_ret2
    exact ⟨rfl, Below.refl _ _⟩

set_option maxHeartbeats 400000 in
theorem far_err (x y : Int) (w : World) (h : Qn.great x = true ∨ Qn.great y = true) :
    Calls Tryd.prog 15 #[.int .i64 x, .int .i64 y] w fun e w' => e = .returned (.tuple #[.int .i64 0, .iface 57 (.int .i64 1)]) ∧ Below w.heap.size w w' := by
  cases hx : Qn.great x with
  | true =>
    go_enter Tryd.func15, Tryd.ntmps15
    go_wp2_with fail
    refine (great_any x _).mono ?_
    rintro e w1 ⟨rfl, rfl⟩
    rw [hx]
    go_wp2
    go_ret2
    exact ⟨rfl, Below.refl _ _⟩
  | false =>
    have hy : Qn.great y = true := by rcases h with h | h
                                      · rw [hx] at h; cases h
                                      · exact h
    go_enter Tryd.func15, Tryd.ntmps15
    go_wp2_with fail
    refine (great_any x _).mono ?_
    rintro e w1 ⟨rfl, rfl⟩
    rw [hx]
    go_wp2_with fail
    refine (great_any y _).mono ?_
    rintro e w1 ⟨rfl, rfl⟩
    rw [hy]
    go_wp2
    go_ret2
    exact ⟨rfl, Below.refl _ _⟩

set_option maxHeartbeats 400000 in
theorem angle_nought (w : World) :
    Calls Tryd.prog 14 #[.int .i64 0, .int .i64 0] w fun e w' => e = .returned (.tuple #[.int .u32 0, .iface 57 (.int .i64 11)]) ∧ Below w.heap.size w w' := by
  have hx : Qn.great 0 = false := by decide
  go_enter Tryd.func14, Tryd.ntmps14
  go_wp2_with fail
  refine (great_any 0 _).mono ?_
  rintro e w1 ⟨rfl, rfl⟩
  rw [hx]
  go_wp2_with fail
  refine (great_any 0 _).mono ?_
  rintro e w1 ⟨rfl, rfl⟩
  rw [hx]
  go_wp2
  go_ret2
  exact ⟨rfl, Below.refl _ _⟩

namespace Tg
theorem great_may (x : Int) : (decide (-4611686018427387903 ≤ x) && decide (x ≤ 4611686018427387903)) = !Qn.great x := by
  unfold Qn.great
  rw [← Bool.decide_and, ← Bool.decide_or, ← decide_not, decide_eq_decide]
  omega
theorem root_nought {r : Int} (h : Qn.IsRoot (0 * 0 + 0 * 0) r) : r = 0 := by
  obtain ⟨h1, h2, h3, h4⟩ := h
  rcases Int.lt_or_le 0 r with k | k
  · have : 1 * 1 ≤ r * r := Int.mul_le_mul (by omega) (by omega) (by omega) (by omega)
    omega
  · omega
end Tg

set_option maxRecDepth 10000 in
set_option maxHeartbeats 1000000 in
theorem places_bad (x y : Int) (w : World) (hE : ErrTab w) (hT : AngTab w) (h : Qn.great x = true ∨ Qn.great y = true) :
    Calls Tryd.prog 4 #[.int .i64 x, .int .i64 y] w fun e w' => e = .returned (.bool true) ∧ Below w.heap.size w w' := by
  have HA := hide (fun W => angle_err x y W h)
  have HF := hide (fun W => far_err x y W h)
  have HX := hide (fun W => may_any x W)
  have HY := hide (fun W => may_any y W)
  rw [great_may] at HX HY
  cases hx : Qn.great x with
  | true =>
    rw [hx] at HX
    clear h
    go_enter Tryd.func4, Tryd.ntmps4
    go_wp2_with fail
    refine (HA.out _).mono ?_
    rintro e w1 ⟨rfl, k1⟩
    have t1 := hT.below k1
    go_wp2_with fail
    refine (HF.out _).mono ?_
    rintro e w2 ⟨rfl, k2⟩
    have t2 := t1.below k2
    have e2 := (hE.below k1).below k2
    go_wp2_with fail
    refine (HX.out _).mono ?_
    rintro e w3 ⟨rfl, rfl⟩
    go_wp2_with fail
    refine (num_err 1 _ e2).mono ?_
    rintro e w4 ⟨rfl, k4⟩
    go_wp2_with fail
    refine (num_err 1 _ (e2.below k4)).mono ?_
    rintro e w5 ⟨rfl, k5⟩
    go_wp2_with fail
    refine (gsure_any _ ((t2.below k4).below k5)).mono ?_
    rintro e w6 ⟨rfl, k6⟩
    go_wp2
    go_ret
    exact ⟨rfl, below_tr (below_tr (below_tr (below_tr k1 k2) k4) k5) k6⟩
  | false =>
    have hy : Qn.great y = true := by rcases h with h | h
                                      · rw [hx] at h; cases h
                                      · exact h
    rw [hx] at HX
    rw [hy] at HY
    clear h
    go_enter Tryd.func4, Tryd.ntmps4
    go_wp2_with fail
    refine (HA.out _).mono ?_
    rintro e w1 ⟨rfl, k1⟩
    have t1 := hT.below k1
    go_wp2_with fail
    refine (HF.out _).mono ?_
    rintro e w2 ⟨rfl, k2⟩
    have t2 := t1.below k2
    have e2 := (hE.below k1).below k2
    go_wp2_with fail
    refine (HX.out _).mono ?_
    rintro e w3 ⟨rfl, rfl⟩
    go_wp2_with fail
    refine (HY.out _).mono ?_
    rintro e w3 ⟨rfl, rfl⟩
    go_wp2_with fail
    refine (num_err 1 _ e2).mono ?_
    rintro e w4 ⟨rfl, k4⟩
    go_wp2_with fail
    refine (num_err 1 _ (e2.below k4)).mono ?_
    rintro e w5 ⟨rfl, k5⟩
    go_wp2_with fail
    refine (gsure_any _ ((t2.below k4).below k5)).mono ?_
    rintro e w6 ⟨rfl, k6⟩
    go_wp2
    go_ret
    exact ⟨rfl, below_tr (below_tr (below_tr (below_tr k1 k2) k4) k5) k6⟩

set_option maxRecDepth 10000 in
set_option maxHeartbeats 1000000 in
theorem places_nought (w : World) (hE : ErrTab w) (hT : AngTab w) :
    Calls Tryd.prog 4 #[.int .i64 0, .int .i64 0] w fun e w' => e = .returned (.bool true) ∧ Below w.heap.size w w' := by
  have HF := hide (fun W => far_any 0 0 W (by omega) (by omega) (by omega) (by omega))
  have HX := hide (fun W => may_any 0 W)
  rw [great_may, show Qn.great 0 = false by decide] at HX
  go_enter Tryd.func4, Tryd.ntmps4
  go_wp2_with fail
  refine (angle_nought _).mono ?_
  rintro e w1 ⟨rfl, k1⟩
  have t1 := hT.below k1
  go_wp2_with fail
  refine (HF.out _).mono ?_
  rintro e w2 ⟨r, rfl, hr, k2⟩
  have r0 := root_nought hr
  subst r0
  have HW := hide (fun W => rfar_any 0 0 0 W (by omega) (by omega) (by omega) (by omega) hr)
  clear hr
  have t2 := t1.below k2
  have e2 := (hE.below k1).below k2
  go_wp2_with fail
  refine (HX.out _).mono ?_
  rintro e w3 ⟨rfl, rfl⟩
  go_wp2_with fail
  refine (HX.out _).mono ?_
  rintro e w3 ⟨rfl, rfl⟩
  go_wp2_with fail
  refine (HW.out _).mono ?_
  rintro e w4 ⟨rfl, k4⟩
  go_wp2_with fail
  refine (num_err 11 _ (e2.below k4)).mono ?_
  rintro e w5 ⟨rfl, k5⟩
  go_wp2_with fail
  refine (gsure_any _ ((t2.below k4).below k5)).mono ?_
  rintro e w6 ⟨rfl, k6⟩
  go_wp2
  go_ret
  exact ⟨rfl, below_tr (below_tr (below_tr (below_tr k1 k2) k4) k5) k6⟩

namespace Tg
theorem dir_bd {x y n : Int} (h0 : 0 ≤ n) (h1 : n ≤ 1073741824) : 0 ≤ dir x y n ∧ dir x y n ≤ 4294967295 := by
  unfold dir
  split
  · split <;> omega
  · split <;> omega
end Tg

set_option maxRecDepth 10000 in
set_option maxHeartbeats 1000000 in
theorem places_in (x y : Int) (w : World) (hE : ErrTab w) (hT : AngTab w) (h0 : -4611686018427387903 ≤ x) (h1 : x ≤ 4611686018427387903) (g0 : -4611686018427387903 ≤ y) (g1 : y ≤ 4611686018427387903) (hne : ¬ (x = 0 ∧ y = 0)) :
    Calls Tryd.prog 4 #[.int .i64 x, .int .i64 y] w fun e w' => e = .returned (.bool true) ∧ Below w.heap.size w w' := by
  have hN := axis_in (x := (x.natAbs : Int)) (y := (y.natAbs : Int)) (by omega) (by omega) (by omega) (by omega) (by omega)
  have HA := hide (fun W (hW : AngTab W) => angle_any x y W hW h0 h1 g0 g1 hne hN.1 hN.2)
  have HB := hide (fun W => rangle_any x y W h0 h1 g0 g1 hne)
  have HF := hide (fun W => far_any x y W h0 h1 g0 g1)
  have HX := hide (fun W => may_any x W)
  have HY := hide (fun W => may_any y W)
  have gx : Qn.great x = false := by unfold Qn.great; rw [decide_eq_false (by omega), decide_eq_false (by omega)]; rfl
  have gy : Qn.great y = false := by unfold Qn.great; rw [decide_eq_false (by omega), decide_eq_false (by omega)]; rfl
  rw [great_may, gx] at HX
  rw [great_may, gy] at HY
  have hd := dir_bd (x := x) (y := y) hN.1 hN.2
  obtain ⟨D, hD⟩ : ∃ D, D = dir x y (axis (x.natAbs : Int) (y.natAbs : Int)) := ⟨_, rfl⟩
  rw [← hD] at HA HB hd
  clear hD hN gx gy
  by_cases hx0 : x = 0
  · have hy0 : ¬ y = 0 := fun h => hne ⟨hx0, h⟩
    have hy1 : (y == 0) = false := by simpa using hy0
    subst hx0
    clear hne
    go_enter Tryd.func4, Tryd.ntmps4
    go_wp2_with fail
    refine (HA.out _ hT).mono ?_
    rintro e w1 ⟨rfl, k1⟩
    have t1 := hT.below k1
    go_wp2_with fail
    refine (HF.out _).mono ?_
    rintro e w2 ⟨r, rfl, hr, k2⟩
    have HW := hide (fun W => rfar_any r 0 y W h0 h1 g0 g1 hr)
    clear hr
    have t2 := t1.below k2
    go_wp2_with fail
    refine (HX.out _).mono ?_
    rintro e w3 ⟨rfl, rfl⟩
    go_wp2_with fail
    refine (HY.out _).mono ?_
    rintro e w3 ⟨rfl, rfl⟩
    go_wp2_with fail
    refine (HW.out _).mono ?_
    rintro e w4 ⟨rfl, k4⟩
    go_wp2_with fail
    refine (HB.out _).mono ?_
    rintro e w5 ⟨rfl, k5⟩
    go_wp2_with fail
    refine (gsure_any _ ((t2.below k4).below k5)).mono ?_
    rintro e w6 ⟨rfl, k6⟩
    go_wp2
    go_ret
    exact ⟨rfl, below_tr (below_tr (below_tr (below_tr k1 k2) k4) k5) k6⟩
  · have hx1 : (x == 0) = false := by simpa using hx0
    clear hne
    go_enter Tryd.func4, Tryd.ntmps4
    go_wp2_with fail
    refine (HA.out _ hT).mono ?_
    rintro e w1 ⟨rfl, k1⟩
    have t1 := hT.below k1
    go_wp2_with fail
    refine (HF.out _).mono ?_
    rintro e w2 ⟨r, rfl, hr, k2⟩
    have HW := hide (fun W => rfar_any r x y W h0 h1 g0 g1 hr)
    clear hr
    have t2 := t1.below k2
    go_wp2_with fail
    refine (HX.out _).mono ?_
    rintro e w3 ⟨rfl, rfl⟩
    go_wp2_with fail
    refine (HY.out _).mono ?_
    rintro e w3 ⟨rfl, rfl⟩
    go_wp2_with fail
    refine (HW.out _).mono ?_
    rintro e w4 ⟨rfl, k4⟩
    go_wp2_with fail
    refine (HB.out _).mono ?_
    rintro e w5 ⟨rfl, k5⟩
    go_wp2_with fail
    refine (gsure_any _ ((t2.below k4).below k5)).mono ?_
    rintro e w6 ⟨rfl, k6⟩
    go_wp2
    go_ret
    exact ⟨rfl, below_tr (below_tr (below_tr (below_tr k1 k2) k4) k5) k6⟩

theorem places_walk : FTrigPlaces.Walk := by
  intro x y w w0 w1 hE hT
  by_cases h : (-4611686018427387903 ≤ x ∧ x ≤ 4611686018427387903) ∧ -4611686018427387903 ≤ y ∧ y ≤ 4611686018427387903
  · by_cases hn : x = 0 ∧ y = 0
    · obtain ⟨rfl, rfl⟩ := hn
      exact places_nought w hE hT
    · exact places_in x y w hE hT h.1.1 h.1.2 h.2.1 h.2.2 hn
  · refine places_bad x y w hE hT ?_
    unfold Qn.great
    simp only [Bool.or_eq_true, decide_eq_true_eq]
    omega

theorem trigplaces_holds : Rows.TrigPlacesCardSaid := FTrigPlaces.card places_walk
end Go.Proofs.YtmijmfdamommaaaDoor
