/-
  The law TrigTurns: the sine and the cosine of any direction, and the place there, so far away, or the error.
-/
import Derived.Test.YtmijmfdamommaaaDoorTgP
import Derived.Test.YtmijmfdamommaaaDoorErrA
import Derived.Test.YtmijmfdamommaaaDoorFTrigTurns
set_option linter.unusedSimpArgs false
set_option linter.unusedVariables false
namespace Go.Proofs.YtmijmfdamommaaaDoor
open Go.RowKit Tg
attribute [local go_sem ↓] Go.wp_at_zero Go.wp_at_succ

set_option maxRecDepth 10000 in
set_option maxHeartbeats 1000000 in
theorem turns_in (t far : Int) (w : World) (hE : ErrTab w) (hT : AngTab w) (h0 : 0 ≤ t) (h1 : t ≤ 4294967295) (f0 : 0 ≤ far) (f1 : far ≤ 4611686018427387903) :
    Calls Tryd.prog 3 #[.int .u32 t, .int .i64 far] w fun e w' => e = .returned (.bool true) ∧ Below w.heap.size w w' := by
  have HB := hide (fun W (hW : AngTab W) => both_any t W hW h0 h1)
  have HR := hide (fun W => rboth_any t W h0 h1)
  have HP := hide (fun W (hW : AngTab W) => place_any t far W hW h0 h1 f0 f1)
  have HQ := hide (fun W => rplace_any t far W h0 h1 f0 f1)
  rw [rsine_eq, rcosine_eq] at HR
  obtain ⟨X, hX⟩ : ∃ X, X = Qn.clamp (Qn.rne (far * sine t) (2 ^ 30)) := ⟨_, rfl⟩
  obtain ⟨Y, hY⟩ : ∃ Y, Y = Qn.clamp (Qn.rne (far * cosine t) (2 ^ 30)) := ⟨_, rfl⟩
  rw [← hX, ← hY] at HP HQ
  clear hX hY
  obtain ⟨s, es⟩ : ∃ s, s = sine t := ⟨_, rfl⟩
  obtain ⟨c, ec⟩ : ∃ c, c = cosine t := ⟨_, rfl⟩
  rw [← es, ← ec] at HB HR
  clear es ec
  have hm : (decide (-4611686018427387903 ≤ far) && decide (far ≤ 4611686018427387903)) = true := by rw [decide_eq_true (by omega : -4611686018427387903 ≤ far), decide_eq_true f1]; rfl
  go_enter Tryd.func3, Tryd.ntmps3
  go_wp2_with fail
  refine (HB.out _ hT).mono ?_
  rintro e w1 ⟨rfl, k1⟩
  have t1 := hT.below k1
  go_wp2_with fail
  refine (HR.out _).mono ?_
  rintro e w2 ⟨rfl, k2⟩
  have t2 := t1.below k2
  go_wp2_with fail
  refine (HP.out _ t2).mono ?_
  rintro e w3 ⟨rfl, k3⟩
  have t3 := t2.below k3
  go_wp2_with fail
  refine (may_any far _).mono ?_
  rintro e w4 ⟨rfl, rfl⟩
  rw [hm]
  go_wp2_with fail
  refine (HQ.out _).mono ?_
  rintro e w5 ⟨rfl, k5⟩
  have t5 := t3.below k5
  go_wp2_with fail
  refine (gsure_any _ t5).mono ?_
  rintro e w6 ⟨rfl, k6⟩
  go_wp2
  go_ret
  exact ⟨rfl, below_tr (below_tr (below_tr (below_tr k1 k2) k3) k5) k6⟩

set_option maxRecDepth 10000 in
set_option maxHeartbeats 1000000 in
theorem turns_out (t far : Int) (w : World) (hE : ErrTab w) (hT : AngTab w) (h0 : 0 ≤ t) (h1 : t ≤ 4294967295) (hf : far < 0 ∨ 4611686018427387903 < far) :
    Calls Tryd.prog 3 #[.int .u32 t, .int .i64 far] w fun e w' => e = .returned (.bool true) ∧ Below w.heap.size w w' := by
  have HB := hide (fun W (hW : AngTab W) => both_any t W hW h0 h1)
  have HR := hide (fun W => rboth_any t W h0 h1)
  have HP := hide (fun W => place_err t far W hf)
  rw [rsine_eq, rcosine_eq] at HR
  obtain ⟨s, es⟩ : ∃ s, s = sine t := ⟨_, rfl⟩
  obtain ⟨c, ec⟩ : ∃ c, c = cosine t := ⟨_, rfl⟩
  rw [← es, ← ec] at HB HR
  clear es ec
  have hk := hf
  go_enter Tryd.func3, Tryd.ntmps3
  go_wp2_with fail
  refine (HB.out _ hT).mono ?_
  rintro e w1 ⟨rfl, k1⟩
  have t1 := hT.below k1
  go_wp2_with fail
  refine (HR.out _).mono ?_
  rintro e w2 ⟨rfl, k2⟩
  have t2 := t1.below k2
  go_wp2_with fail
  refine (HP.out _).mono ?_
  rintro e w3 ⟨rfl, k3⟩
  have t3 := t2.below k3
  have e3 := ((hE.below k1).below k2).below k3
  rcases hk with hn | hn
  · go_wp2_with fail
    refine (num_err 1 _ e3).mono ?_
    rintro e w5 ⟨rfl, k5⟩
    have t5 := t3.below k5
    go_wp2_with fail
    refine (gsure_any _ t5).mono ?_
    rintro e w6 ⟨rfl, k6⟩
    go_wp2
    go_ret
    exact ⟨rfl, below_tr (below_tr (below_tr (below_tr k1 k2) k3) k5) k6⟩
  · have hm : (decide (-4611686018427387903 ≤ far) && decide (far ≤ 4611686018427387903)) = false := by rw [decide_eq_false (by omega : ¬ far ≤ 4611686018427387903), Bool.and_false]
    have hp : ¬ far < 0 := by omega
    go_wp2_with fail
    refine (may_any far _).mono ?_
    rintro e w4 ⟨rfl, rfl⟩
    rw [hm]
    go_wp2_with fail
    refine (num_err 1 _ e3).mono ?_
    rintro e w5 ⟨rfl, k5⟩
    have t5 := t3.below k5
    go_wp2_with fail
    refine (gsure_any _ t5).mono ?_
    rintro e w6 ⟨rfl, k6⟩
    go_wp2
    go_ret
    exact ⟨rfl, below_tr (below_tr (below_tr (below_tr k1 k2) k3) k5) k6⟩

theorem turns_walk : FTrigTurns.Walk := by
  intro t far w w0 w1 hE hT
  have b0 := bounds_u32 w0
  by_cases h : 0 ≤ far ∧ far ≤ 4611686018427387903
  · exact turns_in t far w hE hT b0.1 b0.2 h.1 h.2
  · exact turns_out t far w hE hT b0.1 b0.2 (by omega)

theorem trigturns_holds : Rows.TrigTurnsCardSaid := FTrigTurns.card turns_walk
end Go.Proofs.YtmijmfdamommaaaDoor
