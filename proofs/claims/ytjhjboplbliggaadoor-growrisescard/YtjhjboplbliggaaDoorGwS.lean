/-
  What must come whatever the input is (sure of the laws of layer 6); which bits may be behind a point.
-/
import Derived.Test.YtjhjboplbliggaaDoorGwC
import Derived.Test.YtjhjboplbliggaaDoorErrA
set_option linter.unusedSimpArgs false
set_option linter.unusedVariables false
namespace Go.Proofs.YtjhjboplbliggaaDoor
open Go.RowKit
attribute [local go_sem ↓] Go.wp_at_zero Go.wp_at_succ

namespace Gw
theorem ex0 : ex 0 = 1073741824 := by decide +kernel
theorem lg0 : lgb 1073741824 (dn 1073741824) (30 : Nat) = 0 := by decide +kernel
theorem dc0 : Qn.clamp (Qn.rne (1000 * 1073741824) (2 ^ 30)) = 1000 := by decide +kernel
end Gw

set_option maxHeartbeats 1000000 in
theorem gwsure_any (w : World) (hE : ErrTab w) :
    Calls Tryd.prog 13 #[] w fun e w' => e = .returned (.bool true) ∧ Below w.heap.size w w' := by
  have H1 := Hid.mkA (fun W => gexp_any 0 W (by omega) (by omega))
  have H2 := Hid.mkA (fun W => glog_any 1073741824 30 W (by omega) (by omega) (by omega))
  have H3 := Hid.mkA (fun W => gdecay_any 1000 0 W (by decide) (by omega) (by omega))
  have H4 := Hid.mkA (fun W => glog_err 0 5 W (by omega))
  rw [Gw.ex0] at H1 H3
  rw [Gw.lg0] at H2
  rw [Gw.dc0] at H3
  go_enter Tryd.func13, Tryd.ntmps13
  go_wp2_with fail
  refine (H1.out _).mono ?_
  rintro e w1 ⟨rfl, k1⟩
  go_wp2_with fail
  refine (H2.out _).mono ?_
  rintro e w2 ⟨rfl, k2⟩
  go_wp2_with fail
  refine (H3.out _).mono ?_
  rintro e w3 ⟨rfl, k3⟩
  go_wp2_with fail
  refine (H4.out _).mono ?_
  rintro e w4 ⟨rfl, k4⟩
  have K := below_tr (below_tr (below_tr k1 k2) k3) k4
  go_wp2_with fail
  refine (num_err 1 _ (hE.below K)).mono ?_
  rintro e w5 ⟨rfl, k5⟩
  go_wp2
  go_ret
  exact ⟨rfl, below_tr K k5⟩

set_option maxHeartbeats 400000 in
theorem gpointed_in (x : Int) (w : World) (h0 : 0 ≤ x) (h1 : x ≤ 62) :
    Calls Tryd.prog 12 #[.int .i64 x] w fun e w' => e = .returned (.bool true) ∧ w' = w := by
  have h2 : decide (x ≤ 62) = true := decide_eq_true h1
  go_enter Tryd.func12, Tryd.ntmps12
  go_wp2
  go_ret
  exact ⟨by first | rfl | exact ret_bool h2 | (rw [← h2]; rfl), rfl⟩
set_option maxHeartbeats 400000 in
theorem gpointed_out (x : Int) (w : World) (h : x < 0 ∨ 62 < x) :
    Calls Tryd.prog 12 #[.int .i64 x] w fun e w' => e = .returned (.bool false) ∧ w' = w := by
  rcases h with h | h
  · go_enter Tryd.func12, Tryd.ntmps12
    go_wp2
    go_ret
    exact ⟨rfl, rfl⟩
  · have h0 : 0 ≤ x := by omega
    have h1 : decide (x ≤ 62) = false := decide_eq_false (by omega)
    go_enter Tryd.func12, Tryd.ntmps12
    go_wp2
    go_ret
    exact ⟨by first | rfl | exact ret_bool h1 | (rw [← h1]; rfl), rfl⟩
end Go.Proofs.YtjhjboplbliggaaDoor
