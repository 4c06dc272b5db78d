/-
  The law GrowSteps: e to the power of any number, the logarithm of any, and any number times a power, or the errors.
-/
import Derived.Test.YtiahijcdfeimgaaDoorGwL
import Derived.Test.YtiahijcdfeimgaaDoorGwS
import Derived.Test.YtiahijcdfeimgaaDoorFGrowSteps
set_option linter.unusedSimpArgs false
set_option linter.unusedVariables false
namespace Go.Proofs.YtiahijcdfeimgaaDoor
open Go.RowKit Gw
attribute [local go_sem ↓] Go.wp_at_zero Go.wp_at_succ

set_option maxRecDepth 10000 in
set_option maxHeartbeats 1000000 in
theorem steps_pos_low (x a b : Int) (w : World) (hE : ErrTab w) (hx : 0 < x) (hx1 : x ≤ 9223372036854775807) (ha0 : -9223372036854775808 ≤ a) (ha : a < -4611686018427387903) :
    Calls Tryd.prog 3 #[.int .i64 x, .int .i64 a, .int .i64 b] w fun e w' => e = .returned (.bool true) ∧ Below w.heap.size w w' := by
  have H1 := Hid.mkA (fun W => gexp_err x W hx)
  have H3 := Hid.mkA (fun W => gdecay_err a x W (Or.inr hx) (by omega) (by omega))
  have H2 := Hid.mkA (fun W => glog_err a b W (by omega))
  go_enter Tryd.func3, Tryd.ntmps3
  go_wp2_with fail
  refine (H1.out _).mono ?_
  rintro e w1 ⟨rfl, k1⟩
  go_wp2_with fail
  refine (H2.out _).mono ?_
  rintro e w2 ⟨rfl, k2⟩
  go_wp2_with fail
  refine (H3.out _).mono ?_
  rintro e w3 ⟨rfl, k3⟩
  go_wp2_with fail
  refine (num_err 1 _ (hE.below (below_tr (below_tr k1 k2) k3))).mono ?_
  rintro e w4 ⟨rfl, k4⟩
  go_wp2_with fail
  refine (num_err 1 _ (hE.below (below_tr (below_tr (below_tr k1 k2) k3) k4))).mono ?_
  rintro e w5 ⟨rfl, k5⟩
  go_wp2_with fail
  refine (num_err 1 _ (hE.below (below_tr (below_tr (below_tr (below_tr k1 k2) k3) k4) k5))).mono ?_
  rintro e w6 ⟨rfl, k6⟩
  go_wp2_with fail
  refine (gwsure_any _ (hE.below (below_tr (below_tr (below_tr (below_tr (below_tr k1 k2) k3) k4) k5) k6))).mono ?_
  rintro e w7 ⟨rfl, k7⟩
  go_wp2
  go_ret
  exact ⟨rfl, (below_tr (below_tr (below_tr (below_tr (below_tr (below_tr k1 k2) k3) k4) k5) k6) k7)⟩

set_option maxRecDepth 10000 in
set_option maxHeartbeats 1000000 in
theorem steps_pos_mid (x a b : Int) (w : World) (hE : ErrTab w) (hx : 0 < x) (hx1 : x ≤ 9223372036854775807) (ha0 : -4611686018427387903 ≤ a) (ha : a < 1) :
    Calls Tryd.prog 3 #[.int .i64 x, .int .i64 a, .int .i64 b] w fun e w' => e = .returned (.bool true) ∧ Below w.heap.size w w' := by
  have H1 := Hid.mkA (fun W => gexp_err x W hx)
  have H3 := Hid.mkA (fun W => gdecay_err a x W (Or.inr hx) (by omega) (by omega))
  have H2 := Hid.mkA (fun W => glog_err a b W (by omega))
  go_enter Tryd.func3, Tryd.ntmps3
  go_wp2_with fail
  refine (H1.out _).mono ?_
  rintro e w1 ⟨rfl, k1⟩
  go_wp2_with fail
  refine (H2.out _).mono ?_
  rintro e w2 ⟨rfl, k2⟩
  go_wp2_with fail
  refine (H3.out _).mono ?_
  rintro e w3 ⟨rfl, k3⟩
  go_wp2_with fail
  refine (num_err 1 _ (hE.below (below_tr (below_tr k1 k2) k3))).mono ?_
  rintro e w4 ⟨rfl, k4⟩
  go_wp2_with fail
  refine (num_err 1 _ (hE.below (below_tr (below_tr (below_tr k1 k2) k3) k4))).mono ?_
  rintro e w5 ⟨rfl, k5⟩
  go_wp2_with fail
  refine (num_err 1 _ (hE.below (below_tr (below_tr (below_tr (below_tr k1 k2) k3) k4) k5))).mono ?_
  rintro e w6 ⟨rfl, k6⟩
  go_wp2_with fail
  refine (gwsure_any _ (hE.below (below_tr (below_tr (below_tr (below_tr (below_tr k1 k2) k3) k4) k5) k6))).mono ?_
  rintro e w7 ⟨rfl, k7⟩
  go_wp2
  go_ret
  exact ⟨rfl, (below_tr (below_tr (below_tr (below_tr (below_tr (below_tr k1 k2) k3) k4) k5) k6) k7)⟩

set_option maxRecDepth 10000 in
set_option maxHeartbeats 1000000 in
theorem steps_pos_high (x a b : Int) (w : World) (hE : ErrTab w) (hx : 0 < x) (hx1 : x ≤ 9223372036854775807) (ha0 : 4611686018427387903 < a) (ha : a ≤ 9223372036854775807) :
    Calls Tryd.prog 3 #[.int .i64 x, .int .i64 a, .int .i64 b] w fun e w' => e = .returned (.bool true) ∧ Below w.heap.size w w' := by
  have H1 := Hid.mkA (fun W => gexp_err x W hx)
  have H3 := Hid.mkA (fun W => gdecay_err a x W (Or.inr hx) (by omega) (by omega))
  have H2 := Hid.mkA (fun W => glog_err a b W (by omega))
  go_enter Tryd.func3, Tryd.ntmps3
  go_wp2_with fail
  refine (H1.out _).mono ?_
  rintro e w1 ⟨rfl, k1⟩
  go_wp2_with fail
  refine (H2.out _).mono ?_
  rintro e w2 ⟨rfl, k2⟩
  go_wp2_with fail
  refine (H3.out _).mono ?_
  rintro e w3 ⟨rfl, k3⟩
  go_wp2_with fail
  refine (num_err 1 _ (hE.below (below_tr (below_tr k1 k2) k3))).mono ?_
  rintro e w4 ⟨rfl, k4⟩
  go_wp2_with fail
  refine (num_err 1 _ (hE.below (below_tr (below_tr (below_tr k1 k2) k3) k4))).mono ?_
  rintro e w5 ⟨rfl, k5⟩
  go_wp2_with fail
  refine (num_err 1 _ (hE.below (below_tr (below_tr (below_tr (below_tr k1 k2) k3) k4) k5))).mono ?_
  rintro e w6 ⟨rfl, k6⟩
  go_wp2_with fail
  refine (gwsure_any _ (hE.below (below_tr (below_tr (below_tr (below_tr (below_tr k1 k2) k3) k4) k5) k6))).mono ?_
  rintro e w7 ⟨rfl, k7⟩
  go_wp2
  go_ret
  exact ⟨rfl, (below_tr (below_tr (below_tr (below_tr (below_tr (below_tr k1 k2) k3) k4) k5) k6) k7)⟩

set_option maxRecDepth 10000 in
set_option maxHeartbeats 1000000 in
theorem steps_pos_ok (x a b : Int) (w : World) (hE : ErrTab w) (hx : 0 < x) (hx1 : x ≤ 9223372036854775807) (ha0 : 1 ≤ a) (ha : a ≤ 4611686018427387903) (hb0 : 0 ≤ b) (hb1 : b ≤ 62) :
    Calls Tryd.prog 3 #[.int .i64 x, .int .i64 a, .int .i64 b] w fun e w' => e = .returned (.bool true) ∧ Below w.heap.size w w' := by
  have H1 := Hid.mkA (fun W => gexp_err x W hx)
  have H3 := Hid.mkA (fun W => gdecay_err a x W (Or.inr hx) (by omega) (by omega))
  obtain ⟨n, rfl⟩ : ∃ n : Nat, b = (n : Int) := ⟨b.toNat, by omega⟩
  have H2 := Hid.mkA (fun W => glog_any a n W ha0 ha (by omega))
  have HL := Hid.mkA (fun W => rlog_any a n W ha0 ha (by omega))
  obtain ⟨V, hV⟩ : ∃ V, V = lgb a (dn a) (n : Int) := ⟨_, rfl⟩
  rw [← hV] at H2 HL
  clear hV
  have HPt := Hid.mkA (fun W => gpointed_in (n : Int) W (by omega) (by omega))
  go_enter Tryd.func3, Tryd.ntmps3
  go_wp2_with fail
  refine (H1.out _).mono ?_
  rintro e w1 ⟨rfl, k1⟩
  go_wp2_with fail
  refine (H2.out _).mono ?_
  rintro e w2 ⟨rfl, k2⟩
  go_wp2_with fail
  refine (H3.out _).mono ?_
  rintro e w3 ⟨rfl, k3⟩
  go_wp2_with fail
  refine (num_err 1 _ (hE.below (below_tr (below_tr k1 k2) k3))).mono ?_
  rintro e w4 ⟨rfl, k4⟩
  go_wp2_with fail
  refine (num_err 1 _ (hE.below (below_tr (below_tr (below_tr k1 k2) k3) k4))).mono ?_
  rintro e w5 ⟨rfl, k5⟩
  go_wp2_with fail
  refine (HPt.out _).mono ?_
  rintro e w6 ⟨rfl, rfl⟩
  go_wp2_with fail
  refine (HL.out _).mono ?_
  rintro e w7 ⟨rfl, k7⟩
  go_wp2_with fail
  refine (gwsure_any _ (hE.below (below_tr (below_tr (below_tr (below_tr (below_tr k1 k2) k3) k4) k5) k7))).mono ?_
  rintro e w8 ⟨rfl, k8⟩
  go_wp2
  go_ret
  exact ⟨rfl, (below_tr (below_tr (below_tr (below_tr (below_tr (below_tr k1 k2) k3) k4) k5) k7) k8)⟩

set_option maxRecDepth 10000 in
set_option maxHeartbeats 1000000 in
theorem steps_pos_bad (x a b : Int) (w : World) (hE : ErrTab w) (hx : 0 < x) (hx1 : x ≤ 9223372036854775807) (ha0 : 1 ≤ a) (ha : a ≤ 4611686018427387903) (hb : b < 0 ∨ 62 < b) :
    Calls Tryd.prog 3 #[.int .i64 x, .int .i64 a, .int .i64 b] w fun e w' => e = .returned (.bool true) ∧ Below w.heap.size w w' := by
  have H1 := Hid.mkA (fun W => gexp_err x W hx)
  have H3 := Hid.mkA (fun W => gdecay_err a x W (Or.inr hx) (by omega) (by omega))
  have H2 := Hid.mkA (fun W => glog_err a b W (by omega))
  have HPt := Hid.mkA (fun W => gpointed_out b W hb)
  clear hb
  go_enter Tryd.func3, Tryd.ntmps3
  go_wp2_with fail
  refine (H1.out _).mono ?_
  rintro e w1 ⟨rfl, k1⟩
  go_wp2_with fail
  refine (H2.out _).mono ?_
  rintro e w2 ⟨rfl, k2⟩
  go_wp2_with fail
  refine (H3.out _).mono ?_
  rintro e w3 ⟨rfl, k3⟩
  go_wp2_with fail
  refine (num_err 1 _ (hE.below (below_tr (below_tr k1 k2) k3))).mono ?_
  rintro e w4 ⟨rfl, k4⟩
  go_wp2_with fail
  refine (num_err 1 _ (hE.below (below_tr (below_tr (below_tr k1 k2) k3) k4))).mono ?_
  rintro e w5 ⟨rfl, k5⟩
  go_wp2_with fail
  refine (HPt.out _).mono ?_
  rintro e w6 ⟨rfl, rfl⟩
  go_wp2_with fail
  refine (num_err 1 _ (hE.below (below_tr (below_tr (below_tr (below_tr k1 k2) k3) k4) k5))).mono ?_
  rintro e w7 ⟨rfl, k7⟩
  go_wp2_with fail
  refine (gwsure_any _ (hE.below (below_tr (below_tr (below_tr (below_tr (below_tr k1 k2) k3) k4) k5) k7))).mono ?_
  rintro e w8 ⟨rfl, k8⟩
  go_wp2
  go_ret
  exact ⟨rfl, (below_tr (below_tr (below_tr (below_tr (below_tr (below_tr k1 k2) k3) k4) k5) k7) k8)⟩

set_option maxRecDepth 10000 in
set_option maxHeartbeats 1000000 in
theorem steps_neg_low (x a b : Int) (w : World) (hE : ErrTab w) (hx : x ≤ 0) (hx0 : -9223372036854775808 ≤ x) (ha0 : -9223372036854775808 ≤ a) (ha : a < -4611686018427387903) :
    Calls Tryd.prog 3 #[.int .i64 x, .int .i64 a, .int .i64 b] w fun e w' => e = .returned (.bool true) ∧ Below w.heap.size w w' := by
  have bE := ex_bd' hx
  have H1 := Hid.mkA (fun W => gexp_any x W hx hx0)
  have HR := Hid.mkA (fun W => rexp_any x W hx hx0)
  have hg : Qn.great a = true := by unfold Qn.great; rw [decide_eq_true (show a < -4611686018427387903 by omega), Bool.or_true]
  have H3 := Hid.mkA (fun W => gdecay_err a x W (Or.inl hg) (by omega) (by omega))
  obtain ⟨E, hEx⟩ : ∃ E, E = ex x := ⟨_, rfl⟩
  rw [← hEx] at bE H1 HR
  clear hg
  clear hEx
  have H2 := Hid.mkA (fun W => glog_err a b W (by omega))
  go_enter Tryd.func3, Tryd.ntmps3
  go_wp2_with fail
  refine (H1.out _).mono ?_
  rintro e w1 ⟨rfl, k1⟩
  go_wp2_with fail
  refine (H2.out _).mono ?_
  rintro e w2 ⟨rfl, k2⟩
  go_wp2_with fail
  refine (H3.out _).mono ?_
  rintro e w3 ⟨rfl, k3⟩
  go_wp2_with fail
  refine (HR.out _).mono ?_
  rintro e w4 ⟨rfl, k4⟩
  go_wp2_with fail
  refine (num_err 1 _ (hE.below (below_tr (below_tr (below_tr k1 k2) k3) k4))).mono ?_
  rintro e w5 ⟨rfl, k5⟩
  go_wp2_with fail
  refine (num_err 1 _ (hE.below (below_tr (below_tr (below_tr (below_tr k1 k2) k3) k4) k5))).mono ?_
  rintro e w6 ⟨rfl, k6⟩
  go_wp2_with fail
  refine (gwsure_any _ (hE.below (below_tr (below_tr (below_tr (below_tr (below_tr k1 k2) k3) k4) k5) k6))).mono ?_
  rintro e w7 ⟨rfl, k7⟩
  go_wp2
  go_ret
  exact ⟨rfl, (below_tr (below_tr (below_tr (below_tr (below_tr (below_tr k1 k2) k3) k4) k5) k6) k7)⟩

set_option maxRecDepth 10000 in
set_option maxHeartbeats 1000000 in
theorem steps_neg_mid (x a b : Int) (w : World) (hE : ErrTab w) (hx : x ≤ 0) (hx0 : -9223372036854775808 ≤ x) (ha0 : -4611686018427387903 ≤ a) (ha : a < 1) :
    Calls Tryd.prog 3 #[.int .i64 x, .int .i64 a, .int .i64 b] w fun e w' => e = .returned (.bool true) ∧ Below w.heap.size w w' := by
  have bE := ex_bd' hx
  have H1 := Hid.mkA (fun W => gexp_any x W hx hx0)
  have HR := Hid.mkA (fun W => rexp_any x W hx hx0)
  have hg : Qn.great a = false := Qn.great_iff.2 ⟨by omega, by omega⟩
  have H3 := Hid.mkA (fun W => gdecay_any a x W hg hx hx0)
  have HD := Hid.mkA (fun W => ldot_one a (ex x) 30 W (by omega) (by omega) (by omega) (by omega) (by omega))
  obtain ⟨E, hEx⟩ : ∃ E, E = ex x := ⟨_, rfl⟩
  rw [← hEx] at bE H1 HR H3 HD
  obtain ⟨D, hD⟩ : ∃ D, D = Qn.clamp (Qn.rne (a * E) (2 ^ 30)) := ⟨_, rfl⟩
  rw [← hD] at H3 HD
  obtain ⟨gd, hgd⟩ : ∃ g, g = Qn.great (Qn.rne (a * E) (2 ^ 30)) := ⟨_, rfl⟩
  rw [← hgd] at HD
  clear hD hgd hg
  clear hEx
  have H2 := Hid.mkA (fun W => glog_err a b W (by omega))
  go_enter Tryd.func3, Tryd.ntmps3
  go_wp2_with fail
  refine (H1.out _).mono ?_
  rintro e w1 ⟨rfl, k1⟩
  go_wp2_with fail
  refine (H2.out _).mono ?_
  rintro e w2 ⟨rfl, k2⟩
  go_wp2_with fail
  refine (H3.out _).mono ?_
  rintro e w3 ⟨rfl, k3⟩
  go_wp2_with fail
  refine (HR.out _).mono ?_
  rintro e w4 ⟨rfl, k4⟩
  go_wp2_with fail
  refine (HD.out _).mono ?_
  rintro e w5 ⟨rfl, k5⟩
  go_wp2_with fail
  refine (num_err 1 _ (hE.below (below_tr (below_tr (below_tr (below_tr k1 k2) k3) k4) k5))).mono ?_
  rintro e w6 ⟨rfl, k6⟩
  go_wp2_with fail
  refine (gwsure_any _ (hE.below (below_tr (below_tr (below_tr (below_tr (below_tr k1 k2) k3) k4) k5) k6))).mono ?_
  rintro e w7 ⟨rfl, k7⟩
  go_wp2
  go_ret
  exact ⟨rfl, (below_tr (below_tr (below_tr (below_tr (below_tr (below_tr k1 k2) k3) k4) k5) k6) k7)⟩

set_option maxRecDepth 10000 in
set_option maxHeartbeats 1000000 in
theorem steps_neg_high (x a b : Int) (w : World) (hE : ErrTab w) (hx : x ≤ 0) (hx0 : -9223372036854775808 ≤ x) (ha0 : 4611686018427387903 < a) (ha : a ≤ 9223372036854775807) :
    Calls Tryd.prog 3 #[.int .i64 x, .int .i64 a, .int .i64 b] w fun e w' => e = .returned (.bool true) ∧ Below w.heap.size w w' := by
  have bE := ex_bd' hx
  have H1 := Hid.mkA (fun W => gexp_any x W hx hx0)
  have HR := Hid.mkA (fun W => rexp_any x W hx hx0)
  have hg : Qn.great a = true := by unfold Qn.great; rw [decide_eq_true (show 4611686018427387903 < a by omega), Bool.true_or]
  have H3 := Hid.mkA (fun W => gdecay_err a x W (Or.inl hg) (by omega) (by omega))
  obtain ⟨E, hEx⟩ : ∃ E, E = ex x := ⟨_, rfl⟩
  rw [← hEx] at bE H1 HR
  clear hg
  clear hEx
  have H2 := Hid.mkA (fun W => glog_err a b W (by omega))
  go_enter Tryd.func3, Tryd.ntmps3
  go_wp2_with fail
  refine (H1.out _).mono ?_
  rintro e w1 ⟨rfl, k1⟩
  go_wp2_with fail
  refine (H2.out _).mono ?_
  rintro e w2 ⟨rfl, k2⟩
  go_wp2_with fail
  refine (H3.out _).mono ?_
  rintro e w3 ⟨rfl, k3⟩
  go_wp2_with fail
  refine (HR.out _).mono ?_
  rintro e w4 ⟨rfl, k4⟩
  go_wp2_with fail
  refine (num_err 1 _ (hE.below (below_tr (below_tr (below_tr k1 k2) k3) k4))).mono ?_
  rintro e w5 ⟨rfl, k5⟩
  go_wp2_with fail
  refine (num_err 1 _ (hE.below (below_tr (below_tr (below_tr (below_tr k1 k2) k3) k4) k5))).mono ?_
  rintro e w6 ⟨rfl, k6⟩
  go_wp2_with fail
  refine (gwsure_any _ (hE.below (below_tr (below_tr (below_tr (below_tr (below_tr k1 k2) k3) k4) k5) k6))).mono ?_
  rintro e w7 ⟨rfl, k7⟩
  go_wp2
  go_ret
  exact ⟨rfl, (below_tr (below_tr (below_tr (below_tr (below_tr (below_tr k1 k2) k3) k4) k5) k6) k7)⟩

set_option maxRecDepth 10000 in
set_option maxHeartbeats 1000000 in
theorem steps_neg_ok (x a b : Int) (w : World) (hE : ErrTab w) (hx : x ≤ 0) (hx0 : -9223372036854775808 ≤ x) (ha0 : 1 ≤ a) (ha : a ≤ 4611686018427387903) (hb0 : 0 ≤ b) (hb1 : b ≤ 62) :
    Calls Tryd.prog 3 #[.int .i64 x, .int .i64 a, .int .i64 b] w fun e w' => e = .returned (.bool true) ∧ Below w.heap.size w w' := by
  have bE := ex_bd' hx
  have H1 := Hid.mkA (fun W => gexp_any x W hx hx0)
  have HR := Hid.mkA (fun W => rexp_any x W hx hx0)
  have hg : Qn.great a = false := Qn.great_iff.2 ⟨by omega, by omega⟩
  have H3 := Hid.mkA (fun W => gdecay_any a x W hg hx hx0)
  have HD := Hid.mkA (fun W => ldot_one a (ex x) 30 W (by omega) (by omega) (by omega) (by omega) (by omega))
  obtain ⟨E, hEx⟩ : ∃ E, E = ex x := ⟨_, rfl⟩
  rw [← hEx] at bE H1 HR H3 HD
  obtain ⟨D, hD⟩ : ∃ D, D = Qn.clamp (Qn.rne (a * E) (2 ^ 30)) := ⟨_, rfl⟩
  rw [← hD] at H3 HD
  obtain ⟨gd, hgd⟩ : ∃ g, g = Qn.great (Qn.rne (a * E) (2 ^ 30)) := ⟨_, rfl⟩
  rw [← hgd] at HD
  clear hD hgd hg
  clear hEx
  obtain ⟨n, rfl⟩ : ∃ n : Nat, b = (n : Int) := ⟨b.toNat, by omega⟩
  have H2 := Hid.mkA (fun W => glog_any a n W ha0 ha (by omega))
  have HL := Hid.mkA (fun W => rlog_any a n W ha0 ha (by omega))
  obtain ⟨V, hV⟩ : ∃ V, V = lgb a (dn a) (n : Int) := ⟨_, rfl⟩
  rw [← hV] at H2 HL
  clear hV
  have HPt := Hid.mkA (fun W => gpointed_in (n : Int) W (by omega) (by omega))
  go_enter Tryd.func3, Tryd.ntmps3
  go_wp2_with fail
  refine (H1.out _).mono ?_
  rintro e w1 ⟨rfl, k1⟩
  go_wp2_with fail
  refine (H2.out _).mono ?_
  rintro e w2 ⟨rfl, k2⟩
  go_wp2_with fail
  refine (H3.out _).mono ?_
  rintro e w3 ⟨rfl, k3⟩
  go_wp2_with fail
  refine (HR.out _).mono ?_
  rintro e w4 ⟨rfl, k4⟩
  go_wp2_with fail
  refine (HD.out _).mono ?_
  rintro e w5 ⟨rfl, k5⟩
  go_wp2_with fail
  refine (HPt.out _).mono ?_
  rintro e w6 ⟨rfl, rfl⟩
  go_wp2_with fail
  refine (HL.out _).mono ?_
  rintro e w7 ⟨rfl, k7⟩
  go_wp2_with fail
  refine (gwsure_any _ (hE.below (below_tr (below_tr (below_tr (below_tr (below_tr k1 k2) k3) k4) k5) k7))).mono ?_
  rintro e w8 ⟨rfl, k8⟩
  go_wp2
  go_ret
  exact ⟨rfl, (below_tr (below_tr (below_tr (below_tr (below_tr (below_tr k1 k2) k3) k4) k5) k7) k8)⟩

set_option maxRecDepth 10000 in
set_option maxHeartbeats 1000000 in
theorem steps_neg_bad (x a b : Int) (w : World) (hE : ErrTab w) (hx : x ≤ 0) (hx0 : -9223372036854775808 ≤ x) (ha0 : 1 ≤ a) (ha : a ≤ 4611686018427387903) (hb : b < 0 ∨ 62 < b) :
    Calls Tryd.prog 3 #[.int .i64 x, .int .i64 a, .int .i64 b] w fun e w' => e = .returned (.bool true) ∧ Below w.heap.size w w' := by
  have bE := ex_bd' hx
  have H1 := Hid.mkA (fun W => gexp_any x W hx hx0)
  have HR := Hid.mkA (fun W => rexp_any x W hx hx0)
  have hg : Qn.great a = false := Qn.great_iff.2 ⟨by omega, by omega⟩
  have H3 := Hid.mkA (fun W => gdecay_any a x W hg hx hx0)
  have HD := Hid.mkA (fun W => ldot_one a (ex x) 30 W (by omega) (by omega) (by omega) (by omega) (by omega))
  obtain ⟨E, hEx⟩ : ∃ E, E = ex x := ⟨_, rfl⟩
  rw [← hEx] at bE H1 HR H3 HD
  obtain ⟨D, hD⟩ : ∃ D, D = Qn.clamp (Qn.rne (a * E) (2 ^ 30)) := ⟨_, rfl⟩
  rw [← hD] at H3 HD
  obtain ⟨gd, hgd⟩ : ∃ g, g = Qn.great (Qn.rne (a * E) (2 ^ 30)) := ⟨_, rfl⟩
  rw [← hgd] at HD
  clear hD hgd hg
  clear hEx
  have H2 := Hid.mkA (fun W => glog_err a b W (by omega))
  have HPt := Hid.mkA (fun W => gpointed_out b W hb)
  clear hb
  go_enter Tryd.func3, Tryd.ntmps3
  go_wp2_with fail
  refine (H1.out _).mono ?_
  rintro e w1 ⟨rfl, k1⟩
  go_wp2_with fail
  refine (H2.out _).mono ?_
  rintro e w2 ⟨rfl, k2⟩
  go_wp2_with fail
  refine (H3.out _).mono ?_
  rintro e w3 ⟨rfl, k3⟩
  go_wp2_with fail
  refine (HR.out _).mono ?_
  rintro e w4 ⟨rfl, k4⟩
  go_wp2_with fail
  refine (HD.out _).mono ?_
  rintro e w5 ⟨rfl, k5⟩
  go_wp2_with fail
  refine (HPt.out _).mono ?_
  rintro e w6 ⟨rfl, rfl⟩
  go_wp2_with fail
  refine (num_err 1 _ (hE.below (below_tr (below_tr (below_tr (below_tr k1 k2) k3) k4) k5))).mono ?_
  rintro e w7 ⟨rfl, k7⟩
  go_wp2_with fail
  refine (gwsure_any _ (hE.below (below_tr (below_tr (below_tr (below_tr (below_tr k1 k2) k3) k4) k5) k7))).mono ?_
  rintro e w8 ⟨rfl, k8⟩
  go_wp2
  go_ret
  exact ⟨rfl, (below_tr (below_tr (below_tr (below_tr (below_tr (below_tr k1 k2) k3) k4) k5) k7) k8)⟩

theorem steps_walk : FGrowSteps.Walk := by
  intro x a b w w0 w1 w2 hE
  have b0 := bounds_i64 w0
  have b1 := bounds_i64 w1
  rcases Int.lt_or_le 0 x with hx | hx
  · by_cases h1 : a < -4611686018427387903
    · exact steps_pos_low x a b w hE hx b0.2 b1.1 h1
    · by_cases h2 : a < 1
      · exact steps_pos_mid x a b w hE hx b0.2 (by omega) h2
      · by_cases h3 : 4611686018427387903 < a
        · exact steps_pos_high x a b w hE hx b0.2 h3 b1.2
        · by_cases h4 : 0 ≤ b ∧ b ≤ 62
          · exact steps_pos_ok x a b w hE hx b0.2 (by omega) (by omega) h4.1 h4.2
          · exact steps_pos_bad x a b w hE hx b0.2 (by omega) (by omega) (by omega)
  · by_cases h1 : a < -4611686018427387903
    · exact steps_neg_low x a b w hE hx b0.1 b1.1 h1
    · by_cases h2 : a < 1
      · exact steps_neg_mid x a b w hE hx b0.1 (by omega) h2
      · by_cases h3 : 4611686018427387903 < a
        · exact steps_neg_high x a b w hE hx b0.1 h3 b1.2
        · by_cases h4 : 0 ≤ b ∧ b ≤ 62
          · exact steps_neg_ok x a b w hE hx b0.1 (by omega) (by omega) h4.1 h4.2
          · exact steps_neg_bad x a b w hE hx b0.1 (by omega) (by omega) (by omega)

theorem growSteps_holds : Rows.GrowStepsCardSaid := FGrowSteps.card steps_walk
end Go.Proofs.YtiahijcdfeimgaaDoor
