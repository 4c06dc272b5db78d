/-
  What is proved: whatever two numbers it is given, the law QnumSums of layer 3 returns true, ends without a panic, and leaves what was there as it was; no condition.
-/
import Derived.Test.YtddcipiojimgiaaQJ
import Derived.Test.YtddcipiojimgiaaRefS
import Derived.Test.YtddcipiojimgiaaRows
import Derived.ProofKit
import Derived.OpenShut
import Derived.Below
set_option linter.unusedSimpArgs false
set_option linter.unusedVariables false
namespace Go.Proofs.Ytddcipiojimgiaa
open Go.ChangeShapes Go.WideShapes Go.ChangeAt Go.RowKit Qn Dec

namespace SumsQ
theorem digs_short {z : Int} (h0 : -99999999999999999999 ≤ z) (h1 : z ≤ 99999999999999999999) : (digs z.natAbs).length ≤ 1000000 := by
  have := length_digs_le (show z.natAbs < 10 ^ 20 by omega)
  omega

theorem bound_is (v : Value) (z : Int) (w : World) (hz : (digs z.natAbs).length ≤ 1000000) (h : IsNum w v z) :
    Calls Try.prog 8 #[v] w fun e w' => e = .returned (.tuple #[.int .i64 (clamp z), .bool (great z)]) ∧ Below w.heap.size w w' := by
  unfold clamp great
  exact bound_any v z w hz h

set_option maxHeartbeats 2000000 in
theorem walk (a b : Int) (w0 : (Lit.int .i64 a).wf = true) (w1 : (Lit.int .i64 b).wf = true) (w : World) :
    Calls Try.prog 3 #[.int .i64 a, .int .i64 b] w fun e w' => e = .returned (.bool true) ∧ Below w.heap.size w w' := by
  have ha := bounds_i64 w0
  have hb := bounds_i64 w1
  obtain ⟨ha0, ha1⟩ := ha
  obtain ⟨hb0, hb1⟩ := hb
  have LA : Hid ((digs a.natAbs).length ≤ 1000000) := digs_short (by omega) (by omega)
  have LB : Hid ((digs b.natAbs).length ≤ 1000000) := digs_short (by omega) (by omega)
  have LS : Hid ((digs (a + b).natAbs).length ≤ 1000000) := digs_short (by omega) (by omega)
  have LD : Hid ((digs (a - b).natAbs).length ≤ 1000000) := digs_short (by omega) (by omega)
  go_enter Try.func3, Try.ntmps3
  go_wp2_with fail
  refine (qadd_any a b _ ha0 ha1 hb0 hb1).mono ?_
  rintro e w1 ⟨rfl, k1⟩
  go_wp2_with fail
  refine (qsub_any a b _ ha0 ha1 hb0 hb1).mono ?_
  rintro e w2 ⟨rfl, k2⟩
  go_wp2_with fail
  refine (clamp_any a _).mono ?_
  rintro e w' ⟨rfl, rfl⟩
  go_wp2_with fail
  refine (of_any a _ ha0 ha1).mono ?_
  rintro e w3 ⟨v3, rfl, n3, k3⟩
  go_wp2_with fail
  refine (of_any b _ hb0 hb1).mono ?_
  rintro e w4 ⟨v4, rfl, n4, k4⟩
  go_wp2_with fail
  refine (add_any v3 v4 a b _ LA.out LB.out (n3.below k4) n4).mono ?_
  rintro e w5 ⟨v5, rfl, n5, k5⟩
  go_wp2_with fail
  refine (bound_is v5 (a + b) _ LS.out n5).mono ?_
  rintro e w6 ⟨rfl, k6⟩
  go_wp2_with fail
  refine (of_any a _ ha0 ha1).mono ?_
  rintro e w7 ⟨v7, rfl, n7, k7⟩
  go_wp2_with fail
  refine (of_any b _ hb0 hb1).mono ?_
  rintro e w8 ⟨v8, rfl, n8, k8⟩
  go_wp2_with fail
  refine (sub_any v7 v8 a b _ LA.out LB.out (n7.below k8) n8).mono ?_
  rintro e w9 ⟨v9, rfl, n9, k9⟩
  go_wp2_with fail
  refine (bound_is v9 (a - b) _ LD.out n9).mono ?_
  rintro e w10 ⟨rfl, k10⟩
  go_wp2_with fail
  refine (of_any a _ ha0 ha1).mono ?_
  rintro e w11 ⟨v11, rfl, n11, k11⟩
  go_wp2_with fail
  refine (bound_is v11 a _ LA.out n11).mono ?_
  rintro e w12 ⟨rfl, k12⟩
  go_wp2_with fail
  refine (sure_any _).mono ?_
  rintro e w13 ⟨rfl, k13⟩
  go_wp2
  go_ret
  exact ⟨rfl, below_tr (below_tr (below_tr (below_tr (below_tr (below_tr (below_tr (below_tr (below_tr (below_tr (below_tr (below_tr k1 k2) k3) k4) k5) k6) k7) k8) k9) k10) k11) k12) k13⟩

set_option maxRecDepth 100000 in
theorem lifted (os : Os) (started : os.Started) (H : Type) (enc : TypeId × Value → H) :
    ReturnsInHanded {} Try.checked os 3 .any (Rows.qnumSumsSpec.pre6 enc Try.prog Try.f3 Rows.qnumSumsRow.domain false) (Rows.qnumSumsSpec.post enc Try.prog Try.f3 false true false false) := by
  have own : ownKnob Try.prog.godebug = none := by kernel_rfl
  refine returnsInHanded_of_change (C := Try.checked) own started (by kernel_rfl) Try.func3
    (ChangeSpec.witness6 (enc := enc) (C := Try.checked) false ⟨#[], #[.int .i64 0, .int .i64 0], []⟩ 8 (by kernel_rfl) (by kernel_rfl) (by kernel_rfl) (by kernel_rfl)) ?_
  intro W base args ds gs before hval0 hW hcnd _
  have hval : ∀ (j : Nat) t v, Try.f3.params[j]? = some t → args[j]? = some v → Value.okWide Try.prog W .any base t v := hval0
  have hW' := hW
  obtain ⟨p, q, hA0, hV, rfl, hfz, hnd⟩ := hW
  have hA : DataW.TrodAll enc Try.prog W 0 (fun _ => true) true Try.f3.params.toList args.toList ds p := hA0
  rw [Try.params3] at hA hval
  obtain ⟨v0, vs0, d0, ds0, p0, q0, hargs, rfl, rfl, h0, r0⟩ := trodAll_cons hA
  obtain ⟨v1, vs1, d1, ds1, p1, q1, rfl, rfl, rfl, h1, r1⟩ := trodAll_cons r0
  obtain ⟨rfl, rfl, rfl⟩ := trodAll_nil r1
  obtain rfl : args = #[v0, v1] := by cases args; simp_all
  obtain ⟨rfl, rfl⟩ := trodVars_none hV
  obtain ⟨a0, rfl, rfl, rfl, w0⟩ := open_int Try.underlying2 (hval 0 2 v0 rfl rfl) h0
  obtain ⟨a1, rfl, rfl, rfl, w1⟩ := open_int Try.underlying2 (hval 1 2 v1 rfl rfl) h1
  clear hA0 hval0
  refine (walk a0 a1 w0 w1 W).mono fun e W' ⟨he, bel⟩ => ?_
  subst he
  exact ⟨_, rfl, _, _, _, [], [], [], hW', trodAll_mk1 (shut_bool Try.underlying4 _), (trodAll_cons_mk (shut_int Try.underlying2 w0) (trodAll_cons_mk (shut_int Try.underlying2 w1) trodAll_mk0)), rfl, bel.frame _, fun h => by cases h⟩

theorem over : Rows.qnumSumsRow.holds Try.pinned (OpenSpec.ofChange Rows.qnumSumsSpec) :=
  OpenClaim.holds_of_wide 3 Try.f3 rfl rfl rfl rfl rfl rfl rfl ⟨rfl, rfl, rfl, rfl, rfl⟩ rfl rfl rfl rfl rfl (by kernel_rfl) Try.func3 (by kernel_rfl)
    (of_decide_eq_true (by kernel_rfl)) (by unfold Func.isWrapper; first | (rw [if_pos (by decide +kernel)]; kernel_rfl) | (rw [if_neg (by decide +kernel)]; exact ⟨rfl, rfl⟩))
    (fun os started H enc _ => lifted os started H enc)
end SumsQ

/-- The law QnumSums of layer 3 holds at every input. -/
theorem qnumSums_holds : Rows.QnumSumsSaid := SumsQ.over
end Go.Proofs.Ytddcipiojimgiaa
