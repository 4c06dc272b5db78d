/-
  A sum with a product added: word by word, with a carry.
-/
import Derived.Test.YtefgkeeeanakeaaDoorQB
import Derived.Laws.Externs
set_option linter.unusedSimpArgs false
set_option linter.unusedVariables false
namespace Go.Proofs.YtefgkeeeanakeaaDoor
open Go.RowKit Qn

namespace Qn
/-- Two words and a carry: the word, and the carry. -/
def adS (x y c : Int) : Int := (x + y + c) % 18446744073709551616
def adC (x y c : Int) : Int := (x + y + c) / 18446744073709551616
theorem adC_bd {x y c : Int} (hx : 0 ≤ x ∧ x ≤ 18446744073709551615) (hy : 0 ≤ y ∧ y ≤ 18446744073709551615) (hc : 0 ≤ c ∧ c ≤ 1) : 0 ≤ adC x y c ∧ adC x y c ≤ 1 := by unfold adC; omega
theorem adS_bd (x y c : Int) : 0 ≤ adS x y c ∧ adS x y c ≤ 18446744073709551615 := by unfold adS; omega
theorem ad_words (s p : Int) : lo (s + p) = adS (lo s) (lo p) 0 ∧ mi (s + p) = adS (mi s) (mi p) (adC (lo s) (lo p) 0) ∧ hi (s + p) = adS (hi s) (hi p) (adC (mi s) (mi p) (adC (lo s) (lo p) 0)) := by
  unfold lo mi hi adS adC
  refine ⟨by omega, by omega, by omega⟩
end Qn

theorem add64_run {x y c : Int} (hx : 0 ≤ x ∧ x ≤ 18446744073709551615) (hy : 0 ≤ y ∧ y ≤ 18446744073709551615) (hc : 0 ≤ c ∧ c ≤ 1) (w : World) :
    (callFunc 67 #[.int .u64 x, .int .u64 y, .int .u64 c]).run Tryd.prog w = .ok (.value (.tuple #[.int .u64 (adS x y c), .int .u64 (adC x y c)])) w := by
  rw [run_callFunc_extern Tryd.func67 (by kernel_rfl) (by kernel_rfl) (by kernel_rfl) (e := add64Entry) (by kernel_rfl), run_add64 x y c hx.1 hy.1 hc.1 hc.2]
  rfl

set_option maxHeartbeats 1000000 in
theorem qplus_any (s a b : Int) (w : World) (ha0 : -9223372036854775808 ≤ a) (ha1 : a ≤ 9223372036854775807) (hb0 : -9223372036854775808 ≤ b) (hb1 : b ≤ 9223372036854775807) :
    Calls Tryd.prog 58 #[.agg #[.int .u64 (lo s), .int .u64 (mi s), .int .u64 (hi s)], .int .i64 a, .int .i64 b] w fun e w' => e = .returned (.agg #[.int .u64 (lo (s + a * b)), .int .u64 (mi (s + a * b)), .int .u64 (hi (s + a * b))]) ∧ Below w.heap.size w w' := by
  obtain ⟨e1, e2, e3⟩ := ad_words s (a * b)
  have E1 : Hid (lo (s + a * b) = adS (lo s) (lo (a * b)) 0) := e1
  have E2 : Hid (mi (s + a * b) = adS (mi s) (mi (a * b)) (adC (lo s) (lo (a * b)) 0)) := e2
  have E3 : Hid (hi (s + a * b) = adS (hi s) (hi (a * b)) (adC (mi s) (mi (a * b)) (adC (lo s) (lo (a * b)) 0))) := e3
  clear e1 e2 e3
  have c1 := adC_bd (lo_bd s) (lo_bd (a * b)) (c := 0) (by omega)
  have c2 := adC_bd (mi_bd s) (mi_bd (a * b)) c1
  have r1 := fun w => add64_run (lo_bd s) (lo_bd (a * b)) (c := 0) (by omega) w
  have r2 := fun w => add64_run (mi_bd s) (mi_bd (a * b)) c1 w
  have r3 := fun w => add64_run (hi_bd s) (hi_bd (a * b)) c2 w
  have i0 : ∀ w, (Instr.index 98 (.agg #[.int .u64 (lo (a * b)), .int .u64 (mi (a * b)), .int .u64 (hi (a * b))]) (.int .i64 0)).run Tryd.prog w = .ok (.int .u64 (lo (a * b))) w := fun _ => by kernel_rfl
  have i1 : ∀ w, (Instr.index 98 (.agg #[.int .u64 (lo (a * b)), .int .u64 (mi (a * b)), .int .u64 (hi (a * b))]) (.int .i64 1)).run Tryd.prog w = .ok (.int .u64 (mi (a * b))) w := fun _ => by kernel_rfl
  have i2 : ∀ w, (Instr.index 98 (.agg #[.int .u64 (lo (a * b)), .int .u64 (mi (a * b)), .int .u64 (hi (a * b))]) (.int .i64 2)).run Tryd.prog w = .ok (.int .u64 (hi (a * b))) w := fun _ => by kernel_rfl
  go_enter Tryd.func58, Tryd.ntmps58
  go_wp2_with (go_at_call 43; refine (product_any _ _ _ ha0 ha1 hb0 hb1).mono ?_; rintro e w1 ⟨rfl, hb⟩)
  have R0 : Row3 w1 w.heap.size (lo s) (mi s) (hi s) := ((row3_new w _ _ _).alloc _).keep hb
  have S0 : Row3 w1 (w.heap.size + 1) 0 0 0 := (by have := row3_new (w.alloc (Obj.cells #[Value.int IntKind.u64 (lo s), Value.int IntKind.u64 (mi s), Value.int IntKind.u64 (hi s)] 98)) 0 0 0; simpa using this : Row3 _ (w.heap.size + 1) 0 0 0).keep hb
  have R1 := R0.set0 (adS (lo s) (lo (a * b)) 0)
  have R2 := R1.set1 (adS (mi s) (mi (a * b)) (adC (lo s) (lo (a * b)) 0))
  have R3 := R2.set2 (adS (hi s) (hi (a * b)) (adC (mi s) (mi (a * b)) (adC (lo s) (lo (a * b)) 0)))
  have S3 := ((S0.other (p := ⟨w.heap.size, 0, none⟩) (.int .u64 (adS (lo s) (lo (a * b)) 0)) (by simp)).other (p := ⟨w.heap.size, 1, none⟩) (.int .u64 (adS (mi s) (mi (a * b)) (adC (lo s) (lo (a * b)) 0))) (by simp)).other (p := ⟨w.heap.size, 2, none⟩) (.int .u64 (adS (hi s) (hi (a * b)) (adC (mi s) (mi (a * b)) (adC (lo s) (lo (a * b)) 0)))) (by simp)
  obtain ⟨hc, hf⟩ := bcell hb
  refine wp_loop_rounds 4 ?_
  rw [rounds_succ]; go_wp2
  rw [rounds_succ]; go_wp2
  rw [rounds_succ]; go_wp2
  rw [rounds_succ]
  go_wp2_with (first | refine wpList_load3 rfl (.tmp 3) rfl _ _ _ _ rfl R3 ?_ | refine wpList_store3 rfl (.tmp 6) (.tmp 29) rfl _ _ _ _ _ _ _ rfl rfl S3 ?_)
  refine bodyPost_ret (v := .agg #[.int .u64 (adS (lo s) (lo (a * b)) 0), .int .u64 (adS (mi s) (mi (a * b)) (adC (lo s) (lo (a * b)) 0)), .int .u64 (adS (hi s) (hi (a * b)) (adC (mi s) (mi (a * b)) (adC (lo s) (lo (a * b)) 0)))]) (results_3 Tryd.results58 _ _ (w.heap.size + 1) _ _ _ rfl (S3.row _ _ _)) rfl ⟨ret_3 E1.out.symm E2.out.symm E3.out.symm, ?_⟩
  have hb0 := below_tr (below_al (below_al (Below.refl _ _) _) _) hb
  exact below_setRow (((hb0.setCell (Nat.le_refl _) _).setCell (Nat.le_refl _) _).setCell (Nat.le_refl _) _) (by omega) _

end Go.Proofs.YtefgkeeeanakeaaDoor
