/-
  The quotient of a product, rounded.
-/
import Derived.Test.YtfgjigkgfflofaaDoorRQG
set_option linter.unusedSimpArgs false
set_option linter.unusedVariables false
namespace Go.Proofs.YtfgjigkgfflofaaDoorR
open Go.RowKit Qn

namespace Qn
theorem quo_words {n c : Int} (h0 : 0 ≤ n) (h1 : n < 340282366920938463463374607431768211456) (hc : 0 < c) (hc1 : c ≤ 18446744073709551615) :
    (mi n % c * 18446744073709551616 + lo n) / c = lo (n / c) ∧ mi n / c = mi (n / c) ∧ (0 : Int) = hi (n / c) ∧ (mi n % c * 18446744073709551616 + lo n) % c = n % c := by
  have hn : n = mi n * 18446744073709551616 + lo n := by unfold mi lo; omega
  have hm0 := (mi_bd n).1
  have hm1 := (mi_bd n).2
  have hl0 := (lo_bd n).1
  have hl1 := (lo_bd n).2
  generalize hM : mi n = M at *
  generalize hL : lo n = L at *
  have hd := Int.emod_add_mul_ediv M c
  have he0 := Int.emod_nonneg M (show c ≠ 0 by omega)
  have he1 := Int.emod_lt_of_pos M hc
  have e : n = M % c * 18446744073709551616 + L + c * (M / c * 18446744073709551616) := by
    have h2 : c * (M / c * 18446744073709551616) = c * (M / c) * 18446744073709551616 := by rw [Int.mul_assoc]
    rw [h2]
    omega
  have e1 : n / c = M / c * 18446744073709551616 + (M % c * 18446744073709551616 + L) / c := by
    rw [e, Int.add_mul_ediv_left _ _ (by omega)]; omega
  have e2 : n % c = (M % c * 18446744073709551616 + L) % c := by
    rw [e, Int.add_mul_emod_self_left]
  have f0 : 0 ≤ (M % c * 18446744073709551616 + L) / c := Int.ediv_nonneg (by omega) (by omega)
  have f1 : (M % c * 18446744073709551616 + L) / c < 18446744073709551616 := Int.ediv_lt_of_lt_mul hc (by omega)
  have g0 : 0 ≤ M / c := Int.ediv_nonneg hm0 (by omega)
  have g1 : M / c ≤ M := Int.ediv_le_self _ hm0
  refine ⟨?_, ?_, ?_, e2.symm⟩
  · rw [e1]; unfold lo; omega
  · rw [e1]; unfold mi; omega
  · rw [e1]; unfold hi; omega

theorem rne_if {n d : Int} : rne n d = if n % d < d - n % d ∨ n % d = d - n % d ∧ n / d % 2 = 0 then n / d else n / d + 1 := by
  unfold rne
  by_cases c1 : 2 * (n % d) < d
  · rw [if_pos (Or.inl c1), if_pos (Or.inl (by omega))]
  · by_cases c2 : 2 * (n % d) = d ∧ n / d % 2 = 0
    · rw [if_pos (Or.inr c2), if_pos (Or.inr (by omega))]
    · rw [if_neg (by omega), if_neg (by omega)]
end Qn

set_option maxHeartbeats 2000000 in
theorem quotient_any (a b c : Int) (w : World) (ha0 : 0 ≤ a) (ha1 : a ≤ 18446744073709551615) (hb0 : 0 ≤ b) (hb1 : b ≤ 18446744073709551615) (hc0 : 0 < c) (hc1 : c ≤ 18446744073709551615) :
    Calls Tryd.prog 32 #[.int .u64 a, .int .u64 b, .int .u64 c] w fun e w' => e = .returned (.agg #[.int .u64 (lo (rne (a * b) c)), .int .u64 (mi (rne (a * b) c)), .int .u64 (hi (rne (a * b) c))]) ∧ Below w.heap.size w w' := by
  have hp0 : 0 ≤ a * b := Int.mul_nonneg ha0 hb0
  have hp1 : a * b < 340282366920938463463374607431768211456 := by
    have : a * b ≤ 18446744073709551615 * 18446744073709551615 := Int.mul_le_mul ha1 hb1 hb0 (by omega)
    omega
  have HM : Hid (∀ wx, Calls Tryd.prog 51 #[.int .u64 a, .int .u64 b] wx fun e w' => e = .returned (.tuple #[.int .u64 (mi (a * b)), .int .u64 (lo (a * b))]) ∧ w' = wx) := fun wx => mul64_any a b ha0 ha1 hb0 hb1 wx
  generalize a * b = n at *
  obtain ⟨e1, e2, e3, e4⟩ := quo_words hp0 hp1 hc0 hc1
  have hm0 := (mi_bd n).1
  have hm1 := (mi_bd n).2
  have hl0 := (lo_bd n).1
  have hl1 := (lo_bd n).2
  have he0 := Int.emod_nonneg (mi n) (show c ≠ 0 by omega)
  have he1 := Int.emod_lt_of_pos (mi n) hc0
  have hr0 := Int.emod_nonneg n (show c ≠ 0 by omega)
  have hr1 := Int.emod_lt_of_pos n hc0
  have hcb : (c == 0) = false := by simp; omega
  have hw : IntKind.u64.wrap (c - n % c) = c - n % c := by rw [IntKind.wrap_u64]; omega
  have E3 : Hid ((0 : Int) = hi (n / c)) := e3
  clear e3
  go_enter Tryd.func32, Tryd.ntmps32
  go_wp2_with (go_at_call 51; refine (HM.out _).mono ?_; rintro e w' ⟨rfl, rfl⟩)
  go_quiet (fail)
  go_wp2_with fail
  refine (div64_any (mi n % c) (lo n) c _ he0 he1 hl0 hl1 hc1).mono ?_
  rintro e w1 ⟨rfl, nn, rfl⟩
  go_wp2_with fail
  have hR := rounded_any (n / c) (n % c) (c - n % c) ((w.alloc (.cells #[.int .u64 0, .int .u64 0, .int .u64 0] 80)).drewN (nq + nn)) hr0 (by omega) (by omega) (by omega) (rne n c) rne_if
  rw [← E3.out] at hR
  refine hR.mono ?_
  rintro e w2 ⟨rfl, hb⟩
  have S0 := ((row3_new w 0 0 0).drewN (nq + nn)).keep hb
  go_wp2_with (refine wpList_store3 rfl (.tmp 6) (.tmp 39) rfl _ _ _ _ _ _ _ rfl rfl S0 ?_)
  exact bodyPost_ret (v := .agg #[.int .u64 (lo (rne n c)), .int .u64 (mi (rne n c)), .int .u64 (hi (rne n c))]) (results_3 Tryd.results32 _ _ w.heap.size _ _ _ rfl (S0.row _ _ _)) rfl ⟨rfl, below_setRow (below_tr (below_drewN (below_al (Below.refl _ _) _) _) hb) (by omega) _⟩

end Go.Proofs.YtfgjigkgfflofaaDoorR
