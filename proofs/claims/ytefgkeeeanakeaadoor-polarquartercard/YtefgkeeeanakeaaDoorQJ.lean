/-
  Move of package qnum; and what the laws of layer 3 ask first of all (sure).
-/
import Derived.Test.YtefgkeeeanakeaaDoorQI
set_option linter.unusedSimpArgs false
set_option linter.unusedVariables false
namespace Go.Proofs.YtefgkeeeanakeaaDoor
open Go.RowKit Qn

set_option maxHeartbeats 2000000 in
theorem qmove_any (a : Int) (f t : Nat) (w : World) (ha0 : -9223372036854775808 ≤ a) (ha1 : a ≤ 9223372036854775807) (hf : f ≤ 62) (ht : t ≤ 62) :
    Calls Tryd.prog 66 #[.int .i64 a, .int .i64 f, .int .i64 t] w fun e w' => e = .returned (.tuple #[.int .i64 (clamp (rne (a * 2 ^ (t - f)) (2 ^ (f - t)))), .bool (great (rne (a * 2 ^ (t - f)) (2 ^ (f - t)))), .nilIface]) ∧ Below w.heap.size w w' := by
  have hmf := mb_nat hf
  have hmt := mb_nat ht
  obtain ⟨u, hu⟩ : ∃ u : Nat, t - f = u := ⟨_, rfl⟩
  obtain ⟨d, hd⟩ : ∃ d : Nat, f - t = d := ⟨_, rfl⟩
  rw [hu, hd]
  have hu1 : u ≤ 62 := by omega
  have hd1 : d ≤ 62 := by omega
  obtain ⟨U, hU⟩ : ∃ U, (2 : Int) ^ u = U := ⟨_, rfl⟩
  have hU0 : 0 < U := by rw [← hU]; exact pow_pos2 u
  have hU1 : U ≤ 4611686018427387904 := by rw [← hU]; exact pow_le62 hu1
  rw [hU]
  have HI : Hid (In3 (a * U) ∧ In3 (rne (a * U) (2 ^ d))) := by
    have bd := mul64_bd ha0 ha1 (b := U) (by omega) (by omega)
    have := rne_bd (pow_pos2 d) (A := 85070591730234615865843651857942052864) bd.1 bd.2 (by omega)
    exact ⟨in3_of (by omega) (by omega), in3_of (by omega) (by omega)⟩
  have x1 : max ((t : Int) - (f : Int)) 0 = (u : Int) := by omega
  have x2 : max ((f : Int) - (t : Int)) 0 = (d : Int) := by omega
  have hu0 : (0 : Int) ≤ (u : Int) := by omega
  have hu2 : (u : Int) ≤ 62 := by omega
  have hf2 : (f : Int) ≤ 62 := by omega
  have ht2 : (t : Int) ≤ 62 := by omega
  go_enter Tryd.func66, Tryd.ntmps66
  go_wp2_with fail
  refine (mayBe_any _ _).mono ?_
  rintro e w' ⟨rfl, rfl⟩
  rw [hmf]
  go_wp2_with fail
  refine (mayBe_any _ _).mono ?_
  rintro e w' ⟨rfl, rfl⟩
  rw [hmt]
  go_wp2_with fail
  refine (product_any a U _ ha0 ha1 (by omega) (by omega)).mono ?_
  rintro e w1 ⟨rfl, k1⟩
  go_wp2_with fail
  refine (lowered_any (a * U) d _ hd1 HI.out.1).mono ?_
  rintro e w2 ⟨rfl, k2⟩
  go_wp2_with fail
  refine (bounded_any _ _ HI.out.2).mono ?_
  rintro e w3 ⟨rfl, k3⟩
  go_wp2
  go_ret3
  exact ⟨rfl, below_tr (below_tr k1 k2) k3⟩

namespace Qn
theorem root_two {r : Int} (h : IsRoot (2 * 2 ^ 2) r) : r = 2 := by
  obtain ⟨h1, h2, h3, h4⟩ := h
  have e : (2 : Int) * 2 ^ 2 = 8 := by decide
  rw [e] at h3 h4
  have l1 : r ≤ 2 := by
    rcases Int.lt_or_le 2 r with k | k
    · have : 3 * 3 ≤ r * r := Int.mul_le_mul (by omega) (by omega) (by omega) (by omega)
      omega
    · exact k
  have l2 : 2 ≤ r := by
    rcases Int.lt_or_le r 2 with k | k
    · have : (r + 1) * (r + 1) ≤ 2 * 2 := Int.mul_le_mul (by omega) (by omega) (by omega) (by omega)
      omega
    · exact k
  omega
end Qn

end Go.Proofs.YtefgkeeeanakeaaDoor
