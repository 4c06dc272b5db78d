/-
  Add, Sub, Mul, Div, Move and Root of package qnum: exactly, then rounded, then bounded.
-/
import Derived.Test.YtefgkeeeanakeaaDoorQH
set_option linter.unusedSimpArgs false
set_option linter.unusedVariables false
namespace Go.Proofs.YtefgkeeeanakeaaDoor
open Go.RowKit Qn
attribute [local go_sem ↓] Go.wp_at_zero Go.wp_at_succ

namespace Qn
theorem in3_of {n : Int} (h0 : -1361129467683753853853498429727072845824 ≤ n) (h1 : n ≤ 1361129467683753853853498429727072845824) : In3 n := by unfold In3; omega
theorem rne_bd {n d : Int} (hd : 0 < d) {A : Int} (h0 : -A ≤ n) (h1 : n ≤ A) (hA : 0 ≤ A) : -A ≤ rne n d ∧ rne n d ≤ A + 1 := by
  have e0 : -A ≤ n / d := by
    refine Int.le_ediv_of_mul_le hd ?_
    have : A * 1 ≤ A * d := Int.mul_le_mul_of_nonneg_left (by omega) hA
    rw [Int.neg_mul]
    omega
  have e1 : n / d ≤ A := by
    have : n / d < A + 1 := Int.ediv_lt_of_lt_mul hd (by
      have : (A + 1) * 1 ≤ (A + 1) * d := Int.mul_le_mul_of_nonneg_left (by omega) (by omega)
      omega)
    omega
  unfold rne
  split <;> omega
theorem pow_pos2 (p : Nat) : (0 : Int) < 2 ^ p := Int.pow_pos (by omega)
theorem pow_le62 {p : Nat} (hp : p ≤ 62) : (2 : Int) ^ p ≤ 4611686018427387904 := by
  have h1 : (2 : Nat) ^ p ≤ 2 ^ 62 := Nat.pow_le_pow_right (by omega) hp
  have h2 : (2 : Int) ^ p = ((2 ^ p : Nat) : Int) := by simp
  omega
theorem mb_nat {p : Nat} (hp : p ≤ 62) : mb (p : Int) = true := by
  unfold mb; rw [decide_eq_true (by omega), decide_eq_true (by omega)]; rfl
end Qn

set_option maxHeartbeats 1000000 in
theorem qmul_any (a b : Int) (p : Nat) (w : World) (ha0 : -9223372036854775808 ≤ a) (ha1 : a ≤ 9223372036854775807) (hb0 : -9223372036854775808 ≤ b) (hb1 : b ≤ 9223372036854775807) (hp : p ≤ 62) :
    Calls Tryd.prog 28 #[.int .i64 a, .int .i64 b, .int .i64 p] w fun e w' => e = .returned (.tuple #[.int .i64 (clamp (rne (a * b) (2 ^ p))), .bool (great (rne (a * b) (2 ^ p))), .nilIface]) ∧ Below w.heap.size w w' := by
  have hm := mb_nat hp
  have bd := mul64_bd ha0 ha1 hb0 hb1
  have HI : Hid (In3 (a * b) ∧ In3 (rne (a * b) (2 ^ p))) := by
    have := rne_bd (pow_pos2 p) (A := 85070591730234615865843651857942052864) bd.1 bd.2 (by omega)
    exact ⟨in3_of (by omega) (by omega), in3_of (by omega) (by omega)⟩
  clear bd
  go_enter Tryd.func28, Tryd.ntmps28
  go_wp2_with fail
  refine (mayBe_any _ _).mono ?_
  rintro e w' ⟨rfl, rfl⟩
  rw [hm]
  go_wp2_with fail
  refine (product_any a b _ ha0 ha1 hb0 hb1).mono ?_
  rintro e w1 ⟨rfl, k1⟩
  go_wp2_with fail
  refine (lowered_any (a * b) p _ hp HI.out.1).mono ?_
  rintro e w2 ⟨rfl, k2⟩
  go_wp2_with fail
  refine (bounded_any _ _ HI.out.2).mono ?_
  rintro e w3 ⟨rfl, k3⟩
  go_wp2
  go_ret3
  exact ⟨rfl, below_tr (below_tr k1 k2) k3⟩

namespace Qn
theorem ret_ibn {a b : Int} {c : Bool} (h : a = b) : Ending.returned (.tuple #[.int .i64 a, .bool c, .nilIface]) = .returned (.tuple #[.int .i64 b, .bool c, .nilIface]) := by rw [h]
/-- The sign comes last. -/
def signed (a b n : Int) : Int := if (decide (a < 0) != decide (b < 0)) = true then -n else n
theorem clamp_bd (n : Int) : -4611686018427387903 ≤ clamp n ∧ clamp n ≤ 4611686018427387903 := by unfold clamp; split <;> (try split) <;> omega
theorem abs_bd {a : Int} (h0 : -9223372036854775808 ≤ a) (h1 : a ≤ 9223372036854775807) : 0 ≤ (a.natAbs : Int) ∧ (a.natAbs : Int) ≤ 9223372036854775808 := by omega
end Qn

end Go.Proofs.YtefgkeeeanakeaaDoor
