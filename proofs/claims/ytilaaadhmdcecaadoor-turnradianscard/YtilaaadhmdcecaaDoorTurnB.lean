/-
  Radians of the package turn, and what must come whatever the input is.
-/
import Derived.Test.YtilaaadhmdcecaaDoorTurnA
set_option linter.unusedSimpArgs false
set_option linter.unusedVariables false
namespace Go.Proofs.YtilaaadhmdcecaaDoor
open Go.RowKit Tn
attribute [local go_sem ↓] Go.wp_at_zero Go.wp_at_succ

namespace Tn
theorem rne_bd (n d : Int) (hd : 0 < d) (hn : 0 ≤ n) : 0 ≤ rne n d ∧ rne n d ≤ n / d + 1 := by
  have := Int.ediv_nonneg hn (by omega : 0 ≤ d)
  unfold rne
  split <;> omega
/-- A direction in radians. -/
def rad (t : Int) (b : Nat) : Int := rne (t * 4294967296 * 7244019458077122842 / 18446744073709551616 * 18446744073709551616 + t * 4294967296 * 7244019458077122842 % 18446744073709551616) (18446744073709551616 * 2 ^ (60 - b))
theorem rad_bd (t : Int) (b : Nat) (h0 : 0 ≤ t) (h1 : t ≤ 4294967295) : 0 ≤ rad t b ∧ rad t b ≤ 9223372036854775807 := by
  have hp : (0 : Int) < 2 ^ (60 - b) := Int.pow_pos (by omega)
  have h2 := rne_bd (t * 4294967296 * 7244019458077122842 / 18446744073709551616 * 18446744073709551616 + t * 4294967296 * 7244019458077122842 % 18446744073709551616) (18446744073709551616 * 2 ^ (60 - b)) (by omega) (by omega)
  refine ⟨h2.1, Int.le_trans h2.2 ?_⟩
  have e : (t * 4294967296 * 7244019458077122842 / 18446744073709551616 * 18446744073709551616 + t * 4294967296 * 7244019458077122842 % 18446744073709551616) / (18446744073709551616 * 2 ^ (60 - b)) = (t * 4294967296 * 7244019458077122842 / 18446744073709551616 * 18446744073709551616 + t * 4294967296 * 7244019458077122842 % 18446744073709551616) / 18446744073709551616 / 2 ^ (60 - b) := by
    rw [Int.ediv_ediv, if_neg (fun h => absurd h.1 (by omega)), Int.sub_zero]
  rw [e]
  have h3 := Int.ediv_le_self (2 ^ (60 - b)) (show 0 ≤ (t * 4294967296 * 7244019458077122842 / 18446744073709551616 * 18446744073709551616 + t * 4294967296 * 7244019458077122842 % 18446744073709551616) / 18446744073709551616 by omega)
  omega
end Tn

set_option maxHeartbeats 1000000 in
theorem radians_any (t : Int) (b : Nat) (w : World) (h0 : 0 ≤ t) (h1 : t ≤ 4294967295) (hb : b ≤ 60) :
    Calls Tryd.prog 4 #[.int .u32 t, .int .i64 b] w fun e w' => e = .returned (.tuple #[.int .i64 (rad t b), .nilIface]) ∧ Below w.heap.size w w' := by
  have hbd := rad_bd t b h0 h1
  have hk : IntKind.i64.wrap (60 - (b : Int)) = ((60 - b : Nat) : Int) := by rw [IntKind.wrap_i64]; omega
  have hk2 : 60 - (b : Int) = ((60 - b : Nat) : Int) := by omega
  have hb0 : (0 : Int) ≤ (b : Int) := by omega
  have hb1 : (b : Int) ≤ 60 := by omega
  have hlow := tlowered_any (t * 4294967296 * 7244019458077122842 / 18446744073709551616) (t * 4294967296 * 7244019458077122842 % 18446744073709551616) (60 - b)
  obtain ⟨z, hz⟩ : ∃ z, z = rad t b := ⟨_, rfl⟩
  rw [← hz] at hbd ⊢
  have hzw : IntKind.i64.wrap z = z := by rw [IntKind.wrap_i64]; omega
  have Hz : Hid (z = rad t b) := hz
  clear hz
  go_enter Tryd.func4, Tryd.ntmps4
  go_wp2_with fail
  refine (radiansOf_any t _ h0 h1).mono ?_
  rintro e w1 ⟨rfl, k1⟩
  go_wp2_with fail
  try rw [hk2]
  refine (hlow _ (by omega) (by omega) (by omega) (by omega) (by omega)).mono ?_
  rintro e w2 ⟨rfl, k2⟩
  have hu : rne (t * 4294967296 * 7244019458077122842 / 18446744073709551616 * 18446744073709551616 + t * 4294967296 * 7244019458077122842 % 18446744073709551616) (18446744073709551616 * 2 ^ (60 - b)) = z := Hz.out.symm
  rw [hu]
  clear hu hlow
  go_wp2
  go_ret2
  exact ⟨rfl, below_tr k1 k2⟩

set_option maxHeartbeats 1000000 in
theorem radians_err (t b : Int) (w : World) (hb : b < 0 ∨ 60 < b) :
    Calls Tryd.prog 4 #[.int .u32 t, .int .i64 b] w fun e w' => e = .returned (.tuple #[.int .i64 0, .iface 38 (.int .i64 1)]) ∧ Below w.heap.size w w' := by
  rcases hb with h | h
  · go_enter Tryd.func4, Tryd.ntmps4
    go_wp2
    go_ret2
    exact ⟨rfl, Below.refl _ _⟩
  · go_enter Tryd.func4, Tryd.ntmps4
    go_wp2
    go_ret2
    exact ⟨rfl, Below.refl _ _⟩

set_option maxHeartbeats 1000000 in
/-- What must come whatever the input is. -/
theorem tsure_any (w : World) :
    Calls Tryd.prog 6 #[] w fun e w' => e = .returned (.bool true) ∧ Below w.heap.size w w' := by
  have c1 : rad 2147483648 30 = 3373259426 := by decide
  have c2 : sh (0 - 4294967295) = 1 := by decide
  have c3 : decide (md (5 - 3) ≤ md (9 - 3)) = true := by decide
  have c4 : md (2 + md (6 - 2) / 2) = 4 := by decide
  go_enter Tryd.func6, Tryd.ntmps6
  go_wp2_with fail
  refine (radians_any 2147483648 30 _ (by omega) (by omega) (by omega)).mono ?_
  rintro e w1 ⟨rfl, k1⟩
  rw [c1]
  go_wp2_with fail
  refine (tof_any 16384 _ (by omega) (by omega)).mono ?_
  rintro e w2 ⟨rfl, rfl⟩
  go_wp2_with fail
  refine (tfrom_any 0 4294967295 _ (by omega) (by omega) (by omega) (by omega)).mono ?_
  rintro e w2 ⟨rfl, rfl⟩
  rw [c2]
  go_wp2_with fail
  refine (tbetween_any 5 3 9 _ (by omega) (by omega) (by omega) (by omega) (by omega) (by omega)).mono ?_
  rintro e w2 ⟨rfl, rfl⟩
  rw [c3]
  go_wp2_with fail
  refine (tmiddle_any 2 6 _ (by omega) (by omega) (by omega) (by omega)).mono ?_
  rintro e w2 ⟨rfl, rfl⟩
  rw [c4]
  go_wp2
  go_ret
  exact ⟨rfl, k1⟩

end Go.Proofs.YtilaaadhmdcecaaDoor
