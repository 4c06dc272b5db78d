/-
  Move of package qnum; and what the laws of layer 3 ask first of all (sure).
-/
import Derived.Test.YtolpjbhbhlcamaaDoorQI
set_option linter.unusedSimpArgs false
set_option linter.unusedVariables false
namespace Go.Proofs.YtolpjbhbhlcamaaDoor
open Go.RowKit Qn

namespace Qn
theorem root_two {r : Int} (h : IsRoot (2 * 2 ^ 2) r) : r = 2 := by
  obtain ⟨h1, h2, h3, h4⟩ := h
  have e : (2 : Int) * 2 ^ 2 = 8 := by decide
  rw [e] at h3 h4
  have l1 : r ≤ 2 := by
    rcases Int.lt_or_le 2 r with k | k
    · have : 3 * 3 ≤ r * r := Int.mul_le_mul (by omega) (by omega) (by omega) (by omega)
      omega
    · exact k
  have l2 : 2 ≤ r := by
    rcases Int.lt_or_le r 2 with k | k
    · have : (r + 1) * (r + 1) ≤ 2 * 2 := Int.mul_le_mul (by omega) (by omega) (by omega) (by omega)
      omega
    · exact k
  omega
end Qn

set_option maxHeartbeats 2000000 in
theorem sure_any (w : World) :
    Calls Tryd.prog 7 #[] w fun e w' => e = .returned (.bool true) ∧ Below w.heap.size w w' := by
  have M : Hid (∀ wx, Calls Tryd.prog 9 #[.int .i64 3, .int .i64 1, .int .i64 1] wx fun e w' => e = .returned (.tuple #[.int .i64 2, .bool false, .nilIface]) ∧ Below wx.heap.size wx w') := fun wx => by
    refine (qmul_any 3 1 1 wx (by omega) (by omega) (by omega) (by omega) (by omega)).mono ?_
    rintro e w' ⟨rfl, k⟩
    rw [show clamp (rne (3 * 1) (2 ^ 1)) = 2 by decide, show great (rne (3 * 1) (2 ^ 1)) = false by decide]
    exact ⟨rfl, k⟩
  have D : Hid (∀ wx, Calls Tryd.prog 15 #[.int .i64 1, .int .i64 2, .int .i64 0] wx fun e w' => e = .returned (.tuple #[.int .i64 0, .bool false, .nilIface]) ∧ Below wx.heap.size wx w') := fun wx => by
    refine (qdiv_any 1 2 0 wx (by omega) (by omega) (by omega) (by omega) (by omega) (by omega)).mono ?_
    rintro e w' ⟨rfl, k⟩
    rw [show signed 1 2 (clamp (rne (((1 : Int).natAbs : Int) * 2 ^ 0) ((2 : Int).natAbs : Int))) = 0 by decide, show great (rne (((1 : Int).natAbs : Int) * 2 ^ 0) ((2 : Int).natAbs : Int)) = false by decide]
    exact ⟨rfl, k⟩
  have R : Hid (∀ wx, Calls Tryd.prog 16 #[.int .i64 2, .int .i64 2] wx fun e w' => e = .returned (.tuple #[.int .i64 2, .nilIface]) ∧ Below wx.heap.size wx w') := fun wx => by
    refine (qroot_any 2 2 wx (by omega) (by omega) (by omega)).mono ?_
    rintro e w' ⟨r, rfl, h, k⟩
    have hr := root_two h
    subst hr
    exact ⟨rfl, k⟩
  have A : Hid (∀ wx, Calls Tryd.prog 17 #[.int .i64 4611686018427387903, .int .i64 1] wx fun e w' => e = .returned (.tuple #[.int .i64 4611686018427387903, .bool true]) ∧ Below wx.heap.size wx w') := fun wx => by
    refine (qadd_any 4611686018427387903 1 wx (by omega) (by omega) (by omega) (by omega)).mono ?_
    rintro e w' ⟨rfl, k⟩
    rw [show clamp (4611686018427387903 + 1) = 4611686018427387903 by decide, show great (4611686018427387903 + 1) = true by decide]
    exact ⟨rfl, k⟩
  go_enter Tryd.func7, Tryd.ntmps7
  go_wp2_with fail
  refine (M.out _).mono ?_
  rintro e w1 ⟨rfl, k1⟩
  go_wp2_with fail
  refine (D.out _).mono ?_
  rintro e w2 ⟨rfl, k2⟩
  go_wp2_with fail
  refine (R.out _).mono ?_
  rintro e w3 ⟨rfl, k3⟩
  go_wp2_with fail
  refine (A.out _).mono ?_
  rintro e w4 ⟨rfl, k4⟩
  go_wp2
  go_ret
  exact ⟨rfl, below_tr (below_tr (below_tr k1 k2) k3) k4⟩

end Go.Proofs.YtolpjbhbhlcamaaDoor
