/-
  What must come whatever the input is (sure of the laws of layer 5).
-/
import Derived.Test.YtmijmfdamommaaaDoorTgG
import Derived.Test.YtmijmfdamommaaaDoorTgR
set_option linter.unusedSimpArgs false
set_option linter.unusedVariables false
namespace Go.Proofs.YtmijmfdamommaaaDoor
open Go.RowKit Tg
attribute [local go_sem ↓] Go.wp_at_zero Go.wp_at_succ

namespace Tg
theorem s0 : sine 0 = 0 := by decide +kernel
theorem c0 : cosine 0 = 1073741824 := by decide +kernel
theorem p1 : Qn.clamp (Qn.rne (1000 * sine 2147483648) (2 ^ 30)) = 0 := by decide +kernel
theorem p2 : Qn.clamp (Qn.rne (1000 * cosine 2147483648) (2 ^ 30)) = -1000 := by decide +kernel
theorem ax : axis 1000 0 = 1073741824 := by decide +kernel
theorem root25 {r : Int} (h : Qn.IsRoot (3 * 3 + -4 * -4) r) : r = 5 := by
  obtain ⟨h1, h2, h3, h4⟩ := h
  have l1 : r ≤ 5 := by
    rcases Int.lt_or_le 5 r with k | k
    · have : 6 * 6 ≤ r * r := Int.mul_le_mul (by omega) (by omega) (by omega) (by omega)
      omega
    · exact k
  have l2 : 5 ≤ r := by
    rcases Int.lt_or_le r 5 with k | k
    · have : (r + 1) * (r + 1) ≤ 5 * 5 := Int.mul_le_mul (by omega) (by omega) (by omega) (by omega)
      omega
    · exact k
  omega
end Tg

set_option maxHeartbeats 1000000 in
theorem gsure_any (w : World) (hT : AngTab w) :
    Calls Tryd.prog 12 #[] w fun e w' => e = .returned (.bool true) ∧ Below w.heap.size w w' := by
  have HB := hide (fun W (hW : AngTab W) => both_any 0 W hW (by omega) (by omega))
  rw [s0, c0] at HB
  have HA : Hid (∀ W, AngTab W → Calls Tryd.prog 14 #[.int .i64 1000, .int .i64 0] W fun e w' => e = .returned (.tuple #[.int .u32 1073741824, .nilIface]) ∧ Below W.heap.size W w') := by
    refine hide fun W hW => ?_
    have e1 : axis ((1000 : Int).natAbs : Int) ((0 : Int).natAbs : Int) = 1073741824 := ax
    have := angle_any 1000 0 W hW (by omega) (by omega) (by omega) (by omega) (by omega) (by rw [e1]; omega) (by rw [e1]; omega)
    rw [e1] at this
    exact this
  have HF : Hid (∀ W, Calls Tryd.prog 15 #[.int .i64 3, .int .i64 (-4)] W fun e w' => e = .returned (.tuple #[.int .i64 5, .nilIface]) ∧ Below W.heap.size W w') := by
    refine hide fun W => ?_
    refine (far_any 3 (-4) W (by omega) (by omega) (by omega) (by omega)).mono ?_
    rintro e w' ⟨r, rfl, hr, k⟩
    have := root25 hr
    subst this
    exact ⟨rfl, k⟩
  have HP := hide (fun W (hW : AngTab W) => place_any 2147483648 1000 W hW (by omega) (by omega) (by omega) (by omega))
  rw [p1, p2] at HP
  go_enter Tryd.func12, Tryd.ntmps12
  go_wp2_with fail
  refine (HB.out _ hT).mono ?_
  rintro e w1 ⟨rfl, k1⟩
  have t1 := hT.below k1
  go_wp2_with fail
  refine (HA.out _ t1).mono ?_
  rintro e w2 ⟨rfl, k2⟩
  have t2 := t1.below k2
  go_wp2_with fail
  refine (HF.out _).mono ?_
  rintro e w3 ⟨rfl, k3⟩
  have t3 := t2.below k3
  go_wp2_with fail
  refine (HP.out _ t3).mono ?_
  rintro e w4 ⟨rfl, k4⟩
  go_wp2
  go_ret
  exact ⟨rfl, below_tr (below_tr (below_tr k1 k2) k3) k4⟩

namespace Tg
theorem rne_same (n d : Int) : Tn.rne n d = Qn.rne n d := rfl
theorem bnd_same (n : Int) : Dec.bnd n = Qn.clamp n := rfl
theorem rr_rd (n : Int) : rr n = rd n := rfl
theorem rsine_eq (t : Int) : rsine t = sine t := rfl
theorem rcosine_eq (t : Int) : rcosine t = cosine t := rfl
end Tg

end Go.Proofs.YtmijmfdamommaaaDoor
