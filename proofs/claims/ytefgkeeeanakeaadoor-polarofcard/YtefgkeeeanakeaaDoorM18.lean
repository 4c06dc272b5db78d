/-
  What must come whatever the input is (sure of the laws of layer 5).
-/
import Derived.Test.YtefgkeeeanakeaaDoorM12
import Derived.Test.YtefgkeeeanakeaaDoorM17
import Derived.Test.YtefgkeeeanakeaaDoorM6
set_option linter.unusedSimpArgs false
set_option linter.unusedVariables false
namespace Go.Proofs.YtefgkeeeanakeaaDoor
open Go.RowKit Tg
attribute [local go_sem ↓] Go.wp_at_zero Go.wp_at_succ

namespace Tg
theorem s0 : sine 0 = 0 := by decide +kernel
theorem c0 : cosine 0 = 1073741824 := by decide +kernel
theorem p1 : Qn.clamp (Qn.rne (1000 * sine 2147483648) (2 ^ 30)) = 0 := by decide +kernel
theorem p2 : Qn.clamp (Qn.rne (1000 * cosine 2147483648) (2 ^ 30)) = -1000 := by decide +kernel
theorem ax : axis 1000 0 = 1073741824 := by decide +kernel
theorem root25 {r : Int} (h : Qn.IsRoot (3 * 3 + -4 * -4) r) : r = 5 := by
  obtain ⟨h1, h2, h3, h4⟩ := h
  have l1 : r ≤ 5 := by
    rcases Int.lt_or_le 5 r with k | k
    · have : 6 * 6 ≤ r * r := Int.mul_le_mul (by omega) (by omega) (by omega) (by omega)
      omega
    · exact k
  have l2 : 5 ≤ r := by
    rcases Int.lt_or_le r 5 with k | k
    · have : (r + 1) * (r + 1) ≤ 5 * 5 := Int.mul_le_mul (by omega) (by omega) (by omega) (by omega)
      omega
    · exact k
  omega
end Tg

namespace Tg
theorem rne_same (n d : Int) : Tn.rne n d = Qn.rne n d := rfl
theorem bnd_same (n : Int) : Dec.bnd n = Qn.clamp n := rfl
theorem rr_rd (n : Int) : rr n = rd n := rfl
theorem rsine_eq (t : Int) : rsine t = sine t := rfl
theorem rcosine_eq (t : Int) : rcosine t = cosine t := rfl
end Tg

end Go.Proofs.YtefgkeeeanakeaaDoor

/-
  Place of the document's answer of layer 5 (radomeref05).
-/
set_option linter.unusedSimpArgs false
set_option linter.unusedVariables false
namespace Go.Proofs.YtefgkeeeanakeaaDoor
open Go.RowKit Tg
attribute [local go_sem ↓] Go.wp_at_zero Go.wp_at_succ

set_option maxHeartbeats 1000000 in
theorem rplace_any (t far : Int) (w : World) (h0 : 0 ≤ t) (h1 : t ≤ 4294967295) (hf0 : 0 ≤ far) (hf1 : far ≤ 4611686018427387903) :
    Calls Tryd.prog 20 #[.int .i64 t, .int .i64 far] w fun e w' => e = .returned (.tuple #[.int .i64 (Qn.clamp (Qn.rne (far * sine t) (2 ^ 30))), .int .i64 (Qn.clamp (Qn.rne (far * cosine t) (2 ^ 30)))]) ∧ Below w.heap.size w w' := by
  have HB := hide (rboth_any t w h0 h1)
  rw [rsine_eq, rcosine_eq] at HB
  have hs := sine_bd t
  have hc := cosine_bd t
  obtain ⟨s, es⟩ : ∃ s, s = sine t := ⟨_, rfl⟩
  obtain ⟨c, ec⟩ : ∃ c, c = cosine t := ⟨_, rfl⟩
  rw [← es] at hs HB ⊢
  rw [← ec] at hc HB ⊢
  clear es ec
  have HD : Hid (∀ (n : Int) (a b : Nat) (W : World), -9223372036854775808 ≤ n → n ≤ 9223372036854775807 → W.cell? ⟨a, 0, none⟩ = some (.int .i64 far) → W.cell? ⟨b, 0, none⟩ = some (.int .i64 n) →
      Calls Tryd.prog 23 #[.slice (some ⟨a, 0, none⟩) 1 1, .slice (some ⟨b, 0, none⟩) 1 1, .int .i64 30] W fun e w' => e = .returned (.tuple #[.int .i64 (Qn.clamp (Qn.rne (far * n) (2 ^ 30))), .bool (Qn.great (Qn.rne (far * n) (2 ^ 30)))]) ∧ Below W.heap.size W w') := by
    refine hide fun n a b W n0 n1 ca cb => ?_
    have := ldot_any (some ⟨a, 0, none⟩) (some ⟨b, 0, none⟩) ⟨a, 0, none⟩ ⟨b, 0, none⟩ 1 1 1 (fun _ => far) (fun _ => n) 30 W (by omega) (fun _ => rfl) (fun _ => rfl)
      (fun k hk => by obtain rfl : k = 0 := by omega
                      exact ca) (fun k hk => by obtain rfl : k = 0 := by omega
                                                exact cb) (fun _ => by omega) (fun _ => by omega) (by omega)
    have e1 : Dt.dk (fun _ => far) (fun _ => n) 1 = far * n := by show 0 + far * n = _; omega
    rw [e1] at this
    exact this
  go_enter Tryd.func20, Tryd.ntmps20
  go_wp2_with fail
  refine HB.out.mono ?_
  rintro e w1 ⟨rfl, k1⟩
  go_wp2_with fail
  refine (HD.out s _ _ _ (by omega) (by omega) (by simp) (by simp)).mono ?_
  rintro e w2 ⟨rfl, k2⟩
  go_wp2_with fail
  refine (HD.out c _ _ _ (by omega) (by omega) (by simp) (by simp)).mono ?_
  rintro e w3 ⟨rfl, k3⟩
  go_wp2
  go_ret2
  exact ⟨rfl, below_tr (below_al (below_al (below_tr (below_al (below_al k1 _) _) k2) _) _) k3⟩

end Go.Proofs.YtefgkeeeanakeaaDoor
