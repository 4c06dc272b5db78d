/-
  The walk of the law QnumNear, where neither number is too great.
-/
import Derived.Test.YtddcipiojimgiaaNearW
set_option linter.unusedSimpArgs false
set_option linter.unusedVariables false
namespace Go.Proofs.Ytddcipiojimgiaa
open Go.RowKit Qn

theorem mul_is {a b c : Int} {g : Bool} {p : Nat} (ha : great a = false) (hb0 : -9223372036854775808 ≤ b) (hb1 : b ≤ 9223372036854775807) (hp : p ≤ 62) (h1 : clamp (rne (a * b) (2 ^ p)) = c) (h2 : great (rne (a * b) (2 ^ p)) = g) (w : World) :
    Calls Try.prog 13 #[.int .i64 a, .int .i64 b, .int .i64 p] w fun e w' => e = .returned (.tuple #[.int .i64 c, .bool g, .nilIface]) ∧ Below w.heap.size w w' := by
  subst h1 h2
  have := great_iff.1 ha
  exact qmul_any a b p w (by omega) (by omega) hb0 hb1 hp

theorem div_is {a D : Int} {p : Nat} (ha : great a = false) (hp : p ≤ 62) (hD : (2 : Int) ^ p = D) (w : World) :
    Calls Try.prog 14 #[.int .i64 a, .int .i64 D, .int .i64 p] w fun e w' => e = .returned (.tuple #[.int .i64 a, .bool false, .nilIface]) ∧ Below w.heap.size w w' := by
  have hD0 : 0 < D := by rw [← hD]; exact pow_pos2 p
  have hD1 : D ≤ 4611686018427387904 := by rw [← hD]; exact pow_le62 hp
  have ga := great_iff.1 ha
  have e0 : (D.natAbs : Int) = D := by omega
  have e1 : great (a.natAbs : Int) = false := great_iff.2 (by omega)
  have h := qdiv_any a D p w (by omega) (by omega) (by omega) (by omega) (by omega) hp
  rw [hD, e0, rne_mul _ _ hD0, clamp_in e1, e1] at h
  have e2 : signed a D (a.natAbs : Int) = a := by
    unfold signed
    by_cases s : a < 0
    · rw [decide_eq_true s, decide_eq_false (show ¬ D < 0 by omega), if_pos (by decide)]; omega
    · rw [decide_eq_false s, decide_eq_false (show ¬ D < 0 by omega), if_neg (by decide)]; omega
  rw [e2] at h
  exact h

theorem add_is {a b c : Int} {g : Bool} (ha : great a = false) (hb : great b = false) (h1 : clamp (a + b) = c) (h2 : great (a + b) = g) (w : World) :
    Calls Try.prog 5 #[.int .i64 a, .int .i64 b] w fun e w' => e = .returned (.tuple #[.int .i64 c, .bool g]) ∧ Below w.heap.size w w' := by
  subst h1 h2
  have := great_iff.1 ha
  have := great_iff.1 hb
  exact qadd_any a b w (by omega) (by omega) (by omega) (by omega)

theorem sub_is {a b : Int} (ha : great a = false) (hb : great b = false) (hab : great (a + b) = false) (w : World) :
    Calls Try.prog 6 #[.int .i64 (a + b), .int .i64 b] w fun e w' => e = .returned (.tuple #[.int .i64 a, .bool false]) ∧ Below w.heap.size w w' := by
  have h1 := great_iff.1 hb
  have h2 := great_iff.1 hab
  have h := qsub_any (a + b) b w (by omega) (by omega) (by omega) (by omega)
  rw [show a + b - b = a by omega, clamp_in ha, ha] at h
  exact h

theorem move_up {a D c : Int} {g : Bool} {p : Nat} (ha : great a = false) (hp : p ≤ 62) (hD : (2 : Int) ^ p = D) (h1 : clamp (a * D) = c) (h2 : great (a * D) = g) (w : World) :
    Calls Try.prog 15 #[.int .i64 a, .int .i64 0, .int .i64 p] w fun e w' => e = .returned (.tuple #[.int .i64 c, .bool g, .nilIface]) ∧ Below w.heap.size w w' := by
  subst h1 h2
  have h3 := great_iff.1 ha
  have h := qmove_any a 0 p w (by omega) (by omega) (by omega) hp
  rw [Nat.sub_zero, Nat.zero_sub, Int.pow_zero, rne_one, hD] at h
  exact h

theorem move_down {a D : Int} {p : Nat} (ha : great a = false) (hp : p ≤ 62) (hD : (2 : Int) ^ p = D) (h2 : great (a * D) = false) (w : World) :
    Calls Try.prog 15 #[.int .i64 (a * D), .int .i64 p, .int .i64 0] w fun e w' => e = .returned (.tuple #[.int .i64 a, .bool false, .nilIface]) ∧ Below w.heap.size w w' := by
  have h3 := great_iff.1 h2
  have h := qmove_any (a * D) p 0 w (by omega) (by omega) hp (by omega)
  rw [Nat.sub_zero, Nat.zero_sub, Int.pow_zero, Int.mul_one, hD, rne_mul _ _ (by rw [← hD]; exact pow_pos2 p), clamp_in ha, ha] at h
  exact h

set_option maxRecDepth 10000 in
set_option maxHeartbeats 4000000 in
theorem near_in (a b c : Int) (p : Nat) (w : World) (hp : p ≤ 60) (hn : (IntKind.u64.wrap c).tmod 61 = (p : Int)) (ha : great a = false) (hb : great b = false) :
    Calls Try.prog 4 #[.int .i64 a, .int .i64 b, .int .i64 c] w fun e w' => e = .returned (.bool true) ∧ Below w.heap.size w w' := by
  have hp0 : (0 : Int) ≤ (p : Int) := by omega
  have hp1 : (p : Int) ≤ 60 := by omega
  obtain ⟨D, hD⟩ : ∃ D, (2 : Int) ^ p = D := ⟨_, rfl⟩
  have hD0 : 0 < D := by rw [← hD]; exact pow_pos2 p
  have hD1 : D ≤ 4611686018427387904 := by rw [← hD]; exact pow_le62 (by omega)
  have A := great_iff.1 ha
  have B := great_iff.1 hb
  have GA : Hid (great a = false) := ha
  have GB : Hid (great b = false) := hb
  have GN : Hid (great (-a) = false) := by unfold Hid; rw [great_neg]; exact ha
  have HD : Hid ((2 : Int) ^ p = D) := hD
  clear ha hb
  have m1 : Hid (clamp (rne (a * D) (2 ^ p)) = a ∧ great (rne (a * D) (2 ^ p)) = false) := by
    unfold Hid; rw [hD, rne_mul _ _ hD0]; exact ⟨clamp_in GA.out, GA.out⟩
  obtain ⟨M, hM⟩ : ∃ M, clamp (rne (a * b) (2 ^ p)) = M := ⟨_, rfl⟩
  obtain ⟨T, hT⟩ : ∃ T, great (rne (a * b) (2 ^ p)) = T := ⟨_, rfl⟩
  have mb := clamp_bd (rne (a * b) (2 ^ p))
  rw [hM] at mb
  have m2 : Hid (clamp (rne (a * b) (2 ^ p)) = M ∧ great (rne (a * b) (2 ^ p)) = T) := ⟨hM, hT⟩
  have m3 : Hid (clamp (rne (b * a) (2 ^ p)) = M ∧ great (rne (b * a) (2 ^ p)) = T) := by unfold Hid; rw [Int.mul_comm b a]; exact ⟨hM, hT⟩
  have m4 : Hid (clamp (rne (-a * b) (2 ^ p)) = -M ∧ great (rne (-a * b) (2 ^ p)) = T) := by
    unfold Hid; rw [Int.neg_mul, rne_neg _ _ (pow_pos2 p), clamp_neg, great_neg, hM, hT]; exact ⟨rfl, rfl⟩
  clear hM hT
  go_enter Try.func4, Try.ntmps4
  go_wp2_with fail
  refine (clamp_is (clamp_in GA.out) GA.out _).mono ?_
  rintro e w' ⟨rfl, rfl⟩
  go_wp2_with fail
  refine (clamp_is (clamp_in GB.out) GB.out _).mono ?_
  rintro e w' ⟨rfl, rfl⟩
  go_wp2_with fail
  refine (mul_is GA.out (by omega) (by omega) (by omega) m1.out.1 m1.out.2 _).mono ?_
  rintro e w1 ⟨rfl, k1⟩
  go_wp2_with fail
  refine (div_is GA.out (by omega) HD.out _).mono ?_
  rintro e w2 ⟨rfl, k2⟩
  go_wp2_with fail
  by_cases hs : great (a + b) = true
  · refine (add_is GA.out GB.out rfl hs _).mono ?_
    rintro e w3 ⟨rfl, k3⟩
    go_wp2_with fail
    refine (mul_is GA.out (by omega) (by omega) (by omega) m2.out.1 m2.out.2 _).mono ?_
    rintro e w4 ⟨rfl, k4⟩
    go_wp2_with fail
    refine (mul_is GB.out (by omega) (by omega) (by omega) m3.out.1 m3.out.2 _).mono ?_
    rintro e w5 ⟨rfl, k5⟩
    go_wp2_with fail
    refine (mul_is GN.out (by omega) (by omega) (by omega) m4.out.1 m4.out.2 _).mono ?_
    rintro e w6 ⟨rfl, k6⟩
    go_wp2_with fail
    by_cases hu : great (a * D) = true
    · refine (move_up GA.out (by omega) HD.out rfl hu _).mono ?_
      rintro e w7 ⟨rfl, k7⟩
      go_wp2_with fail
      refine (sure_any _).mono ?_
      rintro e w8 ⟨rfl, k8⟩
      go_wp2
      go_ret
      exact ⟨rfl, below_tr (below_tr (below_tr (below_tr (below_tr (below_tr (below_tr k1 k2) k3) k4) k5) k6) k7) k8⟩
    · have hu' : great (a * D) = false := by simpa using hu
      refine (move_up GA.out (by omega) HD.out (clamp_in hu') hu' _).mono ?_
      rintro e w7 ⟨rfl, k7⟩
      go_wp2_with fail
      refine (move_down GA.out (by omega) HD.out hu' _).mono ?_
      rintro e w8 ⟨rfl, k8⟩
      go_wp2_with fail
      refine (sure_any _).mono ?_
      rintro e w9 ⟨rfl, k9⟩
      go_wp2
      go_ret
      exact ⟨rfl, below_tr (below_tr (below_tr (below_tr (below_tr (below_tr (below_tr (below_tr k1 k2) k3) k4) k5) k6) k7) k8) k9⟩
  · have hs' : great (a + b) = false := by simpa using hs
    refine (add_is GA.out GB.out (clamp_in hs') hs' _).mono ?_
    rintro e w3 ⟨rfl, k3⟩
    go_wp2_with fail
    refine (sub_is GA.out GB.out hs' _).mono ?_
    rintro e w3 ⟨rfl, k3b⟩
    go_wp2_with fail
    refine (mul_is GA.out (by omega) (by omega) (by omega) m2.out.1 m2.out.2 _).mono ?_
    rintro e w4 ⟨rfl, k4⟩
    go_wp2_with fail
    refine (mul_is GB.out (by omega) (by omega) (by omega) m3.out.1 m3.out.2 _).mono ?_
    rintro e w5 ⟨rfl, k5⟩
    go_wp2_with fail
    refine (mul_is GN.out (by omega) (by omega) (by omega) m4.out.1 m4.out.2 _).mono ?_
    rintro e w6 ⟨rfl, k6⟩
    go_wp2_with fail
    by_cases hu : great (a * D) = true
    · refine (move_up GA.out (by omega) HD.out rfl hu _).mono ?_
      rintro e w7 ⟨rfl, k7⟩
      go_wp2_with fail
      refine (sure_any _).mono ?_
      rintro e w8 ⟨rfl, k8⟩
      go_wp2
      go_ret
      exact ⟨rfl, below_tr (below_tr (below_tr (below_tr (below_tr (below_tr (below_tr (below_tr k1 k2) k3) k3b) k4) k5) k6) k7) k8⟩
    · have hu' : great (a * D) = false := by simpa using hu
      refine (move_up GA.out (by omega) HD.out (clamp_in hu') hu' _).mono ?_
      rintro e w7 ⟨rfl, k7⟩
      go_wp2_with fail
      refine (move_down GA.out (by omega) HD.out hu' _).mono ?_
      rintro e w8 ⟨rfl, k8⟩
      go_wp2_with fail
      refine (sure_any _).mono ?_
      rintro e w9 ⟨rfl, k9⟩
      go_wp2
      go_ret
      exact ⟨rfl, below_tr (below_tr (below_tr (below_tr (below_tr (below_tr (below_tr (below_tr (below_tr k1 k2) k3) k3b) k4) k5) k6) k7) k8) k9⟩

end Go.Proofs.Ytddcipiojimgiaa
