/-
  Add, Sub, Mul, Div, Move and Root of package qnum: exactly, then rounded, then bounded.
-/
import Derived.Test.YtfgjigkgfflofaaDoorRQH
set_option linter.unusedSimpArgs false
set_option linter.unusedVariables false
namespace Go.Proofs.YtfgjigkgfflofaaDoorR
open Go.RowKit Qn
attribute [local go_sem ↓] Go.wp_at_zero Go.wp_at_succ

namespace Qn
theorem in3_of {n : Int} (h0 : -1361129467683753853853498429727072845824 ≤ n) (h1 : n ≤ 1361129467683753853853498429727072845824) : In3 n := by unfold In3; omega
theorem rne_bd {n d : Int} (hd : 0 < d) {A : Int} (h0 : -A ≤ n) (h1 : n ≤ A) (hA : 0 ≤ A) : -A ≤ rne n d ∧ rne n d ≤ A + 1 := by
  have e0 : -A ≤ n / d := by
    refine Int.le_ediv_of_mul_le hd ?_
    have : A * 1 ≤ A * d := Int.mul_le_mul_of_nonneg_left (by omega) hA
    rw [Int.neg_mul]
    omega
  have e1 : n / d ≤ A := by
    have : n / d < A + 1 := Int.ediv_lt_of_lt_mul hd (by
      have : (A + 1) * 1 ≤ (A + 1) * d := Int.mul_le_mul_of_nonneg_left (by omega) (by omega)
      omega)
    omega
  unfold rne
  split <;> omega
theorem pow_pos2 (p : Nat) : (0 : Int) < 2 ^ p := Int.pow_pos (by omega)
theorem pow_le62 {p : Nat} (hp : p ≤ 62) : (2 : Int) ^ p ≤ 4611686018427387904 := by
  have h1 : (2 : Nat) ^ p ≤ 2 ^ 62 := Nat.pow_le_pow_right (by omega) hp
  have h2 : (2 : Int) ^ p = ((2 ^ p : Nat) : Int) := by simp
  omega
theorem mb_nat {p : Nat} (hp : p ≤ 62) : mb (p : Int) = true := by
  unfold mb; rw [decide_eq_true (by omega), decide_eq_true (by omega)]; rfl
end Qn

set_option maxHeartbeats 1000000 in
theorem qadd_any (a b : Int) (w : World) (ha0 : -9223372036854775808 ≤ a) (ha1 : a ≤ 9223372036854775807) (hb0 : -9223372036854775808 ≤ b) (hb1 : b ≤ 9223372036854775807) :
    Calls Tryd.prog 20 #[.int .i64 a, .int .i64 b] w fun e w' => e = .returned (.tuple #[.int .i64 (clamp (a + b)), .bool (great (a + b))]) ∧ Below w.heap.size w w' := by
  go_enter Tryd.func20, Tryd.ntmps20
  go_wp2_with fail
  refine (qof_any a _ ha0 ha1).mono ?_
  rintro e w1 ⟨rfl, k1⟩
  go_wp2_with fail
  refine (qplus_any a b 1 _ hb0 hb1 (by omega) (by omega)).mono ?_
  rintro e w2 ⟨rfl, k2⟩
  rw [Int.mul_one]
  go_wp2_with fail
  refine (bounded_any (a + b) _ (in3_of (by omega) (by omega))).mono ?_
  rintro e w3 ⟨rfl, k3⟩
  go_wp2
  go_ret2
  exact ⟨rfl, below_tr (below_tr k1 k2) k3⟩

set_option maxHeartbeats 1000000 in
theorem qsub_any (a b : Int) (w : World) (ha0 : -9223372036854775808 ≤ a) (ha1 : a ≤ 9223372036854775807) (hb0 : -9223372036854775808 ≤ b) (hb1 : b ≤ 9223372036854775807) :
    Calls Tryd.prog 35 #[.int .i64 a, .int .i64 b] w fun e w' => e = .returned (.tuple #[.int .i64 (clamp (a - b)), .bool (great (a - b))]) ∧ Below w.heap.size w w' := by
  have hm : a + b * (-1) = a - b := by omega
  go_enter Tryd.func35, Tryd.ntmps35
  go_wp2_with fail
  refine (qof_any a _ ha0 ha1).mono ?_
  rintro e w1 ⟨rfl, k1⟩
  go_wp2_with fail
  refine (qplus_any a b (-1) _ hb0 hb1 (by omega) (by omega)).mono ?_
  rintro e w2 ⟨rfl, k2⟩
  rw [hm]
  go_wp2_with fail
  refine (bounded_any (a - b) _ (in3_of (by omega) (by omega))).mono ?_
  rintro e w3 ⟨rfl, k3⟩
  go_wp2
  go_ret2
  exact ⟨rfl, below_tr (below_tr k1 k2) k3⟩

set_option maxHeartbeats 1000000 in
theorem qmul_any (a b : Int) (p : Nat) (w : World) (ha0 : -9223372036854775808 ≤ a) (ha1 : a ≤ 9223372036854775807) (hb0 : -9223372036854775808 ≤ b) (hb1 : b ≤ 9223372036854775807) (hp : p ≤ 62) :
    Calls Tryd.prog 18 #[.int .i64 a, .int .i64 b, .int .i64 p] w fun e w' => e = .returned (.tuple #[.int .i64 (clamp (rne (a * b) (2 ^ p))), .bool (great (rne (a * b) (2 ^ p))), .nilIface]) ∧ Below w.heap.size w w' := by
  have hm := mb_nat hp
  have bd := mul64_bd ha0 ha1 hb0 hb1
  have HI : Hid (In3 (a * b) ∧ In3 (rne (a * b) (2 ^ p))) := by
    have := rne_bd (pow_pos2 p) (A := 85070591730234615865843651857942052864) bd.1 bd.2 (by omega)
    exact ⟨in3_of (by omega) (by omega), in3_of (by omega) (by omega)⟩
  clear bd
  go_enter Tryd.func18, Tryd.ntmps18
  go_wp2_with fail
  refine (mayBe_any _ _).mono ?_
  rintro e w' ⟨rfl, rfl⟩
  rw [hm]
  go_wp2_with fail
  refine (product_any a b _ ha0 ha1 hb0 hb1).mono ?_
  rintro e w1 ⟨rfl, k1⟩
  go_wp2_with fail
  refine (lowered_any (a * b) p _ hp HI.out.1).mono ?_
  rintro e w2 ⟨rfl, k2⟩
  go_wp2_with fail
  refine (bounded_any _ _ HI.out.2).mono ?_
  rintro e w3 ⟨rfl, k3⟩
  go_wp2
  go_ret3
  exact ⟨rfl, below_tr (below_tr k1 k2) k3⟩

namespace Qn
theorem ret_ibn {a b : Int} {c : Bool} (h : a = b) : Ending.returned (.tuple #[.int .i64 a, .bool c, .nilIface]) = .returned (.tuple #[.int .i64 b, .bool c, .nilIface]) := by rw [h]
/-- The sign comes last. -/
def signed (a b n : Int) : Int := if (decide (a < 0) != decide (b < 0)) = true then -n else n
theorem clamp_bd (n : Int) : -4611686018427387903 ≤ clamp n ∧ clamp n ≤ 4611686018427387903 := by unfold clamp; split <;> (try split) <;> omega
theorem abs_bd {a : Int} (h0 : -9223372036854775808 ≤ a) (h1 : a ≤ 9223372036854775807) : 0 ≤ (a.natAbs : Int) ∧ (a.natAbs : Int) ≤ 9223372036854775808 := by omega
end Qn

set_option maxHeartbeats 2000000 in
theorem qdiv_any (a b : Int) (p : Nat) (w : World) (ha0 : -9223372036854775808 ≤ a) (ha1 : a ≤ 9223372036854775807) (hb0 : -9223372036854775808 ≤ b) (hb1 : b ≤ 9223372036854775807) (hb : b ≠ 0) (hp : p ≤ 62) :
    Calls Tryd.prog 15 #[.int .i64 a, .int .i64 b, .int .i64 p] w fun e w' => e = .returned (.tuple #[.int .i64 (signed a b (clamp (rne ((a.natAbs : Int) * 2 ^ p) b.natAbs))), .bool (great (rne ((a.natAbs : Int) * 2 ^ p) b.natAbs)), .nilIface]) ∧ Below w.heap.size w w' := by
  have hm := mb_nat hp
  have hbb : (b == 0) = false := by simpa using hb
  obtain ⟨D, hD⟩ : ∃ D, (2 : Int) ^ p = D := ⟨_, rfl⟩
  have hD0 : 0 < D := by rw [← hD]; exact pow_pos2 p
  have hD1 : D ≤ 4611686018427387904 := by rw [← hD]; exact pow_le62 hp
  have HA := abs_bd ha0 ha1
  have HB := abs_bd hb0 hb1
  have HB0 : 0 < (b.natAbs : Int) := by omega
  rw [hD]
  have hp0 : (0 : Int) ≤ (p : Int) := by omega
  have hp1 : (p : Int) ≤ 62 := by omega
  have hwD : IntKind.u64.wrap D = D := by rw [IntKind.wrap_u64]; omega
  have SA := fun wx => size_any a wx ha0 ha1
  have SB := fun wx => size_any b wx hb0 hb1
  have HI : Hid (In3 (rne ((a.natAbs : Int) * D) b.natAbs)) := by
    have h2 : (a.natAbs : Int) * D ≤ 9223372036854775808 * 4611686018427387904 := Int.mul_le_mul HA.2 hD1 (by omega) (by omega)
    have h3 : 0 ≤ (a.natAbs : Int) * D := Int.mul_nonneg HA.1 (by omega)
    have := rne_bd HB0 (n := (a.natAbs : Int) * D) (A := 85070591730234615865843651857942052864) (by omega) (by omega) (by omega)
    exact in3_of (by omega) (by omega)
  have HSA : Hid (∀ wx, Calls Tryd.prog 33 #[.int .i64 a] wx fun e w' => e = .returned (.int .u64 (a.natAbs : Int)) ∧ w' = wx) := SA
  have HSB : Hid (∀ wx, Calls Tryd.prog 33 #[.int .i64 b] wx fun e w' => e = .returned (.int .u64 (b.natAbs : Int)) ∧ w' = wx) := SB
  clear SA SB hb
  obtain ⟨x, hx⟩ : ∃ x, (a.natAbs : Int) = x := ⟨_, rfl⟩
  obtain ⟨y, hy⟩ : ∃ y, (b.natAbs : Int) = y := ⟨_, rfl⟩
  rw [hx] at HA HSA HI ⊢
  rw [hy] at HB HB0 HSB HI ⊢
  clear hx hy
  have cb := clamp_bd (rne (x * D) y)
  by_cases sa : a < 0 <;> by_cases sb : b < 0
  · have da : decide (a < 0) = true := decide_eq_true sa
    have db : decide (b < 0) = true := decide_eq_true sb
    have HS : Hid (∀ n : Int, signed a b n = n) := fun n => by unfold signed; rw [da, db]; rfl
    go_enter Tryd.func15, Tryd.ntmps15
    go_wp2_with fail
    refine (mayBe_any _ _).mono ?_
    rintro e w' ⟨rfl, rfl⟩
    rw [hm]
    go_wp2_with fail
    go_region_held3 (fun _ => True) (trivial) (first | (go_at_call_of 33 (Value.int IntKind.i64 a); refine (HSA.out _).mono ?_; rintro e w' ⟨rfl, rfl⟩) | (go_at_call_of 33 (Value.int IntKind.i64 b); refine (HSB.out _).mono ?_; rintro e w' ⟨rfl, rfl⟩) | (go_at_call 32; refine (quotient_any x D y _ (by omega) (by omega) (by omega) (by omega) (by omega) (by omega)).mono ?_; rintro e w1 ⟨rfl, k1⟩) | (go_at_call 34; refine (bounded_any _ _ HI.out).mono ?_; rintro e w2 ⟨rfl, k2⟩))
    go_wp2
    go_ret3
    exact ⟨ret_ibn (HS.out _).symm, below_tr (below_tr (Below.refl _ _).drew k1) k2⟩
  · have da : decide (a < 0) = true := decide_eq_true sa
    have db : decide (b < 0) = false := decide_eq_false sb
    have HS : Hid (∀ n : Int, signed a b n = -n) := fun n => by unfold signed; rw [da, db]; rfl
    go_enter Tryd.func15, Tryd.ntmps15
    go_wp2_with fail
    refine (mayBe_any _ _).mono ?_
    rintro e w' ⟨rfl, rfl⟩
    rw [hm]
    go_wp2_with fail
    go_region_held3 (fun _ => True) (trivial) (first | (go_at_call_of 33 (Value.int IntKind.i64 a); refine (HSA.out _).mono ?_; rintro e w' ⟨rfl, rfl⟩) | (go_at_call_of 33 (Value.int IntKind.i64 b); refine (HSB.out _).mono ?_; rintro e w' ⟨rfl, rfl⟩) | (go_at_call 32; refine (quotient_any x D y _ (by omega) (by omega) (by omega) (by omega) (by omega) (by omega)).mono ?_; rintro e w1 ⟨rfl, k1⟩) | (go_at_call 34; refine (bounded_any _ _ HI.out).mono ?_; rintro e w2 ⟨rfl, k2⟩))
    go_wp2
    go_ret3
    exact ⟨ret_ibn (HS.out _).symm, below_tr (below_tr (Below.refl _ _).drew k1) k2⟩
  · have da : decide (a < 0) = false := decide_eq_false sa
    have db : decide (b < 0) = true := decide_eq_true sb
    have HS : Hid (∀ n : Int, signed a b n = -n) := fun n => by unfold signed; rw [da, db]; rfl
    go_enter Tryd.func15, Tryd.ntmps15
    go_wp2_with fail
    refine (mayBe_any _ _).mono ?_
    rintro e w' ⟨rfl, rfl⟩
    rw [hm]
    go_wp2_with fail
    go_region_held3 (fun _ => True) (trivial) (first | (go_at_call_of 33 (Value.int IntKind.i64 a); refine (HSA.out _).mono ?_; rintro e w' ⟨rfl, rfl⟩) | (go_at_call_of 33 (Value.int IntKind.i64 b); refine (HSB.out _).mono ?_; rintro e w' ⟨rfl, rfl⟩) | (go_at_call 32; refine (quotient_any x D y _ (by omega) (by omega) (by omega) (by omega) (by omega) (by omega)).mono ?_; rintro e w1 ⟨rfl, k1⟩) | (go_at_call 34; refine (bounded_any _ _ HI.out).mono ?_; rintro e w2 ⟨rfl, k2⟩))
    go_wp2
    go_ret3
    exact ⟨ret_ibn (HS.out _).symm, below_tr (below_tr (Below.refl _ _).drew k1) k2⟩
  · have da : decide (a < 0) = false := decide_eq_false sa
    have db : decide (b < 0) = false := decide_eq_false sb
    have HS : Hid (∀ n : Int, signed a b n = n) := fun n => by unfold signed; rw [da, db]; rfl
    go_enter Tryd.func15, Tryd.ntmps15
    go_wp2_with fail
    refine (mayBe_any _ _).mono ?_
    rintro e w' ⟨rfl, rfl⟩
    rw [hm]
    go_wp2_with fail
    go_region_held3 (fun _ => True) (trivial) (first | (go_at_call_of 33 (Value.int IntKind.i64 a); refine (HSA.out _).mono ?_; rintro e w' ⟨rfl, rfl⟩) | (go_at_call_of 33 (Value.int IntKind.i64 b); refine (HSB.out _).mono ?_; rintro e w' ⟨rfl, rfl⟩) | (go_at_call 32; refine (quotient_any x D y _ (by omega) (by omega) (by omega) (by omega) (by omega) (by omega)).mono ?_; rintro e w1 ⟨rfl, k1⟩) | (go_at_call 34; refine (bounded_any _ _ HI.out).mono ?_; rintro e w2 ⟨rfl, k2⟩))
    go_wp2
    go_ret3
    exact ⟨ret_ibn (HS.out _).symm, below_tr (below_tr (Below.refl _ _).drew k1) k2⟩

end Go.Proofs.YtfgjigkgfflofaaDoorR
