/-
  Whether a sum is above another one; the root.
-/
import Derived.Test.YtolpjbhbhlcamaaDoorQE
set_option linter.unusedSimpArgs false
set_option linter.unusedVariables false
namespace Go.Proofs.YtolpjbhbhlcamaaDoor
open Go.RowKit Qn
attribute [local go_sem ↓] Go.wp_at_zero Go.wp_at_succ

namespace Qn
/-- Is m above n? -/
def abv (m n : Int) : Bool := decide (n < m)
/-- Both are from 0 on, within the three words. -/
def Nn3 (n : Int) : Prop := 0 ≤ n ∧ n < 6277101735386680763835789423207666416102355444464034512896
theorem words3 {n : Int} (h : Nn3 n) : n = lo n + 18446744073709551616 * mi n + 340282366920938463463374607431768211456 * hi n := by
  unfold Nn3 at h; unfold lo mi hi; omega
end Qn

set_option maxHeartbeats 1000000 in
theorem above_any (m n : Int) (w : World) (hm : Nn3 m) (hn : Nn3 n) :
    Calls Tryd.prog 42 #[.agg #[.int .u64 (lo m), .int .u64 (mi m), .int .u64 (hi m)], .agg #[.int .u64 (lo n), .int .u64 (mi n), .int .u64 (hi n)]] w fun e w' => e = .returned (.bool (abv m n)) ∧ Below w.heap.size w w' := by
  have wm := words3 hm
  have wn := words3 hn
  have a0 := lo_bd m
  have a1 := mi_bd m
  have a2 := hi_bd m
  have b0 := lo_bd n
  have b1 := mi_bd n
  have b2 := hi_bd n
  have WM : Hid (m = lo m + 18446744073709551616 * mi m + 340282366920938463463374607431768211456 * hi m) := wm
  have WN : Hid (n = lo n + 18446744073709551616 * mi n + 340282366920938463463374607431768211456 * hi n) := wn
  clear wm wn
  by_cases h2 : hi m = hi n
  · have h2b : (hi m != hi n) = false := by simpa using h2
    by_cases h1 : mi m = mi n
    · have h1b : (mi m != mi n) = false := by simpa using h1
      by_cases h0 : lo m = lo n
      · have h0b : (lo m != lo n) = false := by simpa using h0
        have K : Hid (false = abv m n) := by
          unfold Hid abv
          have := WM.out
          have := WN.out
          symm; rw [decide_eq_false_iff_not]; omega
        clear h0 h1 h2
        go_enter Tryd.func42, Tryd.ntmps42
        go_wp2
        refine wp_loop_rounds 4 ?_
        rw [rounds_succ]; go_wp2
        go_quiet (fail)
        go_wp2
        rw [rounds_succ]; go_wp2
        go_quiet (fail)
        go_wp2
        rw [rounds_succ]; go_wp2
        go_quiet (fail)
        go_wp2
        rw [rounds_succ]; go_wp2
        go_ret
        exact ⟨ret_bool K.out, by repeat (first | exact below_al (below_al (Below.refl _ _) _) _ | refine below_drewN ?_ _)⟩
      · have h0b : (lo m != lo n) = true := by simpa using h0
        have K : Hid (decide (lo n < lo m) = abv m n) := by
          unfold Hid abv
          have := WM.out
          have := WN.out
          rw [decide_eq_decide]; omega
        clear h0 h1 h2
        go_enter Tryd.func42, Tryd.ntmps42
        go_wp2
        refine wp_loop_rounds 3 ?_
        rw [rounds_succ]; go_wp2
        go_quiet (fail)
        go_wp2
        rw [rounds_succ]; go_wp2
        go_quiet (fail)
        go_wp2
        rw [rounds_succ]; go_wp2
        go_quiet (fail)
        go_wp2
        go_quiet (fail)
        go_wp2
        go_ret
        exact ⟨ret_bool K.out, by repeat (first | exact below_al (below_al (Below.refl _ _) _) _ | refine below_drewN ?_ _)⟩
    · have h1b : (mi m != mi n) = true := by simpa using h1
      have K : Hid (decide (mi n < mi m) = abv m n) := by
        unfold Hid abv
        have := WM.out
        have := WN.out
        rw [decide_eq_decide]; omega
      clear h1 h2
      go_enter Tryd.func42, Tryd.ntmps42
      go_wp2
      refine wp_loop_rounds 3 ?_
      rw [rounds_succ]; go_wp2
      go_quiet (fail)
      go_wp2
      rw [rounds_succ]; go_wp2
      go_quiet (fail)
      go_wp2
      go_quiet (fail)
      go_wp2
      go_ret
      exact ⟨ret_bool K.out, by repeat (first | exact below_al (below_al (Below.refl _ _) _) _ | refine below_drewN ?_ _)⟩
  · have h2b : (hi m != hi n) = true := by simpa using h2
    have K : Hid (decide (hi n < hi m) = abv m n) := by
      unfold Hid abv
      have := WM.out
      have := WN.out
      rw [decide_eq_decide]; omega
    clear h2
    go_enter Tryd.func42, Tryd.ntmps42
    go_wp2
    refine wp_loop_rounds 3 ?_
    rw [rounds_succ]; go_wp2
    go_quiet (fail)
    go_wp2
    go_quiet (fail)
    go_wp2
    go_ret
    exact ⟨ret_bool K.out, by repeat (first | exact below_al (below_al (Below.refl _ _) _) _ | refine below_drewN ?_ _)⟩

namespace Qn
/-- A cell that is there stays. -/
theorem keep_cell {W w1 : World} (hb : Below W.heap.size W w1) {a : Addr} {v : Value} (h : W.cell? a = some v) : w1.cell? a = some v := (hb.cell (World.block_lt_of_cell? W _ h)).trans h

/-- r is the root of n, cut down and bounded. -/
def IsRoot (n r : Int) : Prop := 0 ≤ r ∧ r ≤ 4611686018427387903 ∧ r * r ≤ n ∧ (n < (r + 1) * (r + 1) ∨ r = 4611686018427387903)
/-- So far: the bits from k on have been tried. -/
def RootAt (n r : Int) (k : Nat) : Prop := 0 ≤ r ∧ r + 2 ^ k ≤ 4611686018427387904 ∧ r * r ≤ n ∧ (n < (r + 2 ^ k) * (r + 2 ^ k) ∨ r + 2 ^ k = 4611686018427387904)
theorem rootAt_start {n : Int} (h : 0 ≤ n) : RootAt n 0 62 := ⟨by omega, by decide, by omega, Or.inr (by decide)⟩
theorem rootAt_end {n r : Int} (h : RootAt n r 0) : IsRoot n r := by
  obtain ⟨h1, h2, h3, h4⟩ := h
  simp only [Int.pow_zero] at h2 h4
  exact ⟨h1, by omega, h3, by omega⟩
theorem rootAt_yes {n r : Int} {k : Nat} (h : RootAt n r (k + 1)) (hy : (r + 2 ^ k) * (r + 2 ^ k) ≤ n) : RootAt n (r + 2 ^ k) k := by
  obtain ⟨h1, h2, h3, h4⟩ := h
  have hp : (0 : Int) < 2 ^ k := Int.pow_pos (by omega)
  have e : r + 2 ^ k + 2 ^ k = r + 2 ^ (k + 1) := by rw [Int.pow_succ]; omega
  exact ⟨by omega, by rw [e]; exact h2, hy, by rw [e]; exact h4⟩
theorem rootAt_no {n r : Int} {k : Nat} (h : RootAt n r (k + 1)) (hn : n < (r + 2 ^ k) * (r + 2 ^ k)) : RootAt n r k := by
  obtain ⟨h1, h2, h3, h4⟩ := h
  have hp : (0 : Int) < 2 ^ k := Int.pow_pos (by omega)
  have e : (2 : Int) ^ (k + 1) = 2 ^ k + 2 ^ k := by rw [Int.pow_succ]; omega
  exact ⟨h1, by omega, h3, Or.inl hn⟩
theorem sq_nn3 {x : Int} (h0 : 0 ≤ x) (h1 : x ≤ 9223372036854775807) : Nn3 (x * x) := by
  have := mul_bd (a := x) (b := x) (A := 9223372036854775807) (B := 9223372036854775807) (by omega) (by omega) (by omega)
  have h2 : 0 ≤ x * x := Int.mul_nonneg h0 h0
  unfold Nn3
  omega
end Qn

set_option maxHeartbeats 1000000 in
theorem rootOf_any (n : Int) (w : World) (hn : Nn3 n) :
    Calls Tryd.prog 33 #[.agg #[.int .u64 (lo n), .int .u64 (mi n), .int .u64 (hi n)]] w fun e w' => ∃ r : Int, e = .returned (.int .i64 r) ∧ IsRoot n r ∧ Below w.heap.size w w' := by
  go_enter Tryd.func33, Tryd.ntmps33
  go_wp2
  go_loopw [3, 4] (fun t b wr => ∃ (k : Nat) (r : Int), k ≤ 62 ∧ t = .int .i64 r ∧ b = .int .i64 (2 ^ k / 2) ∧ Hid (RootAt n r k) ∧ Row3 wr w.heap.size (lo n) (mi n) (hi n) ∧ Below w.heap.size w wr) (fun _ b _ => (intOf b).toNat)
  case atStart => exact ⟨62, 0, by omega, rfl, rfl, rootAt_start hn.1, row3_new w _ _ _, below_al (Below.refl _ _) _⟩
  case round =>
    obtain ⟨k, r, hk, rfl, rfl, hR, hRow, hb⟩ := hrel
    have c0 := hRow.c0
    have c1 := hRow.c1
    have c2 := hRow.c2
    cases k with
    | zero =>
      have e0 : (2 : Int) ^ 0 / 2 = 0 := by decide
      rw [e0]
      go_wp2
      go_ret
      exact ⟨r, rfl, rootAt_end hR.out, hb⟩
    | succ k =>
      obtain ⟨D, hD⟩ : ∃ D, (2 : Int) ^ k = D := ⟨_, rfl⟩
      have e0 : (2 : Int) ^ (k + 1) / 2 = D := by rw [Int.pow_succ, hD]; omega
      rw [e0]
      have hD0 : 0 < D := by rw [← hD]; exact Int.pow_pos (by omega)
      have h1 := hR.out.1
      have h2 : r + D + D ≤ 4611686018427387904 := by have := hR.out.2.1; rw [Int.pow_succ, hD] at this; omega
      have hs := sq_nn3 (x := r + D) (by omega) (by omega)
      clear e0
      have e3 : (2 : Int) ^ k / 2 = D / 2 := by rw [hD]
      by_cases hq : abv ((r + D) * (r + D)) n = true
      · have hR' : RootAt n r k := rootAt_no hR.out (by rw [hD]; exact of_decide_eq_true hq)
        have E3 : Hid ((2 : Int) ^ k / 2 = D / 2) := e3
        clear e3 hD
        go_wp2
        go_region_with (first | (go_at_call 21; refine (product_any _ _ _ (by omega) (by omega) (by omega) (by omega)).mono ?_; rintro e w1 ⟨rfl, hb1⟩; have d0 := keep_cell hb1 c0; have d1 := keep_cell hb1 c1; have d2 := keep_cell hb1 c2) | (go_at_call 42; refine (above_any _ _ _ hs hn).mono ?_; rintro e w2 ⟨rfl, hb2⟩))
        all_goals go_wp2
        all_goals
          go_roundw
          case rel => exact ⟨k, r, by omega, rfl, by rw [E3.out], hR', (hRow.drew.keep hb1).keep hb2, below_tr (below_tr hb.drew hb1) hb2⟩
          case measure => simp [intOf]; omega
      · have hR' : RootAt n (r + D) k := by rw [← hD]; exact rootAt_yes hR.out (by rw [hD]; rw [abv, decide_eq_true_iff] at hq; omega)
        have hq' : abv ((r + D) * (r + D)) n = false := by simpa using hq
        have E3 : Hid ((2 : Int) ^ k / 2 = D / 2) := e3
        clear e3 hD hq
        go_wp2
        go_region_with (first | (go_at_call 21; refine (product_any _ _ _ (by omega) (by omega) (by omega) (by omega)).mono ?_; rintro e w1 ⟨rfl, hb1⟩; have d0 := keep_cell hb1 c0; have d1 := keep_cell hb1 c1; have d2 := keep_cell hb1 c2) | (go_at_call 42; refine (above_any _ _ _ hs hn).mono ?_; rintro e w2 ⟨rfl, hb2⟩))
        all_goals go_wp2
        all_goals
          go_roundw
          case rel => exact ⟨k, r + D, by omega, rfl, by rw [E3.out], hR', (hRow.drew.keep hb1).keep hb2, below_tr (below_tr hb.drew hb1) hb2⟩
          case measure => simp [intOf]; omega

end Go.Proofs.YtolpjbhbhlcamaaDoor
