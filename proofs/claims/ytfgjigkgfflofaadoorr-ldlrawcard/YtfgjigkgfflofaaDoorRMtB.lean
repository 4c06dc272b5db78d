/-
  Matrices (mat): which sizes may be, a row, a copy, Check.
-/
import Derived.Test.YtfgjigkgfflofaaDoorRMtA
set_option linter.unusedSimpArgs false
set_option linter.unusedVariables false
namespace Go.Proofs.YtfgjigkgfflofaaDoorR
open Go.RowKit Vc Mt

theorem size_yes (n m : Nat) (w : World) (h1 : 1 ≤ n) (h2 : n ≤ 6) (h3 : 1 ≤ m) (h4 : m ≤ 6) :
    Calls Tryd.prog 59 #[.int .i64 (n : Int), .int .i64 (m : Int)] w fun e w' => e = .returned (.bool true) ∧ w' = w := by
  have e1 : decide ((n : Int) ≥ 1) = true := decide_eq_true (by omega)
  have e2 : decide ((n : Int) ≤ 6) = true := decide_eq_true (by omega)
  have e3 : decide ((m : Int) ≥ 1) = true := decide_eq_true (by omega)
  have e4 : decide ((m : Int) ≤ 6) = true := decide_eq_true (by omega)
  go_enter Tryd.func59, Tryd.ntmps59
  go_wp2
  go_ret
  exact ⟨rfl, rfl⟩

theorem size_no (r c : Int) (w : World) (h : ¬ (1 ≤ r ∧ r ≤ 6 ∧ 1 ≤ c ∧ c ≤ 6)) :
    Calls Tryd.prog 59 #[.int .i64 r, .int .i64 c] w fun e w' => e = .returned (.bool false) ∧ w' = w := by
  have H : (1 ≤ r → r ≤ 6 → 1 ≤ c → ¬ c ≤ 6) := by omega
  have HH := Hid.mkV H
  clear h H
  by_cases h1 : 1 ≤ r
  · have e1 : decide (r ≥ 1) = true := decide_eq_true h1
    by_cases h2 : r ≤ 6
    · have e2 : decide (r ≤ 6) = true := decide_eq_true h2
      by_cases h3 : 1 ≤ c
      · have e3 : decide (c ≥ 1) = true := decide_eq_true h3
        have e4 : decide (c ≤ 6) = false := decide_eq_false (HH.out h1 h2 h3)
        go_enter Tryd.func59, Tryd.ntmps59
        go_wp2
        go_ret
        exact ⟨rfl, rfl⟩
      · have e3 : decide (c ≥ 1) = false := decide_eq_false h3
        go_enter Tryd.func59, Tryd.ntmps59
        go_wp2
        go_ret
        exact ⟨rfl, rfl⟩
    · have e2 : decide (r ≤ 6) = false := decide_eq_false h2
      go_enter Tryd.func59, Tryd.ntmps59
      go_wp2
      go_ret
      exact ⟨rfl, rfl⟩
  · have e1 : decide (r ≥ 1) = false := decide_eq_false h1
    go_enter Tryd.func59, Tryd.ntmps59
    go_wp2
    go_ret
    exact ⟨rfl, rfl⟩

theorem within_any (i : Int) (n : Nat) (w : World) :
    Calls Tryd.prog 64 #[.int .i64 i, .int .i64 (n : Int)] w fun e w' => e = .returned (.bool (decide (0 ≤ i ∧ i < n))) ∧ w' = w := by
  by_cases h1 : 0 ≤ i
  · have e1 : decide (i ≥ 0) = true := decide_eq_true h1
    by_cases h2 : i < n
    · have e2 : decide (i < (n : Int)) = true := decide_eq_true h2
      have e3 : decide (0 ≤ i ∧ i < n) = true := decide_eq_true ⟨h1, h2⟩
      rw [e3]
      go_enter Tryd.func64, Tryd.ntmps64
      go_wp2
      go_ret
      exact ⟨rfl, rfl⟩
    · have e2 : decide (i < (n : Int)) = false := decide_eq_false h2
      have e3 : decide (0 ≤ i ∧ i < n) = false := decide_eq_false (fun h => h2 h.2)
      rw [e3]
      go_enter Tryd.func64, Tryd.ntmps64
      go_wp2
      go_ret
      exact ⟨rfl, rfl⟩
  · have e1 : decide (i ≥ 0) = false := decide_eq_false h1
    have e3 : decide (0 ≤ i ∧ i < n) = false := decide_eq_false (fun h => h1 h.1)
    rw [e3]
    go_enter Tryd.func64, Tryd.ntmps64
    go_wp2
    go_ret
    exact ⟨rfl, rfl⟩

namespace Mt
theorem Tryd.arrM : Tryd.prog.underlying 23 = some (.array (Tryd.prog.arrayLen 23) (Tryd.prog.elem 23)) := by kernel_rfl
theorem Tryd.lenM : Tryd.prog.arrayLen 23 = 36 := by kernel_rfl
theorem Tryd.elemM : Tryd.prog.elem 23 = 2 := by kernel_rfl
theorem run_size8 (w : World) : (sizeOf 2).run Tryd.prog w = .ok 1 w := by
  obtain ⟨i0, hi, hz0, hz1, hz2⟩ := info_parts infoI64
  simp [sizeOf, typeInfo, hi, hz1]
/-- A piece of the numbers. -/
theorem run_piece (b p q : Nat) (w : World) (h1 : p < 36) (h2 : p ≤ q) (h3 : q ≤ 36) :
    (Instr.sliceAt 23 (.pointer (some ⟨b, 2, none⟩)) (some (.int .i64 (p : Int))) (some (.int .i64 (q : Int))) none).run Tryd.prog w = .ok (.slice (some ⟨b, p + 2, none⟩) (q - p) (36 - p)) w := by
  rw [run_sliceAt_array_lh w 23 _ Tryd.arrM .i64 .i64 _ _ (by omega) (by omega) (by rw [Tryd.lenM]; omega), Tryd.elemM, run_size8, Tryd.lenM]
  simp only [Result.andThen_ok, slicedAt, Int.toNat_natCast, Nat.mul_one]
  rw [if_neg (by omega), Addr.add_lit, Nat.add_comm 2 p]
end Mt

set_option maxRecDepth 10000 in
set_option maxHeartbeats 1000000 in
/-- Where a row stands. -/
theorem row_any (b i m p : Nat) (r : Int) (z : Nat → Int) (w : World) (h : MRow w b r (m : Int) z) (hp : p = i * m) (hm : m ≤ 6) (hi : i ≤ 6) (h36 : p + m ≤ 36) (h0 : 0 < m) :
    Calls Tryd.prog 60 #[.pointer (some ⟨b, 0, none⟩), .int .i64 (i : Int)] w fun e w' => e = .returned (.slice (some ⟨b, p + 2, none⟩) m (36 - p)) ∧ Below w.heap.size w w' := by
  have c1 := h.cols
  have e1 : IntKind.i64.wrap ((i : Int) * (m : Int)) = (p : Int) := by
    have : ((i * m : Nat) : Int) = (i : Int) * (m : Int) := by push_cast; rfl
    rw [← this, ← hp, IntKind.wrap_i64]; omega
  have e2 : IntKind.i64.wrap (((i : Int) + 1) * (m : Int)) = ((p + m : Nat) : Int) := by
    have : ((i * m : Nat) : Int) = (i : Int) * (m : Int) := by push_cast; rfl
    rw [Int.add_mul, Int.one_mul, ← this, ← hp, IntKind.wrap_i64]; omega
  have e0 : IntKind.i64.wrap ((i : Int) + 1) = (i : Int) + 1 := by rw [IntKind.wrap_i64]; omega
  have e3 : ∀ W, (Instr.sliceAt 23 (.pointer (some ⟨b, 2, none⟩)) (some (.int .i64 (p : Int))) (some (.int .i64 ((p : Int) + (m : Int)))) none).run Tryd.prog W = .ok (.slice (some ⟨b, p + 2, none⟩) m (36 - p)) W := by
    intro W
    have h := run_piece b p (p + m) W (by omega) (by omega) h36
    rw [Nat.add_sub_cancel_left] at h
    exact_mod_cast h
  have HP := Hid.mkV hp
  clear hp h
  go_enter Tryd.func60, Tryd.ntmps60
  go_wp2
  go_quiet (fail)
  go_wp2
  go_ret
  exact ⟨rfl, Vc.below_drewN (Below.refl _ _) _⟩

end Go.Proofs.YtfgjigkgfflofaaDoorR
