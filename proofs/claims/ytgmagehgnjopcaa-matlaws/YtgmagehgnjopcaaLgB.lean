/-
  By of the document's answer of layer 3 (radomeref03): a number of eight words by two to a power, rounded and bounded; by py/By.py.
-/
import Derived.Test.YtgmagehgnjopcaaLgQ
import Derived.RegionTactic
import Derived.ChangeAlike
import Derived.BigRegion
import Derived.Deep.DeepCutAuto
set_option linter.unusedSimpArgs false
set_option linter.unusedVariables false
namespace Go.Proofs.Ytgmagehgnjopcaa
open Go.RowKit Lg
attribute [local go_sem ↓] Go.wp_at_zero Go.wp_at_succ

namespace Lg
/-- What comes of a size with its sign: bounded, and whether it was. -/
def res (s : Bool) (Q : Int) : Value := .tuple #[.int .i64 (if Q < 4611686018427387904 then (if s then -Q else Q) else (if s then -4611686018427387903 else 4611686018427387903)), .bool (decide (¬ Q < 4611686018427387904))]
theorem res_low (s : Bool) (Q : Int) (h : Q < 4611686018427387904) : res s Q = .tuple #[.int .i64 (if s then -Q else Q), .bool false] := by
  unfold res; rw [if_pos h]; simp [h]
theorem res_high (s : Bool) (Q : Int) (h : ¬ Q < 4611686018427387904) : res s Q = .tuple #[.int .i64 (if s then -4611686018427387903 else 4611686018427387903), .bool true] := by
  unfold res; rw [if_neg h]; simp; omega
theorem ret_low (s : Bool) {Q z Z : Int} (hZ : Z = Q) (h : Q < 4611686018427387904) (hz : z = if s then -Q else Q) : Ending.returned (.tuple #[.int .i64 z, .bool false]) = .returned (res s Z) := by rw [hZ, res_low s Q h, hz]
theorem ret_high (s : Bool) {Q Z : Int} (hZ : Z = Q) (h : 4611686018427387904 ≤ Q) : Ending.returned (.tuple #[.int .i64 (if s then -4611686018427387903 else 4611686018427387903), .bool true]) = .returned (res s Z) := by rw [hZ, res_high s Q (by omega)]
theorem low_two {Q : Int} (h0 : 0 ≤ Q) (h : Q < 4611686018427387904) : wd 0 Q + wd 1 Q * 4294967296 = Q := by
  show Q % 4294967296 + Q / 4294967296 % 4294967296 * 4294967296 = Q
  omega
theorem high_two {Q : Int} (h0 : 0 ≤ Q) (h : Q < 4611686018427387904) : 0 ≤ wd 1 Q ∧ wd 1 Q ≤ 1073741823 := by
  show 0 ≤ Q / 4294967296 % 4294967296 ∧ Q / 4294967296 % 4294967296 ≤ 1073741823
  omega
end Lg

namespace Lg
theorem wrap_pow {v : Nat} {F : Int} (hv : v ≤ 31) (hF : (2 : Int) ^ v = F) : 0 < F ∧ F ≤ 2147483648 ∧ IntKind.u64.wrap F = F := by
  have h1 : (2 : Nat) ^ v ≤ 2 ^ 31 := Nat.pow_le_pow_right (by omega) hv
  have h2 : (2 : Int) ^ v = ((2 ^ v : Nat) : Int) := by simp
  have h3 := Nat.two_pow_pos v
  rw [hF] at h2
  refine ⟨by omega, by omega, ?_⟩
  rw [IntKind.wrap_u64]; omega
end Lg
end Go.Proofs.Ytgmagehgnjopcaa
