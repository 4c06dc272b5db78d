/-
  Plain facts on numbers of three words of 64 bits, in two's complement, and on rounding: no program is named here.
-/
set_option linter.unusedSimpArgs false
set_option linter.unusedVariables false
namespace Go.Proofs.YtmijmfdamommaaaDoor
namespace Qn

/-- The three words of a whole number, the lowest first. -/
def lo (n : Int) : Int := n % 18446744073709551616
def mi (n : Int) : Int := n / 18446744073709551616 % 18446744073709551616
def hi (n : Int) : Int := n / 18446744073709551616 / 18446744073709551616 % 18446744073709551616

theorem lo_bd (n : Int) : 0 ≤ lo n ∧ lo n ≤ 18446744073709551615 := by unfold lo; omega
theorem mi_bd (n : Int) : 0 ≤ mi n ∧ mi n ≤ 18446744073709551615 := by unfold mi; omega
theorem hi_bd (n : Int) : 0 ≤ hi n ∧ hi n ≤ 18446744073709551615 := by unfold hi; omega

/-- The word above a highest one. -/
def sg (x : Int) : Int := if x < 9223372036854775808 then 0 else 18446744073709551615
theorem sg_bd (x : Int) : 0 ≤ sg x ∧ sg x ≤ 18446744073709551615 := by unfold sg; split <;> omega

/-- A number of 64 bits. -/
def I64 (n : Int) : Prop := -9223372036854775808 ≤ n ∧ n ≤ 9223372036854775807

/-- The greatest number. -/
def top : Int := 4611686018427387903

/-- No greater than may be. -/
def clamp (n : Int) : Int := if 4611686018427387903 < n then 4611686018427387903 else if n < -4611686018427387903 then -4611686018427387903 else n
def great (n : Int) : Bool := decide (4611686018427387903 < n) || decide (n < -4611686018427387903)

/-- n by d, rounded: a half to the even one. -/
def rne (n d : Int) : Int := if 2 * (n % d) < d ∨ 2 * (n % d) = d ∧ n / d % 2 = 0 then n / d else n / d + 1

end Qn
end Go.Proofs.YtmijmfdamommaaaDoor
