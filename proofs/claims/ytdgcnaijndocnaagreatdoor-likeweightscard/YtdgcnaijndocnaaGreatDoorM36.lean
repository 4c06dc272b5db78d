/-
  The document's Of (radomeref09).
-/
import Derived.Test.YtdgcnaijndocnaaGreatDoorM35
import Derived.Test.YtdgcnaijndocnaaGreatDoorRegU
import Derived.Test.YtdgcnaijndocnaaGreatDoorLdV
import Derived.Test.YtdgcnaijndocnaaGreatDoorM33
import Derived.Test.YtdgcnaijndocnaaGreatDoorM34
import Derived.Test.YtdgcnaijndocnaaGreatDoorM5
import Derived.Deep.CutRange
import Derived.Test.YtdgcnaijndocnaaGreatDoorLkR
import Derived.Test.YtdgcnaijndocnaaGreatDoorM24
set_option linter.unusedSimpArgs false
set_option linter.unusedVariables false
namespace Go.Proofs.YtdgcnaijndocnaaGreatDoor
open Go.RowKit Vc Mt St Qn Dt Ld

namespace Ld
end Ld

end Go.Proofs.YtdgcnaijndocnaaGreatDoor

/-
  The document's answer of layer 13 (radomeref13): Of.
-/
set_option linter.unusedSimpArgs false
set_option linter.unusedVariables false
namespace Go.Proofs.YtdgcnaijndocnaaGreatDoor
open Go.RowKit Vc St Mt Dt Pr
attribute [local go_sem ↓] Go.wp_at_zero Go.wp_at_succ

namespace Ud
end Ud
open Ud

end Go.Proofs.YtdgcnaijndocnaaGreatDoor

/-
  The document's answer of layer 16 (radomeref16): Of; by py/LkO.py.
-/
set_option linter.unusedSimpArgs false
set_option linter.unusedVariables false
namespace Go.Proofs.YtdgcnaijndocnaaGreatDoor
open Go.RowKit Vc St Mt Dt Pr Lk
attribute [local go_sem ↓] Go.wp_at_zero Go.wp_at_succ
namespace Lk
/-- How likely a gap is, its steps. -/
def ofF (L : Nat → Nat → Int) (d v : Nat → Int) : Int := Ld.farV (Ld.downV L v 2) d 2
def ofS (L : Nat → Nat → Int) (d v : Nat → Int) : Int := Qn.clamp (ofF L d v + Ld.logS d 2)
def ofN (L : Nat → Nat → Int) (d v : Nat → Int) : Int := Qn.clamp (Qn.rne (ofS L d v * -524288) (2 ^ 20))
def ofO (L : Nat → Nat → Int) (d v : Nat → Int) : Bool := ((Ld.downO L v 2 || Ld.farO (Ld.downV L v 2) d 2) || Qn.great (ofF L d v + Ld.logS d 2)) || Qn.great (Qn.rne (ofS L d v * -524288) (2 ^ 20))
theorem log_in (d : Nat → Int) : -9223372036854775808 ≤ Ld.logS d 2 ∧ Ld.logS d 2 ≤ 9223372036854775807 := by
  show -9223372036854775808 ≤ IntKind.i64.wrap _ ∧ IntKind.i64.wrap _ ≤ 9223372036854775807
  rw [IntKind.wrap_i64]; omega
theorem cl_in (n : Int) : -4611686018427387903 ≤ Qn.clamp n ∧ Qn.clamp n ≤ 4611686018427387903 := by unfold Qn.clamp; split <;> (try split) <;> omega
end Lk

end Go.Proofs.YtdgcnaijndocnaaGreatDoor
