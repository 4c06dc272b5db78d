/-
  The document's answer of layer 9 (radomeref09): dot, less, rest.
-/
import Derived.Test.YtdgcnaijndocnaaGreatDoorM21
import Derived.Test.YtdgcnaijndocnaaGreatDoorM5
import Derived.Test.YtdgcnaijndocnaaGreatDoorM4
import Derived.Test.YtdgcnaijndocnaaGreatDoorM6
import Derived.Test.YtdgcnaijndocnaaGreatDoorM10
import Derived.Deep.RegionHeld3
set_option linter.unusedSimpArgs false
set_option linter.unusedVariables false
namespace Go.Proofs.YtdgcnaijndocnaaGreatDoor
open Go.RowKit Vc Mt St Qn Dt Dec Ld

namespace Ld
theorem isG : Is 49 2 := ⟨by kernel_rfl, ⟨_, Tryz.underlying49, rfl⟩⟩
/-- The document's factors in a block. -/
abbrev GRow (w : World) (g : Nat) (a b : Value) : Prop := CRow w g 49 [a, b]
end Ld

end Go.Proofs.YtdgcnaijndocnaaGreatDoor
