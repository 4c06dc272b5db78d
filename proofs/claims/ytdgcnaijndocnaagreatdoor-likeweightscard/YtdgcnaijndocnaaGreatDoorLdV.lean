/-
  The document's answer of layer 9 (radomeref09): down, Solve, Far, Log.
-/
import Derived.Test.YtdgcnaijndocnaaGreatDoorLdR
import Derived.Test.YtdgcnaijndocnaaGreatDoorLgV
import Derived.Test.YtdgcnaijndocnaaGreatDoorM24
import Derived.Test.YtdgcnaijndocnaaGreatDoorM22
import Derived.Deep.RegionWith
set_option linter.unusedSimpArgs false
set_option linter.unusedVariables false
namespace Go.Proofs.YtdgcnaijndocnaaGreatDoor
open Go.RowKit Vc Mt St Qn Dt Dec Ld

namespace Ld
end Ld

end Go.Proofs.YtdgcnaijndocnaaGreatDoor
