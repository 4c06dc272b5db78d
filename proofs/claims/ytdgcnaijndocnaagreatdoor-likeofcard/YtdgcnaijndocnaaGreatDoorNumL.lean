/-
  Lists of numbers of any size: read, and of the call's own, appended to.
-/
import Derived.Test.YtdgcnaijndocnaaGreatDoorM3
import Derived.Test.YtdgcnaijndocnaaGreatDoorM2
import Derived.Test.YtdgcnaijndocnaaGreatDoorM5
import Derived.Test.YtdgcnaijndocnaaGreatDoorRegU
import Derived.Deep.AppendLies
set_option linter.unusedSimpArgs false
set_option linter.unusedVariables false
namespace Go.Proofs.YtdgcnaijndocnaaGreatDoor
open Go.RowKit Dec Nv Vc St Ld
namespace Nu
end Nu
end Go.Proofs.YtdgcnaijndocnaaGreatDoor
