/-
  Numbers of any size: variables, lists, in drawn regions: loads, stores, appends.
-/
import Derived.Test.YtdgcnaijndocnaaGreatDoorNumL
import Derived.Test.YtdgcnaijndocnaaGreatDoorM10
import Derived.Deep.MidRow
set_option linter.unusedSimpArgs false
set_option linter.unusedVariables false
namespace Go.Proofs.YtdgcnaijndocnaaGreatDoor
open Go.RowKit Dec Nv Vc St Ld
namespace Nu
end Nu
end Go.Proofs.YtdgcnaijndocnaaGreatDoor
namespace Go.Proofs.YtdgcnaijndocnaaGreatDoor
open Go.RowKit Dec Nv Vc St Ld
namespace Nu
end Nu
end Go.Proofs.YtdgcnaijndocnaaGreatDoor
