/-
  Where the digits lie: trim leaves them in their block, minus lays them in a new one; a digit laid ahead of others. (radomeref01)
-/
import Derived.Test.YtlomfjacgomhdaaGreatDoorM5
import Derived.Laws.AppendOwnNone
set_option linter.unusedSimpArgs false
set_option linter.unusedVariables false
namespace Go.Proofs.YtlomfjacgomhdaaGreatDoor
open Go.RowKit
namespace Dec
end Dec
open Dec
end Go.Proofs.YtlomfjacgomhdaaGreatDoor
