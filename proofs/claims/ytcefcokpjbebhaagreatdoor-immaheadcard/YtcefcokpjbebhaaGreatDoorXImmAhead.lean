/-
  ImmAhead: whatever conf, states, chances and time are handed in, the states after that time, whether a number was too great, what all are together, or the errors, are the document's; its conditions: the library's variable errors.errorType and trig's angles hold what the program's text lays there, which the card ties.
-/
import Derived.Test.YtcefcokpjbebhaaGreatDoorM42
import Derived.Test.YtcefcokpjbebhaaGreatDoorIAw
namespace Go.Proofs.YtcefcokpjbebhaaGreatDoor
theorem xImmAhead:Rows.ImmAheadCardSaid:=FImmAhead.card (imahead_walk immPkg)
end Go.Proofs.YtcefcokpjbebhaaGreatDoor
