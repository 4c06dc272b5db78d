/-
  ImmSeen: whatever conf, states, chances and place are handed in, the states that have seen it, their chances, whether a number was too great, and what starts, or the errors, are the document's; its conditions: the library's variable errors.errorType and trig's angles hold what the program's text lays there, which the card ties.
-/
import Derived.Test.YtcefcokpjbebhaaGreatDoorM42
import Derived.Test.YtcefcokpjbebhaaGreatDoorISw
namespace Go.Proofs.YtcefcokpjbebhaaGreatDoor
theorem xImmSeen:Rows.ImmSeenCardSaid:=FImmSeen.card (KO immPkg)
end Go.Proofs.YtcefcokpjbebhaaGreatDoor
