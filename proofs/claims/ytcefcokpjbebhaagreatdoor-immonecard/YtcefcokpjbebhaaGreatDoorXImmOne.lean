/-
  ImmOne: whatever conf, state, times and places are handed in, chances sum to one after each step, none is below the floor after something was seen, and one model alone is that model's own filter; its conditions: the library's variable errors.errorType and trig's angles hold what the program's text lays there, which the card ties.
-/
import Derived.Test.YtcefcokpjbebhaaGreatDoorM42
import Derived.Test.YtcefcokpjbebhaaGreatDoorIOw
namespace Go.Proofs.YtcefcokpjbebhaaGreatDoor
theorem xImmOne:Rows.ImmOneCardSaid:=FImmOne.card (imone_walk immPkg)
end Go.Proofs.YtcefcokpjbebhaaGreatDoor
