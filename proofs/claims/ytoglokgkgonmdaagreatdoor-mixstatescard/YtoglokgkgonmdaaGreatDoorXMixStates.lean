/-
  MixStates: whatever states, chances and rows are handed in, the states joined and mixed, their chances, and whether a number was too great are the document's, or the errors; its condition: the library's variable errors.errorType holds what the program's text lays there, which the card ties.
-/
import Derived.Test.YtoglokgkgonmdaaGreatDoorM24
import Derived.Test.YtoglokgkgonmdaaGreatDoorM40
namespace Go.Proofs.YtoglokgkgonmdaaGreatDoor
theorem xMixStates : Rows.MixStatesCardSaid := FMixStates.card (mstates_walk mixPkg)
end Go.Proofs.YtoglokgkgonmdaaGreatDoor
