/-
  MixShares: whatever chances, rows and place are handed in, how much of each comes to the place is the document's, or the error; its condition: the library's variable errors.errorType holds what the program's text lays there, which the card ties.
-/
import Derived.Test.YtoglokgkgonmdaaGreatDoorM24
import Derived.Test.YtoglokgkgonmdaaGreatDoorMShr
namespace Go.Proofs.YtoglokgkgonmdaaGreatDoor
theorem xMixShares : Rows.MixSharesCardSaid := FMixShares.card (mshares_walk mixPkg)
end Go.Proofs.YtoglokgkgonmdaaGreatDoor
