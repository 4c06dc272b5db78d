/-
  LikeWeights: by whatever logarithms, chances and floor are handed in, the chances are the document's, or the error; so is the greatest of them; its condition: the library's variable errors.errorType holds what the program's text lays there, which the card ties.
-/
import Derived.Test.YtdgcnaijndocnaaGreatDoorM38
import Derived.Test.YtdgcnaijndocnaaGreatDoorLkW
namespace Go.Proofs.YtdgcnaijndocnaaGreatDoor
theorem xLikeWeights : Rows.LikeWeightsCardSaid := FLikeWeights.card (lweights_walk likePkg)
end Go.Proofs.YtdgcnaijndocnaaGreatDoor
