/-
  LikeMore: by whatever logarithms, chances and floor are handed in, what is answered sums to one, none below the floor; of two with the same chance the likelier one has no lesser one then, but for a last bit; what had no chance has the floor alone; all as likely stay; its condition: the library's variable errors.errorType holds what the program's text lays there, which the card ties.
-/
import Derived.Test.YtdgcnaijndocnaaDoorM38
import Derived.Test.YtdgcnaijndocnaaDoorLkM
namespace Go.Proofs.YtdgcnaijndocnaaDoor
theorem xLikeMore : Rows.LikeMoreCardSaid := FLikeMore.card (lmore_walk likePkg)
end Go.Proofs.YtdgcnaijndocnaaDoor
