/-
  ChanceOne: chances by weights sum to one, none below the floor, a greater weight has no lesser one; mixed they sum to one, too.
-/
import Derived.Test.YtlomfjacgomhdaaDoorCnM
import Derived.Test.YtlomfjacgomhdaaDoorCOne
namespace Go.Proofs.YtlomfjacgomhdaaDoor
theorem xChanceOne : Rows.ChanceOneCardSaid := FChanceOne.card (cone_walk chancePkg)
end Go.Proofs.YtlomfjacgomhdaaDoor
