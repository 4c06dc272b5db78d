/-
  ChanceOf: of any weights and any floor the chances are the document's, or the error; even ones, and whether any are chances, too.
-/
import Derived.Test.YtlomfjacgomhdaaDoorM14
import Derived.Test.YtlomfjacgomhdaaDoorCOfL
namespace Go.Proofs.YtlomfjacgomhdaaDoor
theorem xChanceOf : Rows.ChanceOfCardSaid := FChanceOf.card (cof_walk chancePkg)
end Go.Proofs.YtlomfjacgomhdaaDoor
