/-
  ChanceMixes: any chances after any change are the document's, or the error.
-/
import Derived.Test.YtlomfjacgomhdaaDoorM14
import Derived.Test.YtlomfjacgomhdaaDoorCMixes
namespace Go.Proofs.YtlomfjacgomhdaaDoor
theorem xChanceMixes : Rows.ChanceMixesCardSaid := FChanceMixes.card (cmixes_walk chancePkg)
end Go.Proofs.YtlomfjacgomhdaaDoor
