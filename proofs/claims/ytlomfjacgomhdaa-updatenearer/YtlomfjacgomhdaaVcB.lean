/-
  Vectors (vec): whether vectors are alike, the part at one place of each; the laws' nums.
-/
import Derived.Test.YtlomfjacgomhdaaM1
import Derived.Deep.RegionWith
set_option linter.unusedSimpArgs false
set_option linter.unusedVariables false
namespace Go.Proofs.Ytlomfjacgomhdaa
open Go.RowKit Vc


end Go.Proofs.Ytlomfjacgomhdaa
