/-
  Vectors (vec): whether vectors are alike, the part at one place of each; the laws' nums.
-/
import Derived.Test.YtelcgdjalfcjiaaM1
import Derived.Deep.RegionWith
set_option linter.unusedSimpArgs false
set_option linter.unusedVariables false
namespace Go.Proofs.Ytelcgdjalfcjiaa
open Go.RowKit Vc


end Go.Proofs.Ytelcgdjalfcjiaa
