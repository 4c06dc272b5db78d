/-
  Vectors (vec): whether vectors are alike, the part at one place of each; the laws' nums.
-/
import Derived.Test.YtbdcbobmfkdalaaM1
import Derived.Deep.RegionWith
set_option linter.unusedSimpArgs false
set_option linter.unusedVariables false
namespace Go.Proofs.Ytbdcbobmfkdalaa
open Go.RowKit Vc


end Go.Proofs.Ytbdcbobmfkdalaa
