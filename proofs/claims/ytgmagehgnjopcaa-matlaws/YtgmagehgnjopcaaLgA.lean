/-
  lower of the document's answer of layer 3: whether a size of eight words is below another one.
-/
import Derived.Test.YtgmagehgnjopcaaBase
import Derived.Test.YtgmagehgnjopcaaPure
set_option linter.unusedSimpArgs false
set_option linter.unusedVariables false
namespace Go.Proofs.Ytgmagehgnjopcaa
open Go.RowKit Lg Dec

end Go.Proofs.Ytgmagehgnjopcaa
