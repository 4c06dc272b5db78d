/-
  The document's answer of layer 9 (radomeref09): dot, less, rest.
-/
import Derived.Test.YtdgcnaijndocnaaDoorM21
import Derived.Test.YtdgcnaijndocnaaDoorM5
import Derived.Test.YtdgcnaijndocnaaDoorM4
import Derived.Test.YtdgcnaijndocnaaDoorM6
import Derived.Test.YtdgcnaijndocnaaDoorM10
import Derived.Deep.RegionHeld3
set_option linter.unusedSimpArgs false
set_option linter.unusedVariables false
namespace Go.Proofs.YtdgcnaijndocnaaDoor
open Go.RowKit Vc Mt St Qn Dt Dec Ld

namespace Ld
end Ld

end Go.Proofs.YtdgcnaijndocnaaDoor
