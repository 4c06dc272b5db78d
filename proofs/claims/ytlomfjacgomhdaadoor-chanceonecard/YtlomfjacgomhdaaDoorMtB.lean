/-
  Matrices (mat): which sizes may be, a row, a copy, Check.
-/
import Derived.Test.YtlomfjacgomhdaaDoorMtA
set_option linter.unusedSimpArgs false
set_option linter.unusedVariables false
namespace Go.Proofs.YtlomfjacgomhdaaDoor
open Go.RowKit Vc Mt

namespace Mt
theorem run_size8 (w : World) : (sizeOf 2).run Tryd.prog w = .ok 1 w := by
  obtain ⟨i0, hi, hz0, hz1, hz2⟩ := info_parts infoI64
  simp [sizeOf, typeInfo, hi, hz1]
end Mt

end Go.Proofs.YtlomfjacgomhdaaDoor
