/-
  A number of the document's answer of layer 3 (a sign and eight words) as a block of nine cells: loads, stores, results.
-/
import Derived.Test.YtgmagehgnjopcaaLgA
import Derived.Laws.Rows
import Derived.Laws.Tables
import Derived.Laws.ResultCell
set_option linter.unusedSimpArgs false
set_option linter.unusedVariables false
namespace Go.Proofs.Ytgmagehgnjopcaa
open Go.RowKit Lg Dec
namespace Lg
section
end
theorem below_setRow {B g : Nat} {w0 w : World} (hb : Below B w0 w) (hBg : B ≤ g) (cs : Array Value) : Below B w0 (w.setRow g cs) :=
  hb.trans ⟨rfl, rfl, rfl, by simp, fun k hk => setRow_other w g k cs (by omega)⟩
end Lg
end Go.Proofs.Ytgmagehgnjopcaa
