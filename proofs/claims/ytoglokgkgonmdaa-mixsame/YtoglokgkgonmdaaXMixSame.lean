/-
  MixSame: whatever numbers and chances are handed in, states that are all the same, joined or mixed in any way, are that one, and of two that are not, one for sure is that one; no condition.
-/
import Derived.Test.YtoglokgkgonmdaaM24
import Derived.Test.YtoglokgkgonmdaaMSamw
namespace Go.Proofs.Ytoglokgkgonmdaa
theorem xMixSame : Rows.MixSameSaid := FMixSame.row (msame_walk mixPkg)
end Go.Proofs.Ytoglokgkgonmdaa
