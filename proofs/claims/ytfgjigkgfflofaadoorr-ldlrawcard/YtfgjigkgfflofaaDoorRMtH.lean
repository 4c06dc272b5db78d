/-
  Matrices (mat): Mul, Apply, Even, Outer, or their errors.
-/
import Derived.Test.YtfgjigkgfflofaaDoorRMtF
import Derived.Test.YtfgjigkgfflofaaDoorRQK
import Derived.Deep.RegionHeld3
set_option linter.unusedSimpArgs false
set_option linter.unusedVariables false
namespace Go.Proofs.YtfgjigkgfflofaaDoorR
open Go.RowKit Vc Mt Qn Dt

theorem mdot_sl (ao bo : Option Addr) (n ca cb : Nat) (za zb : Nat → Int) (q : Int) (b : Nat) (w : World) (hq : q = (b : Int)) (hn : n ≤ 64) (ha : Sl w ao n ca za) (hb : Sl w bo n cb zb) (ba : B64 za) (bb : B64 zb) (hp : b ≤ 62) :
    Calls Tryd.prog 36 #[.slice ao n ca, .slice bo n cb, .int .i64 q] w fun e w' => e = .returned (.tuple #[.int .i64 (clamp (rne (dk za zb n) (2 ^ b))), .bool (great (rne (dk za zb n) (2 ^ b))), .nilIface]) ∧ Below w.heap.size w w' := by
  subst hq
  obtain ⟨xa, hao, hca⟩ := ha.get
  obtain ⟨xb, hbo, hcb⟩ := hb.get
  exact qdot_any ao bo xa xb n ca cb za zb b w hn hao hbo hca hcb ba bb hp

namespace Mt
theorem MRow.rowSl {w : World} {g n m i p : Nat} {F : Nat → Nat → Int} (r : MRow w g n m (mz n m F)) (hi : i < n) (h36 : n * m ≤ 36) (hp : p = i * m) : Sl w (some ⟨g, p + 2, none⟩) m (36 - p) (F i) := by
  subst hp
  have := place_le (c := m) hi
  exact (r.sl (by omega) (by omega) (by omega) rfl).congr (fun j hj => mz_at hi hj)
end Mt





end Go.Proofs.YtfgjigkgfflofaaDoorR
