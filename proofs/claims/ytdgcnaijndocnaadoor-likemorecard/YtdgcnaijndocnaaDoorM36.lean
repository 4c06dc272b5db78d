/-
  The document's Of (radomeref09).
-/
import Derived.Test.YtdgcnaijndocnaaDoorM35
import Derived.Test.YtdgcnaijndocnaaDoorRegU
import Derived.Test.YtdgcnaijndocnaaDoorLdV
import Derived.Test.YtdgcnaijndocnaaDoorM33
import Derived.Test.YtdgcnaijndocnaaDoorM34
import Derived.Test.YtdgcnaijndocnaaDoorM5
import Derived.Deep.CutRange
import Derived.Test.YtdgcnaijndocnaaDoorLkR
import Derived.Test.YtdgcnaijndocnaaDoorM24
set_option linter.unusedSimpArgs false
set_option linter.unusedVariables false
namespace Go.Proofs.YtdgcnaijndocnaaDoor
open Go.RowKit Vc Mt St Qn Dt Ld

namespace Ld
theorem own_zero {w : World} {B : Nat} {t : TypeId} {s : Nat} {v : Value} {n : Nat} {xs : List Value} (h : w.ownsRow B t s v n xs) : w.ownsRow 0 t s v n xs := by
  obtain ⟨h1, h2⟩ := h
  refine ⟨h1, ?_⟩
  rcases h2 with h2 | ⟨g, cap, cur, rfl, hb, hg, hn, hc, hs, ht⟩
  · exact Or.inl h2
  · exact Or.inr ⟨g, cap, cur, rfl, Nat.zero_le _, hg, hn, hc, hs, ht⟩
theorem FTwo.zero {B : Nat} {w0 w : World} {o i n : Nat} {vL vD : Value} {L : Nat → Nat → Int} {d : Nat → Int} (h : FTwo B w0 w o vL vD i n L d) : FTwo 0 w w o vL vD i n L d := by
  obtain ⟨S, h1, h2⟩ := h.two
  exact ⟨⟨S, ⟨own_zero h1.x, own_zero h1.y, h1.apart, Below.refl _ _, Nat.zero_le _⟩, h2⟩, h.gl, h.gd, h.le⟩
/-- How long a slice is. -/
def lenOf : Value → Nat
  | .slice _ n _ => n
  | _ => 0
end Ld

end Go.Proofs.YtdgcnaijndocnaaDoor

/-
  The document's answer of layer 13 (radomeref13): Of.
-/
set_option linter.unusedSimpArgs false
set_option linter.unusedVariables false
namespace Go.Proofs.YtdgcnaijndocnaaDoor
open Go.RowKit Vc St Mt Dt Pr
attribute [local go_sem ↓] Go.wp_at_zero Go.wp_at_succ

namespace Ud
end Ud
open Ud

theorem Ud.addr0 (a : Addr) : a.add 0 = a := by
  cases a
  unfold Addr.add
  split <;> simp_all

end Go.Proofs.YtdgcnaijndocnaaDoor

/-
  The document's answer of layer 16 (radomeref16): Of; by py/LkO.py.
-/
set_option linter.unusedSimpArgs false
set_option linter.unusedVariables false
namespace Go.Proofs.YtdgcnaijndocnaaDoor
open Go.RowKit Vc St Mt Dt Pr Lk
attribute [local go_sem ↓] Go.wp_at_zero Go.wp_at_succ
namespace Lk
/-- How likely a gap is, its steps. -/
def ofF (L : Nat → Nat → Int) (d v : Nat → Int) : Int := Ld.farV (Ld.downV L v 2) d 2
def ofS (L : Nat → Nat → Int) (d v : Nat → Int) : Int := Qn.clamp (ofF L d v + Ld.logS d 2)
def ofN (L : Nat → Nat → Int) (d v : Nat → Int) : Int := Qn.clamp (Qn.rne (ofS L d v * -524288) (2 ^ 20))
def ofO (L : Nat → Nat → Int) (d v : Nat → Int) : Bool := ((Ld.downO L v 2 || Ld.farO (Ld.downV L v 2) d 2) || Qn.great (ofF L d v + Ld.logS d 2)) || Qn.great (Qn.rne (ofS L d v * -524288) (2 ^ 20))
theorem log_in (d : Nat → Int) : -9223372036854775808 ≤ Ld.logS d 2 ∧ Ld.logS d 2 ≤ 9223372036854775807 := by
  show -9223372036854775808 ≤ IntKind.i64.wrap _ ∧ IntKind.i64.wrap _ ≤ 9223372036854775807
  rw [IntKind.wrap_i64]; omega
theorem cl_in (n : Int) : -4611686018427387903 ≤ Qn.clamp n ∧ Qn.clamp n ≤ 4611686018427387903 := by unfold Qn.clamp; split <;> (try split) <;> omega
end Lk

end Go.Proofs.YtdgcnaijndocnaaDoor
