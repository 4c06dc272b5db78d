/-
  The document's answer of layer 16 (radomeref16): in, Weights; by py/LkR.py.
-/
import Derived.Test.YtdgcnaijndocnaaGreatDoorM2
import Derived.Test.YtdgcnaijndocnaaGreatDoorM15
import Derived.Test.YtdgcnaijndocnaaGreatDoorM24
import Derived.Test.YtdgcnaijndocnaaGreatDoorM4
import Derived.Test.YtdgcnaijndocnaaGreatDoorRegU
import Derived.Test.YtdgcnaijndocnaaGreatDoorM6
set_option linter.unusedSimpArgs false
set_option linter.unusedVariables false
namespace Go.Proofs.YtdgcnaijndocnaaGreatDoor
open Go.RowKit Vc Cn Lk
attribute [local go_sem ↓] Go.wp_at_zero Go.wp_at_succ
namespace Lk
theorem hideK {p : Prop} (h : p) : Hid p := h
end Lk
open Lk
namespace Lk
def pl (l : Nat → Int) : Nat → Nat
  | 0 => 0
  | k + 1 => if l (pl l k) < l k then k else pl l k
def lft (l : Nat → Int) (a : Nat) : Nat → Int
  | 0 => 4611686018427387903
  | k + 1 => if k ≠ a ∧ Qn.clamp (l a - l k) < lft l a k then Qn.clamp (l a - l k) else lft l a k
theorem lft_yes {l : Nat → Int} {a k : Nat} (h : k ≠ a) (h2 : Qn.clamp (l a - l k) < lft l a k) : lft l a (k + 1) = Qn.clamp (l a - l k) := if_pos ⟨h, h2⟩
theorem lft_no {l : Nat → Int} {a k : Nat} (h : ¬ (k ≠ a ∧ Qn.clamp (l a - l k) < lft l a k)) : lft l a (k + 1) = lft l a k := if_neg h
end Lk
end Go.Proofs.YtdgcnaijndocnaaGreatDoor
