/-
  Lists of rows: appended to, handed on, held against each other (rowsOf, sameRows, matOf of the laws of layer 8).
-/
import Derived.Test.YtdgcnaijndocnaaGreatDoorM5
import Derived.Test.YtdgcnaijndocnaaGreatDoorM9
import Derived.Deep.AppendLies
import Derived.Deep.RegionHeld3
set_option linter.unusedSimpArgs false
set_option linter.unusedVariables false
namespace Go.Proofs.YtdgcnaijndocnaaGreatDoor
open Go.RowKit Vc Mt

namespace Mt
end Mt



end Go.Proofs.YtdgcnaijndocnaaGreatDoor

/-
  A list of numbers and a list of rows that a struct holds, appended to one by one, the struct stored into: they and the rows lie from block o on, the struct ahead of it.
-/
set_option linter.unusedSimpArgs false
set_option linter.unusedVariables false
namespace Go.Proofs.YtdgcnaijndocnaaGreatDoor
open Go.RowKit Vc Mt St Ld
namespace Ls

theorem rowBut {P : Nat → Prop} {a b : World} {B : Nat} {t : TypeId} {s : Nat} {v : Value} {n : Nat} {xs : List Value} (h : a.ownsRow B t s v n xs) (k : But P a b) (hx : ∀ g, v.ownBlock = some g → ¬ P g) : b.ownsRow B t s v n xs := by
  obtain ⟨h1, h2⟩ := h
  refine ⟨h1, ?_⟩
  rcases h2 with h2 | ⟨g, cap, cur, rfl, hb, hg, hn, hc, hs, ht⟩
  · exact Or.inl h2
  · refine Or.inr ⟨g, cap, cur, rfl, hb, ?_, hn, hc, hs, ht⟩
    have hlt : g < a.heap.size := by
      rcases Nat.lt_or_ge g a.heap.size with q | q
      · exact q
      · rw [Array.getElem?_eq_none q] at hg; cases hg
    exact (k.block g hlt (hx g rfl)).trans hg
section
variable {ops : Array Oper} {rest : List Oper} {op : Oper} {ac : Act} {Q : Exit → Act → World → Prop} {wr : World}
end
end Ls
end Go.Proofs.YtdgcnaijndocnaaGreatDoor

/-
  Lists of rows of the call's own, each row apart from all others: appended to, stored into, rows put in place of others.
-/
set_option linter.unusedSimpArgs false
set_option linter.unusedVariables false
namespace Go.Proofs.YtdgcnaijndocnaaGreatDoor
open Go.RowKit Vc Mt

namespace Mt
variable {B : Nat} {w0 w w' : World} {L cm n m : Nat} {G : Nat → Nat} {F : Nat → Nat → Int}
end Mt
end Go.Proofs.YtdgcnaijndocnaaGreatDoor

/-
  Lists of rows of the call's own that were appended to, number by number: each row apart from all others, with whatever room behind it; stored into.
-/
set_option linter.unusedSimpArgs false
set_option linter.unusedVariables false
namespace Go.Proofs.YtdgcnaijndocnaaGreatDoor
open Go.RowKit Vc Mt

namespace Mt
section
variable {B : Nat} {w0 w w' : World} {L cm n m : Nat} {G C : Nat → Nat} {F : Nat → Nat → Int}
end
end Mt
end Go.Proofs.YtdgcnaijndocnaaGreatDoor
