/-
  The document's answer of layer 9 (radomeref09): dot, less, rest.
-/
import Derived.Test.YtcefcokpjbebhaaGreatDoorM15
import Derived.Test.YtcefcokpjbebhaaGreatDoorM5
import Derived.Test.YtcefcokpjbebhaaGreatDoorM4
import Derived.Test.YtcefcokpjbebhaaGreatDoorM6
import Derived.Test.YtcefcokpjbebhaaGreatDoorM8
import Derived.Deep.RegionHeld3
import Derived.Test.YtcefcokpjbebhaaGreatDoorM9
import Derived.Test.YtcefcokpjbebhaaGreatDoorM20
import Derived.Deep.RegionWith
set_option linter.unusedSimpArgs false
set_option linter.unusedVariables false
namespace Go.Proofs.YtcefcokpjbebhaaGreatDoor
section
open Go.RowKit Vc Mt St Qn Dt Dec Ld
namespace Ld
abbrev GRow(w:World)(g:Nat)(a b:Value):Prop:=CRow w g 124 [a,b]
end Ld
end
section
open Go.RowKit Vc St Mt Dt Pr
attribute [local go_sem ↓] Go.wp_at_zero Go.wp_at_succ
namespace Ud
end Ud
open Ud
end
section
open Go.RowKit Vc Mt St Qn Dt Ld
namespace Ld
theorem but_grown{P:Nat->Prop}{w w':World}{row:Option Nat}(g:w.grownBy w' row)(h: ∀ b,row=some b->P b):But P w w':=
 ⟨g.os,g.tape,g.output,g.size,fun k hk hp=>g.block k hk (fun e=>hp (h k e.symm))⟩
theorem rowBut{P:Nat->Prop}{a b:World}{B:Nat}{t:TypeId}{s:Nat}{v:Value}{n:Nat}{xs:List Value}(h:a.ownsRow B t s v n xs)(k:But P a b)(hx: ∀ g,v.ownBlock=some g-> ¬P g):b.ownsRow B t s v n xs:=by
 obtain⟨h1,h2⟩:=h;refine⟨h1, ?_⟩;rcases h2 with h2|⟨g,cap,cur,rfl,hb,hg,hn,hc,hs,ht⟩
 · exact Or.inl h2
 · refine Or.inr ⟨g,cap,cur,rfl,hb, ?_,hn,hc,hs,ht⟩
   have hlt:g<a.heap.size:=by
    rcases Nat.lt_or_ge g a.heap.size with q|q
    · exact q
    · rw [Array.getElem?_eq_none q] at hg;cases hg
   exact(k.block g hlt (hx g rfl)).trans hg
end Ld
end
end Go.Proofs.YtcefcokpjbebhaaGreatDoor
