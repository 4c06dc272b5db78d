/-
  The document's answer of layer 16 (radomeref16): in, Weights; by py/LkR.py.
-/
import Derived.Test.YtcefcokpjbebhaaGreatDoorM2
import Derived.Test.YtcefcokpjbebhaaGreatDoorM29
import Derived.Test.YtcefcokpjbebhaaGreatDoorM1
import Derived.Test.YtcefcokpjbebhaaGreatDoorM4
import Derived.Test.YtcefcokpjbebhaaGreatDoorM3
import Derived.Test.YtcefcokpjbebhaaGreatDoorM15
import Derived.Deep.DeepCutAuto
import Derived.Deep.RegionHeld3
import Derived.Deep.CutRange
import Derived.Laws.AppendOwnNone
import Derived.RegionTactic
import Derived.ChangeAlike
import Derived.BigRegion
import Derived.Deep.RegionWith
import Derived.Test.YtcefcokpjbebhaaGreatDoorRegU
import Derived.Deep.AppendLies
import Derived.Maps.AppendAt
import Derived.OwnWalk
import Derived.Test.YtcefcokpjbebhaaGreatDoorM21
import Derived.Test.YtcefcokpjbebhaaGreatDoorM16
import Derived.Test.YtcefcokpjbebhaaGreatDoorM9
import Derived.Test.YtcefcokpjbebhaaGreatDoorM20
import Derived.Test.YtcefcokpjbebhaaGreatDoorM5
import Derived.Test.YtcefcokpjbebhaaGreatDoorM25
import Derived.Test.YtcefcokpjbebhaaGreatDoorM8
set_option linter.unusedSimpArgs false
set_option linter.unusedVariables false
namespace Go.Proofs.YtcefcokpjbebhaaGreatDoor
section
namespace Vc
end Vc
namespace Dec
end Dec
open Go.RowKit Vc Cn Lk
attribute [local go_sem ↓] Go.wp_at_zero Go.wp_at_succ
namespace Lk
end Lk
open Lk
namespace Lk
end Lk
end
section
open Go.RowKit Vc Mt St Qn Dt Dec Ld
namespace Ld
end Ld
end
section
open Go.RowKit Vc Mt St Qn Dt Ld
namespace Ld
end Ld
end
section
open Go.RowKit Vc St Mt Dt Pr
attribute [local go_sem ↓] Go.wp_at_zero Go.wp_at_succ
namespace Ud
end Ud
open Ud
end
section
open Go.RowKit Vc St Mt Dt Pr Lk
attribute [local go_sem ↓] Go.wp_at_zero Go.wp_at_succ
namespace Lk
def ofF(L:Nat->Nat->Int)(d v:Nat->Int):Int:=Ld.farV (Ld.downV L v 2) d 2
def ofS(L:Nat->Nat->Int)(d v:Nat->Int):Int:=Qn.clamp (ofF L d v+Ld.logS d 2)
def ofN(L:Nat->Nat->Int)(d v:Nat->Int):Int:=Qn.clamp (Qn.rne (ofS L d v* -524288) (2^20))
def ofO(L:Nat->Nat->Int)(d v:Nat->Int):Bool:=((Ld.downO L v 2||Ld.farO (Ld.downV L v 2) d 2)||Qn.great (ofF L d v+Ld.logS d 2))||Qn.great (Qn.rne (ofS L d v* -524288) (2^20))
theorem log_in(d:Nat->Int): -9223372036854775808<=Ld.logS d 2/\Ld.logS d 2<=9223372036854775807:=by
 show-9223372036854775808<=IntKind.i64.wrap _/\IntKind.i64.wrap _<=9223372036854775807;rw [IntKind.wrap_i64];omega
theorem cl_in(n:Int): -4611686018427387903<=Qn.clamp n/\Qn.clamp n<=4611686018427387903:=by unfold Qn.clamp;split<;>(try split)<;>omega
end Lk
end
section
open Go.RowKit Vc Mt Cn Mx
namespace Im
structure MayC(n q:Nat)(K V N:Nat->Int)(L:Nat->Nat)(R:Nat->Nat->Int)(fl:Int):Prop where
 one:1<=n
 four:n<=4
 rows:q=n
 lo:0<=fl
 hi:fl<=67108864
 each: ∀ i,i<n->Mo.MayM (K i) (V i) (N i)/\L i=n/\Ch n (R i) 0
theorem MayC.mx{n q:Nat}{K V N:Nat->Int}{L:Nat->Nat}{R:Nat->Nat->Int}{fl:Int}(h:MayC n q K V N L R fl){ch:Nat->Int}(hc:Ch n ch 0):MayX n ch q L R:=
 ⟨hc,h.rows,fun i hi=>(h.each i hi).2⟩
section
variable (K V N:Nat->Int) (d:Int) (n:Nat) (ch:Nat->Int) (R:Nat->Nat->Int) (X:Nat->Nat->Int) (P:Nat->Nat->Nat->Int)
def aX(k:Nat):Nat->Int:=Pr.nX (Mo.stepF (K k) (V k) d) (jX n (shr n ch R k) X)
def aP(k:Nat):Nat->Nat->Int:=Pr.nP (Mo.stepF (K k) (V k) d) (jP n (shr n ch R k) X P) (Mo.tw (Mo.nz (K k) d (N k)))
def aG(k:Nat):Bool:=Pr.oP (Mo.stepF (K k) (V k) d) (jX n (shr n ch R k) X) (jP n (shr n ch R k) X P) (Mo.tw (Mo.nz (K k) d (N k)))
def aO:Bool:=Mx.aO n ch R X P||anyb (aG K V N d n ch R X P) n
end
section
variable (n:Nat) (ch:Nat->Int) (fl:Int) (X:Nat->Nat->Int) (P:Nat->Nat->Nat->Int) (x y a b c:Int)
def sF(k:Nat):Prop:= ∀ i,i<2->Ld.fine (Ud.oM (P k) a b c) i
def sX(k:Nat):Nat->Int:=Ud.xN (X k) (P k) x y a b c
def sP(k:Nat):Nat->Nat->Int:=Ud.zN (P k) a b c
def sL(k:Nat):Int:=Lk.ofN (Ud.fL (P k) a b c) (Ud.fD (P k) a b c) (Ud.v2 (Ud.ox (X k) x) (Ud.oy (X k) y))
def sG(k:Nat):Bool:=Ud.og (X k) (P k) x y a b c||Lk.ofO (Ud.fL (P k) a b c) (Ud.fD (P k) a b c) (Ud.v2 (Ud.ox (X k) x) (Ud.oy (X k) y))||Ud.nO (X k) (P k) x y a b c
def sO:Bool:=anyb (sG X P x y a b c) n||Lk.wo (sL X P x y a b c) ch n n
def sC:Nat->Int:=oc fl (Lk.wz (sL X P x y a b c) ch n) n
end
theorem sL_in(X:Nat->Nat->Int)(P:Nat->Nat->Nat->Int)(x y a b c:Int)(k:Nat): -4611686018427387903<=sL X P x y a b c k/\sL X P x y a b c k<=4611686018427387903:=by
 unfold sL Lk.ofN;exact cl_inV _
theorem sL_b(X:Nat->Nat->Int)(P:Nat->Nat->Nat->Int)(x y a b c:Int):B64 (sL X P x y a b c):=fun k=>by have:=sL_in X P x y a b c k;omega
theorem sL_may{n:Nat}{ch:Nat->Int}{fl:Int}(hc:Ch n ch 0)(h0:0<=fl)(h1:fl<=67108864)(X:Nat->Nat->Int)(P:Nat->Nat->Nat->Int)(x y a b c:Int):Lk.MayL n (sL X P x y a b c) ch fl:=
 ⟨hc,h0,h1,fun k _=>sL_in X P x y a b c k⟩
end Im
end
section
open Go.RowKit Vc Mt St Qn Dt Dec Ld
namespace Ld
end Ld
end
section
open Go.RowKit Vc St Mt Dt Pr Ud
attribute [local go_sem ↓] Go.wp_at_zero Go.wp_at_succ
namespace Ud
end Ud
end
section
open Go.RowKit Vc St Mt Dt Pr Ud
attribute [local go_sem ↓] Go.wp_at_zero Go.wp_at_succ
end
end Go.Proofs.YtcefcokpjbebhaaGreatDoor
