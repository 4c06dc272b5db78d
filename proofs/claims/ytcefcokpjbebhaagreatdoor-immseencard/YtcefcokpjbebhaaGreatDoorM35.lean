/-
  A slice of numbers of 64 bits appended to one of the call's own; pieces of a slice from its head and to its end; the greatest logarithm of those that have a chance, as the program goes; the greatest of the others.
-/
import Derived.Test.YtcefcokpjbebhaaGreatDoorM32
import Derived.Test.YtcefcokpjbebhaaGreatDoorM34
set_option linter.unusedSimpArgs false
set_option linter.unusedVariables false
namespace Go.Proofs.YtcefcokpjbebhaaGreatDoor
section
open Go.RowKit Mt
namespace Vc
end Vc
namespace Lk
open Cn Qn Gw
def tp(l c:Nat->Int):Nat->Int
 |0=> -4611686018427387903
 |k+1=>if 0<c k then max (tp l c k) (l k) else tp l c k
theorem Na{l c:Nat->Int}{k:Nat}(h:0<c k):tp l c (k+1)=max (tp l c k) (l k):=if_pos h
theorem aaG{l c:Nat->Int}{k:Nat}(h: ¬0<c k):tp l c (k+1)=tp l c k:=if_neg h
theorem tp_up{l c:Nat->Int}{M:Int}(hM: -4611686018427387903<=M): ∀ {n:Nat},(∀ i,i<n->0<c i->l i<=M)->tp l c n<=M
 |0,_=>hM
 |n+1,h=>by
  have ih:=tp_up hM (n:=n) (fun i hi=>h i om1)
  by_cases q:0<c n
  · rw [Na q]
    have:=h n om1 q
    omega
  · rw [aaG q];exact ih
theorem Yb{l c:Nat->Int}: ∀ {n i:Nat},i<n->0<c i->l i<=tp l c n
 |n+1,i,hi,h0=>by
  by_cases e:i=n
  · subst e
    rw [Na h0];omega
  · have ih:=Yb (n:=n) (i:=i) (l:=l) (c:=c) om1 h0
    by_cases q:0<c n
    · rw [Na q];omega
    · rw [aaG q];exact ih
theorem tp_is{n:Nat}{l c:Nat->Int}{fl:Int}(h:Qh n l c fl):tp l c n=l (bl l c n).toNat:=by
 obtain⟨_,b1,b2,b3⟩:=Nz h;have u:=tp_up (l:=l) (c:=c) (n:=n) (M:=l (bl l c n).toNat) (h.each _ b1).1 b3;have d:=Yb (l:=l) b1 b2;omega
end Lk
end
section
open Go.RowKit Vc Cn Lk
namespace Lk
def errK(n:Int):Value:= .iface 93 (.int .i64 n)
def KOf:Prop:= ∀ (W:World) (X:Nat->Int) (P:Nat->Nat->Int) (x y a b c:Int),(∀ i,i<2->Ld.fine (Ud.oM P a b c) i)->
 Calls Tryz.prog 119 #[.agg (Up.dP (Ud.v2 (Ud.ox X x) (Ud.oy X y)) 2 (Mt.mz 2 2 (Ud.fL P a b c)) (Ud.fD P a b c)).toArray] W fun e w'=>
  e= .returned (.tuple #[.int .i64 (ofN (Ud.fL P a b c) (Ud.fD P a b c) (Ud.v2 (Ud.ox X x) (Ud.oy X y))), .bool (ofO (Ud.fL P a b c) (Ud.fD P a b c) (Ud.v2 (Ud.ox X x) (Ud.oy X y))), .nilIface])/\Below W.heap.size W w'
def Ug:Prop:= ∀ (W:World) (lo co:Option Addr) (n cl m cc:Nat) (l c:Nat->Int) (fl:Int),Sl W lo n cl l->B64 l->Sl W co m cc c->B64 c-> -9223372036854775808<=fl->fl<=9223372036854775807->
 Calls Tryz.prog 58 #[.slice lo n cl, .slice co m cc, .int .i64 fl] W fun e w'=> ∃ vo vn vc b ev,e= .returned (.tuple #[.slice vo vn vc, .bool b,ev])/\Below W.heap.size W w'/\Sl w' vo vn vc (oc fl (wz l c n) n)/\
  ((¬(n=m/\Qh n l c fl)/\vn=0/\ev=errK 1)\/(n=m/\Qh n l c fl/\vn=n/\b=wo l c n n/\ev= .nilIface))/\qh W vo
end Lk
end
end Go.Proofs.YtcefcokpjbebhaaGreatDoor
