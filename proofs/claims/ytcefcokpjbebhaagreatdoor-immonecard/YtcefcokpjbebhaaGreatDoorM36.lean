/-
  What package mix answers (layer 15), said once: its contracts; lists of the program's states; what must come whatever the input is (sure of the laws).
-/
import Derived.Test.YtcefcokpjbebhaaGreatDoorM9
import Derived.Test.YtcefcokpjbebhaaGreatDoorM25
import Derived.Test.YtcefcokpjbebhaaGreatDoorM20
import Derived.Test.YtcefcokpjbebhaaGreatDoorM7
import Derived.Test.YtcefcokpjbebhaaGreatDoorErrA
import Derived.Test.YtcefcokpjbebhaaGreatDoorM8
import Derived.Test.YtcefcokpjbebhaaGreatDoorM34
set_option linter.unusedSimpArgs false
set_option linter.unusedVariables false
namespace Go.Proofs.YtcefcokpjbebhaaGreatDoor
section
open Go.RowKit Vc Cn
namespace Mx
def errX(n:Int):Value:= .iface 93 (.int .i64 n)
structure Pst(w:World)(lo:Option Addr)(n cm:Nat)(X:Nat->Nat->Int)(r c:Nat->Int)(z:Nat->Nat->Int):Prop where
 le:n<=cm
 cap:cm<=9223372036854775807
 at': ∀ k,k<n-> ∃ g,lo=some ⟨g,0,none⟩/\w.rangeAt g (k*44) (Pd.svals (X k) (r k) (c k) (z k))
theorem Pst.keep{w w':World}{lo:Option Addr}{n cm:Nat}{X:Nat->Nat->Int}{r c:Nat->Int}{z:Nat->Nat->Int}(h:Pst w lo n cm X r c z)(b:Below w.heap.size w w'):Pst w' lo n cm X r c z:=
 ⟨h.le,h.cap,fun k hk=>by obtain⟨g,hg,hr⟩:=h.at' k hk;exact⟨g,hg,fun j v hv=>keep_cell b (hr j v hv)⟩⟩
theorem Pst.congr{w:World}{lo:Option Addr}{n cm:Nat}{X X':Nat->Nat->Int}{r c r' c':Nat->Int}{z z':Nat->Nat->Int}(h:Pst w lo n cm X r c z)(e: ∀ k,k<n->Pd.svals (X k) (r k) (c k) (z k)=Pd.svals (X' k) (r' k) (c' k) (z' k)):Pst w lo n cm X' r' c' z':=
 ⟨h.le,h.cap,fun k hk=>by rw [← e k hk];exact h.at' k hk⟩
theorem Pst.nil(w:World)(X:Nat->Nat->Int)(r c:Nat->Int)(z:Nat->Nat->Int):Pst w none 0 0 X r c z:=⟨Nat.le_refl _,by omega,fun k hk=>by omega⟩
theorem Pst.get{w:World}{lo:Option Addr}{n cm:Nat}{X:Nat->Nat->Int}{r c:Nat->Int}{z:Nat->Nat->Int}(h:Pst w lo n cm X r c z): ∃ g,(0<n->lo=some ⟨g,0,none⟩)/\ ∀ k,k<n->w.rangeAt g (k*44) (Pd.svals (X k) (r k) (c k) (z k)):=by
 rcases Nat.eq_zero_or_pos n with e|e
 · exact⟨0,fun q=>by omega,fun k hk=>by omega⟩
 · obtain⟨g,hg,_⟩:=h.at' 0 e;refine⟨g,fun _=>hg,fun k hk=> ?_⟩;obtain⟨g',hg',hr⟩:=h.at' k hk;rw [hg] at hg';injection hg' with q
   injection q with q _ _
   subst q;exact hr
def MayJ(n m:Nat)(ch:Nat->Int)(X:Nat->Nat->Int)(r c:Nat->Int)(F:Nat->Nat->Nat->Int):Prop:=n=m/\Ch m ch 0/\ ∀ k,k<n->r k=6/\c k=6/\Pr.MayV (X k) (F k)
def MJoin:Prop:= ∀ (W:World) (lo ho:Option Addr) (n cm m hc:Nat) (X:Nat->Nat->Int) (r c:Nat->Int) (z:Nat->Nat->Int) (F:Nat->Nat->Nat->Int) (ch:Nat->Int),Pst W lo n cm X r c z->(∀ k,k<n->r k=6->c k=6->z k=Mt.mz 6 6 (F k))->(∀ k,B64 (X k))->(∀ k,Mt.B2 (F k))->Sl W ho m hc ch->B64 ch->
 Calls Tryz.prog 51 #[.slice lo n cm, .slice ho m hc] W fun e w'=>Below W.heap.size W w'/\
  ((¬MayJ n m ch X r c F/\e= .returned (.tuple #[.agg (Pd.svals (fun _=>0) 0 0 (fun _=>0)).toArray, .bool false,errX 1]))\/
   (MayJ n m ch X r c F/\e= .returned (.tuple #[.agg (Pd.svals (jX n ch X) 6 6 (Mt.mz 6 6 (jP n ch X F))).toArray, .bool (jO n ch X F), .nilIface])))
theorem run_slice1(X:Nat->Int)(r c:Int)(z:Nat->Int)(w:World):(Instr.buildSlice 32 1 #[(0, .agg (Pd.svals X r c z).toArray)]).run Tryz.prog w= .ok (.slice (some ⟨w.heap.size,0,none⟩) 1 1) (w.alloc (.cells (Pd.svals X r c z).toArray 55)):=by kernel_rfl
theorem wpList_slice1{ops:Array Oper}{rest:List Oper}{o:Oper}{a:Act}{w:World}{Q:Exit->Act->World->Prop}(x:Operand)(ho:o.op= .buildSlice 32 1 #[(0,x)])(X:Nat->Int)(r c:Int)(z:Nat->Int)(hx:a.eval x= .agg (Pd.svals X r c z).toArray)(hgd:o.guard=none)
 (h:wpList Tryz.prog ops Q rest (a.put o.dst (.slice (some ⟨w.heap.size,0,none⟩) 1 1)) (w.alloc (.cells (Pd.svals X r c z).toArray 55))):wpList Tryz.prog ops Q (o::rest) a w:=by
 refine wpList_plain hgd fun _ hK=> ?_;unfold Oper.wp execOp;have em:((#[(0,x)]:Array (Nat×Operand)).map fun(i,x)=>(i,a.eval x))= #[(0, .agg (Pd.svals X r c z).toArray)]:=by simp [hx]
 simp only [ho,em,Sem.run_bind,run_slice1,Result.andThen_ok];exact hK _ _ h
end Mx
open Mx Pd St Mt
end
section
open Go.RowKit Vc Mx Pd St Mt
end
end Go.Proofs.YtcefcokpjbebhaaGreatDoor
