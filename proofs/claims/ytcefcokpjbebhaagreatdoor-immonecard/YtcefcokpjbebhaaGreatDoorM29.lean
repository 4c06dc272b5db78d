/-
  The document's answer of layer 14 (radomeref14): a whole number by shares.
-/
import Derived.Test.YtcefcokpjbebhaaGreatDoorM3
import Derived.Test.YtcefcokpjbebhaaGreatDoorM2
import Derived.Test.YtcefcokpjbebhaaGreatDoorM5
import Derived.Test.YtcefcokpjbebhaaGreatDoorRegU
import Derived.Deep.AppendLies
import Derived.Test.YtcefcokpjbebhaaGreatDoorM8
import Derived.Deep.MidRow
import Derived.Test.YtcefcokpjbebhaaGreatDoorRegM
import Derived.Test.YtcefcokpjbebhaaGreatDoorM1
import Derived.Laws.AppendOwnNone
import Derived.Deep.DeepCutAuto
import Derived.RegionTactic
import Derived.ChangeAlike
import Derived.BigRegion
import Derived.Test.YtcefcokpjbebhaaGreatDoorM4
import Derived.Deep.RegionWith
import Derived.Deep.RegionHeld3
import Derived.Deep.CutRange
import Derived.Test.YtcefcokpjbebhaaGreatDoorM9
set_option linter.unusedSimpArgs false
set_option linter.unusedVariables false
namespace Go.Proofs.YtcefcokpjbebhaaGreatDoor
section
namespace Nu
end Nu
namespace Dec
end Dec
open Go.RowKit Dec Nv Vc St Ld Nu
attribute [local go_sem ↓] Go.wp_at_zero Go.wp_at_succ
namespace Cn
theorem hide{p:Prop}(h:p):Hid p:=h
end Cn
open Cn
end
section
open Go.RowKit Dec Nv Vc St Ld Nu Cn
attribute [local go_sem ↓] Go.wp_at_zero Go.wp_at_succ
set_option maxRecDepth 20000 in
set_option maxHeartbeats 2000000 in
theorem dcheck14_any(ao:Option Addr)(n ca:Nat)(z:Nat->Int)(fl:Int)(w:World)(hs:Sl w ao n ca z)(hz:B64 z)(b:Bool)(hb:b=true↔Ch n z fl)(f0: -9223372036854775808<=fl)(f1:fl<=9223372036854775807):
 Calls Tryz.prog 27 #[.slice ao n ca, .int .i64 fl] w fun e w'=>e= .returned (.bool b)/\Below w.heap.size w w':=by
 obtain⟨x,hao,hc⟩:=hs.get;have l1:=hs.le;have l2:=hs.cap;have HZ:=hide hz;have HB:=hide hb;have HC:=hide hc;have no: ¬Ch n z fl->b=false:=fun h=>by cases b<;>simp_all
 have NO:=hide no;clear hz hb hc no hs;by_cases hH:1<=n/\n<=4/\0<=fl/\fl<=67108864
 ·obtain⟨hn1,hn4,hf0,hf1⟩:=hH;obtain rfl:=hao (by omega);have e1: ¬(n:Int)<1:=by omega
  have e2: ¬(4:Int)<n:=by omega
  go_enter Tryz.func27,Tryz.ntmps27
  go_wp2;go_loopw [5,6] (fun lv i wr=> ∃ k:Nat,k<=n/\i= .int .i64 (k:Int)/\lv= .int .i64 (1073741824- tot z k)/\0<=1073741824- tot z k/\0<=tot z k/\(∀ j,j<k->fl<=z j)/\w=wr) (fun _ i _=>n- (intOf i).toNat)
  case atStart=>exact⟨0,by omega,rfl,rfl,by show(0:Int)<=1073741824- 0;omega,Int.le_refl _,fun j hj=>by omega,rfl⟩
  case round=>
   obtain⟨k,hk,rfl,rfl,hl0,ht0,hfl,rfl⟩:=hrel;by_cases h:k<n
   ·have ck:=HC.out k h;have bk:=HZ.out k;have HU:Hid (tot z (k+1)=tot z k+z k):=rfl;have HF:=hide hfl;have kn:(k:Int)<n:=by omega
    obtain⟨zk,hzk⟩: ∃ q,q=z k:=⟨_,rfl⟩;obtain⟨tk,htk⟩: ∃ q,q=tot z k:=⟨_,rfl⟩;rw [← hzk] at ck bk HU;rw [← htk] at hl0 ht0 HU ⊢;have HZK:=hide hzk;clear hzk htk hfl;by_cases c1:zk<fl
    ·obtain rfl:b=false:=NO.out (fun q=>by have:=q.each k h;rw [← HZK.out] at this;omega);go_wp2;go_ret;exact⟨rfl,Below.refl _ _⟩
    ·by_cases c2:1073741824- tk<zk
     ·obtain rfl:b=false:=NO.out (fun q=>by have:=q.le (k:=k+1) h;rw [HU.out] at this;omega);go_wp2;go_ret;exact⟨rfl,Below.refl _ _⟩
     ·go_wp2;go_roundw
      case rel=>
       refine⟨k+1,by omega,by go_num,by rw [HU.out];congr 1;omega,by rw [HU.out];omega,by rw [HU.out];omega,fun j hj=> ?_,by first|trivial|rfl⟩;by_cases e:j=k
       ·rw [e,← HZK.out];omega
       ·exact HF.out j (by omega)
      case measure=>simp [intOf];omega
   ·obtain rfl:n=k:=by omega
    have HF:=hide hfl
    have hd:b=decide (1073741824- tot z n=0):=by
     by_cases e:tot z n=1073741824
     ·rw [HB.out.2 ⟨hn1,hn4,hf0,hf1,hfl,e⟩];exact(decide_eq_true (by omega)).symm
     ·rw [NO.out (fun q=>e q.sum)];exact(decide_eq_false (by omega)).symm
    have HD:=hide hd;obtain⟨tk,htk⟩: ∃ q,q=tot z n:=⟨_,rfl⟩;rw [← htk] at hl0 ht0 HD ⊢;clear htk hfl hd;by_cases e:1073741824- tk=0
    ·obtain rfl:b=true:=by rw [HD.out];exact decide_eq_true e
     rw [e];go_wp2;go_ret;exact⟨rfl,Below.refl _ _⟩
    ·obtain rfl:b=false:=by rw [HD.out];exact decide_eq_false e
     have e':(1073741824- tk==0)=false:=by simp [e]
     have e'': ¬tk=1073741824:=by omega
     have e3: ¬(1073741824:Int)=tk:=by omega
     go_wp2;go_ret;exact⟨rfl,Below.refl _ _⟩
 ·obtain rfl:b=false:=NO.out (fun q=>hH ⟨q.one,q.four,q.lo,q.hi⟩);clear hao HC HZ HB NO;rcases(by omega:n=0\/4<n\/(1<=n/\n<=4/\fl<0)\/(1<=n/\n<=4/\0<=fl/\67108864<fl)) with h|h|⟨h1,h2,h3⟩|⟨h1,h2,h3,h4⟩
  ·subst h;go_enter Tryz.func27,Tryz.ntmps27
   go_wp2;go_ret;exact⟨rfl,Below.refl _ _⟩
  ·have e1: ¬(n:Int)<1:=by omega
   have e2:(4:Int)<n:=by omega
   go_enter Tryz.func27,Tryz.ntmps27
   go_wp2;go_ret;exact⟨rfl,Below.refl _ _⟩
  ·have e1: ¬(n:Int)<1:=by omega
   have e2: ¬(4:Int)<n:=by omega
   go_enter Tryz.func27,Tryz.ntmps27
   go_wp2;go_ret;exact⟨rfl,Below.refl _ _⟩
  ·have e1: ¬(n:Int)<1:=by omega
   have e2: ¬(4:Int)<n:=by omega
   go_enter Tryz.func27,Tryz.ntmps27
   go_wp2;go_ret;exact⟨rfl,Below.refl _ _⟩
end
section
open Go.RowKit Vc Cn Mt
attribute [local go_sem ↓] Go.wp_at_zero Go.wp_at_succ
namespace Mx
structure Dst(w:World)(lo:Option Addr)(n cm:Nat)(U V:Nat->Value):Prop where
 le:n<=cm
 cap:cm<=9223372036854775807
 at': ∀ k,k<n-> ∃ x,lo=some x/\w.cell? (x.add (k*2))=some (U k)/\w.cell? ((x.add (k*2)).add 1)=some (V k)
theorem addr_at0(a:Addr):a.add 0=a:=by
 unfold Addr.add;split<;>simp_all
end Mx
open Mx
end
section
open Go.RowKit Dec Nv Vc St Ld Nu Cn
attribute [local go_sem ↓] Go.wp_at_zero Go.wp_at_succ
namespace Nu
end Nu
end
section
open Go.RowKit Vc Cn Mx
attribute [local go_sem ↓] Go.wp_at_zero Go.wp_at_succ
namespace Mx
end Mx
end
section
open Go.RowKit Vc St Mt Dt Cn Mx El
attribute [local go_sem ↓] Go.wp_at_zero Go.wp_at_succ
namespace Mx
end Mx
end
section
open Go.RowKit Vc St Mt Dt Cn Mx El
attribute [local go_sem ↓] Go.wp_at_zero Go.wp_at_succ
namespace Mx
theorem results_tmp4{fn:Func}{t u v q:Tmp}(h:fn.results= #[.tmp t, .tmp u, .tmp v, .tmp q])(tmps:Array Value)(P:Program)(w:World):
 (results fn tmps).run P w= .ok (.tuple #[tmps.getD t undef,tmps.getD u undef,tmps.getD v undef,tmps.getD q undef]) w:=by
 simp [results,h]
end Mx
end
end Go.Proofs.YtcefcokpjbebhaaGreatDoor
