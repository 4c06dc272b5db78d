/-
  Layer 15's laws: lists of states that came in, handed on, held against each other (sized, giveStates, areStates).
-/
import Derived.Test.YtcefcokpjbebhaaGreatDoorPdL
import Derived.Test.YtcefcokpjbebhaaGreatDoorM29
import Derived.Test.YtcefcokpjbebhaaGreatDoorM36
import Derived.Test.YtcefcokpjbebhaaGreatDoorRegM
set_option linter.unusedSimpArgs false
set_option linter.unusedVariables false
namespace Go.Proofs.YtcefcokpjbebhaaGreatDoor
section
open Go.RowKit Vc Mx Pd St Mt
attribute [local go_sem ↓] Go.wp_at_zero Go.wp_at_succ
namespace Mx
structure Raw where
 xo:Option Addr
 xn:Nat
 xc:Nat
 X:Nat->Int
 po:Option Addr
 pn:Nat
 pc:Nat
 A:Nat->Option Addr
 K:Nat->Nat
 C:Nat->Nat
 Z:Nat->Nat->Int
end Mx
end
section
open Go.RowKit Vc St Mt Pd Mx
namespace Im
theorem hidC{p:Prop}(h:p):Hid p:=h
structure Dmt(w:World)(lo:Option Addr)(n cm:Nat)(K V N:Nat->Int):Prop where
 le:n<=cm
 cap:cm<=9223372036854775807
 at': ∀ k,k<n-> ∃ x,lo=some x/\w.cell? (x.add (k*3))=some (.int .i64 (K k))/\w.cell? ((x.add (k*3)).add 1)=some (.int .i64 (V k))/\w.cell? ((x.add (k*3)).add 2)=some (.int .i64 (N k))
theorem Dmt.get{w:World}{lo:Option Addr}{n cm:Nat}{K V N:Nat->Int}(h:Dmt w lo n cm K V N): ∃ x,(0<n->lo=some x)/\ ∀ k,k<n->w.cell? (x.add (k*3))=some (.int .i64 (K k))/\w.cell? ((x.add (k*3)).add 1)=some (.int .i64 (V k))/\w.cell? ((x.add (k*3)).add 2)=some (.int .i64 (N k)):=by
 rcases Nat.eq_zero_or_pos n with e|e
 · exact⟨⟨0,0,none⟩,fun q=>by omega,fun k hk=>by omega⟩
 · obtain⟨x,hx,_⟩:=h.at' 0 e;refine⟨x,fun _=>hx,fun k hk=> ?_⟩;obtain⟨y,hy,hc⟩:=h.at' k hk;rw [hx] at hy;injection hy with q
   subst q;exact hc
theorem Dmt.keep{w w':World}{lo:Option Addr}{n cm:Nat}{K V N:Nat->Int}(h:Dmt w lo n cm K V N)(b:Below w.heap.size w w'):Dmt w' lo n cm K V N:=
 ⟨h.le,h.cap,fun k hk=>by obtain⟨x,hx,h0,h1,h2⟩:=h.at' k hk;exact⟨x,hx,keep_cell b h0,keep_cell b h1,keep_cell b h2⟩⟩
theorem list_three{cs:List Value}(h:cs.length=3): ∃ u v z,cs= [u,v,z]:=by
 match cs,h with
 | [u,v,z],_=>exact⟨u,v,z,rfl⟩
theorem list3{α β:Type}{f:α->β}{l:List α}{x y z:β}(h:l.map f= [x,y,z]): ∃ a b c,l= [a,b,c]/\f a=x/\f b=y/\f c=z:=by
 match l,h with
 | [a,b,c],h=>
   injection h with h0 h
   injection h with h1 h
   injection h with h2 _
   exact⟨a,b,c,rfl,h0,h1,h2⟩
theorem fieldsM:(Tryz.prog.fieldsOf 97).toList.map (fun f=>(f.name,f.type,f.offset))= [("Kind",3,0),("Rate",2,1),("Noise",2,2)]:=by kernel_rfl
theorem structM:Tryz.prog.underlying 97=some (.struct (Tryz.prog.fieldsOf 97)):=by kernel_rfl
theorem model_lies{w:World}{cs:List Value}(h:Lie.L w 97 cs): ∃ k v n:Int,cs= [.int .i64 k, .int .i64 v, .int .i64 n]/\(-9223372036854775808<=k/\k<=9223372036854775807)/\(-9223372036854775808<=v/\v<=9223372036854775807)/\(-9223372036854775808<=n/\n<=9223372036854775807):=by
 obtain⟨hlen,hF⟩:=Lie.struct_ structM h;have hl:cs.length=3:=by rw [hlen];kernel_rfl
 obtain⟨u,v,z,rfl⟩:=list_three hl;clear hlen hl h;obtain⟨f0,f1,f2,hf,h0,h1,h2⟩:=list3 fieldsM;injection h0 with n0 h0
 injection h0 with t0 o0
 injection h1 with n1 h1
 injection h1 with t1 o1
 injection h2 with n2 h2
 injection h2 with t2 o2
 have c0:Tryz.prog.cellsOf 3=1:=by kernel_rfl
 have c1:Tryz.prog.cellsOf 2=1:=by kernel_rfl
 have g0:Lie.L w 3 [u]:=by
  have f:=hF 0 f0 (by rw [← Array.getElem?_toList,hf];rfl);rw [t0,o0,c0] at f;exact f
 have g1:Lie.L w 2 [v]:=by
  have f:=hF 1 f1 (by rw [← Array.getElem?_toList,hf];rfl);rw [t1,o1,c1] at f;exact f
 have g2:Lie.L w 2 [z]:=by
  have f:=hF 2 f2 (by rw [← Array.getElem?_toList,hf];rfl);rw [t2,o2,c1] at f;exact f
 obtain⟨a,e0,b0⟩:=Lie.int_ Tryz.underlying3 g0;obtain⟨b,e1,b1⟩:=Lie.int_ Tryz.underlying2 g1;obtain⟨c,e2,b2⟩:=Lie.int_ Tryz.underlying2 g2;injection e0 with e0 _
 injection e1 with e1 _
 injection e2 with e2 _
 subst e0 e1 e2;exact⟨a,b,c,rfl,Lie.wf64 b0,Lie.wf64 b1,Lie.wf64 b2⟩
theorem b64_zero:B64 (fun _=>0):=fun _=>⟨(by decide:(-9223372036854775808:Int)<=0),(by decide:(0:Int)<=9223372036854775807)⟩
theorem models_lie{W:World}{cs:List Value}(h:Lie.L W 22 cs): ∃ (lo:Option Addr) (n cm:Nat) (K V N:Nat->Int),cs= [.slice lo n cm]/\Dmt W lo n cm K V N/\B64 K/\B64 V/\B64 N:=by
 rcases Lie.slice_ Tryz.underlying22 h with rfl|⟨a,len,cap,rfl,hl,hm,hel⟩
 · exact⟨none,0,0,fun _=>0,fun _=>0,fun _=>0,rfl,⟨Nat.le_refl _,by omega,fun k hk=>by omega⟩,b64_zero,b64_zero,b64_zero⟩
 · have c3:Tryz.prog.cellsOf 97=3:=by kernel_rfl
   have key: ∀ i,i<cap-> ∃ y:Int×Int×Int,W.cell? (a.add (i*3))=some (.int .i64 y.1)/\W.cell? ((a.add (i*3)).add 1)=some (.int .i64 y.2.1)/\W.cell? ((a.add (i*3)).add 2)=some (.int .i64 y.2.2)/\(-9223372036854775808<=y.1/\y.1<=9223372036854775807)/\(-9223372036854775808<=y.2.1/\y.2.1<=9223372036854775807)/\(-9223372036854775808<=y.2.2/\y.2.2<=9223372036854775807):=fun i hi=>by
    obtain⟨es,h1,h2⟩:=hel i hi;obtain⟨k,v,n,rfl,b0,b1,b2⟩:=model_lies h2;rw [c3] at h1;have h3:=(World.cells?_some h1).2.2 0 (by omega);have h4:=(World.cells?_some h1).2.2 1 (by omega);have h5:=(World.cells?_some h1).2.2 2 (by omega);rw [Lie.addr_zero] at h3;exact⟨(k,v,n),h3,h4,h5,b0,b1,b2⟩
   refine⟨some a,len,cap,fun i=>if h:i<cap then(key i h).choose.1 else 0,fun i=>if h:i<cap then(key i h).choose.2.1 else 0,fun i=>if h:i<cap then(key i h).choose.2.2 else 0,rfl,⟨hl,hm,fun k hk=>⟨a,rfl, ?_⟩⟩,fun k=> ?_,fun k=> ?_,fun k=> ?_⟩
   · have hk':k<cap:=by omega
     simp only [dif_pos hk'];exact⟨(key k hk').choose_spec.1,(key k hk').choose_spec.2.1,(key k hk').choose_spec.2.2.1⟩
   all_goals by_cases hk:k<cap
   all_goals first
    |(simp only [dif_pos hk];first|exact(key k hk).choose_spec.2.2.2.1|exact(key k hk).choose_spec.2.2.2.2.1|exact(key k hk).choose_spec.2.2.2.2.2)
    |(simp only [dif_neg hk];exact b64_zero 0)
theorem fieldsC:(Tryz.prog.fieldsOf 25).toList.map (fun f=>(f.name,f.type,f.offset))= [("Models",22,0),("Rows",23,1),("Floor",2,2)]:=by kernel_rfl
theorem structC:Tryz.prog.underlying 25=some (.struct (Tryz.prog.fieldsOf 25)):=by kernel_rfl
theorem conf_lies{w:World}{cs:List Value}(h:Lie.L w 25 cs):
 ∃ (mo:Option Addr) (n mc:Nat) (K V N:Nat->Int) (ro:Option Addr) (q rc:Nat) (A:Nat->Option Addr) (L C:Nat->Nat) (R:Nat->Nat->Int) (fl:Int),cs= [.slice mo n mc, .slice ro q rc, .int .i64 fl]/\Dmt w mo n mc K V N/\(B64 K/\B64 V/\B64 N)/\Sls w ro q rc A L C/\(∀ r,r<q->Sl w (A r) (L r) (C r) (R r)/\B64 (R r))/\(-9223372036854775808<=fl/\fl<=9223372036854775807):=by
 obtain⟨hlen,hF⟩:=Lie.struct_ structC h;have hl:cs.length=3:=by rw [hlen];kernel_rfl
 obtain⟨u,v,z,rfl⟩:=list_three hl;clear hlen hl h;obtain⟨f0,f1,f2,hf,h0,h1,h2⟩:=list3 fieldsC;injection h0 with n0 h0
 injection h0 with t0 o0
 injection h1 with n1 h1
 injection h1 with t1 o1
 injection h2 with n2 h2
 injection h2 with t2 o2
 have c0:Tryz.prog.cellsOf 22=1:=by kernel_rfl
 have c1:Tryz.prog.cellsOf 23=1:=by kernel_rfl
 have c2:Tryz.prog.cellsOf 2=1:=by kernel_rfl
 have g0:Lie.L w 22 [u]:=by
  have f:=hF 0 f0 (by rw [← Array.getElem?_toList,hf];rfl);rw [t0,o0,c0] at f;exact f
 have g1:Lie.L w 23 [v]:=by
  have f:=hF 1 f1 (by rw [← Array.getElem?_toList,hf];rfl);rw [t1,o1,c1] at f;exact f
 have g2:Lie.L w 2 [z]:=by
  have f:=hF 2 f2 (by rw [← Array.getElem?_toList,hf];rfl);rw [t2,o2,c2] at f;exact f
 obtain⟨mo,n,mc,K,V,N,e0,sM,bK,bV,bN⟩:=models_lie g0;obtain⟨ro,q,rc,A,L,C,R,e1,sR,qR⟩:=Lie.rows Tryz.underlying23 Tryz.underlying27 Tryz.underlying2 (by kernel_rfl) (by kernel_rfl) g1;obtain⟨fl,e2,b2⟩:=Lie.int_ Tryz.underlying2 g2;injection e0 with e0 _
 injection e1 with e1 _
 injection e2 with e2 _
 subst e0 e1 e2;exact⟨mo,n,mc,K,V,N,ro,q,rc,A,L,C,R,fl,rfl,sM,⟨bK,bV,bN⟩,sR,qR,Lie.wf64 b2⟩
end Im
namespace Im
end Im
end
end Go.Proofs.YtcefcokpjbebhaaGreatDoor
