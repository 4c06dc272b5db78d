/-
  Layer 17's laws: what is known of a conf and an Imm that came in; what each call answers of them.
-/
import Derived.Test.YtcefcokpjbebhaaGreatDoorM55
import Derived.Test.YtcefcokpjbebhaaGreatDoorM25
import Derived.Test.YtcefcokpjbebhaaGreatDoorM8
import Derived.Test.YtcefcokpjbebhaaGreatDoorM4
import Derived.Test.YtcefcokpjbebhaaGreatDoorM3
import Derived.Test.YtcefcokpjbebhaaGreatDoorM15
import Derived.Deep.DeepCutAuto
import Derived.Deep.RegionHeld3
import Derived.Deep.CutRange
import Derived.Test.YtcefcokpjbebhaaGreatDoorM2
import Derived.Laws.AppendOwnNone
import Derived.Test.YtcefcokpjbebhaaGreatDoorM1
import Derived.RegionTactic
import Derived.ChangeAlike
import Derived.BigRegion
import Derived.Deep.RegionWith
import Derived.Test.YtcefcokpjbebhaaGreatDoorM17
import Derived.Test.YtcefcokpjbebhaaGreatDoorRegU
import Derived.Test.YtcefcokpjbebhaaGreatDoorM32
import Derived.Test.YtcefcokpjbebhaaGreatDoorM20
set_option linter.unusedSimpArgs false
set_option linter.unusedVariables false
set_option maxHeartbeats 8000000
set_option maxRecDepth 20000
namespace Go.Proofs.YtcefcokpjbebhaaGreatDoor
section
open Go.RowKit Vc St Mt Cn Mx Im El
namespace Im
theorem b64_if{p:Prop} [Decidable p]{f:Nat->Int}(h:p->B64 f):B64 (if p then f else fun _=>0):=by
 by_cases e:p
 · rw [if_pos e];exact h e
 · rw [if_neg e];intro j;show _<=(0:Int)/\(0:Int)<=_;omega
structure Ci(w:World)(mo:Option Addr)(n mc:Nat)(K V N:Nat->Int)(ro:Option Addr)(q rc:Nat)(A:Nat->Option Addr)(L C:Nat->Nat)(R:Nat->Nat->Int)(fl:Int):Prop where
 m:Dmt w mo n mc K V N
 s:Sls w ro q rc A L C
 e: ∀ i,i<q->Sl w (A i) (L i) (C i) (R i)
 k:B64 K
 v:B64 V
 nb:B64 N
 r: ∀ i,B64 (R i)
 f0: -9223372036854775808<=fl
 f1:fl<=9223372036854775807
theorem conf_ci{w:World}{cs:List Value}(h:Lie.L w 25 cs):
 ∃ (mo:Option Addr) (n mc:Nat) (K V N:Nat->Int) (ro:Option Addr) (q rc:Nat) (A:Nat->Option Addr) (L C:Nat->Nat) (R:Nat->Nat->Int) (fl:Int),cs= [.slice mo n mc, .slice ro q rc, .int .i64 fl]/\Ci w mo n mc K V N ro q rc A L C R fl:=by
 obtain⟨mo,n,mc,K,V,N,ro,q,rc,A,L,C,R,fl,e,sM,⟨bK,bV,bN⟩,sR,qR,bf⟩:=conf_lies h;exact⟨mo,n,mc,K,V,N,ro,q,rc,A,L,C,fun i=>if i<q then R i else fun _=>0,fl,e,sM,sR,fun i hi=>by simp only [if_pos hi];exact(qR i hi).1,bK,bV,bN,fun i=>b64_if fun hi=>(qR i hi).2,bf.1,bf.2⟩
def coI(n:Nat)(K V N:Nat->Int)(ro:Option Addr)(q rc:Nat)(A:Nat->Option Addr)(L C:Nat->Nat)(R:Nat->Nat->Int)(fl:Int)(vo:Option Addr)(vm:Nat):Co:=⟨vo,n,vm,K,V,N,ro,q,rc,A,L,C,R,fl⟩
section
variable {w:World} {mo:Option Addr} {n mc:Nat} {K V N:Nat->Int} {ro:Option Addr} {q rc:Nat} {A:Nat->Option Addr} {L C:Nat->Nat} {R:Nat->Nat->Int} {fl:Int} (h:Ci w mo n mc K V N ro q rc A L C R fl)
include h
theorem Ci.keep{w':World}(b:Below w.heap.size w w'):Ci w' mo n mc K V N ro q rc A L C R fl:=⟨h.m.keep b,h.s.keep b,fun i hi=>(h.e i hi).keep b,h.k,h.v,h.nb,h.r,h.f0,h.f1⟩
theorem Ci.give(hn:n<=10)(W:World)(b:Below w.heap.size w W):
 Calls Tryz.prog 9 #[.agg #[.slice mo n mc, .slice ro q rc, .int .i64 fl]] W fun e w'=> ∃ vo vm,e= .returned (.agg #[.slice vo n vm, .slice ro q rc, .int .i64 fl])/\(coI n K V N ro q rc A L C R fl vo vm).Lies w'/\Below W.heap.size W w':=by
 have g:=h.keep b;refine(giveConf_any mo ro n mc q rc fl K V N W g.m hn).mono ?_;rintro e w' ⟨vo,vm,rfl,hp,k⟩;exact⟨vo,vm,rfl,⟨hp,⟨g.s.keep k,fun i hi=>(g.e i hi).keep k⟩,⟨h.k,h.v,h.nb,h.r,h.f0,h.f1⟩⟩,k⟩
end
structure Ii(w:World)(lo:Option Addr)(n cm:Nat)(D:Nat->Raw)(ho:Option Addr)(m hc:Nat)(ch:Nat->Int)(X:Nat->Nat->Int)(r c:Nat->Int)(z:Nat->Nat->Int)(F:Nat->Nat->Nat->Int)(g:Nat->Bool):Prop where
 d:Dst w lo n cm (fun k=> .slice (D k).xo 6 (D k).xc) (fun k=> .slice (D k).po (D k).pn (D k).pc)
 x: ∀ k,k<n->Sl w (D k).xo 6 (D k).xc (X k)
 kn: ∀ k,k<n->Kn w (D k) (r k) (c k) (z k) (F k) (g k)
 i: ∀ k,k<n->(g k=true↔r k=6/\c k=6/\Pr.MayV (X k) (F k))
 bx: ∀ k,B64 (X k)
 bf: ∀ k,B2 (F k)
 s:Sl w ho m hc ch
 b:B64 ch
 ten:n<=10
section
variable {w:World} {lo:Option Addr} {n cm:Nat} {D:Nat->Raw} {ho:Option Addr} {m hc:Nat} {ch:Nat->Int} {X:Nat->Nat->Int} {r c:Nat->Int} {z:Nat->Nat->Int} {F:Nat->Nat->Nat->Int} {g:Nat->Bool} (h:Ii w lo n cm D ho m hc ch X r c z F g)
include h
end
end Im
end
section
open Go.RowKit Vc St Mt Cn Mx Im El Dt
namespace Im
theorem list_six{cs:List Value}(h:cs.length=6): ∃ a b c d e f,cs= [a,b,c,d,e,f]:=by
 match cs,h with
 | [a,b,c,d,e,f],_=>exact⟨a,b,c,d,e,f,rfl⟩
theorem fieldsS:(Tryz.prog.fieldsOf 80).toList.map (fun f=>(f.name,f.type,f.offset))= [("Time",2,0),("Seen",67,1)]:=by kernel_rfl
theorem structS:Tryz.prog.underlying 80=some (.struct (Tryz.prog.fieldsOf 80)):=by kernel_rfl
theorem fieldsE:(Tryz.prog.fieldsOf 67).toList.map (fun f=>(f.name,f.type,f.offset))= [("X",2,0),("Y",2,1),("XX",2,2),("YY",2,3),("XY",2,4)]:=by kernel_rfl
theorem structE:Tryz.prog.underlying 67=some (.struct (Tryz.prog.fieldsOf 67)):=by kernel_rfl
theorem list5{α β:Type}{f:α->β}{l:List α}{x y z u v:β}(h:l.map f= [x,y,z,u,v]): ∃ a b c d e,l= [a,b,c,d,e]/\f a=x/\f b=y/\f c=z/\f d=u/\f e=v:=by
 match l,h with
 | [a,b,c,d,e],h=>
   injection h with h0 h
   injection h with h1 h
   injection h with h2 h
   injection h with h3 h
   injection h with h4 _
   exact⟨a,b,c,d,e,rfl,h0,h1,h2,h3,h4⟩
theorem sight_lies{w:World}{cs:List Value}(h:Lie.L w 80 cs): ∃ z:Nat->Int,cs=vals 6 z/\B64 z:=by
 obtain⟨hlen,hF⟩:=Lie.struct_ structS h;have hl:cs.length=6:=by rw [hlen];kernel_rfl
 obtain⟨a,b,c,d,e,f,rfl⟩:=list_six hl;clear hlen hl h;obtain⟨f0,f1,hf,h0,h1⟩:=Pd.list2 fieldsS;injection h0 with n0 h0
 injection h0 with t0 o0
 injection h1 with n1 h1
 injection h1 with t1 o1
 have c0:Tryz.prog.cellsOf 2=1:=by kernel_rfl
 have c1:Tryz.prog.cellsOf 67=5:=by kernel_rfl
 have g0:Lie.L w 2 [a]:=by
  have q:=hF 0 f0 (by rw [← Array.getElem?_toList,hf];rfl);rw [t0,o0,c0] at q;exact q
 have g1:Lie.L w 67 [b,c,d,e,f]:=by
  have q:=hF 1 f1 (by rw [← Array.getElem?_toList,hf];rfl);rw [t1,o1,c1] at q;exact q
 obtain⟨_,hG⟩:=Lie.struct_ structE g1;obtain⟨q0,q1,q2,q3,q4,hq,e0,e1,e2,e3,e4⟩:=list5 fieldsE;injection e0 with _ e0
 injection e0 with ta oa
 injection e1 with _ e1
 injection e1 with tb ob
 injection e2 with _ e2
 injection e2 with tc oc
 injection e3 with _ e3
 injection e3 with td od
 injection e4 with _ e4
 injection e4 with te oe
 have k0:Lie.L w 2 [b]:=by
  have q:=hG 0 q0 (by rw [← Array.getElem?_toList,hq];rfl);rw [ta,oa,c0] at q;exact q
 have k1:Lie.L w 2 [c]:=by
  have q:=hG 1 q1 (by rw [← Array.getElem?_toList,hq];rfl);rw [tb,ob,c0] at q;exact q
 have k2:Lie.L w 2 [d]:=by
  have q:=hG 2 q2 (by rw [← Array.getElem?_toList,hq];rfl);rw [tc,oc,c0] at q;exact q
 have k3:Lie.L w 2 [e]:=by
  have q:=hG 3 q3 (by rw [← Array.getElem?_toList,hq];rfl);rw [td,od,c0] at q;exact q
 have k4:Lie.L w 2 [f]:=by
  have q:=hG 4 q4 (by rw [← Array.getElem?_toList,hq];rfl);rw [te,oe,c0] at q;exact q
 obtain⟨z0,y0,b0⟩:=Lie.int_ Tryz.underlying2 g0;obtain⟨z1,y1,b1⟩:=Lie.int_ Tryz.underlying2 k0;obtain⟨z2,y2,b2⟩:=Lie.int_ Tryz.underlying2 k1;obtain⟨z3,y3,b3⟩:=Lie.int_ Tryz.underlying2 k2;obtain⟨z4,y4,b4⟩:=Lie.int_ Tryz.underlying2 k3;obtain⟨z5,y5,b5⟩:=Lie.int_ Tryz.underlying2 k4;injection y0 with y0 _
 injection y1 with y1 _
 injection y2 with y2 _
 injection y3 with y3 _
 injection y4 with y4 _
 injection y5 with y5 _
 subst y0 y1 y2 y3 y4 y5;refine⟨fun k=>if k=0 then z0 else if k=1 then z1 else if k=2 then z2 else if k=3 then z3 else if k=4 then z4 else if k=5 then z5 else 0,rfl,fun k=> ?_⟩;have b0:=Lie.wf64 b0;have b1:=Lie.wf64 b1;have b2:=Lie.wf64 b2;have b3:=Lie.wf64 b3;have b4:=Lie.wf64 b4;have b5:=Lie.wf64 b5;dsimp only
 (repeat' split)<;>omega
structure Dsi(w:World)(lo:Option Addr)(n cm:Nat)(S:Nat->Nat->Int):Prop where
 le:n<=cm
 cap:cm<=9223372036854775807
 at': ∀ k,k<n-> ∃ x,lo=some x/\ ∀ j,j<6->w.cell? ((x.add (k*6)).add j)=some (.int .i64 (S k j))
 b: ∀ k,B64 (S k)
theorem sights_lie{W:World}{a0:Option Addr}{n cm:Nat}(h:Lie.L W 77 [.slice a0 n cm]): ∃ S:Nat->Nat->Int,Dsi W a0 n cm S:=by
 rcases Lie.slice_ Tryz.underlying77 h with e|⟨a,len,cap,e,hl,hm,hel⟩
 · injection e with e _
   injection e with e1 e2 e3
   subst e1 e2 e3;exact⟨fun _ _=>0,Nat.le_refl _,by omega,fun k hk=>by omega,fun _=>b64_zero⟩
 · injection e with e _
   injection e with e1 e2 e3
   subst e1 e2 e3;have c6:Tryz.prog.cellsOf 80=6:=by kernel_rfl
   have key: ∀ i,i<cm-> ∃ z:Nat->Int,(∀ j,j<6->W.cell? ((a.add (i*6)).add j)=some (.int .i64 (z j)))/\B64 z:=fun i hi=>by
    obtain⟨es,h1,h2⟩:=hel i hi;obtain⟨z,rfl,bz⟩:=sight_lies h2;rw [c6] at h1;refine⟨z,fun j hj=> ?_,bz⟩;have h3:=(World.cells?_some h1).2.2 j hj;rw [h3];match j,hj with
    |0,_=>rfl
    |1,_=>rfl
    |2,_=>rfl
    |3,_=>rfl
    |4,_=>rfl
    |5,_=>rfl
   refine⟨fun i=>if h:i<cm then(key i h).choose else fun _=>0,hl,hm,fun k hk=>⟨a,rfl, ?_⟩,fun k=> ?_⟩
   · have hk':k<cm:=by omega
     simp only [dif_pos hk'];exact(key k hk').choose_spec.1
   · by_cases hk:k<cm
     · simp only [dif_pos hk];exact(key k hk).choose_spec.2
     · simp only [dif_neg hk];exact b64_zero
theorem mix_ch{n q:Nat}{z:Nat->Int}{L:Nat->Nat}{R:Nat->Nat->Int}(h:MayX n z q L R):Ch n (sh 1073741824 (mxw n z R) n) 0:=by
 have ht:=mxw_tot h;have hn:=fun i (hi:i<n)=>mxw_nn h hi;have hp:0<tot (mxw n z R) n:=by omega
 exact⟨h.ch.one,h.ch.four,by omega,by omega,fun k hk=>sh_nn (by omega) hn hp hk,sh_tot hp⟩
theorem ch_b64{n:Nat}{z:Nat->Int}{fl:Int}(h:Ch n z fl):B64 (fun k=>if k<n then z k else 0):=fun k=>by
 show _<=(if k<n then z k else 0)/\(if k<n then z k else 0)<=_
 by_cases e:k<n
 · rw [if_pos e];have:=h.nn e;omega
 · rw [if_neg e];omega
theorem ch_if{n:Nat}{z:Nat->Int}{fl:Int}(h:Ch n z fl):Ch n (fun k=>if k<n then z k else 0) fl:=
 ⟨h.one,h.four,h.lo,h.hi,fun k hk=>by show fl<=if k<n then z k else 0;rw [if_pos hk];exact h.each k hk,by rw [tot_congr (b:=z) (fun k hk=>if_pos hk)];exact h.sum⟩
theorem ch_low{n:Nat}{z:Nat->Int}{fl:Int}(h:Ch n z fl):Ch n z 0:=⟨h.one,h.four,by omega,by omega,fun k hk=>Int.le_trans h.lo (h.each k hk),h.sum⟩
theorem aX_b(K V:Nat->Int)(d:Int)(n:Nat)(ch:Nat->Int)(R:Nat->Nat->Int)(X:Nat->Nat->Int)(k:Nat):B64 (aX K V d n ch R X k):=fun i=>by
 have:=Qn.clamp_bd (Qn.rne (dk (Mo.stepF (K k) (V k) d i) (jX n (shr n ch R k) X) 6) (2^20))
 show _<=Qn.clamp _/\Qn.clamp _<=_
 omega
theorem aP_b(K V N:Nat->Int)(d:Int)(n:Nat)(ch:Nat->Int)(R:Nat->Nat->Int)(X:Nat->Nat->Int)(P:Nat->Nat->Nat->Int)(k:Nat):B2 (aP K V N d n ch R X P k):=fun i j=>by
 have:=Pd.nP_in (Mo.stepF (K k) (V k) d) (jP n (shr n ch R k) X P) (Mo.tw (Mo.nz (K k) d (N k))) i j
 unfold Pr.InV at this
 show _<=Pr.nP _ _ _ i j/\Pr.nP _ _ _ i j<=_
 omega
theorem aMay(K V N:Nat->Int)(d:Int)(n:Nat)(ch:Nat->Int)(R:Nat->Nat->Int)(X:Nat->Nat->Int)(P:Nat->Nat->Nat->Int)(k:Nat):Pr.MayV (aX K V d n ch R X k) (aP K V N d n ch R X P k):=Pd.next_may _ _ _ _
theorem nX_congr(F:Nat->Nat->Int){X Y:Nat->Int}(h: ∀ i,i<6->X i=Y i)(i:Nat):Pr.nX F X i=Pr.nX F Y i:=by
 unfold Pr.nX;rw [show dk (F i) X 6=dk (F i) Y 6 from Ld.dk_congr (fun _ _=>rfl) fun k hk=>h k hk]
theorem nY_congr(F:Nat->Nat->Int){P P':Nat->Nat->Int}(h: ∀ i j,i<6->j<6->P i j=P' i j)(i:Nat){j:Nat}(hj:j<6):Pr.nY F P i j=Pr.nY F P' i j:=by
 unfold Pr.nY;rw [show dk (fun k=>P k j) (F i) 6=dk (fun k=>P' k j) (F i) 6 from Ld.dk_congr (fun k hk=>h k j hk hj) fun _ _=>rfl]
theorem nZ_congr(F:Nat->Nat->Int){P P':Nat->Nat->Int}(h: ∀ i j,i<6->j<6->P i j=P' i j)(i j:Nat):Pr.nZ F P i j=Pr.nZ F P' i j:=by
 unfold Pr.nZ;rw [show dk (fun k=>F j k) (Pr.nY F P i) 6=dk (fun k=>F j k) (Pr.nY F P' i) 6 from Ld.dk_congr (fun _ _=>rfl) fun k hk=>nY_congr F h i hk]
theorem nP_congr(F:Nat->Nat->Int){P P':Nat->Nat->Int}(Q:Nat->Nat->Int)(h: ∀ i j,i<6->j<6->P i j=P' i j)(i j:Nat):Pr.nP F P Q i j=Pr.nP F P' Q i j:=by
 have e:Pr.nE F P Q i j=Pr.nE F P' Q i j:=by
  unfold Pr.nE Pr.nW;rw [nZ_congr F h i j,nZ_congr F h j i]
 unfold Pr.nP;rw [e]
theorem one_ahead{K V N:Nat->Int}{d:Int}{q:Nat}{L:Nat->Nat}{ch:Nat->Int}{R:Nat->Nat->Int}{X:Nat->Nat->Int}{P:Nat->Nat->Nat->Int}(hm:MayX 1 ch q L R)(h0:Pr.MayV (X 0) (P 0)):
 (∀ i,i<6->aX K V d 1 ch R X 0 i=Pr.nX (Mo.stepF (K 0) (V 0) d) (X 0) i)/\ ∀ i j,aP K V N d 1 ch R X P 0 i j=Pr.nP (Mo.stepF (K 0) (V 0) d) (P 0) (Mo.tw (Mo.nz (K 0) d (N 0))) i j:=by
 have hc:=shr_ch hm (t:=0) (by omega);have hX: ∀ k,k<1->shr 1 ch R 0 k≠0-> ∀ i,i<6->X k i=X 0 i:=fun k hk _ i _=>by rw [show k=0 by omega]
 have hP: ∀ k,k<1->shr 1 ch R 0 k≠0-> ∀ i j,i<6->j<6->P k i j=P 0 i j:=fun k hk _ i j _ _=>by rw [show k=0 by omega]
 exact⟨fun i _=>nX_congr _ (fun j hj=>same_jX hc h0 hX hj) i,fun i j=>nP_congr _ _ (fun a b ha hb=>same_jP hc h0 hX hP ha hb) i j⟩
end Im
end
section
open Go.RowKit Vc St Mt Cn Mx Im El
namespace Im
structure Now(w:World)(n:Nat)(lo:Option Addr)(cm:Nat)(ho:Option Addr)(hc:Nat)(X:Nat->Nat->Int)(S:Nat->Nat->Nat->Int)(ch:Nat->Int):Prop where
 p:Pst w lo n cm X (fun _=>6) (fun _=>6) (fun k=>mz 6 6 (S k))
 s:Sl w ho n hc ch
 b:B64 ch
 bx: ∀ k,B64 (X k)
 bs: ∀ k,B2 (S k)
 may: ∀ k,k<n->Pr.MayV (X k) (S k)
 ch:Ch n ch 0
theorem Now.keep{w w':World}{n:Nat}{lo:Option Addr}{cm:Nat}{ho:Option Addr}{hc:Nat}{X:Nat->Nat->Int}{S:Nat->Nat->Nat->Int}{ch:Nat->Int}(h:Now w n lo cm ho hc X S ch)(k:Below w.heap.size w w'):Now w' n lo cm ho hc X S ch:=⟨h.p.keep k,h.s.keep k,h.b,h.bx,h.bs,h.may,h.ch⟩
theorem Now.lies{w:World}{n:Nat}{lo:Option Addr}{cm:Nat}{ho:Option Addr}{hc:Nat}{X:Nat->Nat->Int}{S:Nat->Nat->Nat->Int}{ch:Nat->Int}(h:Now w n lo cm ho hc X S ch):(yes lo n cm ho n hc X S ch).Lies w:=⟨h.p,fun _ _ _ _=>rfl,h.bx,h.bs,h.s,h.b⟩
theorem Now.row{w w':World}{g:Nat}{t:TypeId}{a b:Option Addr}{i j k l:Nat}{n:Nat}{lo:Option Addr}{cm:Nat}{ho:Option Addr}{hc:Nat}{X:Nat->Nat->Int}{S:Nat->Nat->Nat->Int}{ch:Nat->Int}(hr:CRow w g t [.slice a i j, .slice b k l])(h:Now w n lo cm ho hc X S ch)(q:Ld.But (· =g) w w'):Now w' n lo cm ho hc X S ch:=by
 refine⟨⟨h.p.le,h.p.cap,fun j hj=> ?_⟩, ?_,h.b,h.bx,h.bs,h.may,h.ch⟩
 · obtain⟨g',hg,hp⟩:=h.p.at' j hj;refine⟨g',hg,fun i v hv=>q.cell (hp i v hv) (fun e=> ?_)⟩;have h0:=hp 0 _ (by rfl:(Pd.svals (X j) 6 6 (mz 6 6 (S j)))[0]?=some (.int .i64 (X j 0)));have:=Ud.in_row hr h0 (show g'=g from e);simp at this
 · exact Ud.sl_keep hr (fun z q=>by simp at q) h.s (by have:=h.ch.one;omega) q
theorem xz_may(X:Nat->Int)(P:Nat->Nat->Int)(x y a b c:Int):Pr.MayV (Ud.xN X P x y a b c) (Ud.zN P a b c):=fun i _=>by
 have he: ∀ i j,Ud.zE P a b c i j=Ud.zE P a b c j i:=fun i j=>by unfold Ud.zE;rw [Int.add_comm]
 refine⟨Mx.cl_inV _, ?_,fun j _=>⟨?_, ?_⟩⟩
 · unfold Ud.zN
   by_cases h:Ud.zE P a b c i i<0
   · rw [if_pos ⟨rfl,h⟩];omega
   · rw [if_neg (fun q=>h q.2)];omega
 · unfold Ud.zN
   split
   · exact(show Pr.InV 0 from⟨by omega,by omega⟩)
   · exact Mx.cl_inV _
 · by_cases e:i=j
   · subst e;rfl
   · unfold Ud.zN
     rw [if_neg (fun q=>e q.1),if_neg (fun q=>e q.1.symm),he]
theorem zN_bd(P:Nat->Nat->Int)(a b c:Int):B2 (Ud.zN P a b c):=fun i j=>by
 have h:=Ud.cl64 (Qn.rne (Ud.wN P a b c i j+Ud.wN P a b c j i) (2^1))
 show _<=(if i=j/\Ud.zE P a b c i j<0 then 0 else Ud.zE P a b c i j)/\(if i=j/\Ud.zE P a b c i j<0 then 0 else Ud.zE P a b c i j)<=_
 by_cases e:i=j/\Ud.zE P a b c i j<0
 · rw [if_pos e];omega
 · rw [if_neg e];exact h
theorem dt_may(z:Int):Mo.MayT (wrap64 (1+wrap64 ((IntKind.u64.wrap z).tmod 20971520))):=by
 have e:IntKind.u64.wrap z=z%18446744073709551616:=IntKind.wrap_u64 z;rw [e,Int.tmod_eq_emod_of_nonneg (by omega)];have h: ∀ v:Int,-9223372036854775808<=v->v<=9223372036854775807->wrap64 v=v:=fun v h1 h2=>by unfold wrap64;omega
 rw [h (z%18446744073709551616%20971520) (by omega) (by omega),h _ (by omega) (by omega)];constructor<;>omega
def SeenR(w:World)(n:Nat)(ao:Option Addr)(an ac:Nat)(eo:Option Addr)(en ec:Nat)(ev:Value)(Y:Nat->Nat->Int)(Q:Nat->Nat->Nat->Int)(ch:Nat->Int)(good:Prop)(fl:Int):Prop:=
 (∃ k:Int,ev=errX k/\an=0/\en=0/\ ¬good)\/(ev= .nilIface/\an=n/\en=n/\good/\Ch n ch fl/\Now w n ao ac eo ec Y Q ch)
theorem SeenR.keep{w w':World}{n:Nat}{ao:Option Addr}{an ac:Nat}{eo:Option Addr}{en ec:Nat}{ev:Value}{Y:Nat->Nat->Int}{Q:Nat->Nat->Nat->Int}{ch:Nat->Int}{good:Prop}{fl:Int}(h:SeenR w n ao an ac eo en ec ev Y Q ch good fl)(k:Below w.heap.size w w'):SeenR w' n ao an ac eo en ec ev Y Q ch good fl:=by
 rcases h with h|⟨h1,h2,h3,h4,h5,h6⟩
 · exact Or.inl h
 · exact Or.inr ⟨h1,h2,h3,h4,h5,h6.keep k⟩
theorem SeenR.row{w w':World}{g:Nat}{t:TypeId}{a b:Option Addr}{i j k l:Nat}(hr:CRow w g t [.slice a i j, .slice b k l]){n:Nat}{ao:Option Addr}{an ac:Nat}{eo:Option Addr}{en ec:Nat}{ev:Value}{Y:Nat->Nat->Int}{Q:Nat->Nat->Nat->Int}{ch:Nat->Int}{good:Prop}{fl:Int}(h:SeenR w n ao an ac eo en ec ev Y Q ch good fl)(q:Ld.But (· =g) w w'):SeenR w' n ao an ac eo en ec ev Y Q ch good fl:=by
 rcases h with h|⟨h1,h2,h3,h4,h5,h6⟩
 · exact Or.inl h
 · exact Or.inr ⟨h1,h2,h3,h4,h5,Now.row hr h6 q⟩
theorem isE:Tryz.prog.underlying 67=some (.struct (Tryz.prog.fieldsOf 67)):=by kernel_rfl
theorem sizeE:(Tryz.prog.info? 67).map (·.size)=some 5:=by kernel_rfl
theorem run_loadS(w:World)(x:Addr)(z:Nat->Int)(h: ∀ j,j<5->w.cell? (x.add j)=some (.int .i64 (z j))):(Instr.loadAt 67 (.pointer (some x))).run Tryz.prog w= .ok (.agg (vals 5 z).toArray) w:=by
 have hl:(loadCells x (vals 5 z).length).run Tryz.prog w= .ok (vals 5 z).toArray w:=run_loadCells_list (P:=Tryz.prog) w x (vals 5 z) (fun j y hv=>by
  match j,hv with
  |0,hv=>simp [vals,List.range,List.range.loop] at hv;subst hv;exact h 0 (by omega)
  |1,hv=>simp [vals,List.range,List.range.loop] at hv;subst hv;exact h 1 (by omega)
  |2,hv=>simp [vals,List.range,List.range.loop] at hv;subst hv;exact h 2 (by omega)
  |3,hv=>simp [vals,List.range,List.range.loop] at hv;subst hv;exact h 3 (by omega)
  |4,hv=>simp [vals,List.range,List.range.loop] at hv;subst hv;exact h 4 (by omega)
  |j+5,hv=>simp [vals,List.range,List.range.loop] at hv)
 have hv:(loadVar 67 x).run Tryz.prog w= .ok (.agg (vals 5 z).toArray) w:=by
  cases hq:Tryz.prog.info? 67 with
  |none=>have:=sizeE;rw [hq] at this;cases this
  |some i=>
   have hs:i.size=5:=by have:=sizeE;rw [hq] at this;simpa using this
   have hagg:(isAgg 67).run Tryz.prog w= .ok true w:=by
    unfold isAgg;rw [Sem.run_bind,run_underlying isE w];simp
   have hl5:(vals 5 z).length=5:=by simp [vals]
   rw [hl5] at hl;simp [loadVar,Sem.run_bind,hagg,sizeOf,typeInfo,hq,hs,hl]
 simp only [Instr.loadAt,Instr.sureAddr,Sem.run_bind,Sem.run_pure,Result.andThen_ok,hv]
theorem yieldsE{ops:Array Oper}{S:World->Prop}{o:Oper}{a:Act}(hw:Region.wanted o (yielded ops a.tmps)=true)(x:Operand)(ho:o.op= .load 67 x)(ad:Addr)(z:Nat->Int)(hx:a.eval x= .pointer (some ad))
 (hS: ∀ w,S w-> ∀ j,j<5->w.cell? (ad.add j)=some (.int .i64 (z j))):YieldsIf Tryz.prog ops S o (.agg (vals 5 z).toArray) a:=
 .inl ⟨hw,fun w h=>by
  unfold execOp
  simp only [ho,hx,Sem.run_bind,run_loadS w ad z (hS w h),Result.andThen_ok,Sem.run_pure]⟩
theorem one_eq{K V N:Nat->Int}{d:Int}{n q:Nat}{L:Nat->Nat}{ch:Nat->Int}{R:Nat->Nat->Int}{X:Nat->Nat->Int}{P:Nat->Nat->Nat->Int}(hn:n=1)(hm:MayX n ch q L R)(h0:Pr.MayV (X 0) (P 0)):
 Pd.svals (Pr.nX (Mo.stepF (K 0) (V 0) d) (X 0)) 6 6 (mz 6 6 (Pr.nP (Mo.stepF (K 0) (V 0) d) (P 0) (Mo.tw (Mo.nz (K 0) d (N 0)))))=Pd.svals (aX K V d n ch R X 0) 6 6 (mz 6 6 (aP K V N d n ch R X P 0)):=by
 subst hn;obtain⟨h1,h2⟩:=one_ahead (K:=K) (V:=V) (N:=N) (d:=d) hm h0;rw [show Pr.nP (Mo.stepF (K 0) (V 0) d) (P 0) (Mo.tw (Mo.nz (K 0) d (N 0)))=aP K V N d 1 ch R X P 0 from funext fun i=>funext fun j=>(h2 i j).symm];exact Pd.svals_congr (fun i hi=>(h1 i hi).symm) fun _ _=>rfl
theorem one_same{K V N:Nat->Int}{d:Int}{n q:Nat}{L:Nat->Nat}{ch:Nat->Int}{R:Nat->Nat->Int}{X:Nat->Nat->Int}{P:Nat->Nat->Nat->Int}(hn:n=1)(hm:MayX n ch q L R)(h0:Pr.MayV (X 0) (P 0)):
 Pd.eqS (Pr.nX (Mo.stepF (K 0) (V 0) d) (X 0)) 6 6 (mz 6 6 (Pr.nP (Mo.stepF (K 0) (V 0) d) (P 0) (Mo.tw (Mo.nz (K 0) d (N 0))))) (aX K V d n ch R X 0) 6 6 (mz 6 6 (aP K V N d n ch R X P 0))=true:=by
 subst hn;obtain⟨h1,h2⟩:=one_ahead (K:=K) (V:=V) (N:=N) (d:=d) hm h0;rw [show Pr.nP (Mo.stepF (K 0) (V 0) d) (P 0) (Mo.tw (Mo.nz (K 0) d (N 0)))=aP K V N d 1 ch R X P 0 from funext fun i=>funext fun j=>(h2 i j).symm];exact Pd.eqS_iff.2 ⟨fun i hi=>(h1 i hi).symm,rfl,rfl,fun _ _=>rfl⟩
def Off(g:Nat)(o:Option Addr):Prop:= ∀ x,o=some x->x.block≠g
theorem _root_.Go.Proofs.YtcefcokpjbebhaaGreatDoor.Cn.NewL.off{w:World}{o:Option Addr}(h:NewL w o){g:Nat}(hg:g<w.heap.size):Off g o:=fun x e q=>by have:=h x e;omega
theorem Now.off{w w':World}{g:Nat}{n:Nat}{lo:Option Addr}{cm:Nat}{ho:Option Addr}{hc:Nat}{X:Nat->Nat->Int}{S:Nat->Nat->Nat->Int}{ch:Nat->Int}(h:Now w n lo cm ho hc X S ch)(h1:Off g lo)(h2:Off g ho)(q:Ld.But (· =g) w w'):Now w' n lo cm ho hc X S ch:=by
 refine⟨⟨h.p.le,h.p.cap,fun j hj=> ?_⟩,Ld.slBut h.s q fun x e=>h2 x e,h.b,h.bx,h.bs,h.may,h.ch⟩;obtain⟨g',hg,hp⟩:=h.p.at' j hj;exact⟨g',hg,fun i v hv=>q.cell (hp i v hv) (fun e=>h1 _ hg e)⟩
section
variable {w:World} {n:Nat} {K V N:Nat->Int} {ro:Option Addr} {q rc:Nat} {A:Nat->Option Addr} {L C:Nat->Nat} {R:Nat->Nat->Int} {fl:Int} (P:IPkg) (hC:MayC n q K V N L R fl)
include P hC
theorem now_start(W:World)(vo:Option Addr)(vm:Nat)(X0:Nat->Int)(S0:Nat->Nat->Int)(hl:(coI n K V N ro q rc A L C R fl vo vm).Lies W)(bX:B64 X0)(bS:B2 S0)(hmay:Pr.MayV X0 S0):
 Calls Tryz.prog 23 #[.agg #[.slice vo n vm, .slice ro q rc, .int .i64 fl], .agg (Pd.svals X0 6 6 (mz 6 6 S0)).toArray] W fun e w'=> ∃ ao ac bo bc,e= .returned (.tuple #[.agg #[.slice ao n ac, .slice bo n bc], .nilIface])/\(Now w' n ao ac bo bc (fun _=>X0) (fun _=>S0) (fun k=>if k<n then sh 1073741824 (fun _=>1) n k else 0)/\NewL W ao/\NewL W bo)/\Below W.heap.size W w':=by
 have ht:tot (fun _=>(1:Int)) n=n:=by rw [tot_const];omega
 have hp:0<tot (fun _=>(1:Int)) n:=by have:=hC.one;omega
 have hch:Ch n (sh 1073741824 (fun _=>1) n) 0:=⟨hC.one,hC.four,by omega,by omega,fun k hk=>sh_nn (by omega) (fun _ _=>by omega) hp hk,sh_tot hp⟩;refine(P.start W _ X0 6 6 (mz 6 6 S0) S0 hl (fun _ _=>rfl) bX bS).mono ?_;rintro e w' ⟨u,⟨q,_⟩|⟨_,rfl,ao,an,ac,bo,bn,bc,rfl,k,hp',hs,e1,e2,nw1,nw2⟩⟩
 · exact absurd ⟨hC,rfl,rfl,hmay⟩ q
 · have e1':an=n:=e1;have e2':bn=n:=e2;subst e1' e2';exact⟨ao,ac,bo,bc,rfl,⟨⟨hp',hs.congr fun k hk=>by rw [if_pos hk];rfl,ch_b64 hch,fun _=>bX,fun _=>bS,fun _ _=>hmay,ch_if hch⟩,nw1,nw2⟩,k⟩
theorem now_ahead(W:World)(vo:Option Addr)(vm:Nat)(uo:Option Addr)(um:Nat)(bo:Option Addr)(bc:Nat)(X:Nat->Nat->Int)(S:Nat->Nat->Nat->Int)(ch:Nat->Int)(d:Int)(hA:AngTab W)(hl:(coI n K V N ro q rc A L C R fl vo vm).Lies W)(hg:Now W n uo um bo bc X S ch)(hT:Mo.MayT d):
 Calls Tryz.prog 8 #[.agg #[.slice vo n vm, .slice ro q rc, .int .i64 fl], .agg #[.slice uo n um, .slice bo n bc], .int .i64 d] W fun e w'=> ∃ ao ac eo ec o,e= .returned (.tuple #[.agg #[.slice ao n ac, .slice eo n ec], .bool o, .nilIface])/\
  (Now w' n ao ac eo ec (aX K V d n ch R X) (aP K V N d n ch R X S) (fun k=>if k<n then sh 1073741824 (mxw n ch R) n k else 0)/\NewL W ao/\NewL W eo)/\Below W.heap.size W w':=by
 have hm:=hC.mx hg.ch;refine(P.ahead W _ (yes uo n um bo n bc X S ch) d hA hl hg.lies (by have:=hT.1;omega) (by have:=hT.2;omega)).mono ?_;rintro e w' ⟨u,⟨q,_⟩|⟨_,rfl,ao,an,ac,eo,en,ec,rfl,k,hp,hs,e1,e2,nw1,nw2⟩⟩
 · exact absurd ⟨⟨hC,rfl,rfl,hg.ch,fun k hk=>⟨rfl,rfl,hg.may k hk⟩⟩,hT⟩ q
 · have e1':an=n:=e1;have e2':en=n:=e2;subst e1' e2';exact⟨ao,ac,eo,ec,_,rfl,⟨⟨hp,hs.congr fun k hk=>by rw [if_pos hk];rfl,ch_b64 (mix_ch hm),fun k=>aX_b _ _ _ _ _ _ _ k,fun k=>aP_b _ _ _ _ _ _ _ _ _ k,fun k _=>aMay _ _ _ _ _ _ _ _ _ k,ch_if (mix_ch hm)⟩,nw1,nw2⟩,k⟩
theorem now_seen(W:World)(vo:Option Addr)(vm:Nat)(uo:Option Addr)(um:Nat)(bo:Option Addr)(bc:Nat)(X:Nat->Nat->Int)(S:Nat->Nat->Nat->Int)(ch:Nat->Int)(x y a b s:Int)(hl:(coI n K V N ro q rc A L C R fl vo vm).Lies W)(hg:Now W n uo um bo bc X S ch)(hb: ∀ v∈ [x,y,a,b,s],-9223372036854775808<=v/\v<=9223372036854775807):
 Calls Tryz.prog 21 #[.agg #[.slice vo n vm, .slice ro q rc, .int .i64 fl], .agg #[.slice uo n um, .slice bo n bc], .agg (Ud.pv x y a b s).toArray] W fun e w'=> ∃ ao an ac eo en ec o ev,e= .returned (.tuple #[.agg #[.slice ao an ac, .slice eo en ec], .bool o,ev])/\Below W.heap.size W w'/\(NewL W ao/\NewL W eo)/\
  SeenR w' n ao an ac eo en ec ev (sX X S x y a b s) (sP S a b s) (fun k=>if k<n then sC n ch fl X S x y a b s k else 0) (Ud.MayN x y a b s/\ ∀ k,k<n->sF S a b s k) fl:=by
 have hch:Ch n (sC n ch fl X S x y a b s) fl:=Lk.ol_ch (sL_may hg.ch hC.lo hC.hi X S x y a b s);refine(P.seen W _ (yes uo n um bo n bc X S ch) x y a b s hl hg.lies hb).mono ?_;rintro e w' ⟨u,⟨q,rfl,ao,an,ac,eo,en,ec,rfl,k,hp,hs,rfl,rfl,nw1,nw2⟩|⟨_,q,rfl,ao,an,ac,eo,en,ec,rfl,k,hp,hs,rfl,rfl,nw1,nw2⟩|⟨q1,q2,rfl,ao,an,ac,eo,en,ec,rfl,k,hp,hs,e1,e2,nw1,nw2⟩⟩
 · exact⟨ao,0,ac,eo,0,ec,_,_,rfl,k,⟨nw1,nw2⟩,Or.inl ⟨1,rfl,rfl,rfl,fun h=>q ⟨⟨hC,rfl,rfl,hg.ch,fun k hk=>⟨rfl,rfl,hg.may k hk⟩⟩,h.1⟩⟩⟩
 · exact⟨ao,0,ac,eo,0,ec,_,_,rfl,k,⟨nw1,nw2⟩,Or.inl ⟨8,rfl,rfl,rfl,fun h=>q h.2⟩⟩
 · have e1':an=n:=e1;have e2':en=n:=e2;subst e1' e2'
   exact⟨ao,_,ac,eo,_,ec,_,_,rfl,k,⟨nw1,nw2⟩,Or.inr ⟨rfl,rfl,rfl,⟨q1.2,q2⟩,ch_if hch,hp,hs.congr fun k hk=>by rw [if_pos hk];rfl,ch_b64 hch,fun k i=>by
    have:=Ud.cl64 (X k i+Ud.dV (X k) (S k) x y a b s i);exact this,fun k i j=>by
    exact zN_bd (S k) a b s i j,fun k _=>xz_may (X k) (S k) x y a b s,ch_low (ch_if hch)⟩⟩
end
end Im
end
section
open Go.RowKit Vc St Mt Cn Mx Im El
namespace Im
theorem fieldsP:((Tryz.prog.fieldsOf 41)[0]?).map (fun f=>(f.type,f.offset))=some (39,0):=by kernel_rfl
theorem structP:Tryz.prog.underlying 41=some (.struct (Tryz.prog.fieldsOf 41)):=by kernel_rfl
theorem run_fieldP(a b c:Value)(w:World):(Instr.field 41 (.agg #[a,b,c]) 0).run Tryz.prog w= .ok a w:=by
 have hagg:(isAgg 39).run Tryz.prog w= .ok false w:=by
  unfold isAgg;rw [Sem.run_bind,run_underlying Tryz.underlying39 w];simp
 have hf:=fieldsP;have hS:=structP;generalize Tryz.prog.fieldsOf 41=F at hf hS;cases hq:F[0]? with
 |none=>rw [hq] at hf;cases hf
 |some f=>
  rw [hq] at hf;have h3:(f.type,f.offset)=(39,0):=by simpa using hf
  have h1:f.type=39:=congrArg Prod.fst h3;have h2:f.offset=0:=congrArg Prod.snd h3;unfold Instr.field;rw [Sem.run_bind,run_underlying hS w];simp only [Result.andThen_ok,hq,h1,h2,part,asAgg,Sem.run_bind,Sem.run_pure,hagg];rfl
theorem wpList_field{P:Program}{ops:Array Oper}{rest:List Oper}{o:Oper}{a:Act}{w:World}{Q:Exit->Act->World->Prop}(hgd:o.guard=none)(t:TypeId)(y:Operand)(k:Nat)(ho:o.op= .field t y k)(u v:Value)(hy:a.eval y=u)(hr:(Instr.field t u k).run P w= .ok v w)
 (h:wpList P ops Q rest (a.put o.dst v) w):wpList P ops Q (o::rest) a w:=by
 refine wpList_plain hgd fun _ hK=> ?_;unfold Oper.wp execOp;simp only [ho,hy,Sem.run_bind,Sem.run_pure,hr,Result.andThen_ok];exact hK _ _ h
theorem one_steps{K V N:Nat->Int}{d:Int}{n q:Nat}{L:Nat->Nat}{ch:Nat->Int}{R:Nat->Nat->Int}{fl:Int}{X:Nat->Nat->Int}{P:Nat->Nat->Nat->Int}(hn:n=1)(hC:MayC n q K V N L R fl)(hch:Ch n ch 0)(h0:Pr.MayV (X 0) (P 0))(bX:B64 (X 0))(bP:B2 (P 0))(hT:Mo.MayT d):
 ∃ (zF zQ zN XN:Nat->Int) (o:Bool),
   (∀ U,AngTab U->Calls Tryz.prog 28 #[.agg #[.int .i64 (K 0), .int .i64 (V 0), .int .i64 (N 0)], .int .i64 d] U fun e w'=>e= .returned (.tuple #[.agg (mvals 6 6 zF).toArray, .bool false, .nilIface])/\Below U.heap.size U w')/\
   (∀ U,Calls Tryz.prog 29 #[.agg #[.int .i64 (K 0), .int .i64 (V 0), .int .i64 (N 0)], .int .i64 d] U fun e w'=>e= .returned (.tuple #[.agg (mvals 6 6 zQ).toArray, .bool false, .nilIface])/\Below U.heap.size U w')/\
   (∀ U,Calls Tryz.prog 30 #[.agg (Pd.svals (X 0) 6 6 (mz 6 6 (P 0))).toArray, .agg (mvals 6 6 zF).toArray, .agg (mvals 6 6 zQ).toArray] U fun e w'=>e= .returned (.tuple #[.agg (Pd.svals XN 6 6 zN).toArray, .bool o, .nilIface])/\Below U.heap.size U w')/\
   (∀ U,Calls Tryz.prog 31 #[.agg (Pd.svals XN 6 6 zN).toArray, .agg (Pd.svals (aX K V d n ch R X 0) 6 6 (mz 6 6 (aP K V N d n ch R X P 0))).toArray] U fun e w'=>e= .returned (.bool true)/\Below U.heap.size U w')/\
   Pd.svals XN 6 6 zN=Pd.svals (aX K V d n ch R X 0) 6 6 (mz 6 6 (aP K V N d n ch R X P 0)):=by
 have hM:=(hC.each 0 (by omega)).1;have hm:=hC.mx hch;refine⟨_,_,_,_,_,fun U hA=>model_step_yes (K 0) (V 0) (N 0) d U hA hM hT,fun U=>model_noise_yes (K 0) (V 0) (N 0) d U hM hT,fun U=>pnext_yes (X 0) (P 0) _ _ U h0 bX bP (Mo.step_b2 hM hT) (Mo.nz_b2 _ hT hM.1),fun U=> ?_,one_eq hn hm h0⟩;have h:=psame_any (Pr.nX (Mo.stepF (K 0) (V 0) d) (X 0)) 6 6 (mz 6 6 (Pr.nP (Mo.stepF (K 0) (V 0) d) (P 0) (Mo.tw (Mo.nz (K 0) d (N 0))))) (aX K V d n ch R X 0) 6 6 (mz 6 6 (aP K V N d n ch R X P 0)) U;rw [one_same hn hm h0] at h;exact h
theorem one_seen{X:Nat->Nat->Int}{P:Nat->Nat->Nat->Int}{x y a b s:Int}(h0:Pr.MayV (X 0) (P 0))(bX:B64 (X 0))(bP:B2 (P 0))(hp:Ud.MayN x y a b s)(hf:sF P a b s 0):
 ∃ o:Bool,∀ U,Calls Tryz.prog 32 #[.agg (Pd.svals (X 0) 6 6 (mz 6 6 (P 0))).toArray, .agg (Ud.pv x y a b s).toArray] U fun e w'=>e= .returned (.tuple #[.agg (Pd.svals (sX X P x y a b s 0) 6 6 (mz 6 6 (sP P a b s 0))).toArray, .bool o, .nilIface])/\Below U.heap.size U w':=
 ⟨_,fun U=>unext_ok (X 0) (P 0) x y a b s U (fun W=>uof_yes (X 0) (P 0) x y a b s W h0 hp bX bP hf) hp hf bX bP⟩
theorem one_self(X:Nat->Int)(z:Nat->Int)(U:World):Calls Tryz.prog 31 #[.agg (Pd.svals X 6 6 z).toArray, .agg (Pd.svals X 6 6 z).toArray] U fun e w'=>e= .returned (.bool true)/\Below U.heap.size U w':=by
 have h:=psame_any X 6 6 z X 6 6 z U;rw [Pd.eqS_same] at h;exact h
end Im
end
section
open Go.RowKit Vc St Mt Cn Mx Im El Pd
attribute [local go_sem ↓] Go.wp_at_zero Go.wp_at_succ
theorem imone_many(P:Im.IPkg)(mo:Option Addr)(n mc:Nat)(K V N:Nat->Int)(ro:Option Addr)(q rc:Nat)(A:Nat->Option Addr)(L C:Nat->Nat)(R:Nat->Nat->Int)(fl:Int)(s0 s2:Option Addr)(s1 s3 s4:Nat)(X0:Nat->Int)(S0:Nat->Nat->Int)(lo:Option Addr)(l cm:Nat)(SI:Nat->Nat->Int)(w:World)
 (hc:Ci w mo n mc K V N ro q rc A L C R fl) (hC:MayC n q K V N L R fl) (hn1:n≠1) (hsi:Dsi w lo l cm SI) (hE:ErrTab w) (hT:AngTab w)
 (hGS: ∀ W,Below w.heap.size w W->Calls Tryz.prog 24 #[.agg #[.slice s0 6 s1, .slice s2 s3 s4]] W fun e w'=>e= .returned (.agg (Pd.svals X0 6 6 (mz 6 6 S0)).toArray)/\Below W.heap.size W w') (bX:B64 X0) (bS:B2 S0) (hmay:Pr.MayV X0 S0) (hs1:6<=s1) (hs2:s1<=9223372036854775807):
 Calls Tryz.prog 5 #[.agg #[.slice mo n mc, .slice ro q rc, .int .i64 fl], .agg #[.slice s0 6 s1, .slice s2 s3 s4], .slice lo l cm] w fun e w'=>e= .returned (.bool true)/\Below w.heap.size w w':=by
 have m0:=(crow_new w 25 [.slice mo n mc, .slice ro q rc, .int .i64 fl]).alloc (.cells [.slice s0 6 s1, .slice s2 s3 s4].toArray 60);have m1:=crow_new1 w (.cells [.slice mo n mc, .slice ro q rc, .int .i64 fl].toArray 25) 60 [.slice s0 6 s1, .slice s2 s3 s4];have B0:Below w.heap.size w ((w.alloc (.cells [.slice mo n mc, .slice ro q rc, .int .i64 fl].toArray 25)).alloc (.cells [.slice s0 6 s1, .slice s2 s3 s4].toArray 60)):=below_al (below_al (Below.refl _ _) _) _;obtain⟨W,hW⟩: ∃ W,W=(w.alloc (.cells [.slice mo n mc, .slice ro q rc, .int .i64 fl].toArray 25)).alloc (.cells [.slice s0 6 s1, .slice s2 s3 s4].toArray 60):=⟨_,rfl⟩;rw [← hW] at m0 m1 B0;have HW:=hidC hW;have HB0:=hidC B0;have HT:=hidC hT;have GC:Hid (∀ U,Below w.heap.size w U->Calls Tryz.prog 9 #[.agg #[.slice mo n mc, .slice ro q rc, .int .i64 fl]] U fun e w'=> ∃ vo vm,e= .returned (.agg #[.slice vo n vm, .slice ro q rc, .int .i64 fl])/\(coI n K V N ro q rc A L C R fl vo vm).Lies w'/\Below U.heap.size U w'):=fun U b=>hc.give (by have:=hC.four;omega) U b;have GS:=hidC hGS;have HSt:Hid (∀ U vo vm,(coI n K V N ro q rc A L C R fl vo vm).Lies U->Calls Tryz.prog 23 #[.agg #[.slice vo n vm, .slice ro q rc, .int .i64 fl], .agg (Pd.svals X0 6 6 (mz 6 6 S0)).toArray] U fun e w'=> ∃ ao ac bo bc,e= .returned (.tuple #[.agg #[.slice ao n ac, .slice bo n bc], .nilIface])/\(Now w' n ao ac bo bc (fun _=>X0) (fun _=>S0) (fun k=>if k<n then sh 1073741824 (fun _=>1) n k else 0)/\Cn.NewL U ao/\Cn.NewL U bo)/\Below U.heap.size U w'):=fun U vo vm h=>now_start P hC U vo vm X0 S0 h bX bS hmay;have HAh:=hidC (fun U vo vm uo um bo bc X S ch d=>now_ahead (ro:=ro) (rc:=rc) (A:=A) (C:=C) P hC U vo vm uo um bo bc X S ch d);have HSe:=hidC (fun U vo vm uo um bo bc X S ch x y a b s=>now_seen (ro:=ro) (rc:=rc) (A:=A) (C:=C) P hC U vo vm uo um bo bc X S ch x y a b s);have HSu:=hidC (isure_any P);have HSI:=hidC hsi;have l1:=hc.m.le;have l2:=hc.m.cap;have l3:=hsi.le;have l4:=hsi.cap;have hf0:=hC.lo;have hf1:=hC.hi;have d0:W.cell? ⟨w.heap.size+1,0,none⟩=some (.slice s0 6 s1):=CRow.cell m1 (k:=0) rfl rfl;have d1:W.cell? ⟨w.heap.size,0,none⟩=some (.slice mo n mc):=CRow.cell m0 (k:=0) rfl rfl;have i0: ¬10<(n:Int):=by have:=hC.four;omega
 have HS3:Hid (∀ U,Below W.heap.size W U->CRow U w.heap.size 25 [.slice mo n mc, .slice ro q rc, .int .i64 fl]/\CRow U (w.heap.size+1) 60 [.slice s0 6 s1, .slice s2 s3 s4]):=fun U k=>⟨CRow.keep m0 k,CRow.keep m1 k⟩;have lw:w.heap.size+1<W.heap.size:=CRow.lt m1;clear hW m0 m1 B0 hT hGS hsi bX bS hmay;go_enter Tryz.func5,Tryz.ntmps5
 go_upto_region 3 with(first|(rw [← HW.out])|fail)
 go_cut [7,8] (fun p f wx=> ∃ (g:Nat) (ao:Option Addr) (ac:Nat) (bo:Option Addr) (bc:Nat),p= .pointer (some ⟨g,0,none⟩)/\f= .nilIface/\CRow wx g 34 [.slice ao n ac, .slice bo n bc]/\Now wx n ao ac bo bc (fun _=>X0) (fun _=>S0) (fun k=>if k<n then sh 1073741824 (fun _=>1) n k else 0)/\Below W.heap.size W wx/\W.heap.size<=g)
 case first=>
  try rw [← HW.out]
  refine Ru.wp_region_U [] (fun w'=>CRow w' w.heap.size 25 [.slice mo n mc, .slice ro q rc, .int .i64 fl]/\CRow w' (w.heap.size+1) 60 [.slice s0 6 s1, .slice s2 s3 s4]) (by kernel_rfl) (HS3.out _ ((Vc.below_drew' _))) (fun hHeld=> ?_);refine Ru.tk 0 (.agg [.slice mo n mc, .slice ro q rc, .int .i64 fl].toArray) rfl (Ru.yieldsC isCf (by kernel_rfl) _ (by rfl) (w.heap.size) _ (by rfl) (fun w h=>h.1) rfl) hHeld ?_;refine Ru.tk 2 (.agg [.slice s0 6 s1, .slice s2 s3 s4].toArray) rfl (Ru.yieldsC Pr.isRs (by kernel_rfl) _ (by rfl) (w.heap.size+1) _ (by rfl) (fun w h=>h.2) rfl) hHeld ?_;have D_:=Vc.below_drew' W;refine Ru.rs [1,8] ?_
  repeat' (first
   |((with_reducible show Ru.AllReadyU _ _ _ _ _ _ _ _ _ _ _);first
    |refine Ru.sp ?_ ?_
    |(refine Ru.co1 (i:=1) (fun K hK=> ?_);go_simp;have s_:=D_.size;refine(GC.out _ (below_tr HB0.out D_)).mono ?_;rintro e x_ ⟨vo,vm,rfl,cl,k_⟩;replace D_:=below_tr D_ k_;(try replace pp:=pp.keep k_);(try replace n_:=CRow.keep n_ k_);go_wp2_with fail;refine Ru.hd hK (HS3.out _ (D_)) (fun hHeld=> ?_);clear hK K;first|refine Ru.rz [3,8] ?_|refine Ru.rz [3] ?_)
    |(refine Ru.co1 (i:=3) (fun K hK=> ?_);go_simp;have s_:=D_.size;refine(GS.out _ (below_tr HB0.out D_)).mono ?_;rintro e x_ ⟨rfl,k_⟩;replace D_:=below_tr D_ k_;(try replace cl:=cl.keep k_);(try replace pp:=pp.keep k_);(try replace n_:=CRow.keep n_ k_);go_wp2_with fail;refine Ru.hd hK (HS3.out _ (D_)) (fun hHeld=> ?_);clear hK K;first|refine Ru.rz [4,8] ?_|refine Ru.rz [4] ?_)
    |(refine Ru.co1 (i:=4) (fun K hK=> ?_);go_simp;have s_:=D_.size;refine(HSt.out _ _ _ cl).mono ?_;rintro e x_ ⟨ao,ac,bo,bc,rfl,⟨pp,nw1,nw2⟩,k_⟩;replace D_:=below_tr D_ k_;(try clear cl);(try replace cl:=cl.keep k_);(try replace n_:=CRow.keep n_ k_);go_wp2_with fail;refine Ru.hd hK (HS3.out _ (D_)) (fun hHeld=> ?_);clear hK K;refine Ru.tk2 5 (.tuple #[.agg #[.slice ao n ac, .slice bo n bc], .nilIface]) hHeld ?_;refine Ru.tk2 6 (.agg #[.slice ao n ac, .slice bo n bc]) hHeld ?_;refine Ru.tk2 7 (.nilIface) hHeld ?_;first|refine Ru.rz [8] ?_|skip)
    |(refine Ru.co1 (i:=8) (fun K hK=> ?_);go_simp;obtain⟨g_,x_,hg,hx,n_,l_,k_⟩:=made D_ 34 [.slice none 0 0, .slice none 0 0];(first|rw [← hx]|rw [show(W.alloc (.cells [.slice none 0 0, .slice none 0 0].toArray 34)).drew=x_ from hx.symm]);(try rw [← hg]);(try rw [show W.heap.size=g_ from hg.symm]);clear hg hx;replace D_:=below_tr D_ k_;(try replace cl:=cl.keep k_);(try replace pp:=pp.keep k_);refine Ru.hd hK (HS3.out _ (D_)) (fun hHeld=> ?_);clear hK K;first|refine Ru.rz [4] ?_|refine Ru.rz [3] ?_|refine Ru.rz [1] ?_|skip))
   |as_aux_lemma=>(refine Ru.rd 9 (fun K hK=> ?_);refine Ru.stepC isIp (by kernel_rfl) _ _ (by rfl) g_ _ ([.slice ao n ac, .slice bo n bc]) (by rfl) (by rfl) n_ rfl rfl (one2s _ _ _ _ _ _) ?_;have nE:=CRow.row n_ ([.slice ao n ac, .slice bo n bc]);have bE:=St.below_row D_ (g:=g_) (by omega) ([.slice ao n ac, .slice bo n bc]).toArray;refine Ru.hd hK (HS3.out _ (bE)) (fun hHeld=> ?_);clear hK K;refine Ru.tk2 10 (.nilIface) hHeld ?_;refine Ru.wpAnyU_done (by kernel_rfl) ?_;go_wp2_with fail;go_meet;exact⟨_,_,_,_,_,rfl,rfl,nE,Now.row n_ pp (Ud.but_row _ (g_) ([.slice ao n ac, .slice bo n bc]).toArray),bE,by omega⟩))
 rename World=>w3;obtain⟨g7,ao,ac,bo,bc,rfl,rfl,n3,p3,k3,hg7⟩:=hcut;have K3:=hidC k3;have N3:=hidC n3;have P3:=hidC p3;have C3:=hidC (HS3.out _ k3);have B3:=hidC (below_tr HB0.out k3);clear n3 p3 k3 d0 d1 HSt HW
 go_wp2_with (first
  |((with_reducible show wpList _ _ _ _ _ _);refine Ud.loadC Pr.isRs _ (by with_reducible rfl) (w.heap.size+1) _ (by rfl) C3.out.2 rfl (by kernel_rfl) ?_)
  |fail)
 refine(GS.out _ B3.out).mono ?_;rintro e w4 ⟨rfl,k4⟩;have N4:=hidC (CRow.keep N3.out k4);have P4:=hidC (P3.out.keep k4);have K4:=hidC (below_tr K3.out k4);clear k4 N3 P3 C3 K3 B3 GS
 go_wp2_with (first
  |((with_reducible show wpList _ _ _ _ _ _);rw [Pd.zeroS];refine St.wpList_storeNew Pd.isS rfl _ _ (by rfl) _ _ _ (by rfl) (by rfl) (svals_len _ _ _ _) (svals_len _ _ _ _) (one_svals _ _ _ _) ?_;intro w6 t6 k6)
  |fail)
 have n6:=CRow.keep N4.out k6;have p6:=P4.out.keep k6;have l9:=CRow.lt t6;have l7:=CRow.lt N4.out;obtain⟨g9,hg9⟩: ∃ g,g=w4.heap.size:=⟨_,rfl⟩;rw [← hg9] at t6 l9 l7 ⊢;obtain⟨o2,ho2⟩: ∃ o,o=w6.heap.size:=⟨_,rfl⟩;have hg8:W.heap.size<=g9:=by have:=K4.out.size;omega
 have HE:Hid (∀ U,Ld.But (fun q=>q=g7\/q=g9\/o2<=q) w6 U->Below W.heap.size W U):=fun U k=>(Ld.But.below k (below_tr K4.out k6) (by have:=K4.out.size;have:=k6.size;omega) (by rintro q (e|e|e)<;>omega))
 have lo2:g7<o2/\g9<o2:=by omega
 have HO2:=hidC (by omega:o2<=w6.heap.size);clear k6 hg9 N4 P4 K4 ho2;go_loopw [10] (fun i ws=> ∃ (k:Nat) (vo:Option Addr) (vm:Nat) (bo:Option Addr) (bc:Nat) (X:Nat->Nat->Int) (S:Nat->Nat->Nat->Int) (ch:Nat->Int),k<=l/\i= .int .i64 (k:Int)/\CRow ws g7 34 [.slice vo n vm, .slice bo n bc]/\Now ws n vo vm bo bc X S ch/\CRow ws g9 55 (svals X0 6 6 (mz 6 6 S0))/\Ld.But (fun q=>q=g7\/q=g9\/o2<=q) w6 ws) (fun i _=>l- (intOf i).toNat)
 case atStart=>exact⟨0,_,_,_,_,_,_,_,by omega,rfl,n6,p6,t6,Ld.But.refl _ _⟩
 case round=>
  rename World=>ws;obtain⟨k,vo,vm,bo,bc,X,S,ch,hk,rfl,nl,gl,tl,bl⟩:=hrel;have E1:=HE.out _ bl;have EB:=below_tr HB0.out E1;clear n6 p6 t6;by_cases hkl:k<l
  · by_cases hk6:k<6
    · obtain⟨x,hx,hcell⟩:=HSI.out.at' k hkl;have bsi:=HSI.out.b k;have a0:=keep_cell EB (hcell 0 (by omega));rw [Mx.addr_at0] at a0;have kn:(k:Int)<l:=by omega
      have k6:(k:Int)<6:=by omega
      obtain⟨T,hTm⟩: ∃ z,z=SI k 0:=⟨_,rfl⟩;rw [← hTm] at a0;have HTM:=hidC hTm;have HCL:=hidC hcell;have HBS:=hidC bsi;clear hTm hcell bsi;subst hx;have NL:=hidC nl;have GL:=hidC gl;have TL:=hidC tl;have BL:=hidC bl;have E1':=hidC E1;have EB':=hidC EB;have CS:Hid (∀ U,Below ws.heap.size ws U->CRow U w.heap.size 25 [.slice mo n mc, .slice ro q rc, .int .i64 fl]/\CRow U g7 34 [.slice vo n vm, .slice bo n bc]):=fun U k=>⟨(HS3.out _ (below_tr E1 k)).1,CRow.keep nl k⟩;have lz:o2<=ws.heap.size:=by have:=bl.size;have:=HO2.out;omega
      clear nl gl tl bl E1 EB;go_upto_region 11 with fail
      clear a0;go_cut [12,13,14] (fun p b f wx=> ∃ (g:Nat) (ao:Option Addr) (ac:Nat) (eo:Option Addr) (ec:Nat) (o:Bool),p= .pointer (some ⟨g,0,none⟩)/\b= .bool o/\f= .nilIface/\CRow wx g 34 [.slice ao n ac, .slice eo n ec]/\Now wx n ao ac eo ec (aX K V (wrap64 (1+wrap64 ((IntKind.u64.wrap T).tmod 20971520))) n ch R X) (aP K V N (wrap64 (1+wrap64 ((IntKind.u64.wrap T).tmod 20971520))) n ch R X S) (fun k=>if k<n then sh 1073741824 (mxw n ch R) n k else 0)/\Below ws.heap.size ws wx/\ws.heap.size<=g)
      case first=>
       as_aux_lemma=>
        refine Ru.wp_region_U [] (fun w'=>CRow w' w.heap.size 25 [.slice mo n mc, .slice ro q rc, .int .i64 fl]/\CRow w' g7 34 [.slice vo n vm, .slice bo n bc]) (by kernel_rfl) (CS.out _ ((Vc.below_drew' _))) (fun hHeld=> ?_);refine Ru.tk 0 (.agg [.slice mo n mc, .slice ro q rc, .int .i64 fl].toArray) rfl (Ru.yieldsC isCf (by kernel_rfl) _ (by rfl) (w.heap.size) _ (by rfl) (fun w h=>h.1) rfl) hHeld ?_;refine Ru.tk 2 (.agg [.slice vo n vm, .slice bo n bc].toArray) rfl (Ru.yieldsC isIp (by kernel_rfl) _ (by rfl) (g7) _ (by rfl) (fun w h=>h.2) rfl) hHeld ?_;refine Ru.tk2 3 (.int .i64 (wrap64 (1+wrap64 ((IntKind.u64.wrap T).tmod 20971520)))) hHeld ?_;have D_:=Vc.below_drew' ws;refine Ru.rs [1,9] ?_
        repeat' (first
         |((with_reducible show Ru.AllReadyU _ _ _ _ _ _ _ _ _ _ _);first
          |refine Ru.sp ?_ ?_
          |(refine Ru.co1 (i:=1) (fun K hK=> ?_);go_simp;have s_:=D_.size;refine(GC.out _ (below_tr EB'.out D_)).mono ?_;rintro e x_ ⟨vo1,vm1,rfl,cl,k_⟩;replace D_:=below_tr D_ k_;(try replace pp:=pp.keep k_);(try replace n_:=CRow.keep n_ k_);go_wp2_with fail;refine Ru.hd hK (CS.out _ (D_)) (fun hHeld=> ?_);clear hK K;first|refine Ru.rz [4,9] ?_|refine Ru.rz [4] ?_)
          |(refine Ru.co1 (i:=4) (fun K hK=> ?_);go_simp;have s_:=D_.size;refine(HAh.out _ _ _ _ _ _ _ _ _ _ _ (HT.out.below (below_tr EB'.out D_)) cl (GL.out.keep D_) (dt_may _)).mono ?_;rintro e x_ ⟨ao,ac,eo,ec,o,rfl,⟨pp,nw1,nw2⟩,k_⟩;replace D_:=below_tr D_ k_;(try clear cl);(try replace cl:=cl.keep k_);(try replace n_:=CRow.keep n_ k_);go_wp2_with fail;refine Ru.hd hK (CS.out _ (D_)) (fun hHeld=> ?_);clear hK K;refine Ru.tk2 5 (.tuple #[.agg #[.slice ao n ac, .slice eo n ec], .bool o, .nilIface]) hHeld ?_;refine Ru.tk2 6 (.agg #[.slice ao n ac, .slice eo n ec]) hHeld ?_;refine Ru.tk2 7 (.bool o) hHeld ?_;refine Ru.tk2 8 (.nilIface) hHeld ?_;first|refine Ru.rz [9] ?_|skip)
          |(refine Ru.co1 (i:=9) (fun K hK=> ?_);go_simp;obtain⟨g_,x_,hg,hx,n_,l_,k_⟩:=made D_ 34 [.slice none 0 0, .slice none 0 0];(first|rw [← hx]|rw [show(ws.alloc (.cells [.slice none 0 0, .slice none 0 0].toArray 34)).drew=x_ from hx.symm]);(try rw [← hg]);(try rw [show ws.heap.size=g_ from hg.symm]);clear hg hx;replace D_:=below_tr D_ k_;(try replace cl:=cl.keep k_);(try replace pp:=pp.keep k_);refine Ru.hd hK (CS.out _ (D_)) (fun hHeld=> ?_);clear hK K;first|refine Ru.rz [4] ?_|refine Ru.rz [1] ?_|skip))
         |as_aux_lemma=>(refine Ru.rd 10 (fun K hK=> ?_);refine Ru.stepC isIp (by kernel_rfl) _ _ (by rfl) g_ _ ([.slice ao n ac, .slice eo n ec]) (by rfl) (by rfl) n_ rfl rfl (one2s _ _ _ _ _ _) ?_;have nE:=CRow.row n_ ([.slice ao n ac, .slice eo n ec]);have bE:=St.below_row D_ (g:=g_) (by omega) ([.slice ao n ac, .slice eo n ec]).toArray;refine Ru.hd hK (CS.out _ (bE)) (fun hHeld=> ?_);clear hK K;refine Ru.tk2 11 (.bool o) hHeld ?_;refine Ru.tk2 12 (.nilIface) hHeld ?_;refine Ru.wpAnyU_done (by kernel_rfl) ?_;go_wp2_with fail;go_meet;exact⟨_,_,_,_,_,_,rfl,rfl,rfl,nE,Now.row n_ pp (Ud.but_row _ (g_) ([.slice ao n ac, .slice eo n ec]).toArray),bE,by omega⟩))
      rename World=>wA;obtain⟨gA,ao,ac,eo,ec,oA,rfl,rfl,rfl,nA,pA,kA,hgA⟩:=hcut;have EA:=below_tr E1'.out kA;have z0:wA.cell? ⟨gA,0,none⟩=some (.slice ao n ac):=CRow.cell nA (k:=0) rfl rfl;have z1:wA.cell? ⟨gA,1,none⟩=some (.slice eo n ec):=CRow.cell nA (k:=1) rfl rfl;have c0:wA.cell? ⟨w.heap.size,0,none⟩=some (.slice mo n mc):=CRow.cell (HS3.out _ EA).1 (k:=0) rfl rfl;obtain⟨XA,hXA⟩: ∃ z,z=aX K V (wrap64 (1+wrap64 ((IntKind.u64.wrap T).tmod 20971520))) n ch R X:=⟨_,rfl⟩;obtain⟨PA,hPA⟩: ∃ z,z=aP K V N (wrap64 (1+wrap64 ((IntKind.u64.wrap T).tmod 20971520))) n ch R X S:=⟨_,rfl⟩;obtain⟨CA,hCA⟩: ∃ z:Nat->Int,z=(fun k=>if k<n then sh 1073741824 (mxw n ch R) n k else 0):=⟨_,rfl⟩;rw [← hXA,← hPA,← hCA] at pA;have NA:=hidC nA;have QA:=hidC pA;have KA:=hidC kA;have EA':=hidC EA;have HXA:=hidC hXA;have HPA:=hidC hPA;clear nA pA kA EA hXA hPA hCA CS;go_wp2_with fail
      refine(dcheck14_any _ _ _ _ _ _ QA.out.s QA.out.b true ⟨fun _=>QA.out.ch,fun _=>rfl⟩ (by omega) (by omega)).mono ?_;rintro e wB ⟨rfl,kB⟩;have z0':=keep_cell kB z0;have c0':=keep_cell kB c0;have NB:=hidC (CRow.keep NA.out kB);have QB:=hidC (QA.out.keep kB);have KB:=hidC (below_tr KA.out kB);have EB2:=hidC (below_tr EA'.out kB);clear z0 z1 c0 NA QA KA EA';have MB:=hidC (CRow.keep NL.out KB.out);have MZ:=MB;have QZ:=QB;have TZ:=hidC (CRow.keep TL.out KB.out);have BZ:=hidC (BL.out.then KB.out)
      go_wp2_with (first
       |((with_reducible show wpList _ _ _ _ _ _);refine Ud.loadC isIp _ (by with_reducible rfl) gA _ (by rfl) NB.out rfl (by kernel_rfl) ?_)
       |((with_reducible show wpList _ _ _ _ _ _);refine Ud.storeC isIp _ _ (by rfl) g7 _ _ (by rfl) (by rfl) MB.out rfl rfl (one2s _ _ _ _ _ _) rfl ?_)
       |fail)
      have m7:=CRow.row MZ.out [.slice ao n ac, .slice eo n ec];have q7:=Now.row MZ.out QZ.out (Ud.but_row wB g7 [.slice ao n ac, .slice eo n ec].toArray);have t7:=Ld.crowBut TZ.out (Ud.but_row wB g7 [.slice ao n ac, .slice eo n ec].toArray) (by omega: ¬g9=g7);have b7:Ld.But (fun q=>q=g7\/q=g9\/o2<=q) w6 ((wB).setRow g7 [.slice ao n ac, .slice eo n ec].toArray):=BZ.out.trans ((Ud.but_row wB g7 [.slice ao n ac, .slice eo n ec].toArray).mono fun q e=>Or.inl e);obtain⟨wC,hwC⟩: ∃ u,u=(wB).setRow g7 [.slice ao n ac, .slice eo n ec].toArray:=⟨_,rfl⟩;rw [← hwC] at m7 q7 t7 b7 ⊢;have E7:=HE.out _ b7;have lC:g7<wC.heap.size/\w.heap.size<wC.heap.size/\g9<wC.heap.size:=by have:=CRow.lt m7;have:=CRow.lt t7;have:=E7.size;omega
      have CS:Hid (∀ U,Below wC.heap.size wC U->CRow U w.heap.size 25 [.slice mo n mc, .slice ro q rc, .int .i64 fl]/\CRow U g7 34 [.slice ao n ac, .slice eo n ec]/\ ∀ j,j<5->U.cell? (((x.add (k*6)).add 1).add j)=some (.int .i64 (SI k (1+j)))):=fun U b=>⟨(HS3.out _ (below_tr E7 b)).1,CRow.keep m7 b,fun j hj=>by
       have:=keep_cell (below_tr HB0.out (below_tr E7 b)) (HCL.out (1+j) (by omega));rw [Addr.add_add]
       exact this⟩
      have H5:Hid (∀ v∈ [SI k 1,SI k 2,SI k 3,SI k 4,SI k 5],-9223372036854775808<=v/\v<=9223372036854775807):=fun v hv=>by
       simp only [List.mem_cons,List.not_mem_nil,or_false] at hv;rcases hv with h|h|h|h|h<;>(rw [h];exact HBS.out _)
      have M7:=hidC m7;have Q7:=hidC q7;have T7:=hidC t7;have B7:=hidC b7;have E7':=hidC E7;clear hwC m7 q7 t7 b7 E7 NB QB KB EB2 MB MZ QZ TZ BZ z0' c0' NL GL TL BL HCL HBS;simp only [Act.put,List.getElem_toArray,List.getElem_cons_zero,List.getElem_cons_succ,List.setIfInBounds_toArray,List.set_cons_zero,List.set_cons_succ];go_cut [24,25,26] (fun p b f wx=> ∃ (g:Nat) (a2:Option Addr) (n2 c2:Nat) (e2:Option Addr) (m2 d2:Nat) (o:Bool) (ev:Value),p= .pointer (some ⟨g,0,none⟩)/\b= .bool o/\f=ev/\CRow wx g 34 [.slice a2 n2 c2, .slice e2 m2 d2]/\SeenR wx n a2 n2 c2 e2 m2 d2 ev (sX XA PA (SI k 1) (SI k 2) (SI k 3) (SI k 4) (SI k 5)) (sP PA (SI k 3) (SI k 4) (SI k 5)) (fun i=>if i<n then sC n CA fl XA PA (SI k 1) (SI k 2) (SI k 3) (SI k 4) (SI k 5) i else 0) (Ud.MayN (SI k 1) (SI k 2) (SI k 3) (SI k 4) (SI k 5)/\ ∀ i,i<n->sF PA (SI k 3) (SI k 4) (SI k 5) i) fl/\Below wC.heap.size wC wx/\wC.heap.size<=g)
      case first=>
       as_aux_lemma=>
        refine Ru.wp_region_U [] (fun w'=>CRow w' w.heap.size 25 [.slice mo n mc, .slice ro q rc, .int .i64 fl]/\CRow w' g7 34 [.slice ao n ac, .slice eo n ec]/\ ∀ j,j<5->w'.cell? (((x.add (k*6)).add 1).add j)=some (.int .i64 (SI k (1+j)))) (by kernel_rfl) (CS.out _ ((Vc.below_drew' _))) (fun hHeld=> ?_);refine Ru.tk 0 (.agg [.slice mo n mc, .slice ro q rc, .int .i64 fl].toArray) rfl (Ru.yieldsC isCf (by kernel_rfl) _ (by rfl) (w.heap.size) _ (by rfl) (fun w h=>h.1) rfl) hHeld ?_;refine Ru.tk 2 (.agg [.slice ao n ac, .slice eo n ec].toArray) rfl (Ru.yieldsC isIp (by kernel_rfl) _ (by rfl) (g7) _ (by rfl) (fun w h=>h.2.1) rfl) hHeld ?_;refine Ru.tk3 3 (.slice (some x) l cm) hHeld ?_;refine Ru.tk3 4 (.int .i64 (k:Int)) hHeld ?_;refine Ru.tk3 5 (.pointer (some (x.add (k*6)))) hHeld ?_;refine Ru.tk3 6 (.pointer (some ((x.add (k*6)).add 1))) hHeld ?_;refine Ru.tk 7 (.agg (Ud.pv (SI k 1) (SI k 2) (SI k 3) (SI k 4) (SI k 5)).toArray) rfl (yieldsE (by kernel_rfl) _ (by rfl) ((x.add (k*6)).add 1) (fun j=>SI k (1+j)) (by rfl) (fun w h=>h.2.2)) hHeld ?_;have D_:=Vc.below_drew' wC;refine Ru.rs [1,13] ?_
        repeat' (first
         |((with_reducible show Ru.AllReadyU _ _ _ _ _ _ _ _ _ _ _);first
          |refine Ru.sp ?_ ?_
          |(refine Ru.co1 (i:=1) (fun K hK=> ?_);go_simp;have s_:=D_.size;refine(GC.out _ (below_tr HB0.out (below_tr E7'.out D_))).mono ?_;rintro e x_ ⟨vo1,vm1,rfl,cl,k_⟩;replace D_:=below_tr D_ k_;(try replace pp:=pp.keep k_);(try replace n_:=CRow.keep n_ k_);go_wp2_with fail;refine Ru.hd hK (CS.out _ (D_)) (fun hHeld=> ?_);clear hK K;first|refine Ru.rz [8,13] ?_|refine Ru.rz [8] ?_)
          |(refine Ru.co1 (i:=8) (fun K hK=> ?_);go_simp;have s_:=D_.size;refine(HSe.out _ _ _ _ _ _ _ _ _ _ _ _ _ _ _ cl (Q7.out.keep D_) H5.out).mono ?_;rintro e x_ ⟨a2,n2,c2,e2,m2,d2,o,ev,rfl,k_,⟨nw1,nw2⟩,pp⟩;replace D_:=below_tr D_ k_;(try clear cl);(try replace cl:=cl.keep k_);(try replace n_:=CRow.keep n_ k_);go_wp2_with fail;refine Ru.hd hK (CS.out _ (D_)) (fun hHeld=> ?_);clear hK K;refine Ru.tk3 9 (.tuple #[.agg #[.slice a2 n2 c2, .slice e2 m2 d2], .bool o,ev]) hHeld ?_;refine Ru.tk3 10 (.agg #[.slice a2 n2 c2, .slice e2 m2 d2]) hHeld ?_;refine Ru.tk3 11 (.bool o) hHeld ?_;refine Ru.tk3 12 ev hHeld ?_;first|refine Ru.rz [13] ?_|skip)
          |(refine Ru.co1 (i:=13) (fun K hK=> ?_);go_simp;obtain⟨g_,x_,hg,hx,n_,l_,k_⟩:=made D_ 34 [.slice none 0 0, .slice none 0 0];(first|rw [← hx]|rw [show(wC.alloc (.cells [.slice none 0 0, .slice none 0 0].toArray 34)).drew=x_ from hx.symm]);(try rw [← hg]);(try rw [show wC.heap.size=g_ from hg.symm]);clear hg hx;replace D_:=below_tr D_ k_;(try replace cl:=cl.keep k_);(try replace pp:=pp.keep k_);refine Ru.hd hK (CS.out _ (D_)) (fun hHeld=> ?_);clear hK K;first|refine Ru.rz [8] ?_|refine Ru.rz [1] ?_|skip))
         |as_aux_lemma=>(refine Ru.rd 14 (fun K hK=> ?_);refine Ru.stepC isIp (by kernel_rfl) _ _ (by rfl) g_ _ ([.slice a2 n2 c2, .slice e2 m2 d2]) (by rfl) (by rfl) n_ rfl rfl (one2s _ _ _ _ _ _) ?_;have nE:=CRow.row n_ ([.slice a2 n2 c2, .slice e2 m2 d2]);have bE:=St.below_row D_ (g:=g_) (by omega) ([.slice a2 n2 c2, .slice e2 m2 d2]).toArray;refine Ru.hd hK (CS.out _ (bE)) (fun hHeld=> ?_);clear hK K;refine Ru.tk3 15 (.bool o) hHeld ?_;refine Ru.tk3 16 ev hHeld ?_;refine Ru.wpAnyU_done (by kernel_rfl) ?_;go_wp2_with fail;go_meet;exact⟨_,_,_,_,_,_,_,_,_,rfl,rfl,rfl,nE,SeenR.row n_ pp (Ud.but_row _ (g_) ([.slice a2 n2 c2, .slice e2 m2 d2]).toArray),bE,by omega⟩))
      rename World=>wD;obtain⟨gD,a2,n2,c2,e2,m2,d2,oD,ev,rfl,rfl,rfl,nD,pD,kD,hgD⟩:=hcut;have MD:=hidC (CRow.keep M7.out kD);have QD:=hidC (Q7.out.keep kD);have TD:=hidC (CRow.keep T7.out kD);have BD:=hidC (B7.out.then kD);have ED:=hidC (below_tr E7'.out kD);have lD:wC.heap.size<=wD.heap.size:=kD.size;clear M7 Q7 T7 B7 E7' CS kD;rcases pD with⟨kk,hev,_,_,_⟩|⟨hev,hn2,hm2,hgd,hch,hnow⟩
      · simp only [errX] at hev;subst hev;clear nD;go_wp2_with fail
        go_roundw
        case rel=>exact⟨k+1,_,_,_,_,_,_,_,by omega,by go_num,MD.out,QD.out,TD.out,BD.out⟩
        case measure=>simp [intOf];omega
      · subst hev;rw [hn2,hm2] at nD;have z1:wD.cell? ⟨gD,1,none⟩=some (.slice e2 n d2):=CRow.cell nD (k:=1) rfl rfl;have c0:wD.cell? ⟨w.heap.size,0,none⟩=some (.slice mo n mc):=CRow.cell (HS3.out _ ED.out).1 (k:=0) rfl rfl;have c2:wD.cell? ⟨w.heap.size,2,none⟩=some (.int .i64 fl):=CRow.cell (HS3.out _ ED.out).1 (k:=2) rfl rfl;have ND:=hidC nD;have HN:=hidC hnow;have HCH:=hidC hch;have HGD:=hidC hgd;clear nD hnow hch hn2 hm2 hgd;go_wp2_with fail
        refine(dcheck14_any _ _ _ _ _ _ HN.out.s HN.out.b true ⟨fun _=>HCH.out,fun _=>rfl⟩ (by omega) (by omega)).mono ?_;rintro e wE ⟨rfl,kE⟩;have c0':=keep_cell kE c0;have NE:=hidC (CRow.keep ND.out kE);have HNE:=hidC (HN.out.keep kE);have ME:=hidC (CRow.keep MD.out kE);have TE:=hidC (CRow.keep TD.out kE);have BE:=hidC (BD.out.then kE);clear c0 c2 z1 ND HN MD TD BD ED kE
        go_wp2_with (first
         |((with_reducible show wpList _ _ _ _ _ _);refine Ud.loadC isIp _ (by with_reducible rfl) gD _ (by rfl) NE.out rfl (by kernel_rfl) ?_)
         |((with_reducible show wpList _ _ _ _ _ _);refine Ud.storeC isIp _ _ (by rfl) g7 _ _ (by rfl) (by rfl) ME.out rfl rfl (one2s _ _ _ _ _ _) rfl ?_)
         |fail)
        go_roundw
        case rel=>exact⟨k+1,_,_,_,_,_,_,_,by omega,by go_num,CRow.row ME.out _,Now.row ME.out HNE.out (Ud.but_row wE g7 _),Ld.crowBut TE.out (Ud.but_row wE g7 _) (by omega: ¬g9=g7),BE.out.trans ((Ud.but_row wE g7 _).mono fun q e=>Or.inl e)⟩
        case measure=>simp [intOf];omega
    · have k6': ¬(k:Int)<6:=by omega
      have kn:(k:Int)<l:=by omega
      have EB':=hidC EB;clear nl gl tl bl E1 EB HSI;go_wp2_with fail
      refine(HSu.out _ (HT.out.below EB'.out)).mono ?_;rintro e w8 ⟨rfl,k8⟩;go_wp2;go_ret;exact⟨rfl,below_tr EB'.out k8⟩
  · obtain rfl:l=k:=by omega
    have EB':=hidC EB;clear nl gl tl bl E1 EB HSI;go_wp2_with fail
    refine(HSu.out _ (HT.out.below EB'.out)).mono ?_;rintro e w8 ⟨rfl,k8⟩;go_wp2;go_ret;exact⟨rfl,below_tr EB'.out k8⟩
end
section
open Go.RowKit Vc St Mt Cn Mx Im El Pd
attribute [local go_sem ↓] Go.wp_at_zero Go.wp_at_succ
theorem imone_one(P:Im.IPkg)(mo:Option Addr)(n mc:Nat)(K V N:Nat->Int)(ro:Option Addr)(q rc:Nat)(A:Nat->Option Addr)(L C:Nat->Nat)(R:Nat->Nat->Int)(fl:Int)(s0 s2:Option Addr)(s1 s3 s4:Nat)(X0:Nat->Int)(S0:Nat->Nat->Int)(lo:Option Addr)(l cm:Nat)(SI:Nat->Nat->Int)(w:World)
 (hc:Ci w mo n mc K V N ro q rc A L C R fl) (hC:MayC n q K V N L R fl) (hn1:n=1) (hsi:Dsi w lo l cm SI) (hE:ErrTab w) (hT:AngTab w)
 (hGS: ∀ W,Below w.heap.size w W->Calls Tryz.prog 24 #[.agg #[.slice s0 6 s1, .slice s2 s3 s4]] W fun e w'=>e= .returned (.agg (Pd.svals X0 6 6 (mz 6 6 S0)).toArray)/\Below W.heap.size W w') (bX:B64 X0) (bS:B2 S0) (hmay:Pr.MayV X0 S0) (hs1:6<=s1) (hs2:s1<=9223372036854775807):
 Calls Tryz.prog 5 #[.agg #[.slice mo n mc, .slice ro q rc, .int .i64 fl], .agg #[.slice s0 6 s1, .slice s2 s3 s4], .slice lo l cm] w fun e w'=>e= .returned (.bool true)/\Below w.heap.size w w':=by
 have m0:=(crow_new w 25 [.slice mo n mc, .slice ro q rc, .int .i64 fl]).alloc (.cells [.slice s0 6 s1, .slice s2 s3 s4].toArray 60);have m1:=crow_new1 w (.cells [.slice mo n mc, .slice ro q rc, .int .i64 fl].toArray 25) 60 [.slice s0 6 s1, .slice s2 s3 s4];have B0:Below w.heap.size w ((w.alloc (.cells [.slice mo n mc, .slice ro q rc, .int .i64 fl].toArray 25)).alloc (.cells [.slice s0 6 s1, .slice s2 s3 s4].toArray 60)):=below_al (below_al (Below.refl _ _) _) _;obtain⟨W,hW⟩: ∃ W,W=(w.alloc (.cells [.slice mo n mc, .slice ro q rc, .int .i64 fl].toArray 25)).alloc (.cells [.slice s0 6 s1, .slice s2 s3 s4].toArray 60):=⟨_,rfl⟩;rw [← hW] at m0 m1 B0;have HW:=hidC hW;have HB0:=hidC B0;have HT:=hidC hT;have GC:Hid (∀ U,Below w.heap.size w U->Calls Tryz.prog 9 #[.agg #[.slice mo n mc, .slice ro q rc, .int .i64 fl]] U fun e w'=> ∃ vo vm,e= .returned (.agg #[.slice vo n vm, .slice ro q rc, .int .i64 fl])/\(coI n K V N ro q rc A L C R fl vo vm).Lies w'/\Below U.heap.size U w'):=fun U b=>hc.give (by have:=hC.four;omega) U b;have GS:=hidC hGS;have HSt:Hid (∀ U vo vm,(coI n K V N ro q rc A L C R fl vo vm).Lies U->Calls Tryz.prog 23 #[.agg #[.slice vo n vm, .slice ro q rc, .int .i64 fl], .agg (Pd.svals X0 6 6 (mz 6 6 S0)).toArray] U fun e w'=> ∃ ao ac bo bc,e= .returned (.tuple #[.agg #[.slice ao n ac, .slice bo n bc], .nilIface])/\(Now w' n ao ac bo bc (fun _=>X0) (fun _=>S0) (fun k=>if k<n then sh 1073741824 (fun _=>1) n k else 0)/\Cn.NewL U ao/\Cn.NewL U bo)/\Below U.heap.size U w'):=fun U vo vm h=>now_start P hC U vo vm X0 S0 h bX bS hmay;have HAh:=hidC (fun U vo vm uo um bo bc X S ch d=>now_ahead (ro:=ro) (rc:=rc) (A:=A) (C:=C) P hC U vo vm uo um bo bc X S ch d);have HSe:=hidC (fun U vo vm uo um bo bc X S ch x y a b s=>now_seen (ro:=ro) (rc:=rc) (A:=A) (C:=C) P hC U vo vm uo um bo bc X S ch x y a b s);have HSu:=hidC (isure_any P);have HSI:=hidC hsi;have l1:=hc.m.le;have l2:=hc.m.cap;have l3:=hsi.le;have l4:=hsi.cap;have hf0:=hC.lo;have hf1:=hC.hi;have d0:W.cell? ⟨w.heap.size+1,0,none⟩=some (.slice s0 6 s1):=CRow.cell m1 (k:=0) rfl rfl;have d1:W.cell? ⟨w.heap.size,0,none⟩=some (.slice mo n mc):=CRow.cell m0 (k:=0) rfl rfl;have i0: ¬10<(n:Int):=by have:=hC.four;omega
 have HS3:Hid (∀ U,Below W.heap.size W U->CRow U w.heap.size 25 [.slice mo n mc, .slice ro q rc, .int .i64 fl]/\CRow U (w.heap.size+1) 60 [.slice s0 6 s1, .slice s2 s3 s4]):=fun U k=>⟨CRow.keep m0 k,CRow.keep m1 k⟩;have lw:w.heap.size+1<W.heap.size:=CRow.lt m1;have HN1:=hidC hn1;have hn1':(n:Int)=1:=by omega
 clear hn1;clear hW m0 m1 B0 hT hGS hsi bX bS hmay;go_enter Tryz.func5,Tryz.ntmps5
 go_upto_region 3 with(first|(rw [← HW.out])|fail)
 go_cut [7,8] (fun p f wx=> ∃ (g:Nat) (ao:Option Addr) (ac:Nat) (bo:Option Addr) (bc:Nat),p= .pointer (some ⟨g,0,none⟩)/\f= .nilIface/\CRow wx g 34 [.slice ao n ac, .slice bo n bc]/\Now wx n ao ac bo bc (fun _=>X0) (fun _=>S0) (fun k=>if k<n then sh 1073741824 (fun _=>1) n k else 0)/\Below W.heap.size W wx/\W.heap.size<=g)
 case first=>
  try rw [← HW.out]
  refine Ru.wp_region_U [] (fun w'=>CRow w' w.heap.size 25 [.slice mo n mc, .slice ro q rc, .int .i64 fl]/\CRow w' (w.heap.size+1) 60 [.slice s0 6 s1, .slice s2 s3 s4]) (by kernel_rfl) (HS3.out _ ((Vc.below_drew' _))) (fun hHeld=> ?_);refine Ru.tk 0 (.agg [.slice mo n mc, .slice ro q rc, .int .i64 fl].toArray) rfl (Ru.yieldsC isCf (by kernel_rfl) _ (by rfl) (w.heap.size) _ (by rfl) (fun w h=>h.1) rfl) hHeld ?_;refine Ru.tk 2 (.agg [.slice s0 6 s1, .slice s2 s3 s4].toArray) rfl (Ru.yieldsC Pr.isRs (by kernel_rfl) _ (by rfl) (w.heap.size+1) _ (by rfl) (fun w h=>h.2) rfl) hHeld ?_;have D_:=Vc.below_drew' W;refine Ru.rs [1,8] ?_
  repeat' (first
   |((with_reducible show Ru.AllReadyU _ _ _ _ _ _ _ _ _ _ _);first
    |refine Ru.sp ?_ ?_
    |(refine Ru.co1 (i:=1) (fun K hK=> ?_);go_simp;have s_:=D_.size;refine(GC.out _ (below_tr HB0.out D_)).mono ?_;rintro e x_ ⟨vo,vm,rfl,cl,k_⟩;replace D_:=below_tr D_ k_;(try replace pp:=pp.keep k_);(try replace n_:=CRow.keep n_ k_);go_wp2_with fail;refine Ru.hd hK (HS3.out _ (D_)) (fun hHeld=> ?_);clear hK K;first|refine Ru.rz [3,8] ?_|refine Ru.rz [3] ?_)
    |(refine Ru.co1 (i:=3) (fun K hK=> ?_);go_simp;have s_:=D_.size;refine(GS.out _ (below_tr HB0.out D_)).mono ?_;rintro e x_ ⟨rfl,k_⟩;replace D_:=below_tr D_ k_;(try replace cl:=cl.keep k_);(try replace pp:=pp.keep k_);(try replace n_:=CRow.keep n_ k_);go_wp2_with fail;refine Ru.hd hK (HS3.out _ (D_)) (fun hHeld=> ?_);clear hK K;first|refine Ru.rz [4,8] ?_|refine Ru.rz [4] ?_)
    |(refine Ru.co1 (i:=4) (fun K hK=> ?_);go_simp;have s_:=D_.size;refine(HSt.out _ _ _ cl).mono ?_;rintro e x_ ⟨ao,ac,bo,bc,rfl,⟨pp,nw1,nw2⟩,k_⟩;replace D_:=below_tr D_ k_;(try clear cl);(try replace cl:=cl.keep k_);(try replace n_:=CRow.keep n_ k_);go_wp2_with fail;refine Ru.hd hK (HS3.out _ (D_)) (fun hHeld=> ?_);clear hK K;refine Ru.tk2 5 (.tuple #[.agg #[.slice ao n ac, .slice bo n bc], .nilIface]) hHeld ?_;refine Ru.tk2 6 (.agg #[.slice ao n ac, .slice bo n bc]) hHeld ?_;refine Ru.tk2 7 (.nilIface) hHeld ?_;first|refine Ru.rz [8] ?_|skip)
    |(refine Ru.co1 (i:=8) (fun K hK=> ?_);go_simp;obtain⟨g_,x_,hg,hx,n_,l_,k_⟩:=made D_ 34 [.slice none 0 0, .slice none 0 0];(first|rw [← hx]|rw [show(W.alloc (.cells [.slice none 0 0, .slice none 0 0].toArray 34)).drew=x_ from hx.symm]);(try rw [← hg]);(try rw [show W.heap.size=g_ from hg.symm]);clear hg hx;replace D_:=below_tr D_ k_;(try replace cl:=cl.keep k_);(try replace pp:=pp.keep k_);refine Ru.hd hK (HS3.out _ (D_)) (fun hHeld=> ?_);clear hK K;first|refine Ru.rz [4] ?_|refine Ru.rz [3] ?_|refine Ru.rz [1] ?_|skip))
   |as_aux_lemma=>(refine Ru.rd 9 (fun K hK=> ?_);refine Ru.stepC isIp (by kernel_rfl) _ _ (by rfl) g_ _ ([.slice ao n ac, .slice bo n bc]) (by rfl) (by rfl) n_ rfl rfl (one2s _ _ _ _ _ _) ?_;have nE:=CRow.row n_ ([.slice ao n ac, .slice bo n bc]);have bE:=St.below_row D_ (g:=g_) (by omega) ([.slice ao n ac, .slice bo n bc]).toArray;refine Ru.hd hK (HS3.out _ (bE)) (fun hHeld=> ?_);clear hK K;refine Ru.tk2 10 (.nilIface) hHeld ?_;refine Ru.wpAnyU_done (by kernel_rfl) ?_;go_wp2_with fail;go_meet;exact⟨_,_,_,_,_,rfl,rfl,nE,Now.row n_ pp (Ud.but_row _ (g_) ([.slice ao n ac, .slice bo n bc]).toArray),bE,by omega⟩))
 rename World=>w3;obtain⟨g7,ao,ac,bo,bc,rfl,rfl,n3,p3,k3,hg7⟩:=hcut;have K3:=hidC k3;have N3:=hidC n3;have P3:=hidC p3;have C3:=hidC (HS3.out _ k3);have B3:=hidC (below_tr HB0.out k3);clear n3 p3 k3 d0 d1 HSt HW
 go_wp2_with (first
  |((with_reducible show wpList _ _ _ _ _ _);refine Ud.loadC Pr.isRs _ (by with_reducible rfl) (w.heap.size+1) _ (by rfl) C3.out.2 rfl (by kernel_rfl) ?_)
  |fail)
 refine(GS.out _ B3.out).mono ?_;rintro e w4 ⟨rfl,k4⟩;have N4:=hidC (CRow.keep N3.out k4);have P4:=hidC (P3.out.keep k4);have K4:=hidC (below_tr K3.out k4);clear k4 N3 P3 C3 K3 B3 GS
 go_wp2_with (first
  |((with_reducible show wpList _ _ _ _ _ _);rw [Pd.zeroS];refine St.wpList_storeNew Pd.isS rfl _ _ (by rfl) _ _ _ (by rfl) (by rfl) (svals_len _ _ _ _) (svals_len _ _ _ _) (one_svals _ _ _ _) ?_;intro w6 t6 k6)
  |fail)
 have n6:=CRow.keep N4.out k6;have p6:=P4.out.keep k6;have l9:=CRow.lt t6;have l7:=CRow.lt N4.out;obtain⟨g9,hg9⟩: ∃ g,g=w4.heap.size:=⟨_,rfl⟩;rw [← hg9] at t6 l9 l7 ⊢;obtain⟨o2,ho2⟩: ∃ o,o=w6.heap.size:=⟨_,rfl⟩;have hg8:W.heap.size<=g9:=by have:=K4.out.size;omega
 have HE:Hid (∀ U,Ld.But (fun q=>q=g7\/q=g9\/o2<=q) w6 U->Below W.heap.size W U):=fun U k=>(Ld.But.below k (below_tr K4.out k6) (by have:=K4.out.size;have:=k6.size;omega) (by rintro q (e|e|e)<;>omega))
 have lo2:g7<o2/\g9<o2:=by omega
 have HO2:=hidC (by omega:o2<=w6.heap.size);clear k6 hg9 N4 P4 K4 ho2;go_loopw [10] (fun i ws=> ∃ (k:Nat) (vo:Option Addr) (vm:Nat) (bo:Option Addr) (bc:Nat) (X:Nat->Nat->Int) (S:Nat->Nat->Nat->Int) (ch:Nat->Int),k<=l/\i= .int .i64 (k:Int)/\CRow ws g7 34 [.slice vo n vm, .slice bo n bc]/\Now ws n vo vm bo bc X S ch/\CRow ws g9 55 (svals (X 0) 6 6 (mz 6 6 (S 0)))/\Ld.But (fun q=>q=g7\/q=g9\/o2<=q) w6 ws) (fun i _=>l- (intOf i).toNat)
 case atStart=>exact⟨0,_,_,_,_,_,_,_,by omega,rfl,n6,p6,t6,Ld.But.refl _ _⟩
 case round=>
  rename World=>ws;obtain⟨k,vo,vm,bo,bc,X,S,ch,hk,rfl,nl,gl,tl,bl⟩:=hrel;have E1:=HE.out _ bl;have EB:=below_tr HB0.out E1;clear n6 p6 t6;by_cases hkl:k<l
  · by_cases hk6:k<6
    · obtain⟨x,hx,hcell⟩:=HSI.out.at' k hkl;have bsi:=HSI.out.b k;have a0:=keep_cell EB (hcell 0 (by omega));rw [Mx.addr_at0] at a0;have kn:(k:Int)<l:=by omega
      have k6:(k:Int)<6:=by omega
      obtain⟨T,hTm⟩: ∃ z,z=SI k 0:=⟨_,rfl⟩;rw [← hTm] at a0;have HTM:=hidC hTm;have HCL:=hidC hcell;have HBS:=hidC bsi;clear hTm hcell bsi;subst hx;have NL:=hidC nl;have GL:=hidC gl;have TL:=hidC tl;have BL:=hidC bl;have E1':=hidC E1;have EB':=hidC EB;have CS:Hid (∀ U,Below ws.heap.size ws U->CRow U w.heap.size 25 [.slice mo n mc, .slice ro q rc, .int .i64 fl]/\CRow U g7 34 [.slice vo n vm, .slice bo n bc]):=fun U k=>⟨(HS3.out _ (below_tr E1 k)).1,CRow.keep nl k⟩;have lz:o2<=ws.heap.size:=by have:=bl.size;have:=HO2.out;omega
      clear nl gl tl bl E1 EB;go_upto_region 11 with fail
      clear a0;go_cut [12,13,14] (fun p b f wx=> ∃ (g:Nat) (ao:Option Addr) (ac:Nat) (eo:Option Addr) (ec:Nat) (o:Bool),p= .pointer (some ⟨g,0,none⟩)/\b= .bool o/\f= .nilIface/\CRow wx g 34 [.slice ao n ac, .slice eo n ec]/\Now wx n ao ac eo ec (aX K V (wrap64 (1+wrap64 ((IntKind.u64.wrap T).tmod 20971520))) n ch R X) (aP K V N (wrap64 (1+wrap64 ((IntKind.u64.wrap T).tmod 20971520))) n ch R X S) (fun k=>if k<n then sh 1073741824 (mxw n ch R) n k else 0)/\Below ws.heap.size ws wx/\ws.heap.size<=g/\Im.Off g9 ao/\Im.Off g9 eo)
      case first=>
       as_aux_lemma=>
        refine Ru.wp_region_U [] (fun w'=>CRow w' w.heap.size 25 [.slice mo n mc, .slice ro q rc, .int .i64 fl]/\CRow w' g7 34 [.slice vo n vm, .slice bo n bc]) (by kernel_rfl) (CS.out _ ((Vc.below_drew' _))) (fun hHeld=> ?_);refine Ru.tk 0 (.agg [.slice mo n mc, .slice ro q rc, .int .i64 fl].toArray) rfl (Ru.yieldsC isCf (by kernel_rfl) _ (by rfl) (w.heap.size) _ (by rfl) (fun w h=>h.1) rfl) hHeld ?_;refine Ru.tk 2 (.agg [.slice vo n vm, .slice bo n bc].toArray) rfl (Ru.yieldsC isIp (by kernel_rfl) _ (by rfl) (g7) _ (by rfl) (fun w h=>h.2) rfl) hHeld ?_;refine Ru.tk2 3 (.int .i64 (wrap64 (1+wrap64 ((IntKind.u64.wrap T).tmod 20971520)))) hHeld ?_;have D_:=Vc.below_drew' ws;refine Ru.rs [1,9] ?_
        repeat' (first
         |((with_reducible show Ru.AllReadyU _ _ _ _ _ _ _ _ _ _ _);first
          |refine Ru.sp ?_ ?_
          |(refine Ru.co1 (i:=1) (fun K hK=> ?_);go_simp;have s_:=D_.size;refine(GC.out _ (below_tr EB'.out D_)).mono ?_;rintro e x_ ⟨vo1,vm1,rfl,cl,k_⟩;replace D_:=below_tr D_ k_;(try replace pp:=pp.keep k_);(try replace n_:=CRow.keep n_ k_);go_wp2_with fail;refine Ru.hd hK (CS.out _ (D_)) (fun hHeld=> ?_);clear hK K;first|refine Ru.rz [4,9] ?_|refine Ru.rz [4] ?_)
          |(refine Ru.co1 (i:=4) (fun K hK=> ?_);go_simp;have s_:=D_.size;refine(HAh.out _ _ _ _ _ _ _ _ _ _ _ (HT.out.below (below_tr EB'.out D_)) cl (GL.out.keep D_) (dt_may _)).mono ?_;rintro e x_ ⟨ao,ac,eo,ec,o,rfl,⟨pp,nw1,nw2⟩,k_⟩;replace D_:=below_tr D_ k_;(try clear cl);(try replace cl:=cl.keep k_);(try replace n_:=CRow.keep n_ k_);go_wp2_with fail;refine Ru.hd hK (CS.out _ (D_)) (fun hHeld=> ?_);clear hK K;refine Ru.tk2 5 (.tuple #[.agg #[.slice ao n ac, .slice eo n ec], .bool o, .nilIface]) hHeld ?_;refine Ru.tk2 6 (.agg #[.slice ao n ac, .slice eo n ec]) hHeld ?_;refine Ru.tk2 7 (.bool o) hHeld ?_;refine Ru.tk2 8 (.nilIface) hHeld ?_;first|refine Ru.rz [9] ?_|skip)
          |(refine Ru.co1 (i:=9) (fun K hK=> ?_);go_simp;obtain⟨g_,x_,hg,hx,n_,l_,k_⟩:=made D_ 34 [.slice none 0 0, .slice none 0 0];(first|rw [← hx]|rw [show(ws.alloc (.cells [.slice none 0 0, .slice none 0 0].toArray 34)).drew=x_ from hx.symm]);(try rw [← hg]);(try rw [show ws.heap.size=g_ from hg.symm]);clear hg hx;replace D_:=below_tr D_ k_;(try replace cl:=cl.keep k_);(try replace pp:=pp.keep k_);refine Ru.hd hK (CS.out _ (D_)) (fun hHeld=> ?_);clear hK K;first|refine Ru.rz [4] ?_|refine Ru.rz [1] ?_|skip))
         |as_aux_lemma=>(refine Ru.rd 10 (fun K hK=> ?_);refine Ru.stepC isIp (by kernel_rfl) _ _ (by rfl) g_ _ ([.slice ao n ac, .slice eo n ec]) (by rfl) (by rfl) n_ rfl rfl (one2s _ _ _ _ _ _) ?_;have nE:=CRow.row n_ ([.slice ao n ac, .slice eo n ec]);have bE:=St.below_row D_ (g:=g_) (by omega) ([.slice ao n ac, .slice eo n ec]).toArray;refine Ru.hd hK (CS.out _ (bE)) (fun hHeld=> ?_);clear hK K;refine Ru.tk2 11 (.bool o) hHeld ?_;refine Ru.tk2 12 (.nilIface) hHeld ?_;refine Ru.wpAnyU_done (by kernel_rfl) ?_;go_wp2_with fail;go_meet;exact⟨_,_,_,_,_,_,rfl,rfl,rfl,nE,Now.row n_ pp (Ud.but_row _ (g_) ([.slice ao n ac, .slice eo n ec]).toArray),bE,by omega,nw1.off (by omega),nw2.off (by omega)⟩))
      rename World=>wA;obtain⟨gA,ao,ac,eo,ec,oA,rfl,rfl,rfl,nA,pA,kA,hgA,ofA,ofE⟩:=hcut;have EA:=below_tr E1'.out kA;have z0:wA.cell? ⟨gA,0,none⟩=some (.slice ao n ac):=CRow.cell nA (k:=0) rfl rfl;have z1:wA.cell? ⟨gA,1,none⟩=some (.slice eo n ec):=CRow.cell nA (k:=1) rfl rfl;have c0:wA.cell? ⟨w.heap.size,0,none⟩=some (.slice mo n mc):=CRow.cell (HS3.out _ EA).1 (k:=0) rfl rfl;obtain⟨XA,hXA⟩: ∃ z,z=aX K V (wrap64 (1+wrap64 ((IntKind.u64.wrap T).tmod 20971520))) n ch R X:=⟨_,rfl⟩;obtain⟨PA,hPA⟩: ∃ z,z=aP K V N (wrap64 (1+wrap64 ((IntKind.u64.wrap T).tmod 20971520))) n ch R X S:=⟨_,rfl⟩;obtain⟨CA,hCA⟩: ∃ z:Nat->Int,z=(fun k=>if k<n then sh 1073741824 (mxw n ch R) n k else 0):=⟨_,rfl⟩;rw [← hXA,← hPA,← hCA] at pA;have NA:=hidC nA;have QA:=hidC pA;have KA:=hidC kA;have EA':=hidC EA;have HXA:=hidC hXA;have HPA:=hidC hPA;clear nA pA kA EA hXA hPA hCA CS;go_wp2_with fail
      refine(dcheck14_any _ _ _ _ _ _ QA.out.s QA.out.b true ⟨fun _=>QA.out.ch,fun _=>rfl⟩ (by omega) (by omega)).mono ?_;rintro e wB ⟨rfl,kB⟩;have z0':=keep_cell kB z0;have c0':=keep_cell kB c0;have NB:=hidC (CRow.keep NA.out kB);have QB:=hidC (QA.out.keep kB);have KB:=hidC (below_tr KA.out kB);have EB2:=hidC (below_tr EA'.out kB);clear z0 z1 c0 NA QA KA EA';have MB:=hidC (CRow.keep NL.out KB.out);have TB:=hidC (CRow.keep TL.out KB.out);have CB:=hidC (HS3.out _ EB2.out).1;obtain⟨zF,zQ,zN,XN,oN,s1',s2',s3',s4',s5'⟩:=Im.one_steps (d:=(wrap64 (1+wrap64 ((IntKind.u64.wrap T).tmod 20971520)))) (q:=q) (L:=L) HN1.out hC GL.out.ch (GL.out.may 0 (by omega)) (GL.out.bx 0) (GL.out.bs 0) (dt_may T);rw [← HXA.out,← HPA.out] at s4' s5';have HMS:=hidC s1';have HMN:=hidC s2';have HPN:=hidC s3';have HPS:=hidC s4';have HEQ:=hidC s5';have i1:(0:Int)<(n:Int):=by omega
      clear s1' s2' s3' s4' s5'
      go_wp2_with (first
       |((with_reducible show wpList _ _ _ _ _ _);refine Ud.loadC isCf _ (by with_reducible rfl) w.heap.size _ (by rfl) CB.out rfl (by kernel_rfl) ?_)
       |fail)
      refine(GC.out _ (below_tr HB0.out EB2.out)).mono ?_;rintro e wD ⟨vo1,vm1,rfl,cl,JD'⟩;obtain⟨gm,hgm,hcm⟩:=cl.m.at' 0 (by show 0<n;omega);obtain rfl:vo1=some ⟨gm,0,none⟩:=hgm;have PM:Hid (wD.rangeAt gm 0 [.int .i64 (K 0), .int .i64 (V 0), .int .i64 (N 0)]):=hcm;have JD:=hidC JD';clear cl hcm JD' c0' z0'
      go_wp2_with (first
       |((with_reducible show wpList _ _ _ _ _ _);refine Im.wpList_field rfl 41 _ 0 (by with_reducible rfl) _ _ (by rfl) (Im.run_fieldP _ _ _ _) ?_)
       |((with_reducible show wpList _ _ _ _ _ _);refine St.wpList_part Mo.isMd (by kernel_rfl) _ (by rfl) gm 0 _ (by rfl) PM.out rfl ?_)
       |fail)
      refine(HMS.out _ (HT.out.below (below_tr HB0.out (below_tr EB2.out JD.out)))).mono ?_;rintro e wE ⟨rfl,JE'⟩;have JE:=hidC (below_tr JD.out JE');clear JE' PM JD HMS
      go_wp2_with (first
       |((with_reducible show wpList _ _ _ _ _ _);rw [zeroM];refine Mt.wpList_storeNew rfl _ _ (by rfl) _ _ _ _ (by rfl) (by rfl) ?_;intro wF nF kF;have JF:=hidC (below_tr JE.out kF);have CF5:=hidC (HS3.out _ (below_tr EB2.out JF.out)).1;have NF:=hidC nF;clear nF kF)
       |((with_reducible show wpList _ _ _ _ _ _);refine Ud.loadC isCf _ (by with_reducible rfl) w.heap.size _ (by rfl) CF5.out rfl (by kernel_rfl) ?_)
       |fail)
      refine(GC.out _ (below_tr HB0.out (below_tr EB2.out JF.out))).mono ?_;rintro e wG ⟨vo2,vm2,rfl,cl,JG'⟩;obtain⟨gn,hgn,hcn⟩:=cl.m.at' 0 (by show 0<n;omega);obtain rfl:vo2=some ⟨gn,0,none⟩:=hgn;have PN:Hid (wG.rangeAt gn 0 [.int .i64 (K 0), .int .i64 (V 0), .int .i64 (N 0)]):=hcn;have JG:=hidC (below_tr JF.out JG');have NG:=hidC (NF.out.keep JG');clear cl hcn JG' JF CF5 NF
      go_wp2_with (first
       |((with_reducible show wpList _ _ _ _ _ _);refine Im.wpList_field rfl 41 _ 0 (by with_reducible rfl) _ _ (by rfl) (Im.run_fieldP _ _ _ _) ?_)
       |((with_reducible show wpList _ _ _ _ _ _);refine St.wpList_part Mo.isMd (by kernel_rfl) _ (by rfl) gn 0 _ (by rfl) PN.out rfl ?_)
       |fail)
      refine(HMN.out _).mono ?_;rintro e wH ⟨rfl,JH'⟩;have JH:=hidC (below_tr JG.out JH');have NH:=hidC (NG.out.keep JH');clear JH' PN JG NG HMN
      go_wp2_with (first
       |((with_reducible show wpList _ _ _ _ _ _);rw [zeroM];refine Mt.wpList_storeNew rfl _ _ (by rfl) _ _ _ _ (by rfl) (by rfl) ?_;intro wI nI kI;have JI:=hidC (below_tr JH.out kI);have TI:=hidC (CRow.keep TB.out JI.out);have NI:=hidC (NH.out.keep kI);have NI2:=hidC nI;clear nI kI)
       |((with_reducible show wpList _ _ _ _ _ _);refine Ud.loadC Pd.isS _ (by with_reducible rfl) g9 _ (by rfl) TI.out (svals_len _ _ _ _) (by kernel_rfl) ?_)
       |((with_reducible show wpList _ _ _ _ _ _);refine Hk.loadM _ (by with_reducible rfl) _ _ _ _ (by rfl) (by with_reducible exact NI.out) (by kernel_rfl) ?_)
       |((with_reducible show wpList _ _ _ _ _ _);refine Hk.loadM _ (by with_reducible rfl) _ _ _ _ (by rfl) (by with_reducible exact NI2.out) (by kernel_rfl) ?_)
       |fail)
      refine(HPN.out _).mono ?_;rintro e wJ ⟨rfl,JJ'⟩;have JJ:=hidC (below_tr JI.out JJ');clear JJ' JI TI NI NI2 HPN JE JH NH
      go_wp2_with (first
       |((with_reducible show wpList _ _ _ _ _ _);rw [Pd.zeroS];refine St.wpList_storeNew Pd.isS rfl _ _ (by rfl) _ _ _ (by rfl) (by rfl) (svals_len _ _ _ _) (svals_len _ _ _ _) (one_svals _ _ _ _) ?_;intro wK nK kK;have JK:=hidC (below_tr JJ.out kK);have NK:=hidC nK;clear nK kK)
       |fail)
      obtain⟨gx,hgx⟩: ∃ g,g=wJ.heap.size:=⟨_,rfl⟩;rw [← hgx] at NK ⊢;clear hgx;obtain⟨gs,hgs,hps⟩:=QB.out.p.at' 0 (by omega);subst hgs;have HPP:=hidC hps;clear hps
      have HSK:Hid (∀ U,Below wK.heap.size wK U->CRow U gx 55 (svals XN 6 6 zN)/\U.cell? ⟨gA,0,none⟩=some (.slice (some ⟨gs,0,none⟩) n ac)/\U.rangeAt gs 0 (svals (XA 0) 6 6 (mz 6 6 (PA 0)))):=fun U b=>⟨CRow.keep NK.out b,CRow.cell (CRow.keep NB.out (below_tr JK.out b)) (k:=0) rfl rfl,fun j v hv=>by
       have:=keep_cell (below_tr JK.out b) (HPP.out j v hv)
       rwa [Nat.zero_mul] at this⟩
      clear HPP;try simp only [Act.put,List.getElem_toArray,List.getElem_cons_zero,List.getElem_cons_succ,List.setIfInBounds_toArray,List.set_cons_zero,List.set_cons_succ]
      refine Ru.wp_region_U [] (fun w'=>CRow w' gx 55 (svals XN 6 6 zN)/\w'.cell? ⟨gA,0,none⟩=some (.slice (some ⟨gs,0,none⟩) n ac)/\w'.rangeAt gs 0 (svals (XA 0) 6 6 (mz 6 6 (PA 0)))) (by kernel_rfl) (HSK.out _ (Vc.below_drew' wK)) (fun hHeld=> ?_);refine Ru.tk3 0 (.nilIface) hHeld ?_;refine Ru.tk3 1 (.bool false) hHeld ?_;refine Ru.tk3 2 (.bool false) hHeld ?_;refine Ru.tk3 3 (.nilIface) hHeld ?_;refine Ru.tk3 4 (.bool false) hHeld ?_;refine Ru.tk3 5 (.bool false) hHeld ?_;refine Ru.tk3 6 (.bool false) hHeld ?_;refine Ru.tk3 7 (.nilIface) hHeld ?_;refine Ru.tk3 8 (.bool false) hHeld ?_;refine Ru.tk3 9 (.bool false) hHeld ?_;refine Ru.tk3 10 (.bool false) hHeld ?_;refine Ru.tk 11 (.agg (svals XN 6 6 zN).toArray) rfl (Ru.yieldsC Pd.isS (by kernel_rfl) _ (by rfl) gx _ (by rfl) (fun w h=>h.1) (svals_len _ _ _ _)) hHeld ?_;refine Ru.tk3 12 (.pointer (some ⟨gA,0,none⟩)) hHeld ?_;refine Ru.tk3 13 (.slice (some ⟨gs,0,none⟩) n ac) hHeld ?_;refine Ru.tk3 14 (.pointer (some ⟨gs,0,none⟩)) hHeld ?_;refine Ru.tk 15 (.agg (svals (XA 0) 6 6 (mz 6 6 (PA 0))).toArray) rfl (Ud.yieldsPart Pd.isS (by kernel_rfl) _ (by rfl) gs 0 _ (by rfl) (fun w h=>h.2.2) (svals_len _ _ _ _)) hHeld ?_;refine Ru.rd 16 (fun K hK=> ?_);go_simp;refine(HPS.out _).mono ?_;rintro _ wL ⟨rfl,k18⟩;have k18b:=below_tr (Vc.below_drew' wK) k18;go_wp2_with fail
      refine Ru.hd hK (HSK.out _ k18b) (fun hHeld=> ?_);clear hK K;refine Ru.tk3 17 (.bool false) hHeld ?_;refine Ru.tk3 18 (.bool false) hHeld ?_;refine Ru.wpAnyU_done (by kernel_rfl) ?_;have JL':=below_tr JK.out k18b;have XL:=hidC (CRow.keep NK.out k18b);have TL2:=hidC (CRow.keep TB.out JL');have NL2:=hidC (CRow.keep NB.out JL');have ML2:=hidC (CRow.keep MB.out JL');have QL2:=hidC (QB.out.keep JL');have BL2:=hidC (BL.out.then (below_tr KB.out JL'));have ng: ¬gA=g9/\ ¬g7=g9:=by omega
      clear k18 k18b JL' JK JJ NK HSK TB CB
      go_wp2_with (first
       |((with_reducible show wpList _ _ _ _ _ _);refine Ud.loadC Pd.isS _ (by with_reducible rfl) gx _ (by rfl) XL.out (svals_len _ _ _ _) (by kernel_rfl) ?_)
       |((with_reducible show wpList _ _ _ _ _ _);refine Ud.storeC Pd.isS _ _ (by rfl) g9 _ _ (by rfl) (by rfl) TL2.out (svals_len _ _ _ _) (svals_len _ _ _ _) (one_svals _ _ _ _) rfl ?_;have NZ:=hidC (Ld.crowBut NL2.out (Ud.but_row wL g9 (svals XN 6 6 zN).toArray) ng.1);have MZ:=hidC (Ld.crowBut ML2.out (Ud.but_row wL g9 (svals XN 6 6 zN).toArray) ng.2))
       |((with_reducible show wpList _ _ _ _ _ _);refine Ud.loadC isIp _ (by with_reducible rfl) gA _ (by rfl) NZ.out rfl (by kernel_rfl) ?_)
       |((with_reducible show wpList _ _ _ _ _ _);refine Ud.storeC isIp _ _ (by rfl) g7 _ _ (by rfl) (by rfl) MZ.out rfl rfl (one2s _ _ _ _ _ _) rfl ?_)
       |fail)
      have QZ:=hidC (QL2.out.off ofA ofE (Ud.but_row wL g9 (svals XN 6 6 zN).toArray))
      have TZ:Hid (CRow (wL.setRow g9 (svals XN 6 6 zN).toArray) g9 55 (svals (XA 0) 6 6 (mz 6 6 (PA 0)))):=by
       have:=CRow.row TL2.out (svals XN 6 6 zN);rw [HEQ.out] at this ⊢;exact this
      have BZ:Hid (Ld.But (fun q=>q=g7\/q=g9\/o2<=q) w6 (wL.setRow g9 (svals XN 6 6 zN).toArray)):=BL2.out.trans ((Ud.but_row wL g9 (svals XN 6 6 zN).toArray).mono fun q e=>Or.inr (Or.inl e));have m7:=CRow.row MZ.out [.slice (some ⟨gs,0,none⟩) n ac, .slice eo n ec];have q7:=Now.row MZ.out QZ.out (Ud.but_row (wL.setRow g9 (svals XN 6 6 zN).toArray) g7 [.slice (some ⟨gs,0,none⟩) n ac, .slice eo n ec].toArray);have t7:=Ld.crowBut TZ.out (Ud.but_row (wL.setRow g9 (svals XN 6 6 zN).toArray) g7 [.slice (some ⟨gs,0,none⟩) n ac, .slice eo n ec].toArray) (by omega: ¬g9=g7);have b7:Ld.But (fun q=>q=g7\/q=g9\/o2<=q) w6 (((wL.setRow g9 (svals XN 6 6 zN).toArray)).setRow g7 [.slice (some ⟨gs,0,none⟩) n ac, .slice eo n ec].toArray):=BZ.out.trans ((Ud.but_row (wL.setRow g9 (svals XN 6 6 zN).toArray) g7 [.slice (some ⟨gs,0,none⟩) n ac, .slice eo n ec].toArray).mono fun q e=>Or.inl e);obtain⟨wC,hwC⟩: ∃ u,u=((wL.setRow g9 (svals XN 6 6 zN).toArray)).setRow g7 [.slice (some ⟨gs,0,none⟩) n ac, .slice eo n ec].toArray:=⟨_,rfl⟩;rw [← hwC] at m7 q7 t7 b7 ⊢;have E7:=HE.out _ b7;have lC:g7<wC.heap.size/\w.heap.size<wC.heap.size/\g9<wC.heap.size:=by have:=CRow.lt m7;have:=CRow.lt t7;have:=E7.size;omega
      have CS:Hid (∀ U,Below wC.heap.size wC U->CRow U w.heap.size 25 [.slice mo n mc, .slice ro q rc, .int .i64 fl]/\CRow U g7 34 [.slice (some ⟨gs,0,none⟩) n ac, .slice eo n ec]/\ ∀ j,j<5->U.cell? (((x.add (k*6)).add 1).add j)=some (.int .i64 (SI k (1+j)))):=fun U b=>⟨(HS3.out _ (below_tr E7 b)).1,CRow.keep m7 b,fun j hj=>by
       have:=keep_cell (below_tr HB0.out (below_tr E7 b)) (HCL.out (1+j) (by omega));rw [Addr.add_add]
       exact this⟩
      have H5:Hid (∀ v∈ [SI k 1,SI k 2,SI k 3,SI k 4,SI k 5],-9223372036854775808<=v/\v<=9223372036854775807):=fun v hv=>by
       simp only [List.mem_cons,List.not_mem_nil,or_false] at hv;rcases hv with h|h|h|h|h<;>(rw [h];exact HBS.out _)
      have M7:=hidC m7;have Q7:=hidC q7;have T7:=hidC t7;have B7:=hidC b7;have E7':=hidC E7;clear hwC m7 q7 t7 b7 E7 NB QB KB EB2 MB MZ QZ TZ BZ NZ XL TL2 NL2 ML2 QL2 BL2 HEQ HPS NL GL TL BL HBS;simp only [Act.put,List.getElem_toArray,List.getElem_cons_zero,List.getElem_cons_succ,List.setIfInBounds_toArray,List.set_cons_zero,List.set_cons_succ];go_cut [24,25,26] (fun p b f wx=> ∃ (g:Nat) (a2:Option Addr) (n2 c2:Nat) (e2:Option Addr) (m2 d2:Nat) (o:Bool) (ev:Value),p= .pointer (some ⟨g,0,none⟩)/\b= .bool o/\f=ev/\CRow wx g 34 [.slice a2 n2 c2, .slice e2 m2 d2]/\SeenR wx n a2 n2 c2 e2 m2 d2 ev (sX XA PA (SI k 1) (SI k 2) (SI k 3) (SI k 4) (SI k 5)) (sP PA (SI k 3) (SI k 4) (SI k 5)) (fun i=>if i<n then sC n CA fl XA PA (SI k 1) (SI k 2) (SI k 3) (SI k 4) (SI k 5) i else 0) (Ud.MayN (SI k 1) (SI k 2) (SI k 3) (SI k 4) (SI k 5)/\ ∀ i,i<n->sF PA (SI k 3) (SI k 4) (SI k 5) i) fl/\Below wC.heap.size wC wx/\wC.heap.size<=g/\Im.Off g9 a2/\Im.Off g9 e2)
      case first=>
       as_aux_lemma=>
        refine Ru.wp_region_U [] (fun w'=>CRow w' w.heap.size 25 [.slice mo n mc, .slice ro q rc, .int .i64 fl]/\CRow w' g7 34 [.slice (some ⟨gs,0,none⟩) n ac, .slice eo n ec]/\ ∀ j,j<5->w'.cell? (((x.add (k*6)).add 1).add j)=some (.int .i64 (SI k (1+j)))) (by kernel_rfl) (CS.out _ ((Vc.below_drew' _))) (fun hHeld=> ?_);refine Ru.tk 0 (.agg [.slice mo n mc, .slice ro q rc, .int .i64 fl].toArray) rfl (Ru.yieldsC isCf (by kernel_rfl) _ (by rfl) (w.heap.size) _ (by rfl) (fun w h=>h.1) rfl) hHeld ?_;refine Ru.tk 2 (.agg [.slice (some ⟨gs,0,none⟩) n ac, .slice eo n ec].toArray) rfl (Ru.yieldsC isIp (by kernel_rfl) _ (by rfl) (g7) _ (by rfl) (fun w h=>h.2.1) rfl) hHeld ?_;refine Ru.tk3 3 (.slice (some x) l cm) hHeld ?_;refine Ru.tk3 4 (.int .i64 (k:Int)) hHeld ?_;refine Ru.tk3 5 (.pointer (some (x.add (k*6)))) hHeld ?_;refine Ru.tk3 6 (.pointer (some ((x.add (k*6)).add 1))) hHeld ?_;refine Ru.tk 7 (.agg (Ud.pv (SI k 1) (SI k 2) (SI k 3) (SI k 4) (SI k 5)).toArray) rfl (yieldsE (by kernel_rfl) _ (by rfl) ((x.add (k*6)).add 1) (fun j=>SI k (1+j)) (by rfl) (fun w h=>h.2.2)) hHeld ?_;have D_:=Vc.below_drew' wC;refine Ru.rs [1,13] ?_
        repeat' (first
         |((with_reducible show Ru.AllReadyU _ _ _ _ _ _ _ _ _ _ _);first
          |refine Ru.sp ?_ ?_
          |(refine Ru.co1 (i:=1) (fun K hK=> ?_);go_simp;have s_:=D_.size;refine(GC.out _ (below_tr HB0.out (below_tr E7'.out D_))).mono ?_;rintro e x_ ⟨vo1,vm1,rfl,cl,k_⟩;replace D_:=below_tr D_ k_;(try replace pp:=pp.keep k_);(try replace n_:=CRow.keep n_ k_);go_wp2_with fail;refine Ru.hd hK (CS.out _ (D_)) (fun hHeld=> ?_);clear hK K;first|refine Ru.rz [8,13] ?_|refine Ru.rz [8] ?_)
          |(refine Ru.co1 (i:=8) (fun K hK=> ?_);go_simp;have s_:=D_.size;refine(HSe.out _ _ _ _ _ _ _ _ _ _ _ _ _ _ _ cl (Q7.out.keep D_) H5.out).mono ?_;rintro e x_ ⟨a2,n2,c2,e2,m2,d2,o,ev,rfl,k_,⟨nw1,nw2⟩,pp⟩;replace D_:=below_tr D_ k_;(try clear cl);(try replace cl:=cl.keep k_);(try replace n_:=CRow.keep n_ k_);go_wp2_with fail;refine Ru.hd hK (CS.out _ (D_)) (fun hHeld=> ?_);clear hK K;refine Ru.tk3 9 (.tuple #[.agg #[.slice a2 n2 c2, .slice e2 m2 d2], .bool o,ev]) hHeld ?_;refine Ru.tk3 10 (.agg #[.slice a2 n2 c2, .slice e2 m2 d2]) hHeld ?_;refine Ru.tk3 11 (.bool o) hHeld ?_;refine Ru.tk3 12 ev hHeld ?_;first|refine Ru.rz [13] ?_|skip)
          |(refine Ru.co1 (i:=13) (fun K hK=> ?_);go_simp;obtain⟨g_,x_,hg,hx,n_,l_,k_⟩:=made D_ 34 [.slice none 0 0, .slice none 0 0];(first|rw [← hx]|rw [show(wC.alloc (.cells [.slice none 0 0, .slice none 0 0].toArray 34)).drew=x_ from hx.symm]);(try rw [← hg]);(try rw [show wC.heap.size=g_ from hg.symm]);clear hg hx;replace D_:=below_tr D_ k_;(try replace cl:=cl.keep k_);(try replace pp:=pp.keep k_);refine Ru.hd hK (CS.out _ (D_)) (fun hHeld=> ?_);clear hK K;first|refine Ru.rz [8] ?_|refine Ru.rz [1] ?_|skip))
         |as_aux_lemma=>(refine Ru.rd 14 (fun K hK=> ?_);refine Ru.stepC isIp (by kernel_rfl) _ _ (by rfl) g_ _ ([.slice a2 n2 c2, .slice e2 m2 d2]) (by rfl) (by rfl) n_ rfl rfl (one2s _ _ _ _ _ _) ?_;have nE:=CRow.row n_ ([.slice a2 n2 c2, .slice e2 m2 d2]);have bE:=St.below_row D_ (g:=g_) (by omega) ([.slice a2 n2 c2, .slice e2 m2 d2]).toArray;refine Ru.hd hK (CS.out _ (bE)) (fun hHeld=> ?_);clear hK K;refine Ru.tk3 15 (.bool o) hHeld ?_;refine Ru.tk3 16 ev hHeld ?_;refine Ru.wpAnyU_done (by kernel_rfl) ?_;go_wp2_with fail;go_meet;exact⟨_,_,_,_,_,_,_,_,_,rfl,rfl,rfl,nE,SeenR.row n_ pp (Ud.but_row _ (g_) ([.slice a2 n2 c2, .slice e2 m2 d2]).toArray),bE,by omega,nw1.off (by omega),nw2.off (by omega)⟩))
      as_aux_lemma=>
       rename World=>wD;obtain⟨gD,a2,n2,c2,e2,m2,d2,oD,ev,rfl,rfl,rfl,nD,pD,kD,hgD,ofD,ofF⟩:=hcut;have MD:=hidC (CRow.keep M7.out kD);have QD:=hidC (Q7.out.keep kD);have TD:=hidC (CRow.keep T7.out kD);have BD:=hidC (B7.out.then kD);have ED:=hidC (below_tr E7'.out kD);have lD:wC.heap.size<=wD.heap.size:=kD.size;clear M7 Q7 T7 B7 E7' CS kD;rcases pD with⟨kk,hev,_,_,_⟩|⟨hev,hn2,hm2,hgd,hch,hnow⟩
       · simp only [errX] at hev;subst hev;clear nD;go_wp2_with fail
         go_roundw
         case rel=>exact⟨k+1,_,_,_,_,_,_,_,by omega,by go_num,MD.out,QD.out,TD.out,BD.out⟩
         case measure=>simp [intOf];omega
       · subst hev;rw [hn2,hm2] at nD;have z1:wD.cell? ⟨gD,1,none⟩=some (.slice e2 n d2):=CRow.cell nD (k:=1) rfl rfl;have c0:wD.cell? ⟨w.heap.size,0,none⟩=some (.slice mo n mc):=CRow.cell (HS3.out _ ED.out).1 (k:=0) rfl rfl;have c2:wD.cell? ⟨w.heap.size,2,none⟩=some (.int .i64 fl):=CRow.cell (HS3.out _ ED.out).1 (k:=2) rfl rfl;have ND:=hidC nD;have HN:=hidC hnow;have HCH:=hidC hch;have HGD:=hidC hgd;clear nD hnow hch hn2 hm2 hgd;go_wp2_with fail
         refine(dcheck14_any _ _ _ _ _ _ HN.out.s HN.out.b true ⟨fun _=>HCH.out,fun _=>rfl⟩ (by omega) (by omega)).mono ?_;rintro e wE ⟨rfl,kE⟩;have c0':=keep_cell kE c0;have NE:=hidC (CRow.keep ND.out kE);have HNE:=hidC (HN.out.keep kE);have ME:=hidC (CRow.keep MD.out kE);have TE:=hidC (CRow.keep TD.out kE);have BE:=hidC (BD.out.then kE);clear c0 c2 z1 ND HN MD TD BD ED kE;have QD1:=QD
         have CSJ:Hid (∀ j,j<5->wE.cell? (((x.add (k*6)).add 1).add j)=some (.int .i64 (SI k (1+j)))):=fun j hj=>by
          have:=keep_cell (below_tr HB0.out (HE.out _ BE.out)) (HCL.out (1+j) (by omega));rw [Addr.add_add];exact this
         clear HCL QD;obtain⟨oU,hU⟩:=Im.one_seen (X:=XA) (P:=PA) (QD1.out.may 0 (by omega)) (QD1.out.bx 0) (QD1.out.bs 0) HGD.out.1 (HGD.out.2 0 (by omega));obtain⟨XS,hXS⟩: ∃ z,z=sX XA PA (SI k 1) (SI k 2) (SI k 3) (SI k 4) (SI k 5):=⟨_,rfl⟩;obtain⟨PS,hPS⟩: ∃ z,z=sP PA (SI k 3) (SI k 4) (SI k 5):=⟨_,rfl⟩;rw [← hXS,← hPS] at hU HNE;have HU:=hidC hU;have HSF:=hidC (one_self (XS 0) (mz 6 6 (PS 0)));clear hU hXS hPS QD1 HGD;have CU:Hid (∀ U,Below wE.heap.size wE U->CRow U g9 55 (svals (XA 0) 6 6 (mz 6 6 (PA 0)))/\ ∀ j,j<5->U.cell? (((x.add (k*6)).add 1).add j)=some (.int .i64 (SI k (1+j)))):=fun U b=>⟨CRow.keep TE.out b,fun j hj=>keep_cell b (CSJ.out j hj)⟩;go_upto_region 27 with fail
         go_cut [27,28,29] (fun p b f wx=> ∃ (g:Nat) (o:Bool),p= .pointer (some ⟨g,0,none⟩)/\b= .bool o/\f= .nilIface/\CRow wx g 55 (svals (XS 0) 6 6 (mz 6 6 (PS 0)))/\Below wE.heap.size wE wx/\wE.heap.size<=g)
         case first=>
          as_aux_lemma=>
           refine Ru.wp_region_U [] (fun w'=>CRow w' g9 55 (svals (XA 0) 6 6 (mz 6 6 (PA 0)))/\ ∀ j,j<5->w'.cell? (((x.add (k*6)).add 1).add j)=some (.int .i64 (SI k (1+j)))) (by kernel_rfl) (CU.out _ ((Vc.below_drew' _))) (fun hHeld=> ?_);refine Ru.tk 0 (.agg (svals (XA 0) 6 6 (mz 6 6 (PA 0))).toArray) rfl (Ru.yieldsC Pd.isS (by kernel_rfl) _ (by rfl) g9 _ (by rfl) (fun w h=>h.1) (svals_len _ _ _ _)) hHeld ?_;refine Ru.tk2 1 (.slice (some x) l cm) hHeld ?_;refine Ru.tk2 2 (.int .i64 (k:Int)) hHeld ?_;refine Ru.tk2 3 (.pointer (some (x.add (k*6)))) hHeld ?_;refine Ru.tk2 4 (.pointer (some ((x.add (k*6)).add 1))) hHeld ?_;refine Ru.tk 5 (.agg (Ud.pv (SI k 1) (SI k 2) (SI k 3) (SI k 4) (SI k 5)).toArray) rfl (yieldsE (by kernel_rfl) _ (by rfl) ((x.add (k*6)).add 1) (fun j=>SI k (1+j)) (by rfl) (fun w h=>h.2)) hHeld ?_;have D_:=Vc.below_drew' wE;refine Ru.rs [6,11] ?_
           repeat' (first
            |((with_reducible show Ru.AllReadyU _ _ _ _ _ _ _ _ _ _ _);first
             |refine Ru.sp ?_ ?_
             |(refine Ru.co1 (i:=6) (fun K hK=> ?_);go_simp;have s_:=D_.size;refine(HU.out _).mono ?_;rintro e x_ ⟨rfl,k_⟩;replace D_:=below_tr D_ k_;(try replace n_:=CRow.keep n_ k_);go_wp2_with fail;refine Ru.hd hK (CU.out _ (D_)) (fun hHeld=> ?_);clear hK K;refine Ru.tk2 7 (.tuple #[.agg (svals (XS 0) 6 6 (mz 6 6 (PS 0))).toArray, .bool oU, .nilIface]) hHeld ?_;refine Ru.tk2 8 (.agg (svals (XS 0) 6 6 (mz 6 6 (PS 0))).toArray) hHeld ?_;refine Ru.tk2 9 (.bool oU) hHeld ?_;refine Ru.tk2 10 (.nilIface) hHeld ?_;first|refine Ru.rz [11] ?_|skip)
             |(refine Ru.co1 (i:=11) (fun K hK=> ?_);go_simp;(try rw [Pd.zeroS]);obtain⟨g_,x_,hg,hx,n_,l_,k_⟩:=made D_ 55 (svals (fun _=>0) 0 0 (fun _=>0));(first|rw [← hx]|rw [show(wE.alloc (.cells (svals (fun _=>0) 0 0 (fun _=>0)).toArray 55)).drew=x_ from hx.symm]);(try rw [← hg]);(try rw [show wE.heap.size=g_ from hg.symm]);clear hg hx;replace D_:=below_tr D_ k_;refine Ru.hd hK (CU.out _ (D_)) (fun hHeld=> ?_);clear hK K;first|refine Ru.rz [6] ?_|skip))
            |as_aux_lemma=>(refine Ru.rd 12 (fun K hK=> ?_);refine Ru.stepC Pd.isS (by kernel_rfl) _ _ (by rfl) g_ _ ((svals (XS 0) 6 6 (mz 6 6 (PS 0)))) (by rfl) (by rfl) n_ (svals_len _ _ _ _) (svals_len _ _ _ _) (one_svals _ _ _ _) ?_;have nE:=CRow.row n_ ((svals (XS 0) 6 6 (mz 6 6 (PS 0))));have bE:=St.below_row D_ (g:=g_) (by omega) ((svals (XS 0) 6 6 (mz 6 6 (PS 0)))).toArray;refine Ru.hd hK (CU.out _ (bE)) (fun hHeld=> ?_);clear hK K;refine Ru.tk2 13 (.bool oU) hHeld ?_;refine Ru.tk2 14 (.nilIface) hHeld ?_;refine Ru.wpAnyU_done (by kernel_rfl) ?_;go_wp2_with fail;go_meet;exact⟨_,_,rfl,rfl,rfl,nE,bE,by omega⟩))
         rename World=>wN;obtain⟨gU,oN2,rfl,rfl,rfl,nN,kN,hgU⟩:=hcut;have NN:=hidC nN;have KN:=hidC kN;obtain⟨gt,hgt,hpt⟩:=HNE.out.p.at' 0 (by omega);subst hgt;have HPT:=hidC hpt;have lN:wE.heap.size<=wN.heap.size:=kN.size;clear nN kN hpt CU c0'
         have HSN:Hid (∀ U,Below wN.heap.size wN U->CRow U gU 55 (svals (XS 0) 6 6 (mz 6 6 (PS 0)))/\U.cell? ⟨gD,0,none⟩=some (.slice (some ⟨gt,0,none⟩) n c2)/\U.rangeAt gt 0 (svals (XS 0) 6 6 (mz 6 6 (PS 0)))):=fun U b=>⟨CRow.keep NN.out b,CRow.cell (CRow.keep NE.out (below_tr KN.out b)) (k:=0) rfl rfl,fun j v hv=>by
          have:=keep_cell (below_tr KN.out b) (HPT.out j v hv)
          rwa [Nat.zero_mul] at this⟩
         clear HPT;go_upto_region 28 with fail
         refine Ru.wp_region_U [] (fun w'=>CRow w' gU 55 (svals (XS 0) 6 6 (mz 6 6 (PS 0)))/\w'.cell? ⟨gD,0,none⟩=some (.slice (some ⟨gt,0,none⟩) n c2)/\w'.rangeAt gt 0 (svals (XS 0) 6 6 (mz 6 6 (PS 0)))) (by kernel_rfl) (HSN.out _ (Vc.below_drew' wN)) (fun hHeld=> ?_);refine Ru.tk3 0 (.nilIface) hHeld ?_;refine Ru.tk3 1 (.bool false) hHeld ?_;refine Ru.tk3 2 (.bool false) hHeld ?_;refine Ru.tk 3 (.agg (svals (XS 0) 6 6 (mz 6 6 (PS 0))).toArray) rfl (Ru.yieldsC Pd.isS (by kernel_rfl) _ (by rfl) gU _ (by rfl) (fun w h=>h.1) (svals_len _ _ _ _)) hHeld ?_;refine Ru.tk3 4 (.pointer (some ⟨gD,0,none⟩)) hHeld ?_;refine Ru.tk3 5 (.slice (some ⟨gt,0,none⟩) n c2) hHeld ?_;refine Ru.tk3 6 (.pointer (some ⟨gt,0,none⟩)) hHeld ?_;refine Ru.tk 7 (.agg (svals (XS 0) 6 6 (mz 6 6 (PS 0))).toArray) rfl (Ud.yieldsPart Pd.isS (by kernel_rfl) _ (by rfl) gt 0 _ (by rfl) (fun w h=>h.2.2) (svals_len _ _ _ _)) hHeld ?_;refine Ru.rd 8 (fun K hK=> ?_);go_simp;refine(HSF.out _).mono ?_;rintro _ wO ⟨rfl,k28⟩;have k28b:=below_tr (Vc.below_drew' wN) k28;go_wp2_with fail
         refine Ru.hd hK (HSN.out _ k28b) (fun hHeld=> ?_);clear hK K;refine Ru.tk3 9 (.bool false) hHeld ?_;refine Ru.tk3 10 (.bool false) hHeld ?_;refine Ru.wpAnyU_done (by kernel_rfl) ?_;have JO':=below_tr KN.out k28b;have XO:=hidC (CRow.keep NN.out k28b);have TO:=hidC (CRow.keep TE.out JO');have NO:=hidC (CRow.keep NE.out JO');have MO:=hidC (CRow.keep ME.out JO');have QO:=hidC (HNE.out.keep JO');have BO:=hidC (BE.out.then JO');have ng: ¬gD=g9/\ ¬g7=g9:=by omega
         clear k28 k28b JO' KN NN HSN
         go_wp2_with (first
          |((with_reducible show wpList _ _ _ _ _ _);refine Ud.loadC Pd.isS _ (by with_reducible rfl) gU _ (by rfl) XO.out (svals_len _ _ _ _) (by kernel_rfl) ?_)
          |((with_reducible show wpList _ _ _ _ _ _);refine Ud.storeC Pd.isS _ _ (by rfl) g9 _ _ (by rfl) (by rfl) TO.out (svals_len _ _ _ _) (svals_len _ _ _ _) (one_svals _ _ _ _) rfl ?_;have NP:=hidC (Ld.crowBut NO.out (Ud.but_row wO g9 (svals (XS 0) 6 6 (mz 6 6 (PS 0))).toArray) ng.1);have MP:=hidC (Ld.crowBut MO.out (Ud.but_row wO g9 (svals (XS 0) 6 6 (mz 6 6 (PS 0))).toArray) ng.2))
          |((with_reducible show wpList _ _ _ _ _ _);refine Ud.loadC isIp _ (by with_reducible rfl) gD _ (by rfl) NP.out rfl (by kernel_rfl) ?_)
          |((with_reducible show wpList _ _ _ _ _ _);refine Ud.storeC isIp _ _ (by rfl) g7 _ _ (by rfl) (by rfl) MP.out rfl rfl (one2s _ _ _ _ _ _) rfl ?_)
          |fail)
         have QP:=hidC (QO.out.off ofD ofF (Ud.but_row wO g9 (svals (XS 0) 6 6 (mz 6 6 (PS 0))).toArray));have TP:=hidC (CRow.row TO.out (svals (XS 0) 6 6 (mz 6 6 (PS 0))));have BP:Hid (Ld.But (fun q=>q=g7\/q=g9\/o2<=q) w6 (wO.setRow g9 (svals (XS 0) 6 6 (mz 6 6 (PS 0))).toArray)):=BO.out.trans ((Ud.but_row wO g9 (svals (XS 0) 6 6 (mz 6 6 (PS 0))).toArray).mono fun q e=>Or.inr (Or.inl e));go_roundw
         case rel=>exact⟨k+1,_,_,_,_,_,_,_,by omega,by go_num,CRow.row MP.out _,Now.row MP.out QP.out (Ud.but_row _ g7 _),Ld.crowBut TP.out (Ud.but_row _ g7 _) (by omega: ¬g9=g7),BP.out.trans ((Ud.but_row _ g7 _).mono fun q e=>Or.inl e)⟩
         case measure=>simp [intOf];omega
    · have k6': ¬(k:Int)<6:=by omega
      have kn:(k:Int)<l:=by omega
      have EB':=hidC EB;clear nl gl tl bl E1 EB HSI;go_wp2_with fail
      refine(HSu.out _ (HT.out.below EB'.out)).mono ?_;rintro e w8 ⟨rfl,k8⟩;go_wp2;go_ret;exact⟨rfl,below_tr EB'.out k8⟩
  · obtain rfl:l=k:=by omega
    have EB':=hidC EB;clear nl gl tl bl E1 EB HSI;go_wp2_with fail
    refine(HSu.out _ (HT.out.below EB'.out)).mono ?_;rintro e w8 ⟨rfl,k8⟩;go_wp2;go_ret;exact⟨rfl,below_tr EB'.out k8⟩
end
section
open Go.RowKit Vc St Mt Cn Mx Im El Pd
attribute [local go_sem ↓] Go.wp_at_zero Go.wp_at_succ
theorem imone_odd(P:Im.IPkg)(mo:Option Addr)(n mc:Nat)(ro:Option Addr)(q rc:Nat)(fl:Int)(s0 s2:Option Addr)(m s1 s3 s4:Nat)(lo:Option Addr)(l cm:Nat)(w:World)(hT:AngTab w)(hm:m≠6\/(m=6/\10<n)):
 Calls Tryz.prog 5 #[.agg #[.slice mo n mc, .slice ro q rc, .int .i64 fl], .agg #[.slice s0 m s1, .slice s2 s3 s4], .slice lo l cm] w fun e w'=>e= .returned (.bool true)/\Below w.heap.size w w':=by
 have m0:=(crow_new w 25 [.slice mo n mc, .slice ro q rc, .int .i64 fl]).alloc (.cells [.slice s0 m s1, .slice s2 s3 s4].toArray 60);have m1:=crow_new1 w (.cells [.slice mo n mc, .slice ro q rc, .int .i64 fl].toArray 25) 60 [.slice s0 m s1, .slice s2 s3 s4];have B0:Below w.heap.size w ((w.alloc (.cells [.slice mo n mc, .slice ro q rc, .int .i64 fl].toArray 25)).alloc (.cells [.slice s0 m s1, .slice s2 s3 s4].toArray 60)):=below_al (below_al (Below.refl _ _) _) _;obtain⟨W,hW⟩: ∃ W,W=(w.alloc (.cells [.slice mo n mc, .slice ro q rc, .int .i64 fl].toArray 25)).alloc (.cells [.slice s0 m s1, .slice s2 s3 s4].toArray 60):=⟨_,rfl⟩;rw [← hW] at m0 m1 B0;have HW:=hidC hW;have HB0:=hidC B0;have HT:=hidC hT;have HSu:=hidC (isure_any P);have d0:W.cell? ⟨w.heap.size+1,0,none⟩=some (.slice s0 m s1):=CRow.cell m1 (k:=0) rfl rfl;have d1:W.cell? ⟨w.heap.size,0,none⟩=some (.slice mo n mc):=CRow.cell m0 (k:=0) rfl rfl;clear hW m0 m1 B0 hT;rcases hm with hm|⟨rfl,hm⟩
 · have i0: ¬(m:Int)=6:=by omega
   clear hm;go_enter Tryz.func5,Tryz.ntmps5
   go_wp2_with (first|(rw [← HW.out])|fail)
   refine(HSu.out _ (HT.out.below HB0.out)).mono ?_;rintro e w2 ⟨rfl,k2⟩;have B2:=below_tr HB0.out k2;clear k2 d0 d1;go_wp2;go_ret;exact⟨rfl,B2⟩
 · have i0:10<(n:Int):=by omega
   clear hm;go_enter Tryz.func5,Tryz.ntmps5
   go_wp2_with (first|(rw [← HW.out])|fail)
   refine(HSu.out _ (HT.out.below HB0.out)).mono ?_;rintro e w2 ⟨rfl,k2⟩;have B2:=below_tr HB0.out k2;clear k2 d0 d1;go_wp2;go_ret;exact⟨rfl,B2⟩
theorem imone_err(P:Im.IPkg)(CO:Option Addr->Nat->Im.Co)(mo:Option Addr)(n mc:Nat)(ro:Option Addr)(q rc:Nat)(fl:Int)(s0 s2:Option Addr)(s1 s3 s4:Nat)(X0 z0:Nat->Int)(r0 q0:Int)(lo:Option Addr)(l cm:Nat)(w:World)(hE:ErrTab w)(hT:AngTab w)(hn:n<=10)
 (hGC: ∀ W,Below w.heap.size w W->Calls Tryz.prog 9 #[.agg #[.slice mo n mc, .slice ro q rc, .int .i64 fl]] W fun e w'=> ∃ vo vm,e= .returned (.agg #[.slice vo n vm, .slice ro q rc, .int .i64 fl])/\(CO vo vm).Lies w'/\Below W.heap.size W w')
 (hGS: ∀ W,Below w.heap.size w W->Calls Tryz.prog 24 #[.agg #[.slice s0 6 s1, .slice s2 s3 s4]] W fun e w'=>e= .returned (.agg (svals X0 r0 q0 z0).toArray)/\Below W.heap.size W w')
 (hSt: ∀ U vo vm,(CO vo vm).Lies U->Calls Tryz.prog 23 #[.agg #[.slice vo n vm, .slice ro q rc, .int .i64 fl], .agg (svals X0 r0 q0 z0).toArray] U fun e w'=> ∃ ao ac bo bc,e= .returned (.tuple #[.agg #[.slice ao 0 ac, .slice bo 0 bc],Mx.errX 1])/\Below U.heap.size U w'):
 Calls Tryz.prog 5 #[.agg #[.slice mo n mc, .slice ro q rc, .int .i64 fl], .agg #[.slice s0 6 s1, .slice s2 s3 s4], .slice lo l cm] w fun e w'=>e= .returned (.bool true)/\Below w.heap.size w w':=by
 have m0:=(crow_new w 25 [.slice mo n mc, .slice ro q rc, .int .i64 fl]).alloc (.cells [.slice s0 6 s1, .slice s2 s3 s4].toArray 60);have m1:=crow_new1 w (.cells [.slice mo n mc, .slice ro q rc, .int .i64 fl].toArray 25) 60 [.slice s0 6 s1, .slice s2 s3 s4];have B0:Below w.heap.size w ((w.alloc (.cells [.slice mo n mc, .slice ro q rc, .int .i64 fl].toArray 25)).alloc (.cells [.slice s0 6 s1, .slice s2 s3 s4].toArray 60)):=below_al (below_al (Below.refl _ _) _) _;obtain⟨W,hW⟩: ∃ W,W=(w.alloc (.cells [.slice mo n mc, .slice ro q rc, .int .i64 fl].toArray 25)).alloc (.cells [.slice s0 6 s1, .slice s2 s3 s4].toArray 60):=⟨_,rfl⟩;rw [← hW] at m0 m1 B0;have HW:=hidC hW;have HB0:=hidC B0;have HE:=hidC hE;have HT:=hidC hT;have GC:=hidC hGC;have GS:=hidC hGS;have HSt:Hid (∀ U vo vm,(CO vo vm).Lies U->Calls Tryz.prog 23 #[.agg #[.slice vo n vm, .slice ro q rc, .int .i64 fl], .agg (svals X0 r0 q0 z0).toArray] U fun e w'=> ∃ ao ac bo bc,e= .returned (.tuple #[.agg #[.slice ao 0 ac, .slice bo 0 bc], .iface 93 (.int .i64 1)])/\Below U.heap.size U w'):=hSt;have HSu:=hidC (isure_any P);have d0:W.cell? ⟨w.heap.size+1,0,none⟩=some (.slice s0 6 s1):=CRow.cell m1 (k:=0) rfl rfl;have d1:W.cell? ⟨w.heap.size,0,none⟩=some (.slice mo n mc):=CRow.cell m0 (k:=0) rfl rfl;have i0: ¬10<(n:Int):=by omega
 have HS3:Hid (∀ U,Below W.heap.size W U->CRow U w.heap.size 25 [.slice mo n mc, .slice ro q rc, .int .i64 fl]/\CRow U (w.heap.size+1) 60 [.slice s0 6 s1, .slice s2 s3 s4]):=fun U k=>⟨CRow.keep m0 k,CRow.keep m1 k⟩;have lw:w.heap.size+1<W.heap.size:=CRow.lt m1;clear hW m0 m1 B0 hT hGS hE hGC hSt;go_enter Tryz.func5,Tryz.ntmps5
 go_upto_region 3 with(first|(rw [← HW.out])|fail)
 go_cut [7,8] (fun p f wx=>f= .iface 93 (.int .i64 1)/\Below W.heap.size W wx)
 case first=>
  try rw [← HW.out]
  refine Ru.wp_region_U [] (fun w'=>CRow w' w.heap.size 25 [.slice mo n mc, .slice ro q rc, .int .i64 fl]/\CRow w' (w.heap.size+1) 60 [.slice s0 6 s1, .slice s2 s3 s4]) (by kernel_rfl) (HS3.out _ ((Vc.below_drew' _))) (fun hHeld=> ?_);refine Ru.tk 0 (.agg [.slice mo n mc, .slice ro q rc, .int .i64 fl].toArray) rfl (Ru.yieldsC isCf (by kernel_rfl) _ (by rfl) (w.heap.size) _ (by rfl) (fun w h=>h.1) rfl) hHeld ?_;refine Ru.tk 2 (.agg [.slice s0 6 s1, .slice s2 s3 s4].toArray) rfl (Ru.yieldsC Pr.isRs (by kernel_rfl) _ (by rfl) (w.heap.size+1) _ (by rfl) (fun w h=>h.2) rfl) hHeld ?_;have D_:=Vc.below_drew' W;refine Ru.rs [1,8] ?_
  repeat' (first
   |((with_reducible show Ru.AllReadyU _ _ _ _ _ _ _ _ _ _ _);first
    |refine Ru.sp ?_ ?_
    |(refine Ru.co1 (i:=1) (fun K hK=> ?_);go_simp;have s_:=D_.size;refine(GC.out _ (below_tr HB0.out D_)).mono ?_;rintro e x_ ⟨vo,vm,rfl,cl,k_⟩;replace D_:=below_tr D_ k_;(try replace n_:=CRow.keep n_ k_);go_wp2_with fail;refine Ru.hd hK (HS3.out _ (D_)) (fun hHeld=> ?_);clear hK K;first|refine Ru.rz [3,8] ?_|refine Ru.rz [3] ?_)
    |(refine Ru.co1 (i:=3) (fun K hK=> ?_);go_simp;have s_:=D_.size;refine(GS.out _ (below_tr HB0.out D_)).mono ?_;rintro e x_ ⟨rfl,k_⟩;replace D_:=below_tr D_ k_;(try replace cl:=cl.keep k_);(try replace n_:=CRow.keep n_ k_);go_wp2_with fail;refine Ru.hd hK (HS3.out _ (D_)) (fun hHeld=> ?_);clear hK K;first|refine Ru.rz [4,8] ?_|refine Ru.rz [4] ?_)
    |(refine Ru.co1 (i:=4) (fun K hK=> ?_);go_simp;have s_:=D_.size;refine(HSt.out _ _ _ cl).mono ?_;rintro e x_ ⟨ao,ac,bo,bc,rfl,k_⟩;replace D_:=below_tr D_ k_;(try clear cl);(try replace cl:=cl.keep k_);(try replace n_:=CRow.keep n_ k_);go_wp2_with fail;refine Ru.hd hK (HS3.out _ (D_)) (fun hHeld=> ?_);clear hK K;refine Ru.tk2 5 (.tuple #[.agg #[.slice ao 0 ac, .slice bo 0 bc], .iface 93 (.int .i64 1)]) hHeld ?_;refine Ru.tk2 6 (.agg #[.slice ao 0 ac, .slice bo 0 bc]) hHeld ?_;refine Ru.tk2 7 (.iface 93 (.int .i64 1)) hHeld ?_;first|refine Ru.rz [8] ?_|skip)
    |(refine Ru.co1 (i:=8) (fun K hK=> ?_);go_simp;obtain⟨g_,x_,hg,hx,n_,l_,k_⟩:=made D_ 34 [.slice none 0 0, .slice none 0 0];(first|rw [← hx]|rw [show(W.alloc (.cells [.slice none 0 0, .slice none 0 0].toArray 34)).drew=x_ from hx.symm]);(try rw [← hg]);(try rw [show W.heap.size=g_ from hg.symm]);clear hg hx;replace D_:=below_tr D_ k_;(try replace cl:=cl.keep k_);refine Ru.hd hK (HS3.out _ (D_)) (fun hHeld=> ?_);clear hK K;first|refine Ru.rz [4] ?_|refine Ru.rz [3] ?_|refine Ru.rz [1] ?_|skip))
   |as_aux_lemma=>(refine Ru.rd 9 (fun K hK=> ?_);refine Ru.stepC isIp (by kernel_rfl) _ _ (by rfl) g_ _ ([.slice ao 0 ac, .slice bo 0 bc]) (by rfl) (by rfl) n_ rfl rfl (one2s _ _ _ _ _ _) ?_;have nE:=CRow.row n_ ([.slice ao 0 ac, .slice bo 0 bc]);have bE:=St.below_row D_ (g:=g_) (by omega) ([.slice ao 0 ac, .slice bo 0 bc]).toArray;refine Ru.hd hK (HS3.out _ (bE)) (fun hHeld=> ?_);clear hK K;refine Ru.tk2 10 (.iface 93 (.int .i64 1)) hHeld ?_;refine Ru.wpAnyU_done (by kernel_rfl) ?_;go_wp2_with fail;go_meet;exact⟨rfl,bE⟩))
 rename World=>w3;obtain⟨rfl,k3⟩:=hcut;have B3:=hidC (below_tr HB0.out k3);clear k3 d0 d1 HSt HW GC GS HS3;go_wp2_with fail
 refine(num_err 1 _ (HE.out.below B3.out)).mono ?_;rintro e w4 ⟨rfl,k4⟩;have B4:=hidC (below_tr B3.out k4);clear k4 B3;go_wp2_with fail
 refine(HSu.out _ (HT.out.below B4.out)).mono ?_;rintro e w5 ⟨rfl,k5⟩;have B5:=below_tr B4.out k5;clear k5;go_wp2;go_ret;exact⟨rfl,B5⟩
end
end Go.Proofs.YtcefcokpjbebhaaGreatDoor
