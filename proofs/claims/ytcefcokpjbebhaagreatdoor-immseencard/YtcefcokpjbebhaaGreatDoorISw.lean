/-
  ImmSeen, of whatever comes in.
-/
import Derived.Test.YtcefcokpjbebhaaGreatDoorImM
import Derived.Test.YtcefcokpjbebhaaGreatDoorFImmSeen
set_option linter.unusedSimpArgs false
set_option linter.unusedVariables false
namespace Go.Proofs.YtcefcokpjbebhaaGreatDoor
open Go.RowKit Vc St Mt Cn Mx Im El Pd
attribute [local go_sem ↓] Go.wp_at_zero Go.wp_at_succ
set_option maxRecDepth 20000 in
set_option maxHeartbeats 2000000 in
theorem Eo(P:Im.WE)(mo ro lo ho:Option Addr)(n mc q rc l cm m hc:Nat)(fl x y a b c:Int)(sb:Bool)(w:World)(hT:iM w)(hn:sb=true->10<n)
 (hZ: ∀ W,Below w.heap.size w W->Calls Tryz.prog 6 #[.slice lo l cm] W fun e w'=>e= .returned (.bool sb)/\Below W.heap.size W w'):
 Calls Tryz.prog 4 #[.agg #[.slice mo n mc, .slice ro q rc, .int .i64 fl], .agg #[.slice lo l cm, .slice ho m hc], .agg (Ud.pv x y a b c).toArray] w fun e w'=>e= .returned (.bool true)/\Below w.heap.size w w':=by
 have m0:=((aH w 25 [.slice mo n mc, .slice ro q rc, .int .i64 fl]).alloc (.cells [.slice lo l cm, .slice ho m hc].toArray 29)).alloc (.cells (Ud.pv x y a b c).toArray 67);have m1:=(bU w (.cells [.slice mo n mc, .slice ro q rc, .int .i64 fl].toArray 25) 29 [.slice lo l cm, .slice ho m hc]).alloc (.cells (Ud.pv x y a b c).toArray 67);have B0:Below w.heap.size w (((w.alloc (.cells [.slice mo n mc, .slice ro q rc, .int .i64 fl].toArray 25)).alloc (.cells [.slice lo l cm, .slice ho m hc].toArray 29)).alloc (.cells (Ud.pv x y a b c).toArray 67)):=af (af (af (Below.refl _ _) _) _) _;obtain⟨W,hW⟩: ∃ W,W=((w.alloc (.cells [.slice mo n mc, .slice ro q rc, .int .i64 fl].toArray 25)).alloc (.cells [.slice lo l cm, .slice ho m hc].toArray 29)).alloc (.cells (Ud.pv x y a b c).toArray 67):=⟨_,rfl⟩;rw [← hW] at m0 m1 B0;have HW:=aZ hW;have H0:=aZ m0;have HB0:=aZ B0;have HT:=aZ hT;have HZ:=aZ (hZ W B0);have HN:=aZ hn;have HSu:=aZ (rU P);have d0:W.cell? ⟨w.heap.size+1,0,none⟩=some (.slice lo l cm):=ai.cell m1 (k:=0) rfl rfl;clear hW m0 m1 B0 hT hZ hn;go_enter Tryz.func4,Tryz.ntmps4
 go_wp2_with (first|(rw [← HW.out])|fail)
 refine(HZ.out).mono ?_;rintro e w1 ⟨rfl,k1⟩;have d1:w1.cell? ⟨w.heap.size,0,none⟩=some (.slice mo n mc):=ai.cell (ai.keep H0.out k1) (k:=0) rfl rfl;have B1:=aZ (ae HB0.out k1);clear k1 d0 HW HZ;cases sb
 · clear HN;go_wp2_with fail
   refine(HSu.out _ (HT.out.below B1.out)).mono ?_;rintro e w2 ⟨rfl,k2⟩;have B2:=ae B1.out k2;clear k2 d1;go_wp2;go_ret;exact⟨rfl,B2⟩
 · have i0:10<(n:Int):=by have:=HN.out rfl;omega
   clear HN;go_wp2_with fail
   refine(HSu.out _ (HT.out.below B1.out)).mono ?_;rintro e w2 ⟨rfl,k2⟩;have B2:=ae B1.out k2;clear k2 d1;go_wp2;go_ret;exact⟨rfl,B2⟩
namespace Im
def WY(w:World)(CO:Option Addr->Nat->Co)(MS:Option Addr->Nat->Ms)(mo ro lo ho:Option Addr)(n mc q rc l cm m hc:Nat)(fl x y a b c:Int):Prop:=
 ∃ (n1:Nat) (o1:Bool) (ev:Value) (f1:Int) (Y:Nat->Nat->Int) (Q:Nat->Nat->Nat->Int) (z:Nat->Int),
   (∀ W vo vm uo um,(CO vo vm).Lies W->(MS uo um).Lies W->Calls Tryz.prog 21 #[.agg #[.slice vo n vm, .slice ro q rc, .int .i64 fl], .agg #[.slice uo l um, .slice ho m hc], .agg (Ud.pv x y a b c).toArray] W fun e w'=> ∃ ao ac bo bc,e= .returned (.tuple #[.agg #[.slice ao n1 ac, .slice bo n1 bc], .bool o1,ev])/\Pst w' ao n1 ac Y (fun _=>6) (fun _=>6) (fun k=>mz 6 6 (Q k))/\Sl w' bo n1 bc z/\Below W.heap.size W w')/\
   (∀ W,Below w.heap.size w W->Calls Tryz.prog 22 #[.agg #[.slice mo n mc, .slice ro q rc, .int .i64 fl], .agg #[.slice lo l cm, .slice ho m hc], .agg (Ud.pv x y a b c).toArray] W fun e w'=> ∃ xo xm yo ym,e= .returned (.tuple #[.agg #[.slice xo n1 xm, .slice yo n1 ym], .bool o1, .int .i64 f1])/\Dls w' xo n1 xm Y Q/\Sl w' yo n1 ym z/\Below W.heap.size W w')/\
   (∀ W,lV W->Calls Tryz.prog 14 #[ev] W fun e w'=>e= .returned (.int .i64 f1)/\Below W.heap.size W w')
theorem UK(P:WE){w:World}{mo:Option Addr}{n mc:Nat}{K V N:Nat->Int}{ro:Option Addr}{q rc:Nat}{A:Nat->Option Addr}{L C:Nat->Nat}{R:Nat->Nat->Int}{fl:Int}(hc:Ci w mo n mc K V N ro q rc A L C R fl){lo:Option Addr}{l cm:Nat}{D:Nat->Raw}{ho:Option Addr}{m hm:Nat}{ch:Nat->Int}{X:Nat->Nat->Int}{r c:Nat->Int}{z:Nat->Nat->Int}{F:Nat->Nat->Nat->Int}{g:Nat->Bool}(h:Ii w lo l cm D ho m hm ch X r c z F g)
 (x y a b s:Int) (hb: ∀ v∈ [x,y,a,b,s],-9223372036854775808<=v/\v<=9223372036854775807):
 WY w (coI n K V N ro q rc A L C R fl) (msI l ho m hm ch X r c z F) mo ro lo ho n mc q rc l cm m hm fl x y a b s:=by
 by_cases hF:qw n q K V N L R fl/\l=n/\uC l m ch X r c F
 ·obtain⟨hC,e,hJ⟩:=hF;subst e;have e:=hJ.1;subst e;have hch:=hJ.2.1;obtain⟨bc,hbc⟩: ∃ b:Bool,b=true:=⟨_,rfl⟩
  have hFit: ∀ W,Below w.heap.size w W-> ∀ U,Below W.heap.size W U->Calls Tryz.prog 38 #[.agg #[.slice mo l mc, .slice ro q rc, .int .i64 fl], .agg #[.slice lo l cm, .slice ho l hm]] U fun e w'=>e= .returned (.bool true)/\Below U.heap.size U w':=fun W bw U k=>
   CJ mo ro lo ho l mc q rc l cm l hm fl true true true U (fun V p=>hc.may true ⟨fun _=>hC,fun _=>rfl⟩ V (ae (ae bw k) p)) (fun V p=>h.may true ⟨fun _=>hJ,fun _=>rfl⟩ V (ae (ae bw k) p)) ⟨fun _=>⟨rfl,rfl,rfl⟩,fun _=>rfl⟩
  have hWt: ∀ W,Below w.heap.size w W-> ∀ U uo uc,Below W.heap.size W U->Sl U uo l uc (sL X F x y a b s)->Calls Tryz.prog 62 #[.slice uo l uc, .slice ho l hm, .int .i64 fl] U fun e w'=> ∃ vo vc,e= .returned (.tuple #[.slice vo l vc, .bool (Lk.wo (sL X F x y a b s) ch l l), .int .i64 0])/\Sl w' vo l vc (sC l ch fl X F x y a b s)/\Below U.heap.size U w':=fun W bw U uo uc k hs=>by
   refine(Iy l uc hm uo ho (sL X F x y a b s) ch fl U hs (h.s.keep (ae bw k)) (sL_b X F x y a b s) h.b (X8 hch hC.lo hC.hi X F x y a b s)).mono ?_;rintro e w' ⟨vo,vc,rfl,ow⟩;obtain⟨_,_,e2,hs'⟩:=ow.sl;injection e2 with e3 _ e4
   subst e3 e4;exact⟨vo,vc,rfl,hs',ow.below⟩
  by_cases hN:Ud.lT x y a b s
  ·have key: ∀ W,Below w.heap.size w W->Calls Tryz.prog 22 #[.agg #[.slice mo l mc, .slice ro q rc, .int .i64 fl], .agg #[.slice lo l cm, .slice ho l hm], .agg (Ud.pv x y a b s).toArray] W fun e w'=>
    ((¬All (sF F a b s) l)/\e= .returned (.tuple #[.agg #[.slice none 0 0, .slice none 0 0], .bool false, .int .i64 8])/\Below W.heap.size W w')\/
    ((All (sF F a b s) l)/\ ∃ vo vm no nc,e= .returned (.tuple #[.agg #[.slice vo l vm, .slice no l nc], .bool (dN (fun k=>Ud.og (X k) (F k) x y a b s||Lk.ofO (Ud.fL (F k) a b s) (Ud.fD (F k) a b s) (Ud.v2 (Ud.ox (X k) x) (Ud.oy (X k) y))||Ud.nO (X k) (F k) x y a b s) l||Lk.wo (sL X F x y a b s) ch l l), .int .i64 0])/\Dls w' vo l vm (sX X F x y a b s) (sP F a b s)/\Sl w' no l nc (sC l ch fl X F x y a b s)/\Below W.heap.size W w'):=fun W bw=>by
    refine CP mo ro lo ho l l mc q rc cm hm fl x y a b s 8 X F (sF F a b s) (fun k=>Ud.v2 (Ud.ox (X k) x) (Ud.oy (X k) y)) (fun k=>Ud.fL (F k) a b s) (fun k=>Ud.fD (F k) a b s) _ _ _ (sL X F x y a b s) (sX X F x y a b s) (sP F a b s) (sC l ch fl X F x y a b s) _ W (hFit W bw) ((h.dls hJ).keep bw) hC.four om0 ?_ ?_ ?_ (hWt W bw)
    ·intro k hk U xo xc po pc h1 h2;refine(IC xo po xc pc (X k) (F k) x y a b s U h1 h2 (hJ.2.2 k hk).2.2 hN).mono ?_;rintro e w' ⟨⟨q1,rfl⟩|⟨q1,gv,lo',cl,do',cd,rfl,h3,h4,h5⟩,k⟩
     ·exact⟨Or.inl ⟨q1,rfl⟩,k⟩
     ·exact⟨Or.inr ⟨q1,_,_,_,_,_,_,rfl,h3,h4,h5⟩,k⟩
    ·intro k hk ok U gv gc gl cl gd cd h1 h2 h3;exact TY gv gl gd gc cl cd _ _ _ U h1 h2 h3 (Ud.fL_b (F k) a b s) (Ud.fD_b ok) (Ud.v2_b (Ud.BM _) (Ud.BM _))
    ·intro k hk ok U xo xc po pc h1 h2;refine(J3 xo po xc pc (X k) (F k) x y a b s U h1 h2 (hJ.2.2 k hk).2.2 hN ok (h.bx k) (h.bf k)).mono ?_;rintro e w' ⟨yo,yc,ro',rc',rfl,_,_,k1,k2⟩;exact⟨yo,yc,ro',rc',rfl,k1,k2⟩
   by_cases hA:All (sF F a b s) l
   ·refine⟨l,sO l ch X F x y a b s, .nilIface,0,sX X F x y a b s,sP F a b s,sC l ch fl X F x y a b s, ?_, ?_,fun W _=>num_nil W⟩
    ·intro W vo vm uo um h1 h2;refine(P.seen W _ _ x y a b s h1 h2 hb).mono ?_;rintro e w' ⟨u,⟨q,_⟩|⟨_,q,_⟩|⟨_,_,rfl,ao,an,ac,bo,bn,bc',rfl,k,hp,hs,e1,e2,nw1,nw2⟩⟩
     ·exact absurd ⟨⟨hC,rfl,hJ⟩,hN⟩ q
     ·exact absurd hA q
     ·have e1':an=l:=e1;have e2':bn=l:=e2;subst e1' e2';exact⟨ao,ac,bo,bc',rfl,hp,hs,k⟩
    ·intro W bw;refine(key W bw).mono ?_;rintro e w' (⟨q,_⟩|⟨_,vo,vm,no,nc,rfl,k1,k2,k3⟩)
     ·exact absurd hA q
     ·exact⟨vo,vm,no,nc,rfl,k1,k2,k3⟩
   ·refine⟨0,false,FX 8,8,fun _ _=>0,fun _ _ _=>0,fun _=>0, ?_, ?_,fun W hE=>BZ 8 W hE⟩
    ·intro W vo vm uo um h1 h2;refine(P.seen W _ _ x y a b s h1 h2 hb).mono ?_;rintro e w' ⟨u,⟨q,_⟩|⟨_,_,rfl,ao,an,ac,bo,bn,bc',rfl,k,hp,hs,rfl,rfl,nw1,nw2⟩|⟨_,q,_⟩⟩
     ·exact absurd ⟨⟨hC,rfl,hJ⟩,hN⟩ q
     ·exact⟨ao,ac,bo,bc',rfl,⟨hp.le,hp.cap,fun k hk=>by omega⟩,⟨hs.le,hs.cap,fun k hk=>by omega⟩,k⟩
     ·exact absurd q hA
    ·intro W bw;refine(key W bw).mono ?_;rintro e w' (⟨_,rfl,k⟩|⟨q,_⟩)
     ·exact⟨none,0,none,0,rfl,Dls.nil _ _ _,Sl.none _ _,k⟩
     ·exact absurd q hA
  ·refine⟨0,false,FX 1,1,fun _ _=>0,fun _ _ _=>0,fun _=>0, ?_, ?_,fun W hE=>BZ 1 W hE⟩
   ·intro W vo vm uo um h1 h2;refine(P.seen W _ _ x y a b s h1 h2 hb).mono ?_;rintro e w' ⟨u,⟨_,rfl,ao,an,ac,bo,bn,bc',rfl,k,hp,hs,rfl,rfl,nw1,nw2⟩|⟨q,_⟩|⟨q,_⟩⟩
    ·exact⟨ao,ac,bo,bc',rfl,⟨hp.le,hp.cap,fun k hk=>by omega⟩,⟨hs.le,hs.cap,fun k hk=>by omega⟩,k⟩
    ·exact absurd q.2 hN
    ·exact absurd q.2 hN
   ·intro W bw;refine(CP mo ro lo ho l l mc q rc cm hm fl x y a b s 1 X F (fun _=>False) (fun _ _=>0) (fun _ _ _=>0) (fun _ _=>0) (fun _=>false) (fun _=>false) (fun _=>false) (sL X F x y a b s) (fun _ _=>0) (fun _ _ _=>0) (sC l ch fl X F x y a b s) _ W (hFit W bw) ((h.dls hJ).keep bw) hC.four om0 ?_ (fun k hk q=>q.elim) (fun k hk q=>q.elim) (hWt W bw)).mono ?_
    ·intro k hk U xo xc po pc h1 h2;refine(JZ xo po 6 xc pc x y a b s U (fun V p=>pK true xo po xc pc (X k) (F k) V (h1.keep p) (h2.keep p) ⟨fun _=>(hJ.2.2 k hk).2.2,fun _=>rfl⟩) hN).mono ?_;rintro e w' ⟨rfl,k⟩;exact⟨Or.inl ⟨fun q=>q,rfl⟩,k⟩
    ·rintro e w' (⟨_,rfl,k⟩|⟨q,_⟩)
     ·exact⟨none,0,none,0,rfl,Dls.nil _ _ _,Sl.none _ _,k⟩
     ·exact(q 0 (by have:=hC.one;omega)).elim
 ·refine⟨0,false,FX 1,1,fun _ _=>0,fun _ _ _=>0,fun _=>0, ?_, ?_,fun W hE=>BZ 1 W hE⟩
  ·intro W vo vm uo um h1 h2;refine(P.seen W _ _ x y a b s h1 h2 hb).mono ?_;rintro e w' ⟨u,⟨_,rfl,ao,an,ac,bo,bn,bc',rfl,k,hp,hs,rfl,rfl,nw1,nw2⟩|⟨q,_⟩|⟨q,_⟩⟩
   ·exact⟨ao,ac,bo,bc',rfl,⟨hp.le,hp.cap,fun k hk=>by omega⟩,⟨hs.le,hs.cap,fun k hk=>by omega⟩,k⟩
   ·exact absurd q.1 hF
   ·exact absurd q.1 hF
  ·intro W bw
   have hMC: ∃ bc:Bool,(bc=true↔qw n q K V N L R fl):=by
    by_cases e:qw n q K V N L R fl
    ·exact⟨true,fun _=>e,fun _=>rfl⟩
    ·exact⟨false,fun q=>(by cases q),fun q=>absurd q e⟩
   have hMX: ∃ bx:Bool,(bx=true↔uC l m ch X r c F):=by
    by_cases e:uC l m ch X r c F
    ·exact⟨true,fun _=>e,fun _=>rfl⟩
    ·exact⟨false,fun q=>(by cases q),fun q=>absurd q e⟩
   obtain⟨bc,hbc⟩:=hMC;obtain⟨bx,hbx⟩:=hMX;refine(O7 mo ro lo ho n mc q rc l cm m hm fl x y a b s W (fun U k=>CJ mo ro lo ho n mc q rc l cm m hm fl bc bx false U (fun V p=>hc.may bc hbc V (ae (ae bw k) p)) (fun V p=>h.may bx hbx V (ae (ae bw k) p)) ⟨fun q=>(by cases q),fun q=>absurd ⟨hbc.1 q.1,q.2.1,hbx.1 q.2.2⟩ hF⟩)).mono ?_;rintro e w' ⟨rfl,k⟩;exact⟨none,0,none,0,rfl,Dls.nil _ _ _,Sl.none _ _,k⟩
end Im
theorem KO(P:Im.WE):FImmSeen.Walk:=by
 intro c0 c1 x y a b s w h0 h1 wx wy wa wb ws hE hT;show Calls Tryz.prog 4 #[.agg c0.toArray, .agg c1.toArray, .agg (Ud.pv x y a b s).toArray] w _;obtain⟨mo,n,mc,K,V,N,ro,q,rc,A,L,C,R,fl,rfl,hc⟩:=abb h0;obtain⟨lo,l,cm,D,ho,m,hm,ch,rfl,hD,ok,sC,bC⟩:=WT h1
 have hb: ∀ v∈ [x,y,a,b,s],-9223372036854775808<=v/\v<=9223372036854775807:=by
  intro v hv;simp only [List.mem_cons,List.not_mem_nil,or_false] at hv;rcases hv with rfl|rfl|rfl|rfl|rfl
  ·exact Lie.wf64 wx
  ·exact Lie.wf64 wy
  ·exact Lie.wf64 wa
  ·exact Lie.wf64 wb
  ·exact Lie.wf64 ws
 have hsz: ∀ k,k<l->(D k).xn<=9223372036854775807:=fun k hk=>by have:=(ok k hk).x.le;have:=(ok k hk).x.cap;omega
 by_cases hz:l<=10/\ ∀ k,k<l->(D k).xn=6
 ·have hZ: ∀ W,Below w.heap.size w W->Calls Tryz.prog 6 #[.slice lo l cm] W fun e w'=>e= .returned (.bool true)/\Below W.heap.size W w':=fun W b=>IP lo l cm (fun k=>(D k).xo) (fun k=>(D k).xn) (fun k=>(D k).xc) _ true W (hD.keep b) hsz ⟨fun _=>hz,fun _=>rfl⟩;by_cases hn:n<=10
  ·obtain⟨X,r,c,z,F,g,hi⟩:=imm_ii hD ok sC bC hz;obtain⟨n1,o1,ev,f1,Y,Q,zz,hP,hDS,hNum⟩:=UK P hc hi x y a b s hb;rcases Nat.eq_zero_or_pos l with e|e
   ·subst e;exact UG P (coI n K V N ro q rc A L C R fl) (msI 0 ho m hm ch X r c z F) mo ro lo ho n mc q rc cm m hm n1 fl x y a b s f1 o1 ev Y Q zz w hE hT hn hZ (fun W b=>hc.give hn W b) (fun W b=>hi.give W b) hP hDS hNum
   ·obtain⟨xa,rfl,u0,u1⟩:=hi.d.at' 0 e;rw [Nat.zero_mul,Mx.uk] at u0 u1;have kn:=hi.kn 0 e;have hGS: ∀ W,Below w.heap.size w W->Calls Tryz.prog 24 #[.agg #[.slice (D 0).xo 6 (D 0).xc, .slice (D 0).po (D 0).pn (D 0).pc]] W fun e w'=>e= .returned (.agg (aB (X 0) (r 0) (c 0) (z 0)).toArray)/\Below W.heap.size W w':=fun W bw=>Il (D 0).xo (D 0).po (D 0).xc (D 0).pn (D 0).pc (X 0) (r 0) (c 0) (z 0) W ((hi.x 0 e).keep bw) (fun U k=>kn.mat U (ae bw k))
    have hBadSt: ∀ (hq: ¬(qw n q K V N L R fl/\r 0=6/\c 0=6/\Pr.oK (X 0) (F 0))),∀ W vo vm,(coI n K V N ro q rc A L C R fl vo vm).Lies W->Calls Tryz.prog 23 #[.agg #[.slice vo n vm, .slice ro q rc, .int .i64 fl], .agg (aB (X 0) (r 0) (c 0) (z 0)).toArray] W fun e w'=> ∃ ao ac bo bc,e= .returned (.tuple #[.agg #[.slice ao 0 ac, .slice bo 0 bc], .iface 93 (.int .i64 1)])/\Pst w' ao 0 ac (fun _=>X 0) (fun _=>6) (fun _=>6) (fun _=>mz 6 6 (F 0))/\Sl w' bo 0 bc (sh 1073741824 (fun _=>1) n)/\Below W.heap.size W w':=by
     intro hq W vo vm hl;refine(P.start W _ (X 0) (r 0) (c 0) (z 0) (F 0) hl (fun a b=>(kn.six a b).2.2) (hi.bx 0) (hi.bf 0)).mono ?_;rintro e w' ⟨u,⟨_,rfl,ao,an,ac,bo,bn,bc,rfl,k,hp,hs,rfl,rfl,nw1,nw2⟩|⟨q,_⟩⟩
     ·exact⟨ao,ac,bo,bc,rfl,hp,hs,k⟩
     ·exact absurd q hq
    by_cases hC:qw n q K V N L R fl
    ·by_cases hS:r 0=6/\c 0=6/\Pr.oK (X 0) (F 0)
     ·have hg:=(hi.i 0 e).2 hS;obtain⟨k1,k2,k3⟩:=kn.six hS.1 hS.2.1
      refine UH P (coI n K V N ro q rc A L C R fl) (msI l ho m hm ch X r c z F) mo ro ho xa n mc q rc l cm m hm n1 fl x y a b s f1 o1 ev Y Q zz w hE hT hn e hZ (fun W b=>hc.give hn W b) (fun W b=>hi.give W b) hP hDS hNum (D 0).xo (D 0).po (D 0).xc (D 0).pn (D 0).pc (X 0) (z 0) (r 0) (c 0) (F 0) (sh 1073741824 (fun _=>1) n) hi.d.le hi.d.cap ⟨u0,u1⟩ hGS ?_ (fun W bw=>hc.may true ⟨fun _=>hC,fun _=>rfl⟩ W bw) (fun W bw=>by have:=kn.may W bw;rw [hg] at this;exact this) (fun W bw=>by
       rw [k1]
       exact IQ mo ro (D 0).xo (D 0).po n mc q rc (D 0).xc (D 0).pc fl (X 0) (F 0) W hC.one hC.four hc.m.le hc.m.cap ((hi.x 0 e).keep bw) (k2.keep bw))
      intro W vo vm hl;refine(P.start W _ (X 0) (r 0) (c 0) (z 0) (F 0) hl (fun a b=>(kn.six a b).2.2) (hi.bx 0) (hi.bf 0)).mono ?_;rintro e w' ⟨u,⟨q,_⟩|⟨_,rfl,ao,an,ac,bo,bn,bc,rfl,k,hp,hs,e1,e2,nw1,nw2⟩⟩
      ·exact absurd ⟨hC,hS⟩ q
      ·have e1':an=n:=e1;have e2':bn=n:=e2;subst e1' e2';exact⟨ao,ac,bo,bc,rfl,hp,hs,k⟩
     ·have hg:g 0=false:=by
       cases hg:g 0
       ·rfl
       ·exact absurd ((hi.i 0 e).1 hg) hS
      exact UJ P (coI n K V N ro q rc A L C R fl) (msI l ho m hm ch X r c z F) mo ro ho xa n mc q rc l cm m hm n1 fl x y a b s f1 o1 ev Y Q zz w hE hT hn e hZ (fun W b=>hc.give hn W b) (fun W b=>hi.give W b) hP hDS hNum (D 0).xo (D 0).po (D 0).xc (D 0).pn (D 0).pc (X 0) (z 0) (r 0) (c 0) (F 0) (sh 1073741824 (fun _=>1) n) hi.d.le hi.d.cap ⟨u0,u1⟩ hGS (hBadSt fun q=>hS q.2) (fun W bw=>hc.may true ⟨fun _=>hC,fun _=>rfl⟩ W bw) (fun W bw=>by have:=kn.may W bw;rw [hg] at this;exact this)
    ·exact UI P (coI n K V N ro q rc A L C R fl) (msI l ho m hm ch X r c z F) mo ro ho xa n mc q rc l cm m hm n1 fl x y a b s f1 o1 ev Y Q zz w hE hT hn e hZ (fun W b=>hc.give hn W b) (fun W b=>hi.give W b) hP hDS hNum (D 0).xo (D 0).po (D 0).xc (D 0).pn (D 0).pc (X 0) (z 0) (r 0) (c 0) (F 0) (sh 1073741824 (fun _=>1) n) hi.d.le hi.d.cap ⟨u0,u1⟩ hGS (hBadSt fun q=>hC q.1) (fun W bw=>hc.may false ⟨fun e=>(by cases e),fun e=>absurd e hC⟩ W bw)
  ·exact Eo P mo ro lo ho n mc q rc l cm m hm fl x y a b s true w hT (fun _=>by omega) hZ
 ·exact Eo P mo ro lo ho n mc q rc l cm m hm fl x y a b s false w hT (fun e=>by cases e) (fun W bw=>IP lo l cm (fun k=>(D k).xo) (fun k=>(D k).xn) (fun k=>(D k).xc) _ false W (hD.keep bw) hsz ⟨fun e=>(by cases e),fun e=>absurd e hz⟩)
end Go.Proofs.YtcefcokpjbebhaaGreatDoor
