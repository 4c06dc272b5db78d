/-
  ImmAhead, of whatever comes in.
-/
import Derived.Test.YtcefcokpjbebhaaGreatDoorM55
import Derived.Test.YtcefcokpjbebhaaGreatDoorImM
import Derived.Test.YtcefcokpjbebhaaGreatDoorFImmAhead
set_option linter.unusedSimpArgs false
set_option linter.unusedVariables false
namespace Go.Proofs.YtcefcokpjbebhaaGreatDoor
open Go.RowKit Vc St Mt Cn Mx Im El Pd
attribute [local go_sem ↓] Go.wp_at_zero Go.wp_at_succ
set_option maxRecDepth 20000 in
set_option maxHeartbeats 2000000 in
theorem imahead_odd(P:Im.IPkg)(mo ro lo ho:Option Addr)(n mc q rc l cm m hc:Nat)(fl d:Int)(b:Bool)(w:World)(hT:AngTab w)(hn:b=true->10<n)
 (hZ: ∀ W,Below w.heap.size w W->Calls Tryz.prog 6 #[.slice lo l cm] W fun e w'=>e= .returned (.bool b)/\Below W.heap.size W w'):
 Calls Tryz.prog 3 #[.agg #[.slice mo n mc, .slice ro q rc, .int .i64 fl], .agg #[.slice lo l cm, .slice ho m hc], .int .i64 d] w fun e w'=>e= .returned (.bool true)/\Below w.heap.size w w':=by
 have m0:=(crow_new w 25 [.slice mo n mc, .slice ro q rc, .int .i64 fl]).alloc (.cells [.slice lo l cm, .slice ho m hc].toArray 29);have m1:=crow_new1 w (.cells [.slice mo n mc, .slice ro q rc, .int .i64 fl].toArray 25) 29 [.slice lo l cm, .slice ho m hc];have B0:Below w.heap.size w ((w.alloc (.cells [.slice mo n mc, .slice ro q rc, .int .i64 fl].toArray 25)).alloc (.cells [.slice lo l cm, .slice ho m hc].toArray 29)):=below_al (below_al (Below.refl _ _) _) _;obtain⟨W,hW⟩: ∃ W,W=(w.alloc (.cells [.slice mo n mc, .slice ro q rc, .int .i64 fl].toArray 25)).alloc (.cells [.slice lo l cm, .slice ho m hc].toArray 29):=⟨_,rfl⟩;rw [← hW] at m0 m1 B0;have HW:=hidC hW;have H0:=hidC m0;have HB0:=hidC B0;have HT:=hidC hT;have HZ:=hidC (hZ W B0);have HN:=hidC hn;have HSu:=hidC (isure_any P);have d0:W.cell? ⟨w.heap.size+1,0,none⟩=some (.slice lo l cm):=CRow.cell m1 (k:=0) rfl rfl;clear hW m0 m1 B0 hT hZ hn;go_enter Tryz.func3,Tryz.ntmps3
 go_wp2_with (first|(rw [← HW.out])|fail)
 refine(HZ.out).mono ?_;rintro e w1 ⟨rfl,k1⟩;have d1:w1.cell? ⟨w.heap.size,0,none⟩=some (.slice mo n mc):=CRow.cell (CRow.keep H0.out k1) (k:=0) rfl rfl;have B1:=hidC (below_tr HB0.out k1);clear k1 d0 HW HZ;cases b
 · clear HN;go_wp2_with fail
   refine(HSu.out _ (HT.out.below B1.out)).mono ?_;rintro e w2 ⟨rfl,k2⟩;have B2:=below_tr B1.out k2;clear k2 d1;go_wp2;go_ret;exact⟨rfl,B2⟩
 · have i0:10<(n:Int):=by have:=HN.out rfl;omega
   clear HN;go_wp2_with fail
   refine(HSu.out _ (HT.out.below B1.out)).mono ?_;rintro e w2 ⟨rfl,k2⟩;have B2:=below_tr B1.out k2;clear k2 d1;go_wp2;go_ret;exact⟨rfl,B2⟩
theorem imahead_walk(P:Im.IPkg):FImmAhead.Walk:=by
 intro c0 c1 d w h0 h1 hd hE hT;obtain⟨mo,n,mc,K,V,N,ro,q,rc,A,L,C,R,fl,rfl,hc⟩:=conf_ci h0;obtain⟨lo,l,cm,D,ho,m,hm,ch,rfl,hD,ok,sC,bC⟩:=imm_lies h1;have bd:=Lie.wf64 hd;have hsz: ∀ k,k<l->(D k).xn<=9223372036854775807:=fun k hk=>by have:=(ok k hk).x.le;have:=(ok k hk).x.cap;omega
 by_cases hz:l<=10/\ ∀ k,k<l->(D k).xn=6
 · have hZ: ∀ W,Below w.heap.size w W->Calls Tryz.prog 6 #[.slice lo l cm] W fun e w'=>e= .returned (.bool true)/\Below W.heap.size W w':=fun W b=>sized_any lo l cm (fun k=>(D k).xo) (fun k=>(D k).xn) (fun k=>(D k).xc) _ true W (hD.keep b) hsz ⟨fun _=>hz,fun _=>rfl⟩;by_cases hn:n<=10
   · obtain⟨X,r,c,z,F,g,hi⟩:=imm_ii hD ok sC bC hz;have hNE:=fun W (h:ErrTab W)=>num_err 1 W h;have hNN:=fun W (_:ErrTab W)=>num_nil W;have hCk: ∀ W vo vm,(coI n K V N ro q rc A L C R fl vo vm).Lies W->Calls Tryz.prog 12 #[.agg #[.slice vo n vm, .slice ro q rc, .int .i64 fl]] W fun e w'=>Below W.heap.size W w'/\((¬MayC n q K V N L R fl/\e= .returned (errX 1))\/(MayC n q K V N L R fl/\e= .returned .nilIface)):=fun W vo vm h=>P.check W _ h
     have hOn: ∀ W uo um,(msI l ho m hm ch X r c z F uo um).Lies W->Calls Tryz.prog 16 #[.agg #[.slice uo l um, .slice ho m hm]] W fun e w'=>Below W.heap.size W w'/\
      ((¬MayJ l m ch X r c F/\e= .returned (.tuple #[.agg (Pd.svals (fun _=>0) 0 0 (fun _=>0)).toArray, .bool false,errX 1]))\/
       (MayJ l m ch X r c F/\e= .returned (.tuple #[.agg (Pd.svals (jX l ch X) 6 6 (Mt.mz 6 6 (jP l ch X F))).toArray, .bool (jO l ch X F), .nilIface]))):=fun W uo um h=>P.one W _ h
     have hBad: ∀ (hF: ¬((MayC n q K V N L R fl/\l=n/\MayJ l m ch X r c F)/\Mo.MayT d)),∀ W vo vm uo um,AngTab W->(coI n K V N ro q rc A L C R fl vo vm).Lies W->(msI l ho m hm ch X r c z F uo um).Lies W->Calls Tryz.prog 8 #[.agg #[.slice vo n vm, .slice ro q rc, .int .i64 fl], .agg #[.slice uo l um, .slice ho m hm], .int .i64 d] W fun e w'=> ∃ ao ac bo bc,e= .returned (.tuple #[.agg #[.slice ao 0 ac, .slice bo 0 bc], .bool false,errX 1])/\Pst w' ao 0 ac (fun _ _=>0) (fun _=>6) (fun _=>6) (fun k=>mz 6 6 (fun _ _=>0))/\Sl w' bo 0 bc (fun _=>0)/\Below W.heap.size W w':=by
      intro hF W vo vm uo um hA hc' hm';refine(P.ahead W _ _ d hA hc' hm' bd.1 bd.2).mono ?_;rintro e w' ⟨u,⟨_,rfl,ao,an,ac,bo,bn,bc,rfl,k,hp,hs,rfl,rfl,nw1,nw2⟩|⟨q,_⟩⟩
      · exact⟨ao,ac,bo,bc,rfl,⟨hp.le,hp.cap,fun k hk=>by omega⟩,⟨hs.le,hs.cap,fun k hk=>by omega⟩,k⟩
      · exact absurd q hF
     have hDBad: ∀ (hF: ¬((MayC n q K V N L R fl/\l=n/\MayJ l m ch X r c F)/\Mo.MayT d)) (bc bx:Bool),(bc=true↔MayC n q K V N L R fl)->(bx=true↔MayJ l m ch X r c F)-> ∀ W,Below w.heap.size w W->Calls Tryz.prog 11 #[.agg #[.slice mo n mc, .slice ro q rc, .int .i64 fl], .agg #[.slice lo l cm, .slice ho m hm], .int .i64 d] W fun e w'=> ∃ xo xm yo ym,e= .returned (.tuple #[.agg #[.slice xo 0 xm, .slice yo 0 ym], .bool false, .int .i64 1])/\Dls w' xo 0 xm (fun _ _=>0) (fun _ _ _=>0)/\Sl w' yo 0 ym (fun _=>0)/\Below W.heap.size W w':=by
      intro hF bc bx h1 h2 W b;refine(dahead17_no mo ro lo ho n mc q rc l cm m hm fl d (decide (bc=true/\l=n/\bx=true)) W (fun U k=>dfits17_any mo ro lo ho n mc q rc l cm m hm fl bc bx _ U (fun V p=>hc.may bc h1 V (below_tr (below_tr b k) p)) (fun V p=>hi.may bx h2 V (below_tr (below_tr b k) p)) (by rw [decide_eq_true_iff])) (fun hh=>hF ⟨?_,hh.2⟩)).mono ?_
      · have:=of_decide_eq_true hh.1;exact⟨h1.1 this.1,this.2.1,h2.1 this.2.2⟩
      · rintro e w' ⟨rfl,k⟩;exact⟨none,0,none,0,rfl,Dls.nil _ _ _,Sl.none _ _,k⟩
     by_cases hC:MayC n q K V N L R fl
     · have hCk': ∀ W vo vm,(coI n K V N ro q rc A L C R fl vo vm).Lies W->Calls Tryz.prog 12 #[.agg #[.slice vo n vm, .slice ro q rc, .int .i64 fl]] W fun e w'=>e= .returned .nilIface/\Below W.heap.size W w':=fun W vo vm h=>(hCk W vo vm h).mono fun e w' q=>by
        rcases q with⟨k,⟨q,_⟩|⟨_,rfl⟩⟩
        · exact absurd hC q
        · exact⟨rfl,k⟩
       have hDM:=fun W b=>hc.may true ⟨fun _=>hC,fun _=>rfl⟩ W b;by_cases hJ:MayJ l m ch X r c F
       · have hOn': ∀ W uo um,(msI l ho m hm ch X r c z F uo um).Lies W->Calls Tryz.prog 16 #[.agg #[.slice uo l um, .slice ho m hm]] W fun e w'=>e= .returned (.tuple #[.agg (Pd.svals (jX l ch X) 6 6 (Mt.mz 6 6 (jP l ch X F))).toArray, .bool (jO l ch X F), .nilIface])/\Below W.heap.size W w':=fun W uo um h=>(hOn W uo um h).mono fun e w' q=>by
          rcases q with⟨k,⟨q,_⟩|⟨_,rfl⟩⟩
          · exact absurd hJ q
          · exact⟨rfl,k⟩
         have hDX:=fun W b=>hi.may true ⟨fun _=>hJ,fun _=>rfl⟩ W b;by_cases hF:l=n/\Mo.MayT d
         · obtain⟨rfl,hTd⟩:=hF;refine imahead_yy P (coI l K V N ro q rc A L C R fl) (msI l ho m hm ch X r c z F) mo ro lo ho l mc q rc l cm m hm l fl d 0 (aO K V N d l ch R X F) .nilIface (aX K V d l ch R X) (aP K V N d l ch R X F) (sh 1073741824 (mxw l ch R) l) (jO l ch X F) (jX l ch X) (jP l ch X F) w hE hT hn hZ (fun W b=>hc.give hn W b) (fun W b=>hi.give W b) ?_ (fun W b=>ahead_yes hc hi hC hJ hTd W b) hNN hCk' hDM hOn' hDX (fun W b=>hi.one hJ W b);intro W vo vm uo um hA hc' hm';refine(P.ahead W _ _ d hA hc' hm' bd.1 bd.2).mono ?_;rintro e w' ⟨u,⟨q,_⟩|⟨_,rfl,ao,an,ac,bo,bn,bc,rfl,k,hp,hs,h1,h2,nw1,nw2⟩⟩
           · exact absurd ⟨⟨hC,rfl,hJ⟩,hTd⟩ q
           · have h1':an=l:=h1;have h2':bn=l:=h2;subst h1' h2';exact⟨ao,ac,bo,bc,rfl,hp,hs,k⟩
         · have hF': ¬((MayC n q K V N L R fl/\l=n/\MayJ l m ch X r c F)/\Mo.MayT d):=fun h=>hF ⟨h.1.2.1,h.2⟩;exact imahead_yy P (coI n K V N ro q rc A L C R fl) (msI l ho m hm ch X r c z F) mo ro lo ho n mc q rc l cm m hm 0 fl d 1 false (errX 1) (fun _ _=>0) (fun _ _ _=>0) (fun _=>0) (jO l ch X F) (jX l ch X) (jP l ch X F) w hE hT hn hZ (fun W b=>hc.give hn W b) (fun W b=>hi.give W b) (hBad hF') (hDBad hF' true true ⟨fun _=>hC,fun _=>rfl⟩ ⟨fun _=>hJ,fun _=>rfl⟩) hNE hCk' hDM hOn' hDX (fun W b=>hi.one hJ W b)
       · have hF': ¬((MayC n q K V N L R fl/\l=n/\MayJ l m ch X r c F)/\Mo.MayT d):=fun h=>hJ h.1.2.2
         have hOn': ∀ W uo um,(msI l ho m hm ch X r c z F uo um).Lies W->Calls Tryz.prog 16 #[.agg #[.slice uo l um, .slice ho m hm]] W fun e w'=>e= .returned (.tuple #[.agg (Pd.svals (fun _=>0) 0 0 (fun _=>0)).toArray, .bool false,errX 1])/\Below W.heap.size W w':=fun W uo um h=>(hOn W uo um h).mono fun e w' q=>by
          rcases q with⟨k,⟨_,rfl⟩|⟨q,_⟩⟩
          · exact⟨rfl,k⟩
          · exact absurd q hJ
         exact imahead_yn P (coI n K V N ro q rc A L C R fl) (msI l ho m hm ch X r c z F) mo ro lo ho n mc q rc l cm m hm 0 fl d 1 false (errX 1) (fun _ _=>0) (fun _ _ _=>0) (fun _=>0) false (fun _=>0) (fun _ _=>0) w hE hT hn hZ (fun W b=>hc.give hn W b) (fun W b=>hi.give W b) (hBad hF') (hDBad hF' true false ⟨fun _=>hC,fun _=>rfl⟩ ⟨fun e=>(by cases e),fun e=>absurd e hJ⟩) hNE hCk' hDM hOn' (fun W b=>hi.may false ⟨fun e=>(by cases e),fun e=>absurd e hJ⟩ W b)
     · have hF': ¬((MayC n q K V N L R fl/\l=n/\MayJ l m ch X r c F)/\Mo.MayT d):=fun h=>hC h.1.1
       have hCk': ∀ W vo vm,(coI n K V N ro q rc A L C R fl vo vm).Lies W->Calls Tryz.prog 12 #[.agg #[.slice vo n vm, .slice ro q rc, .int .i64 fl]] W fun e w'=>e= .returned (errX 1)/\Below W.heap.size W w':=fun W vo vm h=>(hCk W vo vm h).mono fun e w' q=>by
        rcases q with⟨k,⟨_,rfl⟩|⟨q,_⟩⟩
        · exact⟨rfl,k⟩
        · exact absurd q hC
       have hDM:=fun W b=>hc.may false ⟨fun e=>(by cases e),fun e=>absurd e hC⟩ W b;by_cases hJ:MayJ l m ch X r c F
       · have hOn': ∀ W uo um,(msI l ho m hm ch X r c z F uo um).Lies W->Calls Tryz.prog 16 #[.agg #[.slice uo l um, .slice ho m hm]] W fun e w'=>e= .returned (.tuple #[.agg (Pd.svals (jX l ch X) 6 6 (Mt.mz 6 6 (jP l ch X F))).toArray, .bool (jO l ch X F), .nilIface])/\Below W.heap.size W w':=fun W uo um h=>(hOn W uo um h).mono fun e w' q=>by
          rcases q with⟨k,⟨q,_⟩|⟨_,rfl⟩⟩
          · exact absurd hJ q
          · exact⟨rfl,k⟩
         exact imahead_ny P (coI n K V N ro q rc A L C R fl) (msI l ho m hm ch X r c z F) mo ro lo ho n mc q rc l cm m hm 0 fl d 1 false (errX 1) (fun _ _=>0) (fun _ _ _=>0) (fun _=>0) (jO l ch X F) (jX l ch X) (jP l ch X F) w hE hT hn hZ (fun W b=>hc.give hn W b) (fun W b=>hi.give W b) (hBad hF') (hDBad hF' false true ⟨fun e=>(by cases e),fun e=>absurd e hC⟩ ⟨fun _=>hJ,fun _=>rfl⟩) hNE hCk' hDM hOn' (fun W b=>hi.may true ⟨fun _=>hJ,fun _=>rfl⟩ W b) (fun W b=>hi.one hJ W b)
       · have hOn': ∀ W uo um,(msI l ho m hm ch X r c z F uo um).Lies W->Calls Tryz.prog 16 #[.agg #[.slice uo l um, .slice ho m hm]] W fun e w'=>e= .returned (.tuple #[.agg (Pd.svals (fun _=>0) 0 0 (fun _=>0)).toArray, .bool false,errX 1])/\Below W.heap.size W w':=fun W uo um h=>(hOn W uo um h).mono fun e w' q=>by
          rcases q with⟨k,⟨_,rfl⟩|⟨q,_⟩⟩
          · exact⟨rfl,k⟩
          · exact absurd q hJ
         exact imahead_nn P (coI n K V N ro q rc A L C R fl) (msI l ho m hm ch X r c z F) mo ro lo ho n mc q rc l cm m hm 0 fl d 1 false (errX 1) (fun _ _=>0) (fun _ _ _=>0) (fun _=>0) false (fun _=>0) (fun _ _=>0) w hE hT hn hZ (fun W b=>hc.give hn W b) (fun W b=>hi.give W b) (hBad hF') (hDBad hF' false false ⟨fun e=>(by cases e),fun e=>absurd e hC⟩ ⟨fun e=>(by cases e),fun e=>absurd e hJ⟩) hNE hCk' hDM hOn' (fun W b=>hi.may false ⟨fun e=>(by cases e),fun e=>absurd e hJ⟩ W b)
   · exact imahead_odd P mo ro lo ho n mc q rc l cm m hm fl d true w hT (fun _=>by omega) hZ
 · exact imahead_odd P mo ro lo ho n mc q rc l cm m hm fl d false w hT (fun e=>by cases e) (fun W b=>sized_any lo l cm (fun k=>(D k).xo) (fun k=>(D k).xn) (fun k=>(D k).xc) _ false W (hD.keep b) hsz ⟨fun e=>(by cases e),fun e=>absurd e hz⟩)
end Go.Proofs.YtcefcokpjbebhaaGreatDoor
