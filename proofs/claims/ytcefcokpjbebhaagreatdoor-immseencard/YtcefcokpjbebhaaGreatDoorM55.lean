/-
  What is proved: whatever states, chances and rows it is given, the law MixStates of layer 15 returns true, ends without a panic, and leaves what was there as it was; its condition: the library's variable errors.errorType holds what the program's text lays there, which the card ties. (By py/MSts.py.)
-/
import Derived.ChangeSame
import Derived.ChangeVars
import Derived.JoinedOf
import Derived.RowKit
import Derived.LaidLaws
import Derived.LaidHandle
import Derived.Stop.Joined
import Derived.Deep.Matrix
import Derived.Test.YtcefcokpjbebhaaGreatDoorCards
import Derived.Test.YtcefcokpjbebhaaGreatDoorTie
import Derived.ProofKit
import Derived.ShutString
import Derived.ChangeOld
import Derived.Below
import Derived.Test.YtcefcokpjbebhaaGreatDoorImQ
import Derived.Test.YtcefcokpjbebhaaGreatDoorM49
set_option linter.unusedSimpArgs false
set_option linter.unusedVariables false
set_option maxHeartbeats 8000000
set_option maxRecDepth 20000
namespace Go.Proofs.YtcefcokpjbebhaaGreatDoor
section
open Go.RowKit Vc St Mt Cn Mx Pd
attribute [local go_sem ↓] Go.wp_at_zero Go.wp_at_succ
namespace Mx
structure Kn(w:World)(d:Raw)(r c:Int)(z:Nat->Int)(F:Nat->Nat->Int)(g:Bool):Prop where
 mat: ∀ W,Below w.heap.size w W->Calls Tryz.prog 66 #[.slice d.po d.pn d.pc] W fun e w'=>e= .returned (.agg (aj r c z).toArray)/\Below W.heap.size W w'
 may: ∀ W,Below w.heap.size w W->Calls Tryz.prog 25 #[.agg #[.slice d.xo 6 d.xc, .slice d.po d.pn d.pc]] W fun e w'=>e= .returned (.bool g)/\Below W.heap.size W w'
 b2:B2 F
 six:r=6->c=6->d.pn=6/\Grid w d.po 6 d.pc 6 F/\z=mz 6 6 F
 iff:g=true↔r=6/\c=6/\Pr.oK d.X F
theorem known{w:World}{d:Raw}(h:d.Ok w)(hx:d.xn=6): ∃ y:Int×Int×(Nat->Int)×(Nat->Nat->Int)×Bool,Kn w d y.1 y.2.1 y.2.2.1 y.2.2.2.1 y.2.2.2.2:=by
 obtain⟨xo,xn,xc,X,po,pn,pc,A,K,C,Z⟩:=d;obtain⟨sX,bX,sP,qP⟩:=h;simp only at hx sX sP qP;subst hx;rcases UA sP qP with⟨F,e,gF,bF⟩|⟨r,c,z,hne,hm,hs⟩
 · subst e;by_cases hm:Pr.oK X F
   · exact⟨(6,6,mz 6 6 F,F,true),fun W b=>IM gF W b,fun W b=>pK true xo po xc pc X F W (sX.keep b) (gF.keep b) ⟨fun _=>hm,fun _=>rfl⟩,bF,fun _ _=>⟨rfl,gF,rfl⟩,⟨fun _=>⟨rfl,rfl,hm⟩,fun _=>rfl⟩⟩
   · exact⟨(6,6,mz 6 6 F,F,false),fun W b=>IM gF W b,fun W b=>pK false xo po xc pc X F W (sX.keep b) (gF.keep b) ⟨fun q=>(by cases q),fun q=>absurd q hm⟩,bF,fun _ _=>⟨rfl,gF,rfl⟩,⟨fun q=>(by cases q),fun q=>absurd q.2.2 hm⟩⟩
 · exact⟨(r,c,z,fun _ _=>0,false),hm,fun W b=>Oa xo po pn xc pc W (fun V q=>hs V (ae b q)),fun i j=>by show _<=(0:Int)/\(0:Int)<=_;omega,fun a b=>absurd ⟨a,b⟩ hne,⟨fun q=>(by cases q),fun q=>absurd ⟨q.1,q.2.1⟩ hne⟩⟩
end Mx
end
section
open Go.RowKit Vc St Mt Cn Mx Im El
attribute [local go_sem ↓] Go.wp_at_zero Go.wp_at_succ
namespace Im
theorem Yn:Is 41 3:=⟨by kernel_rfl,⟨_,Tryz.underlying41,rfl⟩⟩
theorem Gf:Is 34 2:=⟨by kernel_rfl,⟨_,Tryz.underlying34,rfl⟩⟩
theorem infoM3:(Tryz.prog.info? 85).map (fun i=>(i.zero,i.size,i.bytes))=some (some (.agg #[.int .i64 0, .int .i64 0, .int .i64 0]),3,24):=by kernel_rfl
theorem one3i(a b c:Int): ∀ u∈ [Value.int .i64 a, .int .i64 b, .int .i64 c],u.oneCell'=true:=by
 intro v hv;simp only [List.mem_cons,List.not_mem_nil,or_false] at hv;rcases hv with rfl|rfl|rfl<;>rfl
theorem aa5(a b:Option Addr)(i j k l:Nat)(c:Int): ∀ u∈ [Value.slice a i j, .slice b k l, .int .i64 c],u.oneCell'=true:=by
 intro v hv;simp only [List.mem_cons,List.not_mem_nil,or_false] at hv;rcases hv with rfl|rfl|rfl<;>rfl
theorem aa6{t:TypeId}{B:Nat}{w0 w:World}{v:Value}{n:Nat}{K V N:Nat->Int}(h:Els t 3 B w0 w v n (fun k cs _=>cs= [.int .i64 (K k), .int .i64 (V k), .int .i64 (N k)])): ∃ lo cm,v= .slice lo n cm/\Pmt w lo n cm K V N:=by
 rcases Nat.eq_zero_or_pos n with e|e
 · subst e;obtain⟨ao,ca,rfl,h1,h2⟩:=h.form;exact⟨ao,ca,rfl,h1,h2,fun k hk=>by omega⟩
 · obtain⟨g,cap,S,rfl,h1,h2,_,_,h3,_⟩:=h.at e;exact⟨_,_,rfl,h1,h2,fun k hk=>⟨g,rfl,fun j u hj=>(h3 k hk).2.2 j u (by rw [(h3 k hk).2.1];exact hj)⟩⟩
theorem CQ{w w':World}{g:Nat}{t:TypeId}(h:ai w g t [.slice none 0 0, .slice none 0 0]){lo:Option Addr}{n cm:Nat}{X:Nat->Nat->Int}{r c:Nat->Int}{z:Nat->Nat->Int}(hp:Pst w lo n cm X r c z)(k:Ld.But (· =g) w w'):Pst w' lo n cm X r c z:=
 ⟨hp.le,hp.cap,fun j hj=>by
  obtain⟨g',hg,hr⟩:=hp.at' j hj
  refine⟨g',hg,fun i v hv=>k.cell (hr i v hv) (fun e=> ?_)⟩
  have e':g'=g:=e
  have h0:=hr 0 _ (by rfl:(Pd.aB (X j) (r j) (c j) (z j))[0]?=some (.int .i64 (X j 0)))
  have:=Ud.yw h h0 e'
  simp at this⟩
theorem Pmt.but{w w':World}{lo:Option Addr}{n cm:Nat}{K V N:Nat->Int}(h:Pmt w lo n cm K V N){P:Nat->Prop}(k:Ld.But P w w')(hx: ∀ g,lo=some ⟨g,0,none⟩-> ¬P g):Pmt w' lo n cm K V N:=
 ⟨h.le,h.cap,fun j hj=>by
  obtain⟨g,hg,hr⟩:=h.at' j hj
  exact⟨g,hg,fun i v hv=>k.cell (hr i v hv) (hx g hg)⟩⟩
end Im
theorem IU(mo ro:Option Addr)(n mc q rc:Nat)(fl:Int)(K V N:Nat->Int)(w:World)(hD:Dmt w mo n mc K V N)(hn:n<=10):
 Calls Tryz.prog 9 #[.agg #[.slice mo n mc, .slice ro q rc, .int .i64 fl]] w fun e w'=> ∃ vo vm,e= .returned (.agg #[.slice vo n vm, .slice ro q rc, .int .i64 fl])/\Pmt w' vo n vm K V N/\Below w.heap.size w w':=by
 have m0:=(aH w 25 [.slice mo n mc, .slice ro q rc, .int .i64 fl]).alloc (.cells [.slice none 0 0, .slice none 0 0, .int .i64 0].toArray 41);have m1:=bU w (.cells [.slice mo n mc, .slice ro q rc, .int .i64 fl].toArray 25) 41 [.slice none 0 0, .slice none 0 0, .int .i64 0];have B0:Below w.heap.size w ((w.alloc (.cells [.slice mo n mc, .slice ro q rc, .int .i64 fl].toArray 25)).alloc (.cells [.slice none 0 0, .slice none 0 0, .int .i64 0].toArray 41)):=af (af (Below.refl _ _) _) _;obtain⟨W,hW⟩: ∃ W,W=(w.alloc (.cells [.slice mo n mc, .slice ro q rc, .int .i64 fl].toArray 25)).alloc (.cells [.slice none 0 0, .slice none 0 0, .int .i64 0].toArray 41):=⟨_,rfl⟩;rw [← hW] at m0 m1 B0;have HW:=aZ hW;have H0:=aZ m0;have H1:=aZ m1;have HB0:=aZ B0;obtain⟨y,hmo,hmc⟩:=hD.get;have HMO:=aZ hmo;have HMC:=aZ hmc;have l1:=hD.le;have l2:=hD.cap;have d1:W.cell? ⟨w.heap.size,1,none⟩=some (.slice ro q rc):=ai.cell m0 (k:=1) rfl rfl;have d2:W.cell? ⟨w.heap.size,2,none⟩=some (.int .i64 fl):=ai.cell m0 (k:=2) rfl rfl;clear hW m0 m1 B0 hD hmo hmc;go_enter Tryz.func9,Tryz.ntmps9
 go_wp2_with (first
  |(rw [← HW.out])
  |((with_reducible show wpList _ _ _ _ _ _);refine St.aF Yn rfl _ _ rl0 _ [.slice none 0 0, .slice none 0 0, .int .i64 0] [.slice none 0 0, .slice ro q rc, .int .i64 fl] rl0 rl0 rfl rfl (aa5 _ _ _ _ _ _ _) ?_;intro w6 n6 k6)
  |fail)
 clear d1 d2 HW;have l6:=ai.lt n6;obtain⟨gs,hgs⟩: ∃ g,g=W.heap.size:=⟨_,rfl⟩;rw [← hgs] at n6 l6 ⊢;obtain⟨o2,ho2⟩: ∃ o,o=w6.heap.size:=⟨_,rfl⟩;rw [← ho2] at l6;have z6:El.Lsn 85 3 o2 w6 (.slice none 0 0) 0 (fun k cs _=>cs= [.int .i64 (K k), .int .i64 (V k), .int .i64 (N k)]) (.slice none 0 0) 0 (fun _=>0):=El.Lsn.nil om0 _ _ _ _;have HE:Hid (∀ U,Ld.But (fun q=>q=gs\/o2<=q) w6 U->Below W.heap.size W U):=fun U k=>k.below k6 (by have:=k6.size;omega) (by rintro q (e|e)<;>omega)
 have HGW:w.heap.size+1<gs:=by have:=ai.lt H1.out;omega
 have HWs:=aZ (show w.heap.size<o2 by omega);clear k6 hgs ho2;go_loopw [4] (fun i ws=> ∃ (k:Nat) (vX:Value),k<=n/\i= .int .i64 (k:Int)/\ai ws gs 41 [vX, .slice ro q rc, .int .i64 fl]/\El.Lsn 85 3 o2 ws vX k (fun k cs _=>cs= [.int .i64 (K k), .int .i64 (V k), .int .i64 (N k)]) (.slice none 0 0) 0 (fun _=>0)/\Ld.But (fun q=>q=gs\/o2<=q) w6 ws) (fun i _=>n- (intOf i).toNat)
 case atStart=>exact⟨0,_,om0,rfl,n6,z6,Ld.But.refl _ _⟩
 case round=>
  rename World=>ws;obtain⟨k,vX,hk,rfl,nl,zl,bl⟩:=hrel;have E1:=HE.out _ bl;have d0:ws.cell? ⟨w.heap.size,0,none⟩=some (.slice mo n mc):=ai.cell (ai.keep H0.out E1) (k:=0) rfl rfl;by_cases hkn:k<n
  ·have kn:(k:Int)<n:=om0;obtain rfl:=HMO.out om0;have KL:=ae HB0.out E1;obtain⟨a0,a1,a2⟩:=HMC.out k hkn;have A0:=aZ a0;have a0:=ah KL a0;have a1:=ah KL a1;have a2:=ah KL a2;have HEq:Hid (∀ u v z:Int,u=K k->v=V k->z=N k-> [Value.int .i64 u, .int .i64 v, .int .i64 z]= [.int .i64 (K k), .int .i64 (V k), .int .i64 (N k)]):=fun _ _ _ h1 h2 h3=>by rw [h1,h2,h3]
   obtain⟨Kk,hKk⟩: ∃ z,z=K k:=⟨_,rfl⟩;obtain⟨Vk,hVk⟩: ∃ z,z=V k:=⟨_,rfl⟩;obtain⟨Nk,hNk⟩: ∃ z,z=N k:=⟨_,rfl⟩;have HR:=aZ (HEq.out Kk Vk Nk hKk hVk hNk);rw [← hKk] at a0;rw [← hVk] at a1;rw [← hNk] at a2;have c8:ws.cell? ⟨gs,0,none⟩=some vX:=ai.cell nl (k:=0) rfl rfl
   have BLK:Hid (∀ j,j<3-> ¬o2<=((y.add (k*3)).add j).block):=fun j hj=>by
    have hb:=World.block_lt_of_cell? w _ A0.out;have e:((y.add (k*3)).add j).block=(y.add (k*3)).block:=Ld.dL _ _;have:=HB0.out.size;rw [e];have:=HWs.out;omega
   have HS:Hid (∀ U,Ld.But (fun q=>o2<=q) ws U->U.cell? ⟨gs,0,none⟩=some vX/\U.cell? ⟨w.heap.size,0,none⟩=some (.slice (some y) n mc)/\U.cell? (y.add (k*3))=some (.int .i64 Kk)/\U.cell? ((y.add (k*3)).add 1)=some (.int .i64 Vk)/\U.cell? ((y.add (k*3)).add 2)=some (.int .i64 Nk)):=fun U b=>by
    exact⟨b.cell c8 (by show ¬o2<=gs;omega),b.cell d0 (by show ¬o2<=w.heap.size;omega),b.cell a0 (by have:=BLK.out 0 om0;rwa [Mx.uk] at this),b.cell a1 (BLK.out 1 om0),b.cell a2 (BLK.out 2 om0)⟩
   have Z0:=aZ zl;have NL:=aZ nl;have BL:=aZ bl;clear zl nl bl E1 KL hKk hVk hNk HEq a0 a1 a2 c8;go_upto_region 5 with fail
   refine Ru.aS [10] (fun w'=>w'.cell? ⟨gs,0,none⟩=some vX/\w'.cell? ⟨w.heap.size,0,none⟩=some (.slice (some y) n mc)/\w'.cell? (y.add (k*3))=some (.int .i64 Kk)/\w'.cell? ((y.add (k*3)).add 1)=some (.int .i64 Vk)/\w'.cell? ((y.add (k*3)).add 2)=some (.int .i64 Nk)) (by kernel_rfl) (HS.out _ (Ld.But.refl _ _).drew) (fun hHeld=> ?_);refine Ru.tk5 0 (.pointer (some ⟨gs,0,none⟩)) hHeld ?_;refine Ru.tk5 1 vX hHeld ?_;refine Ru.tk5 2 (.pointer (some ⟨w.heap.size,0,none⟩)) hHeld ?_;refine Ru.tk5 3 (.slice (some y) n mc) hHeld ?_;refine Ru.tk5 4 (.int .i64 (k:Int)) hHeld ?_;refine Ru.tk5 5 (.pointer (some (y.add (k*3)))) hHeld ?_;refine Ru.tk 6 (.agg #[.int .i64 Kk, .int .i64 Vk, .int .i64 Nk]) rfl (mJ (by kernel_rfl) _ rl0 (y.add (k*3)) _ _ _ rl0 (fun w h=>h.2.2)) hHeld ?_;refine Ru.rd 7 (fun K hK=> ?_);go_simp;refine Ru.hd hK (HS.out _ ((Ld.But.refl _ _).drew.al _)) (fun hHeld=> ?_);clear hK K;refine Ru.rd 8 (fun K hK=> ?_);refine El.stepV rl0 (.tmp 18) (.tmp 24) 39 85 3 24 (.agg #[.int .i64 0, .int .i64 0, .int .i64 0]) rl0 Tryz.underlying39 infoM3 rfl (by decide) (by decide) o2 vX _ k 0 _ _ rl0 (Z0.out.keep (Vc.az _)) om0 [.int .i64 Kk, .int .i64 Vk, .int .i64 Nk] rfl (one3i _ _ _) (fun _ _=>HR.out) rl0 ?_;intro v' w9 z9 b9;obtain⟨lo',cm',hv',_⟩:=z9.form;subst hv';have b9:=((Ld.But.refl (fun q=>o2<=q) ws).drew).trans b9;refine Ru.hd hK (HS.out _ b9) (fun hHeld=> ?_);clear hK K;refine Ru.tk5 9 (.pointer (some ⟨gs,0,none⟩)) hHeld ?_;have c9:w9.cell? ⟨gs,0,none⟩=some vX:=(HS.out _ b9).1;have f9:=ai.free (Ld.aT NL.out b9 om0) 0;refine Ru.rd2 10 (fun K hK=> ?_);go_simp;refine hK.out _ _ ?_;clear hK K;try simp only [Act.put,List.getElem_toArray,List.getElem_cons_zero,List.getElem_cons_succ,List.setIfInBounds_toArray,List.set_cons_zero,List.set_cons_succ]
   refine wpAny_done (by kernel_rfl) ?_ _;have n9:=Ld.aT NL.out b9 om0;have n10:=ai.set n9 0 (.slice lo' (k+1) cm');have b10:=(BL.out.trans (b9.mono fun q e=>Or.inr e)).set (p:=⟨gs,0,none⟩) (.slice lo' (k+1) cm') (Or.inl rfl);have z10:=z9.put (g:=gs) l6 ((Ld.But.refl (· =gs) w9).set (p:=⟨gs,0,none⟩) (.slice lo' (k+1) cm') rfl);clear Z0 NL BL z9 b9 n9 d0 HS HR c9 f9;go_wp2;go_roundw
   case rel=>exact⟨k+1,_,om0,by go_num,n10,z10,b10⟩
   case measure=>simp [intOf];omega
  ·obtain rfl:n=k:=om0;obtain⟨lo',cm',rfl,hP⟩:=aa6 zl.els;have r1:=ai.keep H1.out E1;have rR:=ai.row r1 [.slice lo' n cm', .slice ro q rc, .int .i64 fl];have BR:=ae HB0.out E1;have bR:=St.aJ BR (g:=w.heap.size+1) om0 [.slice lo' n cm', .slice ro q rc, .int .i64 fl].toArray;have hRS:=Ud.gp ws (w.heap.size+1) ([.slice lo' n cm', .slice ro q rc, .int .i64 fl]:List Value).toArray;have PR:=aZ (hP.but hRS (fun g hg e=>by have:=(zl.els.lt (g:=g) (by rw [hg];rfl)).1;omega));have NL:=aZ nl;clear zl bl E1 hRS nl hP
   go_wp2_with (first
    |((with_reducible show wpList _ _ _ _ _ _);refine Ud.iG Yn _ (by with_reducible rfl) gs _ rl0 NL.out rfl (by kernel_rfl) ?_)
    |((with_reducible show wpList _ _ _ _ _ _);refine Ud.Eb Yn _ _ (by with_reducible rfl) _ _ [.slice lo' n cm', .slice ro q rc, .int .i64 fl] rl0 rl0 (by with_reducible exact r1) rfl rfl (aa5 _ _ _ _ _ _ _) rfl ?_)
    |fail)
   exact bodyPost_ret (iV Yn Tryz.results9 _ _ (w.heap.size+1) _ rfl rR rfl) rfl ⟨_,_,rfl,PR.out,bR⟩
theorem Kz(lo ho:Option Addr)(n cm m hc:Nat)(X:Nat->Nat->Int)(r c:Nat->Int)(z:Nat->Nat->Int)(w:World)
 (hG: ∀ W,Below w.heap.size w W->Calls Tryz.prog 37 #[.slice lo n cm] W fun e w'=> ∃ vo vm,e= .returned (.slice vo n vm)/\Pst w' vo n vm X r c z/\Below W.heap.size W w'):
 Calls Tryz.prog 10 #[.agg #[.slice lo n cm, .slice ho m hc]] w fun e w'=> ∃ vo vm,e= .returned (.agg #[.slice vo n vm, .slice ho m hc])/\Pst w' vo n vm X r c z/\Below w.heap.size w w':=by
 have m0:=(aH w 29 [.slice lo n cm, .slice ho m hc]).alloc (.cells [.slice none 0 0, .slice none 0 0].toArray 34);have m1:=bU w (.cells [.slice lo n cm, .slice ho m hc].toArray 29) 34 [.slice none 0 0, .slice none 0 0];have B0:Below w.heap.size w ((w.alloc (.cells [.slice lo n cm, .slice ho m hc].toArray 29)).alloc (.cells [.slice none 0 0, .slice none 0 0].toArray 34)):=af (af (Below.refl _ _) _) _;obtain⟨W,hW⟩: ∃ W,W=(w.alloc (.cells [.slice lo n cm, .slice ho m hc].toArray 29)).alloc (.cells [.slice none 0 0, .slice none 0 0].toArray 34):=⟨_,rfl⟩;rw [← hW] at m0 m1 B0;have HW:=aZ hW;have H1:=aZ m1;have HB0:=aZ B0;have HG:=aZ hG;have HS:Hid (∀ U,Below W.heap.size W U->U.cell? ⟨w.heap.size,0,none⟩=some (.slice lo n cm)/\U.cell? ⟨w.heap.size,1,none⟩=some (.slice ho m hc)):=fun U k=>⟨ai.cell (ai.keep m0 k) (k:=0) rfl rfl,ai.cell (ai.keep m0 k) (k:=1) rfl rfl⟩;have HSr:Hid (∀ U,Below W.heap.size W U-> ∀ cs,(U.setRow (w.heap.size+1) cs).cell? ⟨w.heap.size,0,none⟩=some (.slice lo n cm)/\(U.setRow (w.heap.size+1) cs).cell? ⟨w.heap.size,1,none⟩=some (.slice ho m hc)):=fun U k cs=>⟨ai.cell (ai.aY (ai.keep m0 k) (g:=w.heap.size+1) om0 cs) (k:=0) rfl rfl,ai.cell (ai.aY (ai.keep m0 k) (g:=w.heap.size+1) om0 cs) (k:=1) rfl rfl⟩;clear hW m0 m1 B0 hG;go_enter Tryz.func10,Tryz.ntmps10
 go_upto_region 1 with(first|(rw [← HW.out])|fail)
 try rw [← HW.out]
 refine Ru.aS [] (fun w'=>w'.cell? ⟨w.heap.size,0,none⟩=some (.slice lo n cm)/\w'.cell? ⟨w.heap.size,1,none⟩=some (.slice ho m hc)) (by kernel_rfl) (HS.out _ (Vc.az _)) (fun hHeld=> ?_);refine Ru.tk2 0 (.pointer (some ⟨w.heap.size,0,none⟩)) hHeld ?_;refine Ru.tk2 1 (.slice lo n cm) hHeld ?_;refine Ru.tk2 3 (.pointer (some ⟨w.heap.size,1,none⟩)) hHeld ?_;refine Ru.tk2 4 (.slice ho m hc) hHeld ?_;refine Ru.rd 2 (fun K hK=> ?_);go_simp;have D0:=Vc.az W;refine(HG.out _ (ae HB0.out D0)).mono ?_;rintro e w2 ⟨vo,vm,rfl,p2,k2⟩;have D2:=ae D0 k2;go_wp2_with fail
 refine Ru.hd hK (HS.out _ D2) (fun hHeld=> ?_);clear hK K;refine Ru.tk2 5 (.agg #[.slice vo n vm, .slice ho m hc]) hHeld ?_;have r2:=ai.keep H1.out D2;have rR:=ai.row r2 [.slice vo n vm, .slice ho m hc];have bR:=St.aJ (ae HB0.out D2) (g:=w.heap.size+1) om0 [.slice vo n vm, .slice ho m hc].toArray;have pR:=CQ r2 p2 (Ud.gp w2 (w.heap.size+1) ([.slice vo n vm, .slice ho m hc]:List Value).toArray);refine Ru.rd 6 (fun K hK=> ?_);refine Ru.kK Gf (by kernel_rfl) _ _ rl0 (w.heap.size+1) _ [.slice vo n vm, .slice ho m hc] rl0 rl0 r2 rfl rfl (nJ _ _ _ _ _ _) ?_;refine Ru.hd hK (HSr.out _ D2 _) (fun hHeld=> ?_);clear hK K;refine Ru.bI (by kernel_rfl) ?_;go_wp2_with fail
 exact bodyPost_ret (iV Gf Tryz.results10 _ _ (w.heap.size+1) _ rfl rR rfl) rfl ⟨_,_,rfl,pR,bR⟩
theorem rQ(ao lo bo ho:Option Addr)(n ca cm m cb hc:Nat)(X:Nat->Nat->Int)(P:Nat->Nat->Nat->Int)(ch:Nat->Int)(w:World)(hA:Pst w ao n ca X (fun _=>6) (fun _=>6) (fun k=>mz 6 6 (P k)))(hl:Dls w lo n cm X P)(hb:Sl w bo m cb ch)(hh:Sl w ho m hc ch):
 Calls Tryz.prog 15 #[.agg #[.slice ao n ca, .slice bo m cb], .agg #[.slice lo n cm, .slice ho m hc]] w fun e w'=>e= .returned (.bool true)/\Below w.heap.size w w':=by
 have m0:=(aH w 34 [.slice ao n ca, .slice bo m cb]).alloc (.cells [.slice lo n cm, .slice ho m hc].toArray 29);have m1:=bU w (.cells [.slice ao n ca, .slice bo m cb].toArray 34) 29 [.slice lo n cm, .slice ho m hc];have B0:Below w.heap.size w ((w.alloc (.cells [.slice ao n ca, .slice bo m cb].toArray 34)).alloc (.cells [.slice lo n cm, .slice ho m hc].toArray 29)):=af (af (Below.refl _ _) _) _;obtain⟨W,hW⟩: ∃ W,W=(w.alloc (.cells [.slice ao n ca, .slice bo m cb].toArray 34)).alloc (.cells [.slice lo n cm, .slice ho m hc].toArray 29):=⟨_,rfl⟩;rw [← hW] at m0 m1 B0;have HW:=aZ hW;have c0:W.cell? ⟨w.heap.size,0,none⟩=some (.slice ao n ca):=ai.cell m0 (k:=0) rfl rfl;have c1:W.cell? ⟨w.heap.size+1,0,none⟩=some (.slice lo n cm):=ai.cell m1 (k:=0) rfl rfl;obtain⟨A,pl,C,pc,hd,hE⟩:=hl.ex;have D1:=aZ (F7 ao lo n ca cm A pl C pc X P W (hA.keep B0) (hd.keep B0) (fun k hk=>⟨(hE k hk).1.keep B0,(hE k hk).2.keep B0⟩));have H0:=aZ m0;have H1:=aZ m1;have HB0:=aZ B0;have HS:Hid (∀ U,Below w.heap.size w U->Sl U bo m cb ch/\Sl U ho m hc ch):=fun U k=>⟨hb.keep k,hh.keep k⟩;clear hW m0 m1 B0 hA hl hb hh hd hE;go_enter Tryz.func15,Tryz.ntmps15
 go_wp2_with (first|(rw [← HW.out])|fail)
 refine(D1.out).mono ?_;rintro e w1 ⟨rfl,k1⟩;have e0:w1.cell? ⟨w.heap.size,1,none⟩=some (.slice bo m cb):=ai.cell (ai.keep H0.out k1) (k:=1) rfl rfl;have e1:w1.cell? ⟨w.heap.size+1,1,none⟩=some (.slice ho m hc):=ai.cell (ai.keep H1.out k1) (k:=1) rfl rfl;have K1:=aZ (ae HB0.out k1);have D2:=aZ (EW bo ho m cb hc ch w1 (HS.out _ K1.out).1 (HS.out _ K1.out).2);clear c0 c1 D1 HS k1;go_wp2_with fail
 refine(D2.out).mono ?_;rintro e w2 ⟨rfl,k2⟩;have K2:=aZ (ae K1.out k2);clear e0 e1 D2 k2;go_wp2;go_ret;exact⟨rfl,K2.out⟩
end
section
open Go.RowKit Vc St Mt Cn Mx Im El
attribute [local go_sem ↓] Go.wp_at_zero Go.wp_at_succ
namespace Im
theorem O8{X X' z z':Nat->Int}{r c:Int}(h: ∀ k,k<6->X k=X' k)(h': ∀ k,k<36->z k=z' k):Pd.aB X r c z=Pd.aB X' r c z':=by
 unfold Pd.aB;rw [dZ h,show aj r c z=aj r c z' from jJ h']
def suX:Nat->Int:=Pd.six 0 10485760 0 0 0 0
def suD:Nat->Int:=Pd.six 104857600 1048576 1048576 104857600 1048576 1048576
def suP:Nat->Nat->Int:=Pd.bP suD
def suC:Nat->Int:=fun _=>1073741824
def suR:Nat->Nat->Int:=fun _ _=>1073741824
def suK:Nat->Int:=fun _=>0
def suN:Nat->Int:=fun _=>1048576
def suY:Nat->Int:=Pd.six 10485760 10485760 0 0 0 0
def su3(a b c d:Int):Nat->Nat->Int:=Mo.tw fun i j=>if i=0 then(if j=0 then a else if j=1 then b else 0) else if i=1 then(if j=0 then b else if j=1 then c else 0) else if j=2 then d else 0
def suQ:Nat->Nat->Int:=su3 106168336 1572864 2097168 16
def suZ:Nat->Nat->Int:=su3 52754449 781548 2085445 16
theorem su_e1: ∀ k,k<6->aX suK suK 1048576 1 suC suR (fun _=>suX) 0 k=suY k:=by decide+kernel
theorem su_e2: ∀ k,k<36->mz 6 6 (aP suK suK suN 1048576 1 suC suR (fun _=>suX) (fun _=>suP) 0) k=mz 6 6 suQ k:=by decide+kernel
theorem su_e3:aO suK suK suN 1048576 1 suC suR (fun _=>suX) (fun _=>suP)=false:=by decide+kernel
theorem su_e4: ∀ k,k<6->sX (fun _=>suY) (fun _=>suQ) 10485760 0 104857600 104857600 0 0 k=suY k:=by decide+kernel
theorem su_e5: ∀ k,k<36->mz 6 6 (sP (fun _=>suQ) 104857600 104857600 0 0) k=mz 6 6 suZ k:=by decide+kernel
theorem su_e6:sO 1 suC (fun _=>suY) (fun _=>suQ) 10485760 0 104857600 104857600 0=false:=by decide+kernel
theorem su_e7:sC 1 suC 0 (fun _=>suY) (fun _=>suQ) 10485760 0 104857600 104857600 0 0=1073741824:=by decide+kernel
theorem su_e8:jO 1 suC (fun _=>suY) (fun _=>suZ)=false:=by decide+kernel
theorem su_e9:jX 1 suC (fun _=>suY) 0=10485760:=by decide+kernel
theorem su_eA:mz 6 6 (jP 1 suC (fun _=>suY) (fun _=>suZ)) 0=52754449:=by decide+kernel
theorem su_eB:sh 1073741824 (fun _=>1) 1 0=1073741824:=by decide+kernel
theorem su_eC:sh 1073741824 (mxw 1 suC suR) 1 0=1073741824:=by decide+kernel
theorem su_f(k:Nat)(hk:k<1):sF (fun _=>suQ) 104857600 104857600 0 k:=by
 show ∀ i,i<2->Ld.fine (Ud.oM suQ 104857600 104857600 0) i;intro i hi;match i,hi with
 |0,_=>exact⟨by decide+kernel,by decide+kernel⟩
 |1,_=>exact⟨by decide+kernel,by decide+kernel⟩
theorem WV:Ch 1 suC 0:=⟨om0,om0,om0,om0,fun k _=>by show(0:Int)<=1073741824;omega,by decide+kernel⟩
theorem su_x4: ∀ k,k<4->Pr.InV (Pd.six 0 0 10485760 0 0 0 k):=by decide+kernel
theorem su_d6: ∀ k,k<6->1<=suD k/\suD k<=4611686018427387903:=by decide+kernel
theorem su_x6: ∀ k,k<6->Pr.InV (suX k):=by decide+kernel
theorem Yo:Pr.oK suX suP:=Pd.SH su_x6 su_d6
theorem aa7:Pr.oK suY suQ:=by unfold Pr.oK Pr.InV;decide+kernel
theorem aa8:Pr.oK suY suZ:=by unfold Pr.oK Pr.InV;decide+kernel
theorem su_b{a b c d e f:Int}(h: ∀ v∈ [a,b,c,d,e,f],-9223372036854775808<=v/\v<=9223372036854775807):B64 (Pd.six a b c d e f):=fun k=>by
 match k with
 |0=>exact h a (by simp)
 |1=>exact h b (by simp)
 |2=>exact h c (by simp)
 |3=>exact h d (by simp)
 |4=>exact h e (by simp)
 |_+5=>exact h f (by simp)
theorem su_bX:B64 suX:=su_b (by decide)
theorem su_bY:B64 suY:=su_b (by decide)
theorem su_bP:B2 suP:=Pd.bP_b2 (su_b (by decide))
theorem su3_b(a b c d:Int)(h: ∀ v∈ [a,b,c,d],0<=v/\v<=9223372036854775807):B2 (su3 a b c d):=fun i j=>by
 have ha:=h a (by simp)
 have hb:=h b (by simp)
 have hc:=h c (by simp)
 have hd:=h d (by simp)
 unfold su3 Mo.tw
 dsimp only
 (repeat' split)<;>constructor<;>omega
theorem su_bQ:B2 suQ:=su3_b _ _ _ _ (by decide)
theorem su_bZ:B2 suZ:=su3_b _ _ _ _ (by decide)
def UN(gm gr gl:Nat):Co:=⟨some ⟨gm,0,none⟩,1,1,suK,suK,suN,some ⟨gr,0,none⟩,1,1,fun _=>some ⟨gl,0,none⟩,fun _=>1,fun _=>1,suR,0⟩
theorem su_num(gm gr gl:Nat):(UN gm gr gl).Num:=
 ⟨fun _=>by show(_:Int)<=0/\(0:Int)<=_;omega,fun _=>by show(_:Int)<=0/\(0:Int)<=_;omega,fun _=>by show(_:Int)<=1048576/\(1048576:Int)<=_;omega,fun _ _=>by show(_:Int)<=1073741824/\(1073741824:Int)<=_;omega,by show(_:Int)<=0;omega,by show(0:Int)<=_;omega⟩
theorem KI(gm gr gl:Nat):(UN gm gr gl).May:=
 ⟨Nat.le_refl _,by show 1<=4;omega,rfl,by show(0:Int)<=0;omega,by show(0:Int)<=_;omega,fun i hi=>⟨⟨by show 1<=(1048576:Int)/\(1048576:Int)<=1073741824;omega,Or.inl ⟨Or.inl rfl,rfl⟩⟩,rfl,WV⟩⟩
theorem aa9{w:World}{gm gr gl:Nat}(hm:ai w gm 85 [.int .i64 0, .int .i64 0, .int .i64 1048576])(hr:ai w gr 27 [.slice (some ⟨gl,0,none⟩) 1 1])(hl:ai w gl 2 [.int .i64 1073741824]):(UN gm gr gl).Lies w:=
 ⟨⟨Nat.le_refl _,by show 1<=_;omega,fun k hk=>⟨gm,rfl,by
  have e:k=0:=by have:k<1:=hk;omega
  subst e
  exact fun j v hv=>ai.range hm j v hv⟩⟩,
  ⟨⟨Nat.le_refl _,by show 1<=_;omega,fun k hk=>⟨⟨gr,0,none⟩,rfl,by
   have e:k=0:=by have:k<1:=hk;omega
   subst e
   rw [Mx.uk]
   exact ai.cell hr (k:=0) rfl rfl⟩⟩,fun i hi=>Sl.one (ai.cell hl (k:=0) rfl rfl)⟩,su_num gm gr gl⟩
theorem O9(a b c:Int)(w:World):(Instr.buildSlice 39 1 #[(0, .agg #[.int .i64 a, .int .i64 b, .int .i64 c])]).run Tryz.prog w= .ok (.slice (some ⟨w.heap.size,0,none⟩) 1 1) (w.alloc (.cells #[.int .i64 a, .int .i64 b, .int .i64 c] 85)):=by kernel_rfl
theorem F8{ops:Array Oper}{rest:List Oper}{o:Oper}{a:Act}{w:World}{Q:Exit->Act->World->Prop}(x:Operand)(ho:o.op= .buildSlice 39 1 #[(0,x)])(i j k:Int)(hx:a.eval x= .agg #[.int .i64 i, .int .i64 j, .int .i64 k])(hgd:o.guard=none)
 (h:wpList Tryz.prog ops Q rest (a.put o.dst (.slice (some ⟨w.heap.size,0,none⟩) 1 1)) (w.alloc (.cells #[.int .i64 i, .int .i64 j, .int .i64 k] 85))):wpList Tryz.prog ops Q (o::rest) a w:=by
 refine wpList_plain hgd fun _ hK=> ?_;unfold Oper.wp execOp;have em:((#[(0,x)]:Array (Nat×Operand)).map fun(i,x)=>(i,a.eval x))= #[(0, .agg #[.int .i64 i, .int .i64 j, .int .i64 k])]:=by simp [hx]
 simp only [ho,em,Sem.run_bind,O9,Result.andThen_ok];exact hK _ _ h
theorem pst1{w:World}{lo:Option Addr}{n cm:Nat}{X:Nat->Nat->Int}{P P':Nat->Nat->Nat->Int}{X':Nat->Nat->Int}(h:Pst w lo n cm X (fun _=>6) (fun _=>6) (fun k=>mz 6 6 (P k)))(hn:n=1)(hX: ∀ i,i<6->X 0 i=X' 0 i)(hP: ∀ i,i<36->mz 6 6 (P 0) i=mz 6 6 (P' 0) i):Pst w lo n cm X' (fun _=>6) (fun _=>6) (fun k=>mz 6 6 (P' k)):=
 h.congr fun k hk=>by
  have e:k=0:=om0
  subst e
  exact O8 hX hP
theorem sl1{w:World}{ao:Option Addr}{n ca:Nat}{z:Nat->Int}(h:Sl w ao n ca z)(hn:n=1)(e:z 0=1073741824):Sl w ao n ca suC:=h.congr fun k hk=>by
 have q:k=0:=om0
 subst q
 exact e
end Im
section
variable (P:Im.WE)
include P
theorem UE(w:World)(gm gr gl:Nat)(h:(UN gm gr gl).Lies w):Calls Tryz.prog 23 #[.agg #[.slice (some ⟨gm,0,none⟩) 1 1, .slice (some ⟨gr,0,none⟩) 1 1, .int .i64 0], .agg (Pd.aB suX 6 6 (mz 6 6 suP)).toArray] w fun e w'=>
 ∃ vo vc co cc,e= .returned (.tuple #[.agg #[.slice vo 1 vc, .slice co 1 cc], .nilIface])/\Pst w' vo 1 vc (fun _=>suX) (fun _=>6) (fun _=>6) (fun _=>mz 6 6 suP)/\Sl w' co 1 cc suC/\Below w.heap.size w w':=by
 refine(P.start w (UN gm gr gl) suX 6 6 (mz 6 6 suP) suP h (fun _ _=>rfl) su_bX su_bP).mono ?_;rintro e w' ⟨u,⟨q,_⟩|⟨_,rfl,vo,vn,vc,co,cn,cc,rfl,k,hp,hs,rfl,rfl,nw1,nw2⟩⟩
 · exact absurd ⟨KI gm gr gl,rfl,rfl,Yo⟩ q
 · exact⟨vo,vc,co,cc,rfl,hp,sl1 hs rfl su_eB,k⟩
theorem UF(w:World)(gm gr gl:Nat)(lo ho:Option Addr)(cm hc:Nat)(hA:iM w)(h:(UN gm gr gl).Lies w)(hp:Pst w lo 1 cm (fun _=>suX) (fun _=>6) (fun _=>6) (fun _=>mz 6 6 suP))(hs:Sl w ho 1 hc suC):
 Calls Tryz.prog 8 #[.agg #[.slice (some ⟨gm,0,none⟩) 1 1, .slice (some ⟨gr,0,none⟩) 1 1, .int .i64 0], .agg #[.slice lo 1 cm, .slice ho 1 hc], .int .i64 1048576] w fun e w'=>
 ∃ vo vc co cc,e= .returned (.tuple #[.agg #[.slice vo 1 vc, .slice co 1 cc], .bool false, .nilIface])/\Pst w' vo 1 vc (fun _=>suY) (fun _=>6) (fun _=>6) (fun _=>mz 6 6 suQ)/\Sl w' co 1 cc suC/\Below w.heap.size w w':=by
 refine(P.ahead w (UN gm gr gl) (yes lo 1 cm ho 1 hc (fun _=>suX) (fun _=>suP) suC) 1048576 hA h ⟨hp,fun _ _ _ _=>rfl,fun _=>su_bX,fun _=>su_bP,hs,fun _=>by show(_:Int)<=1073741824/\(1073741824:Int)<=_;omega⟩ om0 om0).mono ?_;rintro e w' ⟨u,⟨q,_⟩|⟨_,rfl,vo,vn,vc,co,cn,cc,rfl,k,hp,hs,h1,h2,nw1,nw2⟩⟩
 · exact absurd ⟨⟨KI gm gr gl,rfl,rfl,WV,fun _ _=>⟨rfl,rfl,Yo⟩⟩,by show 1<=(1048576:Int)/\(1048576:Int)<=67108864;omega⟩ q
 · have h1':vn=1:=h1;have h2':cn=1:=h2;subst h1' h2';exact⟨vo,vc,co,cc,congrArg (fun q=>Ending.returned (.tuple #[.agg #[.slice vo 1 vc, .slice co 1 cc], .bool q, .nilIface])) su_e3,pst1 (X':=fun _=>suY) (P':=fun _=>suQ) hp rfl su_e1 su_e2,sl1 hs rfl su_eC,k⟩
theorem WW(w:World)(gm gr gl:Nat)(lo ho:Option Addr)(cm hc:Nat)(h:(UN gm gr gl).Lies w)(hp:Pst w lo 1 cm (fun _=>suY) (fun _=>6) (fun _=>6) (fun _=>mz 6 6 suQ))(hs:Sl w ho 1 hc suC):
 Calls Tryz.prog 21 #[.agg #[.slice (some ⟨gm,0,none⟩) 1 1, .slice (some ⟨gr,0,none⟩) 1 1, .int .i64 0], .agg #[.slice lo 1 cm, .slice ho 1 hc], .agg #[.int .i64 10485760, .int .i64 0, .int .i64 104857600, .int .i64 104857600, .int .i64 0]] w fun e w'=>
 ∃ vo vc co cc,e= .returned (.tuple #[.agg #[.slice vo 1 vc, .slice co 1 cc], .bool false, .nilIface])/\Pst w' vo 1 vc (fun _=>suY) (fun _=>6) (fun _=>6) (fun _=>mz 6 6 suZ)/\Sl w' co 1 cc suC/\Below w.heap.size w w':=by
 have hF:Fit (UN gm gr gl) (yes lo 1 cm ho 1 hc (fun _=>suY) (fun _=>suQ) suC):=⟨KI gm gr gl,rfl,rfl,WV,fun _ _=>⟨rfl,rfl,aa7⟩⟩;have hN:Ud.lT 10485760 0 104857600 104857600 0:=by decide
 refine(P.seen w (UN gm gr gl) (yes lo 1 cm ho 1 hc (fun _=>suY) (fun _=>suQ) suC) 10485760 0 104857600 104857600 0 h ⟨hp,fun _ _ _ _=>rfl,fun _=>su_bY,fun _=>su_bQ,hs,fun _=>by show(_:Int)<=1073741824/\(1073741824:Int)<=_;omega⟩ (by decide)).mono ?_;rintro e w' ⟨u,⟨q,_⟩|⟨_,q,_⟩|⟨_,_,rfl,vo,vn,vc,co,cn,cc,rfl,k,hp,hs,h1,h2,nw1,nw2⟩⟩
 · exact absurd ⟨hF,hN⟩ q
 · exact absurd (fun k hk=>su_f k hk) q
 · have h1':vn=1:=h1;have h2':cn=1:=h2;subst h1' h2';exact⟨vo,vc,co,cc,congrArg (fun q=>Ending.returned (.tuple #[.agg #[.slice vo 1 vc, .slice co 1 cc], .bool q, .nilIface])) su_e6,pst1 (X':=fun _=>suY) (P':=fun _=>suZ) hp rfl su_e4 su_e5,sl1 hs rfl su_e7,k⟩
theorem aba(w:World)(lo ho:Option Addr)(cm hc:Nat)(hp:Pst w lo 1 cm (fun _=>suY) (fun _=>6) (fun _=>6) (fun _=>mz 6 6 suZ))(hs:Sl w ho 1 hc suC):
 Calls Tryz.prog 16 #[.agg #[.slice lo 1 cm, .slice ho 1 hc]] w fun e w'=> ∃ (Y z:Nat->Int),Y 0=10485760/\z 0=52754449/\e= .returned (.tuple #[.agg (Pd.aB Y 6 6 z).toArray, .bool false, .nilIface])/\Below w.heap.size w w':=by
 refine(P.one w (yes lo 1 cm ho 1 hc (fun _=>suY) (fun _=>suZ) suC) ⟨hp,fun _ _ _ _=>rfl,fun _=>su_bY,fun _=>su_bZ,hs,fun _=>by show(_:Int)<=1073741824/\(1073741824:Int)<=_;omega⟩).mono ?_;rintro e w' ⟨k,⟨q,_⟩|⟨_,rfl⟩⟩
 · exact absurd ⟨rfl,WV,fun _ _=>⟨rfl,rfl,aa8⟩⟩ q
 · exact⟨_,_,su_e9,su_eA,congrArg (fun q=>Ending.returned (.tuple #[.agg (Pd.aB (jX 1 suC (fun _=>suY)) 6 6 (mz 6 6 (jP 1 suC (fun _=>suY) (fun _=>suZ)))).toArray, .bool q, .nilIface])) su_e8,k⟩
theorem rU(w:World)(hA:iM w):
 Calls Tryz.prog 7 #[] w fun e w'=>e= .returned (.bool true)/\Below w.heap.size w w':=by
 have H1:Hid (∀ W,Calls Tryz.prog 33 #[.int .i64 0, .int .i64 0, .int .i64 10485760, .int .i64 0, .int .i64 104857600, .int .i64 1048576, .int .i64 1048576] W fun e w'=>e= .returned (.tuple #[.agg (Pd.aB suX 6 6 (mz 6 6 suP)).toArray, .nilIface])/\Below W.heap.size W w'):=fun W=>OD 0 0 10485760 0 104857600 1048576 1048576 W su_x4 su_d6;have H2:=aZ (UE P);have H3:=aZ (UF P);have H4:=aZ (WW P);have H5:=aZ (aba P);have HA:=aZ hA;clear hA;obtain⟨X0,hX0⟩: ∃ z,z=suX:=⟨_,rfl⟩;obtain⟨z0,hz0⟩: ∃ z,z=mz 6 6 suP:=⟨_,rfl⟩;rw [← hX0,← hz0] at H1 H2 H3;clear hX0 hz0;go_enter Tryz.func7,Tryz.ntmps7
 have m0:=((aH w 85 [.int .i64 0, .int .i64 0, .int .i64 1048576]).alloc (.cells [.int .i64 1073741824].toArray 2)).alloc (.cells [.slice (some ⟨w.heap.size+1,0,none⟩) 1 1].toArray 27);have m1:=(bU w (.cells [.int .i64 0, .int .i64 0, .int .i64 1048576].toArray 85) 2 [.int .i64 1073741824]).alloc (.cells [.slice (some ⟨w.heap.size+1,0,none⟩) 1 1].toArray 27);have m2:=dH w (.cells [.int .i64 0, .int .i64 0, .int .i64 1048576].toArray 85) (.cells [.int .i64 1073741824].toArray 2) 27 [.slice (some ⟨w.heap.size+1,0,none⟩) 1 1];have B0:Below w.heap.size w (((w.alloc (.cells [.int .i64 0, .int .i64 0, .int .i64 1048576].toArray 85)).alloc (.cells [.int .i64 1073741824].toArray 2)).alloc (.cells [.slice (some ⟨w.heap.size+1,0,none⟩) 1 1].toArray 27)):=af (af (af (Below.refl _ _) _) _) _;obtain⟨W,hW⟩: ∃ W,W=((w.alloc (.cells [.int .i64 0, .int .i64 0, .int .i64 1048576].toArray 85)).alloc (.cells [.int .i64 1073741824].toArray 2)).alloc (.cells [.slice (some ⟨w.heap.size+1,0,none⟩) 1 1].toArray 27):=⟨_,rfl⟩;rw [← hW] at m0 m1 m2 B0;have HW:=aZ hW;have HC:=aZ (aa9 m0 m2 m1);have HB0:=aZ B0;clear hW m0 m1 m2 B0
 go_wp2_with (first
  |((with_reducible show wpList _ _ _ _ _ _);refine F8 _ (by with_reducible rfl) 0 0 1048576 rl0 rl0 ?_)
  |(rw [← HW.out])
  |((with_reducible show wpList _ _ _ _ _ _);refine St.aF Yn rfl _ _ rl0 _ [.slice none 0 0, .slice none 0 0, .int .i64 0] [.slice (some ⟨w.heap.size,0,none⟩) 1 1, .slice (some ⟨w.heap.size+1+1,0,none⟩) 1 1, .int .i64 0] rl0 rl0 rfl rfl (aa5 _ _ _ _ _ _ _) ?_;intro w6 n6 k6)
  |fail)
 have KB:=aZ (ae HB0.out k6);have C6:=aZ (HC.out.keep k6);have N6:=aZ n6;clear n6 k6 HC HB0 HW;refine(H1.out _).mono ?_;rintro e w7 ⟨rfl,k7⟩;have N7:=aZ (ai.keep N6.out k7);have C7:=aZ (C6.out.keep k7);have K7:=aZ (ae KB.out k7);clear N6 C6 KB k7 H1
 go_wp2_with (first
  |(rw [Pd.zeroS];refine St.aF Pd.isS rfl _ _ rl0 _ _ _ rl0 rl0 (Pd.aA _ _ _ _) (Pd.aA _ _ _ _) (Pd.cZ _ _ _ _) ?_;intro w8 t8 k8;have N8:=aZ (ai.keep N7.out k8);have C8:=aZ (C7.out.keep k8);have K8:=aZ (ae K7.out k8);have T8:=aZ t8;clear N7 C7 K7 t8 k8)
  |((with_reducible show wpList _ _ _ _ _ _);refine Ud.iG Yn _ (by with_reducible rfl) W.heap.size _ rl0 N8.out rfl (by kernel_rfl) ?_)
  |(refine St.aI Pd.isS rl0 _ rl0 _ _ rl0 (by with_reducible exact T8.out) (Pd.aA _ _ _ _) ?_)
  |fail)
 refine(H2.out _ _ _ _ C8.out).mono ?_;rintro e w9 ⟨vo,vc,co,cc,rfl,p9,s9,k9⟩;have N9:=aZ (ai.keep N8.out k9);have C9:=aZ (C8.out.keep k9);have K9:=aZ (ae K8.out k9);have P9:=aZ p9;have S9:=aZ s9;clear N8 C8 K8 T8 p9 s9 k9 H2
 go_wp2_with (first
  |((with_reducible show wpList _ _ _ _ _ _);refine St.aF Gf rfl _ _ rl0 _ [.slice none 0 0, .slice none 0 0] [.slice vo 1 vc, .slice co 1 cc] rl0 rl0 rfl rfl (nJ _ _ _ _ _ _) ?_;intro wA tA kA;have NA:=aZ (ai.keep N9.out kA);have CA:=aZ (C9.out.keep kA);have KA:=aZ (ae K9.out kA);have TA:=aZ tA;have PA:=aZ (P9.out.keep kA);have SA:=aZ (S9.out.keep kA);clear N9 C9 K9 P9 S9 tA kA)
  |((with_reducible show wpList _ _ _ _ _ _);refine Ud.iG Yn _ (by with_reducible rfl) W.heap.size _ rl0 NA.out rfl (by kernel_rfl) ?_)
  |((with_reducible show wpList _ _ _ _ _ _);refine Ud.iG Gf _ (by with_reducible rfl) _ _ rl0 TA.out rfl (by kernel_rfl) ?_)
  |fail)
 refine(H3.out _ _ _ _ _ _ _ _ (HA.out.below KA.out) CA.out PA.out SA.out).mono ?_;rintro e wB ⟨vo2,vc2,co2,cc2,rfl,pB,sB,kB⟩;have NB:=aZ (ai.keep NA.out kB);have CB:=aZ (CA.out.keep kB);have KB:=aZ (ae KA.out kB);have PB:=aZ pB;have SB:=aZ sB;clear NA CA KA TA PA SA pB sB kB H3 HA
 go_wp2_with (first
  |((with_reducible show wpList _ _ _ _ _ _);refine St.aF Gf rfl _ _ rl0 _ [.slice none 0 0, .slice none 0 0] [.slice vo2 1 vc2, .slice co2 1 cc2] rl0 rl0 rfl rfl (nJ _ _ _ _ _ _) ?_;intro wD tD kD;have ND:=aZ (ai.keep NB.out kD);have CD:=aZ (CB.out.keep kD);have KD:=aZ (ae KB.out kD);have TD:=aZ tD;have PD:=aZ (PB.out.keep kD);have SD:=aZ (SB.out.keep kD);clear NB CB KB PB SB tD kD)
  |((with_reducible show wpList _ _ _ _ _ _);refine Ud.iG Yn _ (by with_reducible rfl) W.heap.size _ rl0 ND.out rfl (by kernel_rfl) ?_)
  |((with_reducible show wpList _ _ _ _ _ _);refine Ud.iG Gf _ (by with_reducible rfl) _ _ rl0 TD.out rfl (by kernel_rfl) ?_)
  |fail)
 refine(H4.out _ _ _ _ _ _ _ _ CD.out PD.out SD.out).mono ?_;rintro e wE ⟨vo3,vc3,co3,cc3,rfl,pE,sE,kE⟩;have KE:=aZ (ae KD.out kE);have PE:=aZ pE;have SE:=aZ sE;clear ND CD KD TD PD SD pE sE kE H4
 go_wp2_with (first
  |((with_reducible show wpList _ _ _ _ _ _);refine St.aF Gf rfl _ _ rl0 _ [.slice none 0 0, .slice none 0 0] [.slice vo3 1 vc3, .slice co3 1 cc3] rl0 rl0 rfl rfl (nJ _ _ _ _ _ _) ?_;intro wF tF kF;have KF:=aZ (ae KE.out kF);have TF:=aZ tF;have PF:=aZ (PE.out.keep kF);have SF:=aZ (SE.out.keep kF);clear KE PE SE tF kF)
  |((with_reducible show wpList _ _ _ _ _ _);refine Ud.iG Gf _ (by with_reducible rfl) _ _ rl0 TF.out rfl (by kernel_rfl) ?_)
  |fail)
 refine(H5.out _ _ _ _ _ PF.out SF.out).mono ?_;rintro e wG ⟨Y,z,hY,hz,rfl,kG⟩;have TG:=aZ (ai.keep TF.out kG);have SG:=aZ (SF.out.keep kG);have KG:=aZ (ae KF.out kG);have HY:=aZ hY;have HZ:=aZ hz;obtain⟨gk,hgk⟩: ∃ g,g=wE.heap.size:=⟨_,rfl⟩;rw [← hgk] at TG ⊢;clear KF TF PF SF kG H5 hY hz hgk
 go_upto_region 7 with(first
  |(rw [Pd.zeroS];refine St.aF Pd.isS rfl _ _ rl0 _ _ _ rl0 rl0 (Pd.aA _ _ _ _) (Pd.aA _ _ _ _) (Pd.cZ _ _ _ _) ?_;intro wH tH kH)
  |fail)
 have KH:=aZ (ae KG.out kH);have a1:wH.cell? ⟨gk,1,none⟩=some (.slice co3 1 cc3):=ai.cell (ai.keep TG.out kH) (k:=1) rfl rfl;obtain⟨xc,hxc,hcc⟩:=(SG.out.keep kH).get;obtain rfl:=hxc om0;have a2:=hcc 0 om0;rw [Mx.uk] at a2;have a2:wH.cell? xc=some (.int .i64 1073741824):=a2;have a3:wH.cell? ⟨wG.heap.size,0,none⟩=some (.int .i64 10485760):=by have e:=Pd.fH.x tH (k:=0) om0 rfl;rw [HY.out] at e;exact e
 have a4:wH.cell? ⟨wG.heap.size,8,none⟩=some (.int .i64 52754449):=by have e:=Pd.fH.z tH (k:=0) om0 rfl;rw [HZ.out] at e;exact e
 have l9:=SG.out.cap;have l8:=SG.out.le;clear TG SG KG HY HZ tH kH hxc hcc;go_wp2;go_ret;exact⟨rfl,KH.out⟩
end
end
section
open Go.RowKit Vc St Mx
namespace Im
theorem yH{ops:Array Oper}{rest:List Oper}{o:Oper}{a:Act}{w:World}{Q:Exit->Act->World->Prop}(hw:Region.wanted o (yielded ops a.tmps)=true)(t:TypeId)(y:Operand)(ho:o.op= .load t y)
 (x:Addr) (u:Value) (hy:a.eval y= .pointer (some x)) (hr:(Instr.loadAt t (.pointer (some x))).run Tryz.prog w= .ok u w)
 (h:wpList Tryz.prog ops Q rest (a.put o.dst u) w):wpList Tryz.prog ops Q (o::rest) a w:=by
 refine wpList_want hw fun K hK=> ?_;have e:=hK _ _ h;unfold Oper.wp execOp;simp only [ho,hy,Sem.run_bind,Sem.run_pure,hr,Result.andThen_ok];exact e
end Im
end
section
open Go.RowKit Vc St Mt Cn Mx Im El Pd
attribute [local go_sem ↓] Go.wp_at_zero Go.wp_at_succ
theorem Yp{p:Prop}(h:p:=by
 refine Ru.tk 4 (.agg (Ud.pv x y a b c).toArray) rfl (Ru.fF Ud.qm (by kernel_rfl) _ rl0 (w.heap.size+1+1) _ rl0 (fun w h=>h.2.2) rfl) hHeld ?_;have D_:=Vc.az w1;refine Ru.rs [1,10] ?_
 repeat' (first
  |((with_reducible show Ru.dC _ _ _ _ _ _ _ _ _ _ _);first
   |refine Ru.sp ?_ ?_
   |(refine Ru.co1 (i:=1) (fun K hK=> ?_);go_simp;refine(GC.out _ (ae B1.out D_)).mono ?_;rintro e x_ ⟨vo,vm,rfl,cl,k_⟩;replace D_:=ae D_ k_;(try replace ml:=ml.keep k_);(try replace pp:=pp.keep k_);(try replace ss:=ss.keep k_);(try replace n_:=ai.keep n_ k_);go_wp2_with fail;refine Ru.hd hK (HS1.out _ (D_)) (fun hHeld=> ?_);clear hK K;first|refine Ru.rz [3,10] ?_|refine Ru.rz [3] ?_)
   |(refine Ru.co1 (i:=3) (fun K hK=> ?_);go_simp;refine(GI.out _ (ae B1.out D_)).mono ?_;rintro e x_ ⟨uo,um,rfl,ml,k_⟩;replace D_:=ae D_ k_;(try replace cl:=cl.keep k_);(try replace pp:=pp.keep k_);(try replace ss:=ss.keep k_);(try replace n_:=ai.keep n_ k_);go_wp2_with fail;refine Ru.hd hK (HS1.out _ (D_)) (fun hHeld=> ?_);clear hK K;first|refine Ru.rz [5,10] ?_|refine Ru.rz [5] ?_)
   |(refine Ru.co1 (i:=5) (fun K hK=> ?_);go_simp;refine(HAh.out _ _ _ _ _ cl ml).mono ?_;rintro e x_ ⟨ao,ac,bo,bc,rfl,pp,ss,k_⟩;replace D_:=ae D_ k_;(try clear cl);(try clear ml);(try replace cl:=cl.keep k_);(try replace ml:=ml.keep k_);(try replace n_:=ai.keep n_ k_);go_wp2_with fail;refine Ru.hd hK (HS1.out _ (D_)) (fun hHeld=> ?_);clear hK K;refine Ru.tk3 6 (.tuple #[.agg #[.slice ao n1 ac, .slice bo n1 bc], .bool o1,ev]) hHeld ?_;refine Ru.tk3 7 (.agg #[.slice ao n1 ac, .slice bo n1 bc]) hHeld ?_;refine Ru.tk3 8 (.bool o1) hHeld ?_;refine Ru.tk3 9 ev hHeld ?_;first|refine Ru.rz [10] ?_|skip)
   |(refine Ru.co1 (i:=10) (fun K hK=> ?_);go_simp;obtain⟨g_,x_,hg,hx,n_,l_,k_⟩:=made D_ 34 [.slice none 0 0, .slice none 0 0];(first|rw [← hx]|rw [show(w1.alloc (.cells [.slice none 0 0, .slice none 0 0].toArray 34)).drew=x_ from hx.symm]);(try rw [← hg]);(try rw [show w1.heap.size=g_ from hg.symm]);clear hg hx;replace D_:=ae D_ k_;(try replace cl:=cl.keep k_);(try replace ml:=ml.keep k_);(try replace pp:=pp.keep k_);(try replace ss:=ss.keep k_);refine Ru.hd hK (HS1.out _ (D_)) (fun hHeld=> ?_);clear hK K;first|refine Ru.rz [5] ?_|refine Ru.rz [3] ?_|refine Ru.rz [1] ?_|skip))
  |as_aux_lemma=>(refine Ru.rd 11 (fun K hK=> ?_);refine Ru.kK Gf (by kernel_rfl) _ _ rl0 g_ _ ([.slice ao n1 ac, .slice bo n1 bc]) rl0 rl0 n_ rfl rfl (nJ _ _ _ _ _ _) ?_;have nE:=ai.row n_ ([.slice ao n1 ac, .slice bo n1 bc]);have bE:=St.aJ D_ (g:=g_) om0 ([.slice ao n1 ac, .slice bo n1 bc]).toArray;refine Ru.hd hK (HS1.out _ (bE)) (fun hHeld=> ?_);clear hK K;refine Ru.tk3 12 (.bool o1) hHeld ?_;refine Ru.tk3 13 ev hHeld ?_;refine Ru.bI (by kernel_rfl) ?_;go_wp2_with fail;go_meet;exact⟨_,_,_,_,_,rfl,rfl,rfl,nE,CQ n_ pp (Ud.gp _ (g_) ([.slice ao n1 ac, .slice bo n1 bc]).toArray),En n_ ss (Ud.gp _ (g_) ([.slice ao n1 ac, .slice bo n1 bc]).toArray),bE⟩))):p:=h
theorem UG(P:Im.WE)(CO:Option Addr->Nat->Im.Co)(MS:Option Addr->Nat->Im.Ms)(mo ro lo ho:Option Addr)(n mc q rc cm m hc n1:Nat)(fl x y a b c f1:Int)(o1:Bool)(ev:Value)(Y:Nat->Nat->Int)(Q:Nat->Nat->Nat->Int)(z:Nat->Int)(w:World)
 (hE:lV w) (hT:iM w) (hn:n<=10)
 (hZ: ∀ W,Below w.heap.size w W->Calls Tryz.prog 6 #[.slice lo 0 cm] W fun e w'=>e= .returned (.bool true)/\Below W.heap.size W w')
 (hGC: ∀ W,Below w.heap.size w W->Calls Tryz.prog 9 #[.agg #[.slice mo n mc, .slice ro q rc, .int .i64 fl]] W fun e w'=> ∃ vo vm,e= .returned (.agg #[.slice vo n vm, .slice ro q rc, .int .i64 fl])/\(CO vo vm).Lies w'/\Below W.heap.size W w')
 (hGI: ∀ W,Below w.heap.size w W->Calls Tryz.prog 10 #[.agg #[.slice lo 0 cm, .slice ho m hc]] W fun e w'=> ∃ uo um,e= .returned (.agg #[.slice uo 0 um, .slice ho m hc])/\(MS uo um).Lies w'/\Below W.heap.size W w')
 (hAh: ∀ W vo vm uo um,(CO vo vm).Lies W->(MS uo um).Lies W->Calls Tryz.prog 21 #[.agg #[.slice vo n vm, .slice ro q rc, .int .i64 fl], .agg #[.slice uo 0 um, .slice ho m hc], .agg (Ud.pv x y a b c).toArray] W fun e w'=> ∃ ao ac bo bc,e= .returned (.tuple #[.agg #[.slice ao n1 ac, .slice bo n1 bc], .bool o1,ev])/\Pst w' ao n1 ac Y (fun _=>6) (fun _=>6) (fun k=>mz 6 6 (Q k))/\Sl w' bo n1 bc z/\Below W.heap.size W w')
 (hDA: ∀ W,Below w.heap.size w W->Calls Tryz.prog 22 #[.agg #[.slice mo n mc, .slice ro q rc, .int .i64 fl], .agg #[.slice lo 0 cm, .slice ho m hc], .agg (Ud.pv x y a b c).toArray] W fun e w'=> ∃ xo xm yo ym,e= .returned (.tuple #[.agg #[.slice xo n1 xm, .slice yo n1 ym], .bool o1, .int .i64 f1])/\Dls w' xo n1 xm Y Q/\Sl w' yo n1 ym z/\Below W.heap.size W w')
 (hNum: ∀ W,lV W->Calls Tryz.prog 14 #[ev] W fun e w'=>e= .returned (.int .i64 f1)/\Below W.heap.size W w'):
 Calls Tryz.prog 4 #[.agg #[.slice mo n mc, .slice ro q rc, .int .i64 fl], .agg #[.slice lo 0 cm, .slice ho m hc], .agg (Ud.pv x y a b c).toArray] w fun e w'=>e= .returned (.bool true)/\Below w.heap.size w w':=by
 have m0:=((aH w 25 [.slice mo n mc, .slice ro q rc, .int .i64 fl]).alloc (.cells [.slice lo 0 cm, .slice ho m hc].toArray 29)).alloc (.cells (Ud.pv x y a b c).toArray 67);have m1:=(bU w (.cells [.slice mo n mc, .slice ro q rc, .int .i64 fl].toArray 25) 29 [.slice lo 0 cm, .slice ho m hc]).alloc (.cells (Ud.pv x y a b c).toArray 67);have m2:=dH w (.cells [.slice mo n mc, .slice ro q rc, .int .i64 fl].toArray 25) (.cells [.slice lo 0 cm, .slice ho m hc].toArray 29) 67 (Ud.pv x y a b c);have B0:Below w.heap.size w (((w.alloc (.cells [.slice mo n mc, .slice ro q rc, .int .i64 fl].toArray 25)).alloc (.cells [.slice lo 0 cm, .slice ho m hc].toArray 29)).alloc (.cells (Ud.pv x y a b c).toArray 67)):=af (af (af (Below.refl _ _) _) _) _;obtain⟨W,hW⟩: ∃ W,W=((w.alloc (.cells [.slice mo n mc, .slice ro q rc, .int .i64 fl].toArray 25)).alloc (.cells [.slice lo 0 cm, .slice ho m hc].toArray 29)).alloc (.cells (Ud.pv x y a b c).toArray 67):=⟨_,rfl⟩;rw [← hW] at m0 m1 m2 B0;have HW:=aZ hW;have HB0:=aZ B0;have HE:=aZ hE;have HT:=aZ hT;have HZ:=aZ (hZ W B0);have GC:=aZ hGC;have GI:=aZ hGI;have HAh:=aZ hAh;have HDA:=aZ hDA;have HNum:=aZ hNum;have HSu:=aZ (rU P);have d0:W.cell? ⟨w.heap.size+1,0,none⟩=some (.slice lo 0 cm):=ai.cell m1 (k:=0) rfl rfl;have i0: ¬10<(n:Int):=om0;have HS3:Hid (∀ U,Below W.heap.size W U->ai U w.heap.size 25 [.slice mo n mc, .slice ro q rc, .int .i64 fl]/\ai U (w.heap.size+1) 29 [.slice lo 0 cm, .slice ho m hc]/\ai U (w.heap.size+1+1) 67 (Ud.pv x y a b c)):=fun U k=>⟨ai.keep m0 k,ai.keep m1 k,ai.keep m2 k⟩;clear hW m0 m1 m2 B0 hE hT hZ hGC hGI hAh hDA hNum;go_enter Tryz.func4,Tryz.ntmps4
 go_wp2_with (first|(rw [← HW.out])|fail)
 refine(HZ.out).mono ?_;rintro e w1 ⟨rfl,k1⟩;have K1:=aZ k1;have d1:w1.cell? ⟨w.heap.size,0,none⟩=some (.slice mo n mc):=ai.cell (HS3.out _ k1).1 (k:=0) rfl rfl;have HS1:Hid (∀ U,Below w1.heap.size w1 U->ai U w.heap.size 25 [.slice mo n mc, .slice ro q rc, .int .i64 fl]/\ai U (w.heap.size+1) 29 [.slice lo 0 cm, .slice ho m hc]/\ai U (w.heap.size+1+1) 67 (Ud.pv x y a b c)):=fun U k=>HS3.out U (ae K1.out k);have B1:=aZ (ae HB0.out k1);have lw:w.heap.size+1+1<w1.heap.size:=by have:=ai.lt (HS3.out _ k1).2.2;omega
 clear k1 d0 HW HZ;go_upto_region 3 with fail
 go_cut [7,8,9] (fun p o f wx=> ∃ (g:Nat) (ao:Option Addr) (ac:Nat) (bo:Option Addr) (bc:Nat),p= .pointer (some ⟨g,0,none⟩)/\o= .bool o1/\f=ev/\ai wx g 34 [.slice ao n1 ac, .slice bo n1 bc]/\Pst wx ao n1 ac Y (fun _=>6) (fun _=>6) (fun k=>mz 6 6 (Q k))/\Sl wx bo n1 bc z/\Below w1.heap.size w1 wx)
 case first=>
  refine Ru.aS [] (fun w'=>ai w' w.heap.size 25 [.slice mo n mc, .slice ro q rc, .int .i64 fl]/\ai w' (w.heap.size+1) 29 [.slice lo 0 cm, .slice ho m hc]/\ai w' (w.heap.size+1+1) 67 (Ud.pv x y a b c)) (by kernel_rfl) (HS1.out _ ((Vc.az _))) (fun hHeld=> ?_);refine Ru.tk 0 (.agg [.slice mo n mc, .slice ro q rc, .int .i64 fl].toArray) rfl (Ru.fF IY (by kernel_rfl) _ rl0 (w.heap.size) _ rl0 (fun w h=>h.1) rfl) hHeld ?_;refine Ru.tk 2 (.agg [.slice lo 0 cm, .slice ho m hc].toArray) rfl (Ru.fF xw (by kernel_rfl) _ rl0 (w.heap.size+1) _ rl0 (fun w h=>h.2.1) rfl) hHeld ?_;exact Yp
 rename World=>w3;obtain⟨g7,ao,ac,bo,bc,rfl,rfl,rfl,n3,p3,s3,k3⟩:=hcut;have B3:=aZ (ae B1.out k3);have HS:Hid (∀ U,Below w3.heap.size w3 U->ai U w.heap.size 25 [.slice mo n mc, .slice ro q rc, .int .i64 fl]/\ai U (w.heap.size+1) 29 [.slice lo 0 cm, .slice ho m hc]/\ai U (w.heap.size+1+1) 67 (Ud.pv x y a b c)/\ai U g7 34 [.slice ao n1 ac, .slice bo n1 bc]):=fun U k=>⟨(HS1.out U (ae k3 k)).1,(HS1.out U (ae k3 k)).2.1,(HS1.out U (ae k3 k)).2.2,ai.keep n3 k⟩;have C3:=aZ (HS.out _ (Below.refl _ _));have P3:=aZ (⟨p3,s3⟩:_/\_);clear n3 p3 s3 k3 d1 HAh HS1 HS3 K1 B1
 go_wp2_with (first
  |((with_reducible show wpList _ _ _ _ _ _);refine Ud.iG IY _ (by with_reducible rfl) w.heap.size _ rl0 C3.out.1 rfl (by kernel_rfl) ?_)
  |((with_reducible show wpList _ _ _ _ _ _);refine Ud.iG xw _ (by with_reducible rfl) (w.heap.size+1) _ rl0 C3.out.2.1 rfl (by kernel_rfl) ?_)
  |((with_reducible show wpList _ _ _ _ _ _);refine Ud.iG Ud.qm _ (by with_reducible rfl) (w.heap.size+1+1) _ rl0 C3.out.2.2.1 rfl (by kernel_rfl) ?_)
  |fail)
 refine(HDA.out _ B3.out).mono ?_;rintro e w4 ⟨xo,xm,yo,ym,rfl,D4,s4,k4⟩;have K4:=aZ k4;have D4:=aZ (⟨D4,s4⟩:_/\_);clear k4 s4 HDA C3
 go_wp2_with (first
  |((with_reducible show wpList _ _ _ _ _ _);refine St.aF xw rfl _ _ rl0 _ [.slice none 0 0, .slice none 0 0] [.slice xo n1 xm, .slice yo n1 ym] rl0 rl0 rfl rfl (nJ _ _ _ _ _ _) ?_;intro w5 n5 k5;have K5:=aZ (ae K4.out k5);have D5:=aZ (⟨D4.out.1.keep k5,D4.out.2.keep k5⟩:_/\_);have N5:=aZ n5;have B5:=aZ (ae B3.out K5.out);clear n5 k5 K4 D4)
  |fail)
 refine(HNum.out _ (HE.out.below B5.out)).mono ?_;rintro e w6 ⟨rfl,k6⟩;have K6:=aZ (ae K5.out k6);have D6:=aZ (⟨D5.out.1.keep k6,D5.out.2.keep k6⟩:_/\_);have N6:=aZ (ai.keep N5.out k6);have A6:=aZ (HS.out _ K6.out).2.2.2;have Q6:=aZ (⟨P3.out.1.keep K6.out,P3.out.2.keep K6.out⟩:_/\_);obtain⟨gA,hgA⟩: ∃ g,g=w4.heap.size:=⟨_,rfl⟩;rw [← hgA] at N6 ⊢;clear k6 D5 N5 K5 B5 HNum hgA P3;cases o1
 all_goals go_wp2_with (first
  |((with_reducible show wpList _ _ _ _ _ _);refine Ud.iG Gf _ (by with_reducible rfl) g7 _ rl0 A6.out rfl (by kernel_rfl) ?_)
  |((with_reducible show wpList _ _ _ _ _ _);refine Ud.iG xw _ (by with_reducible rfl) gA _ rl0 N6.out rfl (by kernel_rfl) ?_)
  |fail)
 all_goals refine(rQ ao xo bo yo n1 ac xm n1 bc ym Y Q z _ Q6.out.1 D6.out.1 Q6.out.2 D6.out.2).mono ?_
 all_goals rintro e w7 ⟨rfl,k7⟩
 all_goals have K7:=aZ (ae K6.out k7)
 all_goals have B7:=aZ (ae B3.out K7.out)
 all_goals have c0:w7.cell? ⟨w.heap.size+1,0,none⟩=some (.slice lo 0 cm):=ai.cell (HS.out _ K7.out).2.1 (k:=0) rfl rfl
 all_goals clear k7 K6 D6 N6 A6 Q6
 all_goals go_wp2_with fail
 all_goals refine(HSu.out _ (HT.out.below B7.out)).mono ?_
 all_goals rintro e w8 ⟨rfl,k8⟩
 all_goals have B8:=ae B7.out k8
 all_goals clear k8 c0
 all_goals go_wp2
 all_goals go_ret
 all_goals exact⟨rfl,B8⟩
theorem UH(P:Im.WE)(CO:Option Addr->Nat->Im.Co)(MS:Option Addr->Nat->Im.Ms)(mo ro ho:Option Addr)(xa:Addr)(n mc q rc l cm m hc n1:Nat)(fl x y a b c f1:Int)(o1:Bool)(ev:Value)(Y:Nat->Nat->Int)(Q:Nat->Nat->Nat->Int)(z:Nat->Int)(w:World)
 (hE:lV w) (hT:iM w) (hn:n<=10) (hl:0<l)
 (hZ: ∀ W,Below w.heap.size w W->Calls Tryz.prog 6 #[.slice (some xa) l cm] W fun e w'=>e= .returned (.bool true)/\Below W.heap.size W w')
 (hGC: ∀ W,Below w.heap.size w W->Calls Tryz.prog 9 #[.agg #[.slice mo n mc, .slice ro q rc, .int .i64 fl]] W fun e w'=> ∃ vo vm,e= .returned (.agg #[.slice vo n vm, .slice ro q rc, .int .i64 fl])/\(CO vo vm).Lies w'/\Below W.heap.size W w')
 (hGI: ∀ W,Below w.heap.size w W->Calls Tryz.prog 10 #[.agg #[.slice (some xa) l cm, .slice ho m hc]] W fun e w'=> ∃ uo um,e= .returned (.agg #[.slice uo l um, .slice ho m hc])/\(MS uo um).Lies w'/\Below W.heap.size W w')
 (hAh: ∀ W vo vm uo um,(CO vo vm).Lies W->(MS uo um).Lies W->Calls Tryz.prog 21 #[.agg #[.slice vo n vm, .slice ro q rc, .int .i64 fl], .agg #[.slice uo l um, .slice ho m hc], .agg (Ud.pv x y a b c).toArray] W fun e w'=> ∃ ao ac bo bc,e= .returned (.tuple #[.agg #[.slice ao n1 ac, .slice bo n1 bc], .bool o1,ev])/\Pst w' ao n1 ac Y (fun _=>6) (fun _=>6) (fun k=>mz 6 6 (Q k))/\Sl w' bo n1 bc z/\Below W.heap.size W w')
 (hDA: ∀ W,Below w.heap.size w W->Calls Tryz.prog 22 #[.agg #[.slice mo n mc, .slice ro q rc, .int .i64 fl], .agg #[.slice (some xa) l cm, .slice ho m hc], .agg (Ud.pv x y a b c).toArray] W fun e w'=> ∃ xo xm yo ym,e= .returned (.tuple #[.agg #[.slice xo n1 xm, .slice yo n1 ym], .bool o1, .int .i64 f1])/\Dls w' xo n1 xm Y Q/\Sl w' yo n1 ym z/\Below W.heap.size W w')
 (hNum: ∀ W,lV W->Calls Tryz.prog 14 #[ev] W fun e w'=>e= .returned (.int .i64 f1)/\Below W.heap.size W w')
 (s0 s2:Option Addr) (s1 s3 s4:Nat) (X0 z0:Nat->Int) (r0 q0:Int) (S0:Nat->Nat->Int) (C0:Nat->Int) (hcm:l<=cm) (hcM:cm<=9223372036854775807)
 (h0:w.cell? xa=some (.slice s0 6 s1)/\w.cell? (xa.add 1)=some (.slice s2 s3 s4))
 (hGS: ∀ W,Below w.heap.size w W->Calls Tryz.prog 24 #[.agg #[.slice s0 6 s1, .slice s2 s3 s4]] W fun e w'=>e= .returned (.agg (aB X0 r0 q0 z0).toArray)/\Below W.heap.size W w')
 (hSt: ∀ W vo vm,(CO vo vm).Lies W->Calls Tryz.prog 23 #[.agg #[.slice vo n vm, .slice ro q rc, .int .i64 fl], .agg (aB X0 r0 q0 z0).toArray] W fun e w'=> ∃ ao ac bo bc,e= .returned (.tuple #[.agg #[.slice ao n ac, .slice bo n bc], .nilIface])/\Pst w' ao n ac (fun _=>X0) (fun _=>6) (fun _=>6) (fun _=>mz 6 6 S0)/\Sl w' bo n bc C0/\Below W.heap.size W w')
 (hDM: ∀ W,Below w.heap.size w W->Calls Tryz.prog 13 #[.agg #[.slice mo n mc, .slice ro q rc, .int .i64 fl]] W fun e w'=>e= .returned (.bool true)/\Below W.heap.size W w')
 (hDS: ∀ W,Below w.heap.size w W->Calls Tryz.prog 25 #[.agg #[.slice s0 6 s1, .slice s2 s3 s4]] W fun e w'=>e= .returned (.bool true)/\Below W.heap.size W w')
 (hDT: ∀ W,Below w.heap.size w W->Calls Tryz.prog 26 #[.agg #[.slice mo n mc, .slice ro q rc, .int .i64 fl], .agg #[.slice s0 6 s1, .slice s2 s3 s4]] W fun e w'=> ∃ xo xm yo ym,e= .returned (.agg #[.slice xo n xm, .slice yo n ym])/\Dls w' xo n xm (fun _=>X0) (fun _=>S0)/\Sl w' yo n ym C0/\Below W.heap.size W w'):
 Calls Tryz.prog 4 #[.agg #[.slice mo n mc, .slice ro q rc, .int .i64 fl], .agg #[.slice (some xa) l cm, .slice ho m hc], .agg (Ud.pv x y a b c).toArray] w fun e w'=>e= .returned (.bool true)/\Below w.heap.size w w':=by
 have m0:=((aH w 25 [.slice mo n mc, .slice ro q rc, .int .i64 fl]).alloc (.cells [.slice (some xa) l cm, .slice ho m hc].toArray 29)).alloc (.cells (Ud.pv x y a b c).toArray 67);have m1:=(bU w (.cells [.slice mo n mc, .slice ro q rc, .int .i64 fl].toArray 25) 29 [.slice (some xa) l cm, .slice ho m hc]).alloc (.cells (Ud.pv x y a b c).toArray 67);have m2:=dH w (.cells [.slice mo n mc, .slice ro q rc, .int .i64 fl].toArray 25) (.cells [.slice (some xa) l cm, .slice ho m hc].toArray 29) 67 (Ud.pv x y a b c);have B0:Below w.heap.size w (((w.alloc (.cells [.slice mo n mc, .slice ro q rc, .int .i64 fl].toArray 25)).alloc (.cells [.slice (some xa) l cm, .slice ho m hc].toArray 29)).alloc (.cells (Ud.pv x y a b c).toArray 67)):=af (af (af (Below.refl _ _) _) _) _;obtain⟨W,hW⟩: ∃ W,W=((w.alloc (.cells [.slice mo n mc, .slice ro q rc, .int .i64 fl].toArray 25)).alloc (.cells [.slice (some xa) l cm, .slice ho m hc].toArray 29)).alloc (.cells (Ud.pv x y a b c).toArray 67):=⟨_,rfl⟩;rw [← hW] at m0 m1 m2 B0;have HW:=aZ hW;have HB0:=aZ B0;have HE:=aZ hE;have HT:=aZ hT;have HZ:=aZ (hZ W B0);have GC:=aZ hGC;have GI:=aZ hGI;have HAh:=aZ hAh;have HDA:=aZ hDA;have HNum:=aZ hNum;have GS:=aZ hGS;have HSt:=aZ hSt;have HDM:=aZ hDM;have U0:=aZ h0;have HDS:=aZ hDS;have HDT:=aZ hDT;have HSu:=aZ (rU P);have d0:W.cell? ⟨w.heap.size+1,0,none⟩=some (.slice (some xa) l cm):=ai.cell m1 (k:=0) rfl rfl;have i0: ¬10<(n:Int):=om0;have HS3:Hid (∀ U,Below W.heap.size W U->ai U w.heap.size 25 [.slice mo n mc, .slice ro q rc, .int .i64 fl]/\ai U (w.heap.size+1) 29 [.slice (some xa) l cm, .slice ho m hc]/\ai U (w.heap.size+1+1) 67 (Ud.pv x y a b c)):=fun U k=>⟨ai.keep m0 k,ai.keep m1 k,ai.keep m2 k⟩;clear hW m0 m1 m2 B0 hE hT hZ hGC hGI hAh hDA hNum hGS hSt hDM h0 hDS hDT;go_enter Tryz.func4,Tryz.ntmps4
 go_wp2_with (first|(rw [← HW.out])|fail)
 refine(HZ.out).mono ?_;rintro e w1 ⟨rfl,k1⟩;have K1:=aZ k1;have d1:w1.cell? ⟨w.heap.size,0,none⟩=some (.slice mo n mc):=ai.cell (HS3.out _ k1).1 (k:=0) rfl rfl;have HS1:Hid (∀ U,Below w1.heap.size w1 U->ai U w.heap.size 25 [.slice mo n mc, .slice ro q rc, .int .i64 fl]/\ai U (w.heap.size+1) 29 [.slice (some xa) l cm, .slice ho m hc]/\ai U (w.heap.size+1+1) 67 (Ud.pv x y a b c)):=fun U k=>HS3.out U (ae K1.out k);have B1:=aZ (ae HB0.out k1);have lw:w.heap.size+1+1<w1.heap.size:=by have:=ai.lt (HS3.out _ k1).2.2;omega
 clear k1 d0 HW HZ;go_upto_region 3 with fail
 go_cut [7,8,9] (fun p o f wx=> ∃ (g:Nat) (ao:Option Addr) (ac:Nat) (bo:Option Addr) (bc:Nat),p= .pointer (some ⟨g,0,none⟩)/\o= .bool o1/\f=ev/\ai wx g 34 [.slice ao n1 ac, .slice bo n1 bc]/\Pst wx ao n1 ac Y (fun _=>6) (fun _=>6) (fun k=>mz 6 6 (Q k))/\Sl wx bo n1 bc z/\Below w1.heap.size w1 wx)
 case first=>
  refine Ru.aS [] (fun w'=>ai w' w.heap.size 25 [.slice mo n mc, .slice ro q rc, .int .i64 fl]/\ai w' (w.heap.size+1) 29 [.slice (some xa) l cm, .slice ho m hc]/\ai w' (w.heap.size+1+1) 67 (Ud.pv x y a b c)) (by kernel_rfl) (HS1.out _ ((Vc.az _))) (fun hHeld=> ?_);refine Ru.tk 0 (.agg [.slice mo n mc, .slice ro q rc, .int .i64 fl].toArray) rfl (Ru.fF IY (by kernel_rfl) _ rl0 (w.heap.size) _ rl0 (fun w h=>h.1) rfl) hHeld ?_;refine Ru.tk 2 (.agg [.slice (some xa) l cm, .slice ho m hc].toArray) rfl (Ru.fF xw (by kernel_rfl) _ rl0 (w.heap.size+1) _ rl0 (fun w h=>h.2.1) rfl) hHeld ?_;exact Yp
 rename World=>w3;obtain⟨g7,ao,ac,bo,bc,rfl,rfl,rfl,n3,p3,s3,k3⟩:=hcut;have B3:=aZ (ae B1.out k3);have HS:Hid (∀ U,Below w3.heap.size w3 U->ai U w.heap.size 25 [.slice mo n mc, .slice ro q rc, .int .i64 fl]/\ai U (w.heap.size+1) 29 [.slice (some xa) l cm, .slice ho m hc]/\ai U (w.heap.size+1+1) 67 (Ud.pv x y a b c)/\ai U g7 34 [.slice ao n1 ac, .slice bo n1 bc]):=fun U k=>⟨(HS1.out U (ae k3 k)).1,(HS1.out U (ae k3 k)).2.1,(HS1.out U (ae k3 k)).2.2,ai.keep n3 k⟩;have C3:=aZ (HS.out _ (Below.refl _ _));have P3:=aZ (⟨p3,s3⟩:_/\_);clear n3 p3 s3 k3 d1 HAh HS1 HS3 K1 B1
 go_wp2_with (first
  |((with_reducible show wpList _ _ _ _ _ _);refine Ud.iG IY _ (by with_reducible rfl) w.heap.size _ rl0 C3.out.1 rfl (by kernel_rfl) ?_)
  |((with_reducible show wpList _ _ _ _ _ _);refine Ud.iG xw _ (by with_reducible rfl) (w.heap.size+1) _ rl0 C3.out.2.1 rfl (by kernel_rfl) ?_)
  |((with_reducible show wpList _ _ _ _ _ _);refine Ud.iG Ud.qm _ (by with_reducible rfl) (w.heap.size+1+1) _ rl0 C3.out.2.2.1 rfl (by kernel_rfl) ?_)
  |fail)
 refine(HDA.out _ B3.out).mono ?_;rintro e w4 ⟨xo,xm,yo,ym,rfl,D4,s4,k4⟩;have K4:=aZ k4;have D4:=aZ (⟨D4,s4⟩:_/\_);clear k4 s4 HDA C3
 go_wp2_with (first
  |((with_reducible show wpList _ _ _ _ _ _);refine St.aF xw rfl _ _ rl0 _ [.slice none 0 0, .slice none 0 0] [.slice xo n1 xm, .slice yo n1 ym] rl0 rl0 rfl rfl (nJ _ _ _ _ _ _) ?_;intro w5 n5 k5;have K5:=aZ (ae K4.out k5);have D5:=aZ (⟨D4.out.1.keep k5,D4.out.2.keep k5⟩:_/\_);have N5:=aZ n5;have B5:=aZ (ae B3.out K5.out);clear n5 k5 K4 D4)
  |fail)
 refine(HNum.out _ (HE.out.below B5.out)).mono ?_;rintro e w6 ⟨rfl,k6⟩;have K6:=aZ (ae K5.out k6);have D6:=aZ (⟨D5.out.1.keep k6,D5.out.2.keep k6⟩:_/\_);have N6:=aZ (ai.keep N5.out k6);have A6:=aZ (HS.out _ K6.out).2.2.2;have Q6:=aZ (⟨P3.out.1.keep K6.out,P3.out.2.keep K6.out⟩:_/\_);obtain⟨gA,hgA⟩: ∃ g,g=w4.heap.size:=⟨_,rfl⟩;rw [← hgA] at N6 ⊢;clear k6 D5 N5 K5 B5 HNum hgA P3;cases o1
 all_goals go_wp2_with (first
  |((with_reducible show wpList _ _ _ _ _ _);refine Ud.iG Gf _ (by with_reducible rfl) g7 _ rl0 A6.out rfl (by kernel_rfl) ?_)
  |((with_reducible show wpList _ _ _ _ _ _);refine Ud.iG xw _ (by with_reducible rfl) gA _ rl0 N6.out rfl (by kernel_rfl) ?_)
  |fail)
 all_goals refine(rQ ao xo bo yo n1 ac xm n1 bc ym Y Q z _ Q6.out.1 D6.out.1 Q6.out.2 D6.out.2).mono ?_
 all_goals rintro e w7 ⟨rfl,k7⟩
 all_goals have K7:=aZ (ae K6.out k7)
 all_goals have B7:=aZ (ae B3.out K7.out)
 all_goals have c0:w7.cell? ⟨w.heap.size+1,0,none⟩=some (.slice (some xa) l cm):=ai.cell (HS.out _ K7.out).2.1 (k:=0) rfl rfl
 all_goals clear k7 K6 D6 N6 A6 Q6
 all_goals have hl': ¬l=0:=om0
 all_goals have hl2:(0:Int)<l:=om0
 all_goals(
  have HU:Hid (∀ U,Below w7.heap.size w7 U->ai U w.heap.size 25 [.slice mo n mc, .slice ro q rc, .int .i64 fl]/\U.cell? ⟨w.heap.size+1,0,none⟩=some (.slice (some xa) l cm)/\U.cell? xa=some (.slice s0 6 s1)/\U.cell? (xa.add 1)=some (.slice s2 s3 s4)):=fun U k=>⟨(HS.out U (ae K7.out k)).1,ai.cell (HS.out U (ae K7.out k)).2.1 (k:=0) rfl rfl,ah (ae B7.out k) U0.out.1,ah (ae B7.out k) U0.out.2⟩;go_upto_region 9 with fail
  go_cut [13,14] (fun p f wx=> ∃ (g:Nat) (co:Option Addr) (cc:Nat) (eo:Option Addr) (ec:Nat),p= .pointer (some ⟨g,0,none⟩)/\f= .nilIface/\ai wx g 34 [.slice co n cc, .slice eo n ec]/\Pst wx co n cc (fun _=>X0) (fun _=>6) (fun _=>6) (fun _=>mz 6 6 S0)/\Sl wx eo n ec C0/\Below w7.heap.size w7 wx)
  case first=>
   refine Ru.aS [] (fun w'=>ai w' w.heap.size 25 [.slice mo n mc, .slice ro q rc, .int .i64 fl]/\w'.cell? ⟨w.heap.size+1,0,none⟩=some (.slice (some xa) l cm)/\w'.cell? xa=some (.slice s0 6 s1)/\w'.cell? (xa.add 1)=some (.slice s2 s3 s4)) (by kernel_rfl) (HU.out _ ((Vc.az _))) (fun hHeld=> ?_);refine Ru.tk 0 (.agg [.slice mo n mc, .slice ro q rc, .int .i64 fl].toArray) rfl (Ru.fF IY (by kernel_rfl) _ rl0 (w.heap.size) _ rl0 (fun w h=>h.1) rfl) hHeld ?_;refine Ru.tk4 2 (.pointer (some ⟨w.heap.size+1,0,none⟩)) hHeld ?_;refine Ru.tk4 3 (.slice (some xa) l cm) hHeld ?_;refine Ru.tk4 4 (.pointer (some xa)) hHeld ?_;refine Ru.tk 5 (.agg #[.slice s0 6 s1, .slice s2 s3 s4]) rfl (ve (by kernel_rfl) _ rl0 xa _ _ rl0 (fun w h=>h.2.2)) hHeld ?_;have D_:=Vc.az w7;refine Ru.rs [1,11] ?_
   repeat' (first
    |((with_reducible show Ru.dC _ _ _ _ _ _ _ _ _ _ _);first
     |refine Ru.sp ?_ ?_
     |(refine Ru.co1 (i:=1) (fun K hK=> ?_);go_simp;refine(GC.out _ (ae B7.out D_)).mono ?_;rintro e x_ ⟨vo,vm,rfl,cl,k_⟩;replace D_:=ae D_ k_;(try replace pp:=pp.keep k_);(try replace ss:=ss.keep k_);(try replace n_:=ai.keep n_ k_);go_wp2_with fail;refine Ru.hd hK (HU.out _ (D_)) (fun hHeld=> ?_);clear hK K;first|refine Ru.rz [6,11] ?_|refine Ru.rz [6] ?_)
     |(refine Ru.co1 (i:=6) (fun K hK=> ?_);go_simp;refine(GS.out _ (ae B7.out D_)).mono ?_;rintro e x_ ⟨rfl,k_⟩;replace D_:=ae D_ k_;(try replace cl:=cl.keep k_);(try replace pp:=pp.keep k_);(try replace ss:=ss.keep k_);(try replace n_:=ai.keep n_ k_);go_wp2_with fail;refine Ru.hd hK (HU.out _ (D_)) (fun hHeld=> ?_);clear hK K;first|refine Ru.rz [7,11] ?_|refine Ru.rz [7] ?_)
     |(refine Ru.co1 (i:=7) (fun K hK=> ?_);go_simp;refine(HSt.out _ _ _ cl).mono ?_;rintro e x_ ⟨co,cc,eo,ec,rfl,pp,ss,k_⟩;replace D_:=ae D_ k_;(try clear cl);(try replace cl:=cl.keep k_);(try replace n_:=ai.keep n_ k_);go_wp2_with fail;refine Ru.hd hK (HU.out _ (D_)) (fun hHeld=> ?_);clear hK K;refine Ru.tk4 8 (.tuple #[.agg #[.slice co n cc, .slice eo n ec], .nilIface]) hHeld ?_;refine Ru.tk4 9 (.agg #[.slice co n cc, .slice eo n ec]) hHeld ?_;refine Ru.tk4 10 (.nilIface) hHeld ?_;first|refine Ru.rz [11] ?_|skip)
     |(refine Ru.co1 (i:=11) (fun K hK=> ?_);go_simp;obtain⟨g_,x_,hg,hx,n_,l_,k_⟩:=made D_ 34 [.slice none 0 0, .slice none 0 0];(first|rw [← hx]|rw [show(w7.alloc (.cells [.slice none 0 0, .slice none 0 0].toArray 34)).drew=x_ from hx.symm]);(try rw [← hg]);(try rw [show w7.heap.size=g_ from hg.symm]);clear hg hx;replace D_:=ae D_ k_;(try replace cl:=cl.keep k_);(try replace pp:=pp.keep k_);(try replace ss:=ss.keep k_);refine Ru.hd hK (HU.out _ (D_)) (fun hHeld=> ?_);clear hK K;first|refine Ru.rz [7] ?_|refine Ru.rz [6] ?_|refine Ru.rz [1] ?_|skip))
    |as_aux_lemma=>(refine Ru.rd 12 (fun K hK=> ?_);refine Ru.kK Gf (by kernel_rfl) _ _ rl0 g_ _ ([.slice co n cc, .slice eo n ec]) rl0 rl0 n_ rfl rfl (nJ _ _ _ _ _ _) ?_;have nE:=ai.row n_ ([.slice co n cc, .slice eo n ec]);have bE:=St.aJ D_ (g:=g_) om0 ([.slice co n cc, .slice eo n ec]).toArray;refine Ru.hd hK (HU.out _ (bE)) (fun hHeld=> ?_);clear hK K;refine Ru.tk4 13 (.nilIface) hHeld ?_;refine Ru.bI (by kernel_rfl) ?_;go_wp2_with fail;go_meet;exact⟨_,_,_,_,_,rfl,rfl,nE,CQ n_ pp (Ud.gp _ (g_) ([.slice co n cc, .slice eo n ec]).toArray),En n_ ss (Ud.gp _ (g_) ([.slice co n cc, .slice eo n ec]).toArray),bE⟩))
  rename World=>w8;obtain⟨g13,co,cc,eo,ec,rfl,rfl,n8,p8,s8,k8⟩:=hcut;have K8:=aZ (ae K7.out k8);have B8:=aZ (ae B3.out K8.out);have HV:Hid (∀ U,Below w8.heap.size w8 U->ai U w.heap.size 25 [.slice mo n mc, .slice ro q rc, .int .i64 fl]/\U.cell? ⟨w.heap.size+1,0,none⟩=some (.slice (some xa) l cm)/\U.cell? xa=some (.slice s0 6 s1)/\U.cell? (xa.add 1)=some (.slice s2 s3 s4)/\ai U g13 34 [.slice co n cc, .slice eo n ec]):=fun U k=>⟨(HU.out U (ae k8 k)).1,(HU.out U (ae k8 k)).2.1,(HU.out U (ae k8 k)).2.2.1,(HU.out U (ae k8 k)).2.2.2,ai.keep n8 k⟩;have P8:=aZ (⟨p8,s8⟩:_/\_);have C8:=aZ (HS.out _ K8.out).1;clear n8 p8 s8 k8 c0 HU HSt GS
  go_wp2_with (first
   |((with_reducible show wpList _ _ _ _ _ _);refine Ud.iG IY _ (by with_reducible rfl) w.heap.size _ rl0 C8.out rfl (by kernel_rfl) ?_)
   |fail)
  refine(HDM.out _ B8.out).mono ?_;rintro e w9 ⟨rfl,k9⟩;have K9:=aZ (k9);have B9:=aZ (ae B8.out k9);clear k9 C8 HDM;have c9:w9.cell? ⟨w.heap.size+1,0,none⟩=some (.slice (some xa) l cm):=(HV.out _ K9.out).2.1;have v9:=aZ (⟨(HV.out _ K9.out).2.2.1,(HV.out _ K9.out).2.2.2.1⟩:_/\_)
  go_wp2_with (first
   |((with_reducible show wpList _ _ _ _ _ _);refine yH (by kernel_rfl) 60 _ (by with_reducible rfl) xa (.agg #[.slice s0 6 s1, .slice s2 s3 s4]) rl0 (rH _ _ _ _ v9.out.1 v9.out.2) ?_)
   |fail)
  refine(HDS.out _ B9.out).mono ?_;rintro e w10 ⟨rfl,k10⟩;have K10:=aZ (ae K9.out k10);have B10:=aZ (ae B9.out k10);clear k10 K9 B9 c9 v9 HDS;have HX:Hid (∀ U,Below w10.heap.size w10 U->ai U w.heap.size 25 [.slice mo n mc, .slice ro q rc, .int .i64 fl]/\U.cell? ⟨w.heap.size+1,0,none⟩=some (.slice (some xa) l cm)/\U.cell? xa=some (.slice s0 6 s1)/\U.cell? (xa.add 1)=some (.slice s2 s3 s4)/\ai U g13 34 [.slice co n cc, .slice eo n ec]):=fun U k=>HV.out U (ae K10.out k);have HP:Hid (∀ U,Below w10.heap.size w10 U->Pst U co n cc (fun _=>X0) (fun _=>6) (fun _=>6) (fun _=>mz 6 6 S0)/\Sl U eo n ec C0):=fun U k=>⟨P8.out.1.keep (ae K10.out k),P8.out.2.keep (ae K10.out k)⟩;clear HV P8;go_upto_region 12 with fail
  refine Ru.aS [] (fun w'=>ai w' w.heap.size 25 [.slice mo n mc, .slice ro q rc, .int .i64 fl]/\w'.cell? ⟨w.heap.size+1,0,none⟩=some (.slice (some xa) l cm)/\w'.cell? xa=some (.slice s0 6 s1)/\w'.cell? (xa.add 1)=some (.slice s2 s3 s4)/\ai w' g13 34 [.slice co n cc, .slice eo n ec]) (by kernel_rfl) (HX.out _ (Vc.az _)) (fun hHeld=> ?_);refine Ru.tk5 0 (.nilIface) hHeld ?_;refine Ru.tk5 1 (.bool true) hHeld ?_;refine Ru.tk5 2 (.bool true) hHeld ?_;refine Ru.tk 3 (.agg [.slice co n cc, .slice eo n ec].toArray) rfl (Ru.fF Gf (by kernel_rfl) _ rl0 (g13) _ rl0 (fun w h=>h.2.2.2.2) rfl) hHeld ?_;refine Ru.tk 4 (.agg [.slice mo n mc, .slice ro q rc, .int .i64 fl].toArray) rfl (Ru.fF IY (by kernel_rfl) _ rl0 (w.heap.size) _ rl0 (fun w h=>h.1) rfl) hHeld ?_;refine Ru.tk5 5 (.pointer (some ⟨w.heap.size+1,0,none⟩)) hHeld ?_;refine Ru.tk5 6 (.slice (some xa) l cm) hHeld ?_;refine Ru.tk5 7 (.pointer (some xa)) hHeld ?_;refine Ru.tk 8 (.agg #[.slice s0 6 s1, .slice s2 s3 s4]) rfl (ve (by kernel_rfl) _ rl0 xa _ _ rl0 (fun w h=>⟨h.2.2.1,h.2.2.2.1⟩)) hHeld ?_;refine Ru.rd 9 (fun K hK=> ?_);go_simp;refine(HDT.out _ (ae B10.out (Vc.az w10))).mono ?_;rintro _ r9 ⟨xo9,xm9,yo9,ym9,rfl,dd,ds,j1⟩;have D11:=ae (Vc.az w10) j1;go_wp2_with fail
  refine Ru.hd hK (HX.out _ D11) (fun hHeld=> ?_);clear hK K;refine Ru.rd 10 (fun K hK=> ?_);go_simp;refine(rQ co xo9 eo yo9 n cc xm9 n ec ym9 (fun _=>X0) (fun _=>S0) C0 _ (HP.out _ D11).1 dd (HP.out _ D11).2 ds).mono ?_;rintro _ r10 ⟨rfl,j2⟩;have D12:=ae D11 j2;go_wp2_with fail
  refine Ru.hd hK (HX.out _ D12) (fun hHeld=> ?_);clear hK K;refine Ru.tk5 11 (.bool true) hHeld ?_;refine Ru.tk5 12 (.bool true) hHeld ?_;refine Ru.rd 13 (fun K hK=> ?_);go_simp;refine(HSu.out _ (HT.out.below (ae B10.out D12))).mono ?_;rintro _ r13 ⟨rfl,j3⟩;have D13:=ae D12 j3;go_wp2_with fail
  refine Ru.hd hK (HX.out _ D13) (fun hHeld=> ?_);clear hK K;refine Ru.tk5 14 (.bool true) hHeld ?_;refine Ru.tk5 15 (.bool true) hHeld ?_;refine Ru.bI (by kernel_rfl) ?_;go_wp2;go_ret;exact⟨rfl,ae B10.out D13⟩
 )
end
section
open Go.RowKit Vc St Mt Cn Mx Im El Pd
attribute [local go_sem ↓] Go.wp_at_zero Go.wp_at_succ
theorem Yq{p:Prop}(h:p:=by
 refine Ru.aS [] (fun w'=>ai w' w.heap.size 25 [.slice mo n mc, .slice ro q rc, .int .i64 fl]/\ai w' (w.heap.size+1) 29 [.slice (some xa) l cm, .slice ho m hc]/\ai w' (w.heap.size+1+1) 67 (Ud.pv x y a b c)) (by kernel_rfl) (HS1.out _ ((Vc.az _))) (fun hHeld=> ?_);refine Ru.tk 0 (.agg [.slice mo n mc, .slice ro q rc, .int .i64 fl].toArray) rfl (Ru.fF IY (by kernel_rfl) _ rl0 (w.heap.size) _ rl0 (fun w h=>h.1) rfl) hHeld ?_;refine Ru.tk 2 (.agg [.slice (some xa) l cm, .slice ho m hc].toArray) rfl (Ru.fF xw (by kernel_rfl) _ rl0 (w.heap.size+1) _ rl0 (fun w h=>h.2.1) rfl) hHeld ?_;refine Ru.tk 4 (.agg (Ud.pv x y a b c).toArray) rfl (Ru.fF Ud.qm (by kernel_rfl) _ rl0 (w.heap.size+1+1) _ rl0 (fun w h=>h.2.2) rfl) hHeld ?_;have D_:=Vc.az w1;refine Ru.rs [1,10] ?_
 repeat' (first
  |((with_reducible show Ru.dC _ _ _ _ _ _ _ _ _ _ _);first
   |refine Ru.sp ?_ ?_
   |(refine Ru.co1 (i:=1) (fun K hK=> ?_);go_simp;refine(GC.out _ (ae B1.out D_)).mono ?_;rintro e x_ ⟨vo,vm,rfl,cl,k_⟩;replace D_:=ae D_ k_;(try replace ml:=ml.keep k_);(try replace pp:=pp.keep k_);(try replace ss:=ss.keep k_);(try replace n_:=ai.keep n_ k_);go_wp2_with fail;refine Ru.hd hK (HS1.out _ (D_)) (fun hHeld=> ?_);clear hK K;first|refine Ru.rz [3,10] ?_|refine Ru.rz [3] ?_)
   |(refine Ru.co1 (i:=3) (fun K hK=> ?_);go_simp;refine(GI.out _ (ae B1.out D_)).mono ?_;rintro e x_ ⟨uo,um,rfl,ml,k_⟩;replace D_:=ae D_ k_;(try replace cl:=cl.keep k_);(try replace pp:=pp.keep k_);(try replace ss:=ss.keep k_);(try replace n_:=ai.keep n_ k_);go_wp2_with fail;refine Ru.hd hK (HS1.out _ (D_)) (fun hHeld=> ?_);clear hK K;first|refine Ru.rz [5,10] ?_|refine Ru.rz [5] ?_)
   |(refine Ru.co1 (i:=5) (fun K hK=> ?_);go_simp;refine(HAh.out _ _ _ _ _ cl ml).mono ?_;rintro e x_ ⟨ao,ac,bo,bc,rfl,pp,ss,k_⟩;replace D_:=ae D_ k_;(try clear cl);(try clear ml);(try replace cl:=cl.keep k_);(try replace ml:=ml.keep k_);(try replace n_:=ai.keep n_ k_);go_wp2_with fail;refine Ru.hd hK (HS1.out _ (D_)) (fun hHeld=> ?_);clear hK K;refine Ru.tk3 6 (.tuple #[.agg #[.slice ao n1 ac, .slice bo n1 bc], .bool o1,ev]) hHeld ?_;refine Ru.tk3 7 (.agg #[.slice ao n1 ac, .slice bo n1 bc]) hHeld ?_;refine Ru.tk3 8 (.bool o1) hHeld ?_;refine Ru.tk3 9 ev hHeld ?_;first|refine Ru.rz [10] ?_|skip)
   |(refine Ru.co1 (i:=10) (fun K hK=> ?_);go_simp;obtain⟨g_,x_,hg,hx,n_,l_,k_⟩:=made D_ 34 [.slice none 0 0, .slice none 0 0];(first|rw [← hx]|rw [show(w1.alloc (.cells [.slice none 0 0, .slice none 0 0].toArray 34)).drew=x_ from hx.symm]);(try rw [← hg]);(try rw [show w1.heap.size=g_ from hg.symm]);clear hg hx;replace D_:=ae D_ k_;(try replace cl:=cl.keep k_);(try replace ml:=ml.keep k_);(try replace pp:=pp.keep k_);(try replace ss:=ss.keep k_);refine Ru.hd hK (HS1.out _ (D_)) (fun hHeld=> ?_);clear hK K;first|refine Ru.rz [5] ?_|refine Ru.rz [3] ?_|refine Ru.rz [1] ?_|skip))
  |as_aux_lemma=>(refine Ru.rd 11 (fun K hK=> ?_);refine Ru.kK Gf (by kernel_rfl) _ _ rl0 g_ _ ([.slice ao n1 ac, .slice bo n1 bc]) rl0 rl0 n_ rfl rfl (nJ _ _ _ _ _ _) ?_;have nE:=ai.row n_ ([.slice ao n1 ac, .slice bo n1 bc]);have bE:=St.aJ D_ (g:=g_) om0 ([.slice ao n1 ac, .slice bo n1 bc]).toArray;refine Ru.hd hK (HS1.out _ (bE)) (fun hHeld=> ?_);clear hK K;refine Ru.tk3 12 (.bool o1) hHeld ?_;refine Ru.tk3 13 ev hHeld ?_;refine Ru.bI (by kernel_rfl) ?_;go_wp2_with fail;go_meet;exact⟨_,_,_,_,_,rfl,rfl,rfl,nE,CQ n_ pp (Ud.gp _ (g_) ([.slice ao n1 ac, .slice bo n1 bc]).toArray),En n_ ss (Ud.gp _ (g_) ([.slice ao n1 ac, .slice bo n1 bc]).toArray),bE⟩))):p:=h
theorem Yr{p:Prop}(h:p:=by
 refine Ru.aS [] (fun w'=>ai w' w.heap.size 25 [.slice mo n mc, .slice ro q rc, .int .i64 fl]/\w'.cell? ⟨w.heap.size+1,0,none⟩=some (.slice (some xa) l cm)/\w'.cell? xa=some (.slice s0 6 s1)/\w'.cell? (xa.add 1)=some (.slice s2 s3 s4)) (by kernel_rfl) (HU.out _ ((Vc.az _))) (fun hHeld=> ?_);refine Ru.tk 0 (.agg [.slice mo n mc, .slice ro q rc, .int .i64 fl].toArray) rfl (Ru.fF IY (by kernel_rfl) _ rl0 (w.heap.size) _ rl0 (fun w h=>h.1) rfl) hHeld ?_;refine Ru.tk4 2 (.pointer (some ⟨w.heap.size+1,0,none⟩)) hHeld ?_;refine Ru.tk4 3 (.slice (some xa) l cm) hHeld ?_;refine Ru.tk4 4 (.pointer (some xa)) hHeld ?_;refine Ru.tk 5 (.agg #[.slice s0 6 s1, .slice s2 s3 s4]) rfl (ve (by kernel_rfl) _ rl0 xa _ _ rl0 (fun w h=>h.2.2)) hHeld ?_;have D_:=Vc.az w7;refine Ru.rs [1,11] ?_
 repeat' (first
  |((with_reducible show Ru.dC _ _ _ _ _ _ _ _ _ _ _);first
   |refine Ru.sp ?_ ?_
   |(refine Ru.co1 (i:=1) (fun K hK=> ?_);go_simp;refine(GC.out _ (ae B7.out D_)).mono ?_;rintro e x_ ⟨vo,vm,rfl,cl,k_⟩;replace D_:=ae D_ k_;(try replace pp:=pp.keep k_);(try replace ss:=ss.keep k_);(try replace n_:=ai.keep n_ k_);go_wp2_with fail;refine Ru.hd hK (HU.out _ (D_)) (fun hHeld=> ?_);clear hK K;first|refine Ru.rz [6,11] ?_|refine Ru.rz [6] ?_)
   |(refine Ru.co1 (i:=6) (fun K hK=> ?_);go_simp;refine(GS.out _ (ae B7.out D_)).mono ?_;rintro e x_ ⟨rfl,k_⟩;replace D_:=ae D_ k_;(try replace cl:=cl.keep k_);(try replace pp:=pp.keep k_);(try replace ss:=ss.keep k_);(try replace n_:=ai.keep n_ k_);go_wp2_with fail;refine Ru.hd hK (HU.out _ (D_)) (fun hHeld=> ?_);clear hK K;first|refine Ru.rz [7,11] ?_|refine Ru.rz [7] ?_)
   |(refine Ru.co1 (i:=7) (fun K hK=> ?_);go_simp;refine(HSt.out _ _ _ cl).mono ?_;rintro e x_ ⟨co,cc,eo,ec,rfl,pp,ss,k_⟩;replace D_:=ae D_ k_;(try clear cl);(try replace cl:=cl.keep k_);(try replace n_:=ai.keep n_ k_);go_wp2_with fail;refine Ru.hd hK (HU.out _ (D_)) (fun hHeld=> ?_);clear hK K;refine Ru.tk4 8 (.tuple #[.agg #[.slice co 0 cc, .slice eo 0 ec], .iface 93 (.int .i64 1)]) hHeld ?_;refine Ru.tk4 9 (.agg #[.slice co 0 cc, .slice eo 0 ec]) hHeld ?_;refine Ru.tk4 10 (.iface 93 (.int .i64 1)) hHeld ?_;first|refine Ru.rz [11] ?_|skip)
   |(refine Ru.co1 (i:=11) (fun K hK=> ?_);go_simp;obtain⟨g_,x_,hg,hx,n_,l_,k_⟩:=made D_ 34 [.slice none 0 0, .slice none 0 0];(first|rw [← hx]|rw [show(w7.alloc (.cells [.slice none 0 0, .slice none 0 0].toArray 34)).drew=x_ from hx.symm]);(try rw [← hg]);(try rw [show w7.heap.size=g_ from hg.symm]);clear hg hx;replace D_:=ae D_ k_;(try replace cl:=cl.keep k_);(try replace pp:=pp.keep k_);(try replace ss:=ss.keep k_);refine Ru.hd hK (HU.out _ (D_)) (fun hHeld=> ?_);clear hK K;first|refine Ru.rz [7] ?_|refine Ru.rz [6] ?_|refine Ru.rz [1] ?_|skip))
  |as_aux_lemma=>(refine Ru.rd 12 (fun K hK=> ?_);refine Ru.kK Gf (by kernel_rfl) _ _ rl0 g_ _ ([.slice co 0 cc, .slice eo 0 ec]) rl0 rl0 n_ rfl rfl (nJ _ _ _ _ _ _) ?_;have nE:=ai.row n_ ([.slice co 0 cc, .slice eo 0 ec]);have bE:=St.aJ D_ (g:=g_) om0 ([.slice co 0 cc, .slice eo 0 ec]).toArray;refine Ru.hd hK (HU.out _ (bE)) (fun hHeld=> ?_);clear hK K;refine Ru.tk4 13 (.iface 93 (.int .i64 1)) hHeld ?_;refine Ru.bI (by kernel_rfl) ?_;go_wp2_with fail;go_meet;exact⟨_,_,_,_,_,rfl,rfl,nE,CQ n_ pp (Ud.gp _ (g_) ([.slice co 0 cc, .slice eo 0 ec]).toArray),En n_ ss (Ud.gp _ (g_) ([.slice co 0 cc, .slice eo 0 ec]).toArray),bE⟩))):p:=h
theorem Yt{p:Prop}(h:p:=by
 have AA:=aZ (HV.out _ KA.out).2.2.2.2
 go_wp2_with (first
  |((with_reducible show wpList _ _ _ _ _ _);refine Ud.iG Gf _ (by with_reducible rfl) g13 _ rl0 AA.out rfl (by kernel_rfl) ?_)
  |fail)
 refine(HSm.out _ co none eo none 0 cc 0 0 ec 0 (fun _=>X0) (fun _=>6) (fun _=>6) (fun _=>mz 6 6 S0) C0 (P8.out.1.keep KA.out) (Pst.nil _ _ _ _ _) (P8.out.2.keep KA.out) (Sl.none _ _)).mono ?_;rintro e wB ⟨rfl,kB⟩;have BB:=aZ (ae BA.out kB);clear kB BA AA;go_wp2_with fail
 refine(HSu.out _ (HT.out.below BB.out)).mono ?_;rintro e wC ⟨rfl,kC⟩;have BC:=ae BB.out kC;clear kC;go_wp2;go_ret
 exact⟨rfl,BC⟩):p:=h
theorem UI(P:Im.WE)(CO:Option Addr->Nat->Im.Co)(MS:Option Addr->Nat->Im.Ms)(mo ro ho:Option Addr)(xa:Addr)(n mc q rc l cm m hc n1:Nat)(fl x y a b c f1:Int)(o1:Bool)(ev:Value)(Y:Nat->Nat->Int)(Q:Nat->Nat->Nat->Int)(z:Nat->Int)(w:World)
 (hE:lV w) (hT:iM w) (hn:n<=10) (hl:0<l)
 (hZ: ∀ W,Below w.heap.size w W->Calls Tryz.prog 6 #[.slice (some xa) l cm] W fun e w'=>e= .returned (.bool true)/\Below W.heap.size W w')
 (hGC: ∀ W,Below w.heap.size w W->Calls Tryz.prog 9 #[.agg #[.slice mo n mc, .slice ro q rc, .int .i64 fl]] W fun e w'=> ∃ vo vm,e= .returned (.agg #[.slice vo n vm, .slice ro q rc, .int .i64 fl])/\(CO vo vm).Lies w'/\Below W.heap.size W w')
 (hGI: ∀ W,Below w.heap.size w W->Calls Tryz.prog 10 #[.agg #[.slice (some xa) l cm, .slice ho m hc]] W fun e w'=> ∃ uo um,e= .returned (.agg #[.slice uo l um, .slice ho m hc])/\(MS uo um).Lies w'/\Below W.heap.size W w')
 (hAh: ∀ W vo vm uo um,(CO vo vm).Lies W->(MS uo um).Lies W->Calls Tryz.prog 21 #[.agg #[.slice vo n vm, .slice ro q rc, .int .i64 fl], .agg #[.slice uo l um, .slice ho m hc], .agg (Ud.pv x y a b c).toArray] W fun e w'=> ∃ ao ac bo bc,e= .returned (.tuple #[.agg #[.slice ao n1 ac, .slice bo n1 bc], .bool o1,ev])/\Pst w' ao n1 ac Y (fun _=>6) (fun _=>6) (fun k=>mz 6 6 (Q k))/\Sl w' bo n1 bc z/\Below W.heap.size W w')
 (hDA: ∀ W,Below w.heap.size w W->Calls Tryz.prog 22 #[.agg #[.slice mo n mc, .slice ro q rc, .int .i64 fl], .agg #[.slice (some xa) l cm, .slice ho m hc], .agg (Ud.pv x y a b c).toArray] W fun e w'=> ∃ xo xm yo ym,e= .returned (.tuple #[.agg #[.slice xo n1 xm, .slice yo n1 ym], .bool o1, .int .i64 f1])/\Dls w' xo n1 xm Y Q/\Sl w' yo n1 ym z/\Below W.heap.size W w')
 (hNum: ∀ W,lV W->Calls Tryz.prog 14 #[ev] W fun e w'=>e= .returned (.int .i64 f1)/\Below W.heap.size W w')
 (s0 s2:Option Addr) (s1 s3 s4:Nat) (X0 z0:Nat->Int) (r0 q0:Int) (S0:Nat->Nat->Int) (C0:Nat->Int) (hcm:l<=cm) (hcM:cm<=9223372036854775807)
 (h0:w.cell? xa=some (.slice s0 6 s1)/\w.cell? (xa.add 1)=some (.slice s2 s3 s4))
 (hGS: ∀ W,Below w.heap.size w W->Calls Tryz.prog 24 #[.agg #[.slice s0 6 s1, .slice s2 s3 s4]] W fun e w'=>e= .returned (.agg (aB X0 r0 q0 z0).toArray)/\Below W.heap.size W w')
 (hSt: ∀ W vo vm,(CO vo vm).Lies W->Calls Tryz.prog 23 #[.agg #[.slice vo n vm, .slice ro q rc, .int .i64 fl], .agg (aB X0 r0 q0 z0).toArray] W fun e w'=> ∃ ao ac bo bc,e= .returned (.tuple #[.agg #[.slice ao 0 ac, .slice bo 0 bc], .iface 93 (.int .i64 1)])/\Pst w' ao 0 ac (fun _=>X0) (fun _=>6) (fun _=>6) (fun _=>mz 6 6 S0)/\Sl w' bo 0 bc C0/\Below W.heap.size W w')
 (hDM: ∀ W,Below w.heap.size w W->Calls Tryz.prog 13 #[.agg #[.slice mo n mc, .slice ro q rc, .int .i64 fl]] W fun e w'=>e= .returned (.bool false)/\Below W.heap.size W w'):
 Calls Tryz.prog 4 #[.agg #[.slice mo n mc, .slice ro q rc, .int .i64 fl], .agg #[.slice (some xa) l cm, .slice ho m hc], .agg (Ud.pv x y a b c).toArray] w fun e w'=>e= .returned (.bool true)/\Below w.heap.size w w':=by
 have m0:=((aH w 25 [.slice mo n mc, .slice ro q rc, .int .i64 fl]).alloc (.cells [.slice (some xa) l cm, .slice ho m hc].toArray 29)).alloc (.cells (Ud.pv x y a b c).toArray 67);have m1:=(bU w (.cells [.slice mo n mc, .slice ro q rc, .int .i64 fl].toArray 25) 29 [.slice (some xa) l cm, .slice ho m hc]).alloc (.cells (Ud.pv x y a b c).toArray 67);have m2:=dH w (.cells [.slice mo n mc, .slice ro q rc, .int .i64 fl].toArray 25) (.cells [.slice (some xa) l cm, .slice ho m hc].toArray 29) 67 (Ud.pv x y a b c);have B0:Below w.heap.size w (((w.alloc (.cells [.slice mo n mc, .slice ro q rc, .int .i64 fl].toArray 25)).alloc (.cells [.slice (some xa) l cm, .slice ho m hc].toArray 29)).alloc (.cells (Ud.pv x y a b c).toArray 67)):=af (af (af (Below.refl _ _) _) _) _;obtain⟨W,hW⟩: ∃ W,W=((w.alloc (.cells [.slice mo n mc, .slice ro q rc, .int .i64 fl].toArray 25)).alloc (.cells [.slice (some xa) l cm, .slice ho m hc].toArray 29)).alloc (.cells (Ud.pv x y a b c).toArray 67):=⟨_,rfl⟩;rw [← hW] at m0 m1 m2 B0;have HW:=aZ hW;have HB0:=aZ B0;have HE:=aZ hE;have HT:=aZ hT;have HZ:=aZ (hZ W B0);have GC:=aZ hGC;have GI:=aZ hGI;have HAh:=aZ hAh;have HDA:=aZ hDA;have HNum:=aZ hNum;have GS:=aZ hGS;have HSt:=aZ hSt;have HDM:=aZ hDM;have U0:=aZ h0;have HSm:=aZ P.same;have HSu:=aZ (rU P);have d0:W.cell? ⟨w.heap.size+1,0,none⟩=some (.slice (some xa) l cm):=ai.cell m1 (k:=0) rfl rfl;have i0: ¬10<(n:Int):=om0;have HS3:Hid (∀ U,Below W.heap.size W U->ai U w.heap.size 25 [.slice mo n mc, .slice ro q rc, .int .i64 fl]/\ai U (w.heap.size+1) 29 [.slice (some xa) l cm, .slice ho m hc]/\ai U (w.heap.size+1+1) 67 (Ud.pv x y a b c)):=fun U k=>⟨ai.keep m0 k,ai.keep m1 k,ai.keep m2 k⟩;clear hW m0 m1 m2 B0 hE hT hZ hGC hGI hAh hDA hNum hGS hSt hDM h0;go_enter Tryz.func4,Tryz.ntmps4
 go_wp2_with (first|(rw [← HW.out])|fail)
 refine(HZ.out).mono ?_;rintro e w1 ⟨rfl,k1⟩;have K1:=aZ k1;have d1:w1.cell? ⟨w.heap.size,0,none⟩=some (.slice mo n mc):=ai.cell (HS3.out _ k1).1 (k:=0) rfl rfl;have HS1:Hid (∀ U,Below w1.heap.size w1 U->ai U w.heap.size 25 [.slice mo n mc, .slice ro q rc, .int .i64 fl]/\ai U (w.heap.size+1) 29 [.slice (some xa) l cm, .slice ho m hc]/\ai U (w.heap.size+1+1) 67 (Ud.pv x y a b c)):=fun U k=>HS3.out U (ae K1.out k);have B1:=aZ (ae HB0.out k1);have lw:w.heap.size+1+1<w1.heap.size:=by have:=ai.lt (HS3.out _ k1).2.2;omega
 clear k1 d0 HW HZ;go_upto_region 3 with fail
 go_cut [7,8,9] (fun p o f wx=> ∃ (g:Nat) (ao:Option Addr) (ac:Nat) (bo:Option Addr) (bc:Nat),p= .pointer (some ⟨g,0,none⟩)/\o= .bool o1/\f=ev/\ai wx g 34 [.slice ao n1 ac, .slice bo n1 bc]/\Pst wx ao n1 ac Y (fun _=>6) (fun _=>6) (fun k=>mz 6 6 (Q k))/\Sl wx bo n1 bc z/\Below w1.heap.size w1 wx)
 case first=>
  exact Yq
 rename World=>w3;obtain⟨g7,ao,ac,bo,bc,rfl,rfl,rfl,n3,p3,s3,k3⟩:=hcut;have B3:=aZ (ae B1.out k3);have HS:Hid (∀ U,Below w3.heap.size w3 U->ai U w.heap.size 25 [.slice mo n mc, .slice ro q rc, .int .i64 fl]/\ai U (w.heap.size+1) 29 [.slice (some xa) l cm, .slice ho m hc]/\ai U (w.heap.size+1+1) 67 (Ud.pv x y a b c)/\ai U g7 34 [.slice ao n1 ac, .slice bo n1 bc]):=fun U k=>⟨(HS1.out U (ae k3 k)).1,(HS1.out U (ae k3 k)).2.1,(HS1.out U (ae k3 k)).2.2,ai.keep n3 k⟩;have C3:=aZ (HS.out _ (Below.refl _ _));have P3:=aZ (⟨p3,s3⟩:_/\_);clear n3 p3 s3 k3 d1 HAh HS1 HS3 K1 B1
 go_wp2_with (first
  |((with_reducible show wpList _ _ _ _ _ _);refine Ud.iG IY _ (by with_reducible rfl) w.heap.size _ rl0 C3.out.1 rfl (by kernel_rfl) ?_)
  |((with_reducible show wpList _ _ _ _ _ _);refine Ud.iG xw _ (by with_reducible rfl) (w.heap.size+1) _ rl0 C3.out.2.1 rfl (by kernel_rfl) ?_)
  |((with_reducible show wpList _ _ _ _ _ _);refine Ud.iG Ud.qm _ (by with_reducible rfl) (w.heap.size+1+1) _ rl0 C3.out.2.2.1 rfl (by kernel_rfl) ?_)
  |fail)
 refine(HDA.out _ B3.out).mono ?_;rintro e w4 ⟨xo,xm,yo,ym,rfl,D4,s4,k4⟩;have K4:=aZ k4;have D4:=aZ (⟨D4,s4⟩:_/\_);clear k4 s4 HDA C3
 go_wp2_with (first
  |((with_reducible show wpList _ _ _ _ _ _);refine St.aF xw rfl _ _ rl0 _ [.slice none 0 0, .slice none 0 0] [.slice xo n1 xm, .slice yo n1 ym] rl0 rl0 rfl rfl (nJ _ _ _ _ _ _) ?_;intro w5 n5 k5;have K5:=aZ (ae K4.out k5);have D5:=aZ (⟨D4.out.1.keep k5,D4.out.2.keep k5⟩:_/\_);have N5:=aZ n5;have B5:=aZ (ae B3.out K5.out);clear n5 k5 K4 D4)
  |fail)
 refine(HNum.out _ (HE.out.below B5.out)).mono ?_;rintro e w6 ⟨rfl,k6⟩;have K6:=aZ (ae K5.out k6);have D6:=aZ (⟨D5.out.1.keep k6,D5.out.2.keep k6⟩:_/\_);have N6:=aZ (ai.keep N5.out k6);have A6:=aZ (HS.out _ K6.out).2.2.2;have Q6:=aZ (⟨P3.out.1.keep K6.out,P3.out.2.keep K6.out⟩:_/\_);obtain⟨gA,hgA⟩: ∃ g,g=w4.heap.size:=⟨_,rfl⟩;rw [← hgA] at N6 ⊢;clear k6 D5 N5 K5 B5 HNum hgA P3;cases o1
 all_goals go_wp2_with (first
  |((with_reducible show wpList _ _ _ _ _ _);refine Ud.iG Gf _ (by with_reducible rfl) g7 _ rl0 A6.out rfl (by kernel_rfl) ?_)
  |((with_reducible show wpList _ _ _ _ _ _);refine Ud.iG xw _ (by with_reducible rfl) gA _ rl0 N6.out rfl (by kernel_rfl) ?_)
  |fail)
 all_goals refine(rQ ao xo bo yo n1 ac xm n1 bc ym Y Q z _ Q6.out.1 D6.out.1 Q6.out.2 D6.out.2).mono ?_
 all_goals rintro e w7 ⟨rfl,k7⟩
 all_goals have K7:=aZ (ae K6.out k7)
 all_goals have B7:=aZ (ae B3.out K7.out)
 all_goals have c0:w7.cell? ⟨w.heap.size+1,0,none⟩=some (.slice (some xa) l cm):=ai.cell (HS.out _ K7.out).2.1 (k:=0) rfl rfl
 all_goals clear k7 K6 D6 N6 A6 Q6
 all_goals have hl': ¬l=0:=om0
 all_goals have hl2:(0:Int)<l:=om0
 all_goals(
  have HU:Hid (∀ U,Below w7.heap.size w7 U->ai U w.heap.size 25 [.slice mo n mc, .slice ro q rc, .int .i64 fl]/\U.cell? ⟨w.heap.size+1,0,none⟩=some (.slice (some xa) l cm)/\U.cell? xa=some (.slice s0 6 s1)/\U.cell? (xa.add 1)=some (.slice s2 s3 s4)):=fun U k=>⟨(HS.out U (ae K7.out k)).1,ai.cell (HS.out U (ae K7.out k)).2.1 (k:=0) rfl rfl,ah (ae B7.out k) U0.out.1,ah (ae B7.out k) U0.out.2⟩;go_upto_region 9 with fail
  go_cut [13,14] (fun p f wx=> ∃ (g:Nat) (co:Option Addr) (cc:Nat) (eo:Option Addr) (ec:Nat),p= .pointer (some ⟨g,0,none⟩)/\f= .iface 93 (.int .i64 1)/\ai wx g 34 [.slice co 0 cc, .slice eo 0 ec]/\Pst wx co 0 cc (fun _=>X0) (fun _=>6) (fun _=>6) (fun _=>mz 6 6 S0)/\Sl wx eo 0 ec C0/\Below w7.heap.size w7 wx)
  case first=>
   exact Yr
  rename World=>w8;obtain⟨g13,co,cc,eo,ec,rfl,rfl,n8,p8,s8,k8⟩:=hcut;have K8:=aZ (ae K7.out k8);have B8:=aZ (ae B3.out K8.out);have HV:Hid (∀ U,Below w8.heap.size w8 U->ai U w.heap.size 25 [.slice mo n mc, .slice ro q rc, .int .i64 fl]/\U.cell? ⟨w.heap.size+1,0,none⟩=some (.slice (some xa) l cm)/\U.cell? xa=some (.slice s0 6 s1)/\U.cell? (xa.add 1)=some (.slice s2 s3 s4)/\ai U g13 34 [.slice co 0 cc, .slice eo 0 ec]):=fun U k=>⟨(HU.out U (ae k8 k)).1,(HU.out U (ae k8 k)).2.1,(HU.out U (ae k8 k)).2.2.1,(HU.out U (ae k8 k)).2.2.2,ai.keep n8 k⟩;have P8:=aZ (⟨p8,s8⟩:_/\_);have C8:=aZ (HS.out _ K8.out).1;clear n8 p8 s8 k8 c0 HU HSt GS
  go_wp2_with (first
   |((with_reducible show wpList _ _ _ _ _ _);refine Ud.iG IY _ (by with_reducible rfl) w.heap.size _ rl0 C8.out rfl (by kernel_rfl) ?_)
   |fail)
  refine(HDM.out _ B8.out).mono ?_;rintro e w9 ⟨rfl,k9⟩;have K9:=aZ (k9);have B9:=aZ (ae B8.out k9);clear k9 C8 HDM;go_wp2_with fail
  refine(BZ 1 _ (HE.out.below B9.out)).mono ?_;rintro e wA ⟨rfl,kA⟩;have KA:=aZ (ae K9.out kA);have BA:=aZ (ae B9.out kA);clear kA K9 B9;exact Yt
 )
theorem UJ(P:Im.WE)(CO:Option Addr->Nat->Im.Co)(MS:Option Addr->Nat->Im.Ms)(mo ro ho:Option Addr)(xa:Addr)(n mc q rc l cm m hc n1:Nat)(fl x y a b c f1:Int)(o1:Bool)(ev:Value)(Y:Nat->Nat->Int)(Q:Nat->Nat->Nat->Int)(z:Nat->Int)(w:World)
 (hE:lV w) (hT:iM w) (hn:n<=10) (hl:0<l)
 (hZ: ∀ W,Below w.heap.size w W->Calls Tryz.prog 6 #[.slice (some xa) l cm] W fun e w'=>e= .returned (.bool true)/\Below W.heap.size W w')
 (hGC: ∀ W,Below w.heap.size w W->Calls Tryz.prog 9 #[.agg #[.slice mo n mc, .slice ro q rc, .int .i64 fl]] W fun e w'=> ∃ vo vm,e= .returned (.agg #[.slice vo n vm, .slice ro q rc, .int .i64 fl])/\(CO vo vm).Lies w'/\Below W.heap.size W w')
 (hGI: ∀ W,Below w.heap.size w W->Calls Tryz.prog 10 #[.agg #[.slice (some xa) l cm, .slice ho m hc]] W fun e w'=> ∃ uo um,e= .returned (.agg #[.slice uo l um, .slice ho m hc])/\(MS uo um).Lies w'/\Below W.heap.size W w')
 (hAh: ∀ W vo vm uo um,(CO vo vm).Lies W->(MS uo um).Lies W->Calls Tryz.prog 21 #[.agg #[.slice vo n vm, .slice ro q rc, .int .i64 fl], .agg #[.slice uo l um, .slice ho m hc], .agg (Ud.pv x y a b c).toArray] W fun e w'=> ∃ ao ac bo bc,e= .returned (.tuple #[.agg #[.slice ao n1 ac, .slice bo n1 bc], .bool o1,ev])/\Pst w' ao n1 ac Y (fun _=>6) (fun _=>6) (fun k=>mz 6 6 (Q k))/\Sl w' bo n1 bc z/\Below W.heap.size W w')
 (hDA: ∀ W,Below w.heap.size w W->Calls Tryz.prog 22 #[.agg #[.slice mo n mc, .slice ro q rc, .int .i64 fl], .agg #[.slice (some xa) l cm, .slice ho m hc], .agg (Ud.pv x y a b c).toArray] W fun e w'=> ∃ xo xm yo ym,e= .returned (.tuple #[.agg #[.slice xo n1 xm, .slice yo n1 ym], .bool o1, .int .i64 f1])/\Dls w' xo n1 xm Y Q/\Sl w' yo n1 ym z/\Below W.heap.size W w')
 (hNum: ∀ W,lV W->Calls Tryz.prog 14 #[ev] W fun e w'=>e= .returned (.int .i64 f1)/\Below W.heap.size W w')
 (s0 s2:Option Addr) (s1 s3 s4:Nat) (X0 z0:Nat->Int) (r0 q0:Int) (S0:Nat->Nat->Int) (C0:Nat->Int) (hcm:l<=cm) (hcM:cm<=9223372036854775807)
 (h0:w.cell? xa=some (.slice s0 6 s1)/\w.cell? (xa.add 1)=some (.slice s2 s3 s4))
 (hGS: ∀ W,Below w.heap.size w W->Calls Tryz.prog 24 #[.agg #[.slice s0 6 s1, .slice s2 s3 s4]] W fun e w'=>e= .returned (.agg (aB X0 r0 q0 z0).toArray)/\Below W.heap.size W w')
 (hSt: ∀ W vo vm,(CO vo vm).Lies W->Calls Tryz.prog 23 #[.agg #[.slice vo n vm, .slice ro q rc, .int .i64 fl], .agg (aB X0 r0 q0 z0).toArray] W fun e w'=> ∃ ao ac bo bc,e= .returned (.tuple #[.agg #[.slice ao 0 ac, .slice bo 0 bc], .iface 93 (.int .i64 1)])/\Pst w' ao 0 ac (fun _=>X0) (fun _=>6) (fun _=>6) (fun _=>mz 6 6 S0)/\Sl w' bo 0 bc C0/\Below W.heap.size W w')
 (hDM: ∀ W,Below w.heap.size w W->Calls Tryz.prog 13 #[.agg #[.slice mo n mc, .slice ro q rc, .int .i64 fl]] W fun e w'=>e= .returned (.bool true)/\Below W.heap.size W w')
 (hDS: ∀ W,Below w.heap.size w W->Calls Tryz.prog 25 #[.agg #[.slice s0 6 s1, .slice s2 s3 s4]] W fun e w'=>e= .returned (.bool false)/\Below W.heap.size W w'):
 Calls Tryz.prog 4 #[.agg #[.slice mo n mc, .slice ro q rc, .int .i64 fl], .agg #[.slice (some xa) l cm, .slice ho m hc], .agg (Ud.pv x y a b c).toArray] w fun e w'=>e= .returned (.bool true)/\Below w.heap.size w w':=by
 have m0:=((aH w 25 [.slice mo n mc, .slice ro q rc, .int .i64 fl]).alloc (.cells [.slice (some xa) l cm, .slice ho m hc].toArray 29)).alloc (.cells (Ud.pv x y a b c).toArray 67);have m1:=(bU w (.cells [.slice mo n mc, .slice ro q rc, .int .i64 fl].toArray 25) 29 [.slice (some xa) l cm, .slice ho m hc]).alloc (.cells (Ud.pv x y a b c).toArray 67);have m2:=dH w (.cells [.slice mo n mc, .slice ro q rc, .int .i64 fl].toArray 25) (.cells [.slice (some xa) l cm, .slice ho m hc].toArray 29) 67 (Ud.pv x y a b c);have B0:Below w.heap.size w (((w.alloc (.cells [.slice mo n mc, .slice ro q rc, .int .i64 fl].toArray 25)).alloc (.cells [.slice (some xa) l cm, .slice ho m hc].toArray 29)).alloc (.cells (Ud.pv x y a b c).toArray 67)):=af (af (af (Below.refl _ _) _) _) _;obtain⟨W,hW⟩: ∃ W,W=((w.alloc (.cells [.slice mo n mc, .slice ro q rc, .int .i64 fl].toArray 25)).alloc (.cells [.slice (some xa) l cm, .slice ho m hc].toArray 29)).alloc (.cells (Ud.pv x y a b c).toArray 67):=⟨_,rfl⟩;rw [← hW] at m0 m1 m2 B0;have HW:=aZ hW;have HB0:=aZ B0;have HE:=aZ hE;have HT:=aZ hT;have HZ:=aZ (hZ W B0);have GC:=aZ hGC;have GI:=aZ hGI;have HAh:=aZ hAh;have HDA:=aZ hDA;have HNum:=aZ hNum;have GS:=aZ hGS;have HSt:=aZ hSt;have HDM:=aZ hDM;have U0:=aZ h0;have HDS:=aZ hDS;have HSm:=aZ P.same;have HSu:=aZ (rU P);have d0:W.cell? ⟨w.heap.size+1,0,none⟩=some (.slice (some xa) l cm):=ai.cell m1 (k:=0) rfl rfl;have i0: ¬10<(n:Int):=om0;have HS3:Hid (∀ U,Below W.heap.size W U->ai U w.heap.size 25 [.slice mo n mc, .slice ro q rc, .int .i64 fl]/\ai U (w.heap.size+1) 29 [.slice (some xa) l cm, .slice ho m hc]/\ai U (w.heap.size+1+1) 67 (Ud.pv x y a b c)):=fun U k=>⟨ai.keep m0 k,ai.keep m1 k,ai.keep m2 k⟩;clear hW m0 m1 m2 B0 hE hT hZ hGC hGI hAh hDA hNum hGS hSt hDM h0 hDS;go_enter Tryz.func4,Tryz.ntmps4
 go_wp2_with (first|(rw [← HW.out])|fail)
 refine(HZ.out).mono ?_;rintro e w1 ⟨rfl,k1⟩;have K1:=aZ k1;have d1:w1.cell? ⟨w.heap.size,0,none⟩=some (.slice mo n mc):=ai.cell (HS3.out _ k1).1 (k:=0) rfl rfl;have HS1:Hid (∀ U,Below w1.heap.size w1 U->ai U w.heap.size 25 [.slice mo n mc, .slice ro q rc, .int .i64 fl]/\ai U (w.heap.size+1) 29 [.slice (some xa) l cm, .slice ho m hc]/\ai U (w.heap.size+1+1) 67 (Ud.pv x y a b c)):=fun U k=>HS3.out U (ae K1.out k);have B1:=aZ (ae HB0.out k1);have lw:w.heap.size+1+1<w1.heap.size:=by have:=ai.lt (HS3.out _ k1).2.2;omega
 clear k1 d0 HW HZ;go_upto_region 3 with fail
 go_cut [7,8,9] (fun p o f wx=> ∃ (g:Nat) (ao:Option Addr) (ac:Nat) (bo:Option Addr) (bc:Nat),p= .pointer (some ⟨g,0,none⟩)/\o= .bool o1/\f=ev/\ai wx g 34 [.slice ao n1 ac, .slice bo n1 bc]/\Pst wx ao n1 ac Y (fun _=>6) (fun _=>6) (fun k=>mz 6 6 (Q k))/\Sl wx bo n1 bc z/\Below w1.heap.size w1 wx)
 case first=>
  exact Yq
 rename World=>w3;obtain⟨g7,ao,ac,bo,bc,rfl,rfl,rfl,n3,p3,s3,k3⟩:=hcut;have B3:=aZ (ae B1.out k3);have HS:Hid (∀ U,Below w3.heap.size w3 U->ai U w.heap.size 25 [.slice mo n mc, .slice ro q rc, .int .i64 fl]/\ai U (w.heap.size+1) 29 [.slice (some xa) l cm, .slice ho m hc]/\ai U (w.heap.size+1+1) 67 (Ud.pv x y a b c)/\ai U g7 34 [.slice ao n1 ac, .slice bo n1 bc]):=fun U k=>⟨(HS1.out U (ae k3 k)).1,(HS1.out U (ae k3 k)).2.1,(HS1.out U (ae k3 k)).2.2,ai.keep n3 k⟩;have C3:=aZ (HS.out _ (Below.refl _ _));have P3:=aZ (⟨p3,s3⟩:_/\_);clear n3 p3 s3 k3 d1 HAh HS1 HS3 K1 B1
 go_wp2_with (first
  |((with_reducible show wpList _ _ _ _ _ _);refine Ud.iG IY _ (by with_reducible rfl) w.heap.size _ rl0 C3.out.1 rfl (by kernel_rfl) ?_)
  |((with_reducible show wpList _ _ _ _ _ _);refine Ud.iG xw _ (by with_reducible rfl) (w.heap.size+1) _ rl0 C3.out.2.1 rfl (by kernel_rfl) ?_)
  |((with_reducible show wpList _ _ _ _ _ _);refine Ud.iG Ud.qm _ (by with_reducible rfl) (w.heap.size+1+1) _ rl0 C3.out.2.2.1 rfl (by kernel_rfl) ?_)
  |fail)
 refine(HDA.out _ B3.out).mono ?_;rintro e w4 ⟨xo,xm,yo,ym,rfl,D4,s4,k4⟩;have K4:=aZ k4;have D4:=aZ (⟨D4,s4⟩:_/\_);clear k4 s4 HDA C3
 go_wp2_with (first
  |((with_reducible show wpList _ _ _ _ _ _);refine St.aF xw rfl _ _ rl0 _ [.slice none 0 0, .slice none 0 0] [.slice xo n1 xm, .slice yo n1 ym] rl0 rl0 rfl rfl (nJ _ _ _ _ _ _) ?_;intro w5 n5 k5;have K5:=aZ (ae K4.out k5);have D5:=aZ (⟨D4.out.1.keep k5,D4.out.2.keep k5⟩:_/\_);have N5:=aZ n5;have B5:=aZ (ae B3.out K5.out);clear n5 k5 K4 D4)
  |fail)
 refine(HNum.out _ (HE.out.below B5.out)).mono ?_;rintro e w6 ⟨rfl,k6⟩;have K6:=aZ (ae K5.out k6);have D6:=aZ (⟨D5.out.1.keep k6,D5.out.2.keep k6⟩:_/\_);have N6:=aZ (ai.keep N5.out k6);have A6:=aZ (HS.out _ K6.out).2.2.2;have Q6:=aZ (⟨P3.out.1.keep K6.out,P3.out.2.keep K6.out⟩:_/\_);obtain⟨gA,hgA⟩: ∃ g,g=w4.heap.size:=⟨_,rfl⟩;rw [← hgA] at N6 ⊢;clear k6 D5 N5 K5 B5 HNum hgA P3;cases o1
 all_goals go_wp2_with (first
  |((with_reducible show wpList _ _ _ _ _ _);refine Ud.iG Gf _ (by with_reducible rfl) g7 _ rl0 A6.out rfl (by kernel_rfl) ?_)
  |((with_reducible show wpList _ _ _ _ _ _);refine Ud.iG xw _ (by with_reducible rfl) gA _ rl0 N6.out rfl (by kernel_rfl) ?_)
  |fail)
 all_goals refine(rQ ao xo bo yo n1 ac xm n1 bc ym Y Q z _ Q6.out.1 D6.out.1 Q6.out.2 D6.out.2).mono ?_
 all_goals rintro e w7 ⟨rfl,k7⟩
 all_goals have K7:=aZ (ae K6.out k7)
 all_goals have B7:=aZ (ae B3.out K7.out)
 all_goals have c0:w7.cell? ⟨w.heap.size+1,0,none⟩=some (.slice (some xa) l cm):=ai.cell (HS.out _ K7.out).2.1 (k:=0) rfl rfl
 all_goals clear k7 K6 D6 N6 A6 Q6
 all_goals have hl': ¬l=0:=om0
 all_goals have hl2:(0:Int)<l:=om0
 all_goals(
  have HU:Hid (∀ U,Below w7.heap.size w7 U->ai U w.heap.size 25 [.slice mo n mc, .slice ro q rc, .int .i64 fl]/\U.cell? ⟨w.heap.size+1,0,none⟩=some (.slice (some xa) l cm)/\U.cell? xa=some (.slice s0 6 s1)/\U.cell? (xa.add 1)=some (.slice s2 s3 s4)):=fun U k=>⟨(HS.out U (ae K7.out k)).1,ai.cell (HS.out U (ae K7.out k)).2.1 (k:=0) rfl rfl,ah (ae B7.out k) U0.out.1,ah (ae B7.out k) U0.out.2⟩;go_upto_region 9 with fail
  go_cut [13,14] (fun p f wx=> ∃ (g:Nat) (co:Option Addr) (cc:Nat) (eo:Option Addr) (ec:Nat),p= .pointer (some ⟨g,0,none⟩)/\f= .iface 93 (.int .i64 1)/\ai wx g 34 [.slice co 0 cc, .slice eo 0 ec]/\Pst wx co 0 cc (fun _=>X0) (fun _=>6) (fun _=>6) (fun _=>mz 6 6 S0)/\Sl wx eo 0 ec C0/\Below w7.heap.size w7 wx)
  case first=>
   exact Yr
  rename World=>w8;obtain⟨g13,co,cc,eo,ec,rfl,rfl,n8,p8,s8,k8⟩:=hcut;have K8:=aZ (ae K7.out k8);have B8:=aZ (ae B3.out K8.out);have HV:Hid (∀ U,Below w8.heap.size w8 U->ai U w.heap.size 25 [.slice mo n mc, .slice ro q rc, .int .i64 fl]/\U.cell? ⟨w.heap.size+1,0,none⟩=some (.slice (some xa) l cm)/\U.cell? xa=some (.slice s0 6 s1)/\U.cell? (xa.add 1)=some (.slice s2 s3 s4)/\ai U g13 34 [.slice co 0 cc, .slice eo 0 ec]):=fun U k=>⟨(HU.out U (ae k8 k)).1,(HU.out U (ae k8 k)).2.1,(HU.out U (ae k8 k)).2.2.1,(HU.out U (ae k8 k)).2.2.2,ai.keep n8 k⟩;have P8:=aZ (⟨p8,s8⟩:_/\_);have C8:=aZ (HS.out _ K8.out).1;clear n8 p8 s8 k8 c0 HU HSt GS
  go_wp2_with (first
   |((with_reducible show wpList _ _ _ _ _ _);refine Ud.iG IY _ (by with_reducible rfl) w.heap.size _ rl0 C8.out rfl (by kernel_rfl) ?_)
   |fail)
  refine(HDM.out _ B8.out).mono ?_;rintro e w9 ⟨rfl,k9⟩;have K9:=aZ (k9);have B9:=aZ (ae B8.out k9);clear k9 C8 HDM;have c9:w9.cell? ⟨w.heap.size+1,0,none⟩=some (.slice (some xa) l cm):=(HV.out _ K9.out).2.1;have v9:=aZ (⟨(HV.out _ K9.out).2.2.1,(HV.out _ K9.out).2.2.2.1⟩:_/\_)
  go_wp2_with (first
   |((with_reducible show wpList _ _ _ _ _ _);refine yH (by kernel_rfl) 60 _ (by with_reducible rfl) xa (.agg #[.slice s0 6 s1, .slice s2 s3 s4]) rl0 (rH _ _ _ _ v9.out.1 v9.out.2) ?_)
   |fail)
  refine(HDS.out _ B9.out).mono ?_;rintro e w10 ⟨rfl,k10⟩;have K10:=aZ (ae K9.out k10);have B10:=aZ (ae B9.out k10);clear k10 K9 B9 c9 v9 HDS;go_wp2_with fail
  refine(BZ 1 _ (HE.out.below B10.out)).mono ?_;rintro e wA ⟨rfl,kA⟩;have KA:=aZ (ae K10.out kA);have BA:=aZ (ae B10.out kA);clear kA K10 B10;exact Yt
 )
end
end Go.Proofs.YtcefcokpjbebhaaGreatDoor
