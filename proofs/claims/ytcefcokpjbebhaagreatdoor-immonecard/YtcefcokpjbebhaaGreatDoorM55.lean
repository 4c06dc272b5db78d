/-
  What is proved: whatever states, chances and rows it is given, the law MixStates of layer 15 returns true, ends without a panic, and leaves what was there as it was; its condition: the library's variable errors.errorType holds what the program's text lays there, which the card ties. (By py/MSts.py.)
-/
import Derived.Test.YtcefcokpjbebhaaGreatDoorM47
import Derived.Test.YtcefcokpjbebhaaGreatDoorM29
import Derived.Test.YtcefcokpjbebhaaGreatDoorM36
import Derived.Test.YtcefcokpjbebhaaGreatDoorM20
import Derived.Test.YtcefcokpjbebhaaGreatDoorM25
import Derived.Test.YtcefcokpjbebhaaGreatDoorRows
import Derived.Test.YtcefcokpjbebhaaGreatDoorErrA
import Derived.ChangeSame
import Derived.ChangeVars
import Derived.JoinedOf
import Derived.RowKit
import Derived.RowKitTokens
import Derived.LaidLaws
import Derived.LaidHandle
import Derived.Stop.Joined
import Derived.Test.YtcefcokpjbebhaaGreatDoorLie
import Derived.Deep.Matrix
import Derived.Test.YtcefcokpjbebhaaGreatDoorCards
import Derived.Test.YtcefcokpjbebhaaGreatDoorTie
import Derived.SevenTiedAt
import Derived.ProofKit
import Derived.OpenShut
import Derived.ShutString
import Derived.ChangeOld
import Derived.Below
import Derived.Test.YtcefcokpjbebhaaGreatDoorImQ
import Derived.Test.YtcefcokpjbebhaaGreatDoorM49
set_option linter.unusedSimpArgs false
set_option linter.unusedVariables false
set_option maxHeartbeats 4000000
set_option maxRecDepth 20000
namespace Go.Proofs.YtcefcokpjbebhaaGreatDoor
section
open Go.RowKit Vc St Mt Cn Mx Pd
attribute [local go_sem ↓] Go.wp_at_zero Go.wp_at_succ
namespace Mx
structure Kn(w:World)(d:Raw)(r c:Int)(z:Nat->Int)(F:Nat->Nat->Int)(g:Bool):Prop where
 mat: ∀ W,Below w.heap.size w W->Calls Tryz.prog 66 #[.slice d.po d.pn d.pc] W fun e w'=>e= .returned (.agg (mvals r c z).toArray)/\Below W.heap.size W w'
 may: ∀ W,Below w.heap.size w W->Calls Tryz.prog 25 #[.agg #[.slice d.xo 6 d.xc, .slice d.po d.pn d.pc]] W fun e w'=>e= .returned (.bool g)/\Below W.heap.size W w'
 b2:B2 F
 six:r=6->c=6->d.pn=6/\Grid w d.po 6 d.pc 6 F/\z=mz 6 6 F
 iff:g=true↔r=6/\c=6/\Pr.MayV d.X F
end Mx
end
section
open Go.RowKit Vc St Mt Cn Mx Im El
attribute [local go_sem ↓] Go.wp_at_zero Go.wp_at_succ
namespace Im
theorem isCp:Is 41 3:=⟨by kernel_rfl,⟨_,Tryz.underlying41,rfl⟩⟩
theorem isIp:Is 34 2:=⟨by kernel_rfl,⟨_,Tryz.underlying34,rfl⟩⟩
theorem infoM3:(Tryz.prog.info? 85).map (fun i=>(i.zero,i.size,i.bytes))=some (some (.agg #[.int .i64 0, .int .i64 0, .int .i64 0]),3,24):=by kernel_rfl
theorem one3i(a b c:Int): ∀ u∈ [Value.int .i64 a, .int .i64 b, .int .i64 c],u.oneCell'=true:=by
 intro v hv;simp only [List.mem_cons,List.not_mem_nil,or_false] at hv;rcases hv with rfl|rfl|rfl<;>rfl
theorem one3c(a b:Option Addr)(i j k l:Nat)(c:Int): ∀ u∈ [Value.slice a i j, .slice b k l, .int .i64 c],u.oneCell'=true:=by
 intro v hv;simp only [List.mem_cons,List.not_mem_nil,or_false] at hv;rcases hv with rfl|rfl|rfl<;>rfl
theorem els_pmt{t:TypeId}{B:Nat}{w0 w:World}{v:Value}{n:Nat}{K V N:Nat->Int}(h:Els t 3 B w0 w v n (fun k cs _=>cs= [.int .i64 (K k), .int .i64 (V k), .int .i64 (N k)])): ∃ lo cm,v= .slice lo n cm/\Pmt w lo n cm K V N:=by
 rcases Nat.eq_zero_or_pos n with e|e
 · subst e;obtain⟨ao,ca,rfl,h1,h2⟩:=h.form;exact⟨ao,ca,rfl,h1,h2,fun k hk=>by omega⟩
 · obtain⟨g,cap,S,rfl,h1,h2,_,_,h3,_⟩:=h.at e;exact⟨_,_,rfl,h1,h2,fun k hk=>⟨g,rfl,fun j u hj=>(h3 k hk).2.2 j u (by rw [(h3 k hk).2.1];exact hj)⟩⟩
theorem Pmt.but{w w':World}{lo:Option Addr}{n cm:Nat}{K V N:Nat->Int}(h:Pmt w lo n cm K V N){P:Nat->Prop}(k:Ld.But P w w')(hx: ∀ g,lo=some ⟨g,0,none⟩-> ¬P g):Pmt w' lo n cm K V N:=
 ⟨h.le,h.cap,fun j hj=>by
  obtain⟨g,hg,hr⟩:=h.at' j hj
  exact⟨g,hg,fun i v hv=>k.cell (hr i v hv) (hx g hg)⟩⟩
end Im
theorem giveConf_any(mo ro:Option Addr)(n mc q rc:Nat)(fl:Int)(K V N:Nat->Int)(w:World)(hD:Dmt w mo n mc K V N)(hn:n<=10):
 Calls Tryz.prog 9 #[.agg #[.slice mo n mc, .slice ro q rc, .int .i64 fl]] w fun e w'=> ∃ vo vm,e= .returned (.agg #[.slice vo n vm, .slice ro q rc, .int .i64 fl])/\Pmt w' vo n vm K V N/\Below w.heap.size w w':=by
 have m0:=(crow_new w 25 [.slice mo n mc, .slice ro q rc, .int .i64 fl]).alloc (.cells [.slice none 0 0, .slice none 0 0, .int .i64 0].toArray 41);have m1:=crow_new1 w (.cells [.slice mo n mc, .slice ro q rc, .int .i64 fl].toArray 25) 41 [.slice none 0 0, .slice none 0 0, .int .i64 0];have B0:Below w.heap.size w ((w.alloc (.cells [.slice mo n mc, .slice ro q rc, .int .i64 fl].toArray 25)).alloc (.cells [.slice none 0 0, .slice none 0 0, .int .i64 0].toArray 41)):=below_al (below_al (Below.refl _ _) _) _;obtain⟨W,hW⟩: ∃ W,W=(w.alloc (.cells [.slice mo n mc, .slice ro q rc, .int .i64 fl].toArray 25)).alloc (.cells [.slice none 0 0, .slice none 0 0, .int .i64 0].toArray 41):=⟨_,rfl⟩;rw [← hW] at m0 m1 B0;have HW:=hidC hW;have H0:=hidC m0;have H1:=hidC m1;have HB0:=hidC B0;obtain⟨y,hmo,hmc⟩:=hD.get;have HMO:=hidC hmo;have HMC:=hidC hmc;have l1:=hD.le;have l2:=hD.cap;have d1:W.cell? ⟨w.heap.size,1,none⟩=some (.slice ro q rc):=CRow.cell m0 (k:=1) rfl rfl;have d2:W.cell? ⟨w.heap.size,2,none⟩=some (.int .i64 fl):=CRow.cell m0 (k:=2) rfl rfl;clear hW m0 m1 B0 hD hmo hmc;go_enter Tryz.func9,Tryz.ntmps9
 go_wp2_with (first
  |(rw [← HW.out])
  |((with_reducible show wpList _ _ _ _ _ _);refine St.wpList_storeNew isCp rfl _ _ (by rfl) _ [.slice none 0 0, .slice none 0 0, .int .i64 0] [.slice none 0 0, .slice ro q rc, .int .i64 fl] (by rfl) (by rfl) rfl rfl (one3c _ _ _ _ _ _ _) ?_;intro w6 n6 k6)
  |fail)
 clear d1 d2 HW;have l6:=CRow.lt n6;obtain⟨gs,hgs⟩: ∃ g,g=W.heap.size:=⟨_,rfl⟩;rw [← hgs] at n6 l6 ⊢;obtain⟨o2,ho2⟩: ∃ o,o=w6.heap.size:=⟨_,rfl⟩;rw [← ho2] at l6;have z6:El.Lsn 85 3 o2 w6 (.slice none 0 0) 0 (fun k cs _=>cs= [.int .i64 (K k), .int .i64 (V k), .int .i64 (N k)]) (.slice none 0 0) 0 (fun _=>0):=El.Lsn.nil (by omega) _ _ _ _;have HE:Hid (∀ U,Ld.But (fun q=>q=gs\/o2<=q) w6 U->Below W.heap.size W U):=fun U k=>k.below k6 (by have:=k6.size;omega) (by rintro q (e|e)<;>omega)
 have HGW:w.heap.size+1<gs:=by have:=CRow.lt H1.out;omega
 have HWs:=hidC (show w.heap.size<o2 by omega);clear k6 hgs ho2;go_loopw [4] (fun i ws=> ∃ (k:Nat) (vX:Value),k<=n/\i= .int .i64 (k:Int)/\CRow ws gs 41 [vX, .slice ro q rc, .int .i64 fl]/\El.Lsn 85 3 o2 ws vX k (fun k cs _=>cs= [.int .i64 (K k), .int .i64 (V k), .int .i64 (N k)]) (.slice none 0 0) 0 (fun _=>0)/\Ld.But (fun q=>q=gs\/o2<=q) w6 ws) (fun i _=>n- (intOf i).toNat)
 case atStart=>exact⟨0,_,by omega,rfl,n6,z6,Ld.But.refl _ _⟩
 case round=>
  rename World=>ws;obtain⟨k,vX,hk,rfl,nl,zl,bl⟩:=hrel;have E1:=HE.out _ bl;have d0:ws.cell? ⟨w.heap.size,0,none⟩=some (.slice mo n mc):=CRow.cell (CRow.keep H0.out E1) (k:=0) rfl rfl;by_cases hkn:k<n
  ·have kn:(k:Int)<n:=by omega
   obtain rfl:=HMO.out (by omega);have KL:=below_tr HB0.out E1;obtain⟨a0,a1,a2⟩:=HMC.out k hkn;have A0:=hidC a0;have a0:=keep_cell KL a0;have a1:=keep_cell KL a1;have a2:=keep_cell KL a2;have HEq:Hid (∀ u v z:Int,u=K k->v=V k->z=N k-> [Value.int .i64 u, .int .i64 v, .int .i64 z]= [.int .i64 (K k), .int .i64 (V k), .int .i64 (N k)]):=fun _ _ _ h1 h2 h3=>by rw [h1,h2,h3]
   obtain⟨Kk,hKk⟩: ∃ z,z=K k:=⟨_,rfl⟩;obtain⟨Vk,hVk⟩: ∃ z,z=V k:=⟨_,rfl⟩;obtain⟨Nk,hNk⟩: ∃ z,z=N k:=⟨_,rfl⟩;have HR:=hidC (HEq.out Kk Vk Nk hKk hVk hNk);rw [← hKk] at a0;rw [← hVk] at a1;rw [← hNk] at a2;have c8:ws.cell? ⟨gs,0,none⟩=some vX:=CRow.cell nl (k:=0) rfl rfl
   have BLK:Hid (∀ j,j<3-> ¬o2<=((y.add (k*3)).add j).block):=fun j hj=>by
    have hb:=World.block_lt_of_cell? w _ A0.out;have e:((y.add (k*3)).add j).block=(y.add (k*3)).block:=Ld.addr_block _ _;have:=HB0.out.size;rw [e];have:=HWs.out;omega
   have HS:Hid (∀ U,Ld.But (fun q=>o2<=q) ws U->U.cell? ⟨gs,0,none⟩=some vX/\U.cell? ⟨w.heap.size,0,none⟩=some (.slice (some y) n mc)/\U.cell? (y.add (k*3))=some (.int .i64 Kk)/\U.cell? ((y.add (k*3)).add 1)=some (.int .i64 Vk)/\U.cell? ((y.add (k*3)).add 2)=some (.int .i64 Nk)):=fun U b=>by
    exact⟨b.cell c8 (by show ¬o2<=gs;omega),b.cell d0 (by show ¬o2<=w.heap.size;omega),b.cell a0 (by have:=BLK.out 0 (by omega);rwa [Mx.addr_at0] at this),b.cell a1 (BLK.out 1 (by omega)),b.cell a2 (BLK.out 2 (by omega))⟩
   have Z0:=hidC zl;have NL:=hidC nl;have BL:=hidC bl;clear zl nl bl E1 KL hKk hVk hNk HEq a0 a1 a2 c8;go_upto_region 5 with fail
   refine Ru.wp_region_U [10] (fun w'=>w'.cell? ⟨gs,0,none⟩=some vX/\w'.cell? ⟨w.heap.size,0,none⟩=some (.slice (some y) n mc)/\w'.cell? (y.add (k*3))=some (.int .i64 Kk)/\w'.cell? ((y.add (k*3)).add 1)=some (.int .i64 Vk)/\w'.cell? ((y.add (k*3)).add 2)=some (.int .i64 Nk)) (by kernel_rfl) (HS.out _ (Ld.But.refl _ _).drew) (fun hHeld=> ?_);refine Ru.tk5 0 (.pointer (some ⟨gs,0,none⟩)) hHeld ?_;refine Ru.tk5 1 vX hHeld ?_;refine Ru.tk5 2 (.pointer (some ⟨w.heap.size,0,none⟩)) hHeld ?_;refine Ru.tk5 3 (.slice (some y) n mc) hHeld ?_;refine Ru.tk5 4 (.int .i64 (k:Int)) hHeld ?_;refine Ru.tk5 5 (.pointer (some (y.add (k*3)))) hHeld ?_;refine Ru.tk 6 (.agg #[.int .i64 Kk, .int .i64 Vk, .int .i64 Nk]) rfl (yieldsM (by kernel_rfl) _ (by rfl) (y.add (k*3)) _ _ _ (by rfl) (fun w h=>h.2.2)) hHeld ?_;refine Ru.rd 7 (fun K hK=> ?_);go_simp;refine Ru.hd hK (HS.out _ ((Ld.But.refl _ _).drew.al _)) (fun hHeld=> ?_);clear hK K;refine Ru.rd 8 (fun K hK=> ?_);refine El.stepV (by rfl) (.tmp 18) (.tmp 24) 39 85 3 24 (.agg #[.int .i64 0, .int .i64 0, .int .i64 0]) (by rfl) Tryz.underlying39 infoM3 rfl (by decide) (by decide) o2 vX _ k 0 _ _ (by rfl) (Z0.out.keep (Vc.below_drew' _)) (by omega) [.int .i64 Kk, .int .i64 Vk, .int .i64 Nk] rfl (one3i _ _ _) (fun _ _=>HR.out) (by rfl) ?_;intro v' w9 z9 b9;obtain⟨lo',cm',hv',_⟩:=z9.form;subst hv';have b9:=((Ld.But.refl (fun q=>o2<=q) ws).drew).trans b9;refine Ru.hd hK (HS.out _ b9) (fun hHeld=> ?_);clear hK K;refine Ru.tk5 9 (.pointer (some ⟨gs,0,none⟩)) hHeld ?_;have c9:w9.cell? ⟨gs,0,none⟩=some vX:=(HS.out _ b9).1;have f9:=CRow.free (Ld.crowBut NL.out b9 (by omega)) 0;refine Ru.rd2 10 (fun K hK=> ?_);go_simp;refine hK.out _ _ ?_;clear hK K;try simp only [Act.put,List.getElem_toArray,List.getElem_cons_zero,List.getElem_cons_succ,List.setIfInBounds_toArray,List.set_cons_zero,List.set_cons_succ]
   refine wpAny_done (by kernel_rfl) ?_ _;have n9:=Ld.crowBut NL.out b9 (by omega);have n10:=CRow.set n9 0 (.slice lo' (k+1) cm');have b10:=(BL.out.trans (b9.mono fun q e=>Or.inr e)).set (p:=⟨gs,0,none⟩) (.slice lo' (k+1) cm') (Or.inl rfl);have z10:=z9.put (g:=gs) l6 ((Ld.But.refl (· =gs) w9).set (p:=⟨gs,0,none⟩) (.slice lo' (k+1) cm') rfl);clear Z0 NL BL z9 b9 n9 d0 HS HR c9 f9;go_wp2;go_roundw
   case rel=>exact⟨k+1,_,by omega,by go_num,n10,z10,b10⟩
   case measure=>simp [intOf];omega
  ·obtain rfl:n=k:=by omega
   obtain⟨lo',cm',rfl,hP⟩:=els_pmt zl.els;have r1:=CRow.keep H1.out E1;have rR:=CRow.row r1 [.slice lo' n cm', .slice ro q rc, .int .i64 fl];have BR:=below_tr HB0.out E1;have bR:=St.below_row BR (g:=w.heap.size+1) (by omega) [.slice lo' n cm', .slice ro q rc, .int .i64 fl].toArray;have hRS:=Ud.but_row ws (w.heap.size+1) ([.slice lo' n cm', .slice ro q rc, .int .i64 fl]:List Value).toArray;have PR:=hidC (hP.but hRS (fun g hg e=>by have:=(zl.els.lt (g:=g) (by rw [hg];rfl)).1;omega));have NL:=hidC nl;clear zl bl E1 hRS nl hP
   go_wp2_with (first
    |((with_reducible show wpList _ _ _ _ _ _);refine Ud.loadC isCp _ (by with_reducible rfl) gs _ (by rfl) NL.out rfl (by kernel_rfl) ?_)
    |((with_reducible show wpList _ _ _ _ _ _);refine Ud.storeC isCp _ _ (by with_reducible rfl) _ _ [.slice lo' n cm', .slice ro q rc, .int .i64 fl] (by rfl) (by rfl) (by with_reducible exact r1) rfl rfl (one3c _ _ _ _ _ _ _) rfl ?_)
    |fail)
   exact bodyPost_ret (results_1 isCp Tryz.results9 _ _ (w.heap.size+1) _ rfl rR rfl) rfl ⟨_,_,rfl,PR.out,bR⟩
end
section
open Go.RowKit Vc St Mt Cn Mx Im El
attribute [local go_sem ↓] Go.wp_at_zero Go.wp_at_succ
namespace Im
theorem sval_congr{X X' z z':Nat->Int}{r c:Int}(h: ∀ k,k<6->X k=X' k)(h': ∀ k,k<36->z k=z' k):Pd.svals X r c z=Pd.svals X' r c z':=by
 unfold Pd.svals;rw [vals_congr h,show mvals r c z=mvals r c z' from mvals_congr h']
def suX:Nat->Int:=Pd.six 0 10485760 0 0 0 0
def suD:Nat->Int:=Pd.six 104857600 1048576 1048576 104857600 1048576 1048576
def suP:Nat->Nat->Int:=Pd.bP suD
def suC:Nat->Int:=fun _=>1073741824
def suR:Nat->Nat->Int:=fun _ _=>1073741824
def suK:Nat->Int:=fun _=>0
def suN:Nat->Int:=fun _=>1048576
def suY:Nat->Int:=Pd.six 10485760 10485760 0 0 0 0
def su3(a b c d:Int):Nat->Nat->Int:=Mo.tw fun i j=>if i=0 then(if j=0 then a else if j=1 then b else 0) else if i=1 then(if j=0 then b else if j=1 then c else 0) else if j=2 then d else 0
def suQ:Nat->Nat->Int:=su3 106168336 1572864 2097168 16
def suZ:Nat->Nat->Int:=su3 52754449 781548 2085445 16
theorem su_e1: ∀ k,k<6->aX suK suK 1048576 1 suC suR (fun _=>suX) 0 k=suY k:=by decide+kernel
theorem su_e2: ∀ k,k<36->mz 6 6 (aP suK suK suN 1048576 1 suC suR (fun _=>suX) (fun _=>suP) 0) k=mz 6 6 suQ k:=by decide+kernel
theorem su_e3:aO suK suK suN 1048576 1 suC suR (fun _=>suX) (fun _=>suP)=false:=by decide+kernel
theorem su_e4: ∀ k,k<6->sX (fun _=>suY) (fun _=>suQ) 10485760 0 104857600 104857600 0 0 k=suY k:=by decide+kernel
theorem su_e5: ∀ k,k<36->mz 6 6 (sP (fun _=>suQ) 104857600 104857600 0 0) k=mz 6 6 suZ k:=by decide+kernel
theorem su_e6:sO 1 suC (fun _=>suY) (fun _=>suQ) 10485760 0 104857600 104857600 0=false:=by decide+kernel
theorem su_e7:sC 1 suC 0 (fun _=>suY) (fun _=>suQ) 10485760 0 104857600 104857600 0 0=1073741824:=by decide+kernel
theorem su_e8:jO 1 suC (fun _=>suY) (fun _=>suZ)=false:=by decide+kernel
theorem su_e9:jX 1 suC (fun _=>suY) 0=10485760:=by decide+kernel
theorem su_eA:mz 6 6 (jP 1 suC (fun _=>suY) (fun _=>suZ)) 0=52754449:=by decide+kernel
theorem su_eB:sh 1073741824 (fun _=>1) 1 0=1073741824:=by decide+kernel
theorem su_eC:sh 1073741824 (mxw 1 suC suR) 1 0=1073741824:=by decide+kernel
theorem su_f(k:Nat)(hk:k<1):sF (fun _=>suQ) 104857600 104857600 0 k:=by
 show ∀ i,i<2->Ld.fine (Ud.oM suQ 104857600 104857600 0) i;intro i hi;match i,hi with
 |0,_=>exact⟨by decide+kernel,by decide+kernel⟩
 |1,_=>exact⟨by decide+kernel,by decide+kernel⟩
theorem su_ch:Ch 1 suC 0:=⟨by omega,by omega,by omega,by omega,fun k _=>by show(0:Int)<=1073741824;omega,by decide+kernel⟩
theorem su_x4: ∀ k,k<4->Pr.InV (Pd.six 0 0 10485760 0 0 0 k):=by decide+kernel
theorem su_d6: ∀ k,k<6->1<=suD k/\suD k<=4611686018427387903:=by decide+kernel
theorem su_x6: ∀ k,k<6->Pr.InV (suX k):=by decide+kernel
theorem su_may:Pr.MayV suX suP:=Pd.blank_may su_x6 su_d6
theorem su_mayQ:Pr.MayV suY suQ:=by unfold Pr.MayV Pr.InV;decide+kernel
theorem su_mayZ:Pr.MayV suY suZ:=by unfold Pr.MayV Pr.InV;decide+kernel
theorem su_b{a b c d e f:Int}(h: ∀ v∈ [a,b,c,d,e,f],-9223372036854775808<=v/\v<=9223372036854775807):B64 (Pd.six a b c d e f):=fun k=>by
 match k with
 |0=>exact h a (by simp)
 |1=>exact h b (by simp)
 |2=>exact h c (by simp)
 |3=>exact h d (by simp)
 |4=>exact h e (by simp)
 |_+5=>exact h f (by simp)
theorem su_bX:B64 suX:=su_b (by decide)
theorem su_bY:B64 suY:=su_b (by decide)
theorem su_bP:B2 suP:=Pd.bP_b2 (su_b (by decide))
theorem su3_b(a b c d:Int)(h: ∀ v∈ [a,b,c,d],0<=v/\v<=9223372036854775807):B2 (su3 a b c d):=fun i j=>by
 have ha:=h a (by simp)
 have hb:=h b (by simp)
 have hc:=h c (by simp)
 have hd:=h d (by simp)
 unfold su3 Mo.tw
 dsimp only
 (repeat' split)<;>constructor<;>omega
theorem su_bQ:B2 suQ:=su3_b _ _ _ _ (by decide)
theorem su_bZ:B2 suZ:=su3_b _ _ _ _ (by decide)
def suCo(gm gr gl:Nat):Co:=⟨some ⟨gm,0,none⟩,1,1,suK,suK,suN,some ⟨gr,0,none⟩,1,1,fun _=>some ⟨gl,0,none⟩,fun _=>1,fun _=>1,suR,0⟩
theorem su_num(gm gr gl:Nat):(suCo gm gr gl).Num:=
 ⟨fun _=>by show(_:Int)<=0/\(0:Int)<=_;omega,fun _=>by show(_:Int)<=0/\(0:Int)<=_;omega,fun _=>by show(_:Int)<=1048576/\(1048576:Int)<=_;omega,fun _ _=>by show(_:Int)<=1073741824/\(1073741824:Int)<=_;omega,by show(_:Int)<=0;omega,by show(0:Int)<=_;omega⟩
theorem su_mayC(gm gr gl:Nat):(suCo gm gr gl).May:=
 ⟨Nat.le_refl _,by show 1<=4;omega,rfl,by show(0:Int)<=0;omega,by show(0:Int)<=_;omega,fun i hi=>⟨⟨by show 1<=(1048576:Int)/\(1048576:Int)<=1073741824;omega,Or.inl ⟨Or.inl rfl,rfl⟩⟩,rfl,su_ch⟩⟩
theorem su_lies{w:World}{gm gr gl:Nat}(hm:CRow w gm 85 [.int .i64 0, .int .i64 0, .int .i64 1048576])(hr:CRow w gr 27 [.slice (some ⟨gl,0,none⟩) 1 1])(hl:CRow w gl 2 [.int .i64 1073741824]):(suCo gm gr gl).Lies w:=
 ⟨⟨Nat.le_refl _,by show 1<=_;omega,fun k hk=>⟨gm,rfl,by
  have e:k=0:=by have:k<1:=hk;omega
  subst e
  exact fun j v hv=>CRow.range hm j v hv⟩⟩,
  ⟨⟨Nat.le_refl _,by show 1<=_;omega,fun k hk=>⟨⟨gr,0,none⟩,rfl,by
   have e:k=0:=by have:k<1:=hk;omega
   subst e
   rw [Mx.addr_at0]
   exact CRow.cell hr (k:=0) rfl rfl⟩⟩,fun i hi=>Sl.one (CRow.cell hl (k:=0) rfl rfl)⟩,su_num gm gr gl⟩
theorem run_sliceM(a b c:Int)(w:World):(Instr.buildSlice 39 1 #[(0, .agg #[.int .i64 a, .int .i64 b, .int .i64 c])]).run Tryz.prog w= .ok (.slice (some ⟨w.heap.size,0,none⟩) 1 1) (w.alloc (.cells #[.int .i64 a, .int .i64 b, .int .i64 c] 85)):=by kernel_rfl
theorem wpList_sliceM{ops:Array Oper}{rest:List Oper}{o:Oper}{a:Act}{w:World}{Q:Exit->Act->World->Prop}(x:Operand)(ho:o.op= .buildSlice 39 1 #[(0,x)])(i j k:Int)(hx:a.eval x= .agg #[.int .i64 i, .int .i64 j, .int .i64 k])(hgd:o.guard=none)
 (h:wpList Tryz.prog ops Q rest (a.put o.dst (.slice (some ⟨w.heap.size,0,none⟩) 1 1)) (w.alloc (.cells #[.int .i64 i, .int .i64 j, .int .i64 k] 85))):wpList Tryz.prog ops Q (o::rest) a w:=by
 refine wpList_plain hgd fun _ hK=> ?_;unfold Oper.wp execOp;have em:((#[(0,x)]:Array (Nat×Operand)).map fun(i,x)=>(i,a.eval x))= #[(0, .agg #[.int .i64 i, .int .i64 j, .int .i64 k])]:=by simp [hx]
 simp only [ho,em,Sem.run_bind,run_sliceM,Result.andThen_ok];exact hK _ _ h
theorem pst1{w:World}{lo:Option Addr}{n cm:Nat}{X:Nat->Nat->Int}{P P':Nat->Nat->Nat->Int}{X':Nat->Nat->Int}(h:Pst w lo n cm X (fun _=>6) (fun _=>6) (fun k=>mz 6 6 (P k)))(hn:n=1)(hX: ∀ i,i<6->X 0 i=X' 0 i)(hP: ∀ i,i<36->mz 6 6 (P 0) i=mz 6 6 (P' 0) i):Pst w lo n cm X' (fun _=>6) (fun _=>6) (fun k=>mz 6 6 (P' k)):=
 h.congr fun k hk=>by
  have e:k=0:=by omega
  subst e
  exact sval_congr hX hP
theorem sl1{w:World}{ao:Option Addr}{n ca:Nat}{z:Nat->Int}(h:Sl w ao n ca z)(hn:n=1)(e:z 0=1073741824):Sl w ao n ca suC:=h.congr fun k hk=>by
 have q:k=0:=by omega
 subst q
 exact e
end Im
section
variable (P:Im.IPkg)
include P
theorem isu_start(w:World)(gm gr gl:Nat)(h:(suCo gm gr gl).Lies w):Calls Tryz.prog 23 #[.agg #[.slice (some ⟨gm,0,none⟩) 1 1, .slice (some ⟨gr,0,none⟩) 1 1, .int .i64 0], .agg (Pd.svals suX 6 6 (mz 6 6 suP)).toArray] w fun e w'=>
 ∃ vo vc co cc,e= .returned (.tuple #[.agg #[.slice vo 1 vc, .slice co 1 cc], .nilIface])/\Pst w' vo 1 vc (fun _=>suX) (fun _=>6) (fun _=>6) (fun _=>mz 6 6 suP)/\Sl w' co 1 cc suC/\Below w.heap.size w w':=by
 refine(P.start w (suCo gm gr gl) suX 6 6 (mz 6 6 suP) suP h (fun _ _=>rfl) su_bX su_bP).mono ?_;rintro e w' ⟨u,⟨q,_⟩|⟨_,rfl,vo,vn,vc,co,cn,cc,rfl,k,hp,hs,rfl,rfl,nw1,nw2⟩⟩
 · exact absurd ⟨su_mayC gm gr gl,rfl,rfl,su_may⟩ q
 · exact⟨vo,vc,co,cc,rfl,hp,sl1 hs rfl su_eB,k⟩
theorem isu_ahead(w:World)(gm gr gl:Nat)(lo ho:Option Addr)(cm hc:Nat)(hA:AngTab w)(h:(suCo gm gr gl).Lies w)(hp:Pst w lo 1 cm (fun _=>suX) (fun _=>6) (fun _=>6) (fun _=>mz 6 6 suP))(hs:Sl w ho 1 hc suC):
 Calls Tryz.prog 8 #[.agg #[.slice (some ⟨gm,0,none⟩) 1 1, .slice (some ⟨gr,0,none⟩) 1 1, .int .i64 0], .agg #[.slice lo 1 cm, .slice ho 1 hc], .int .i64 1048576] w fun e w'=>
 ∃ vo vc co cc,e= .returned (.tuple #[.agg #[.slice vo 1 vc, .slice co 1 cc], .bool false, .nilIface])/\Pst w' vo 1 vc (fun _=>suY) (fun _=>6) (fun _=>6) (fun _=>mz 6 6 suQ)/\Sl w' co 1 cc suC/\Below w.heap.size w w':=by
 refine(P.ahead w (suCo gm gr gl) (yes lo 1 cm ho 1 hc (fun _=>suX) (fun _=>suP) suC) 1048576 hA h ⟨hp,fun _ _ _ _=>rfl,fun _=>su_bX,fun _=>su_bP,hs,fun _=>by show(_:Int)<=1073741824/\(1073741824:Int)<=_;omega⟩ (by omega) (by omega)).mono ?_;rintro e w' ⟨u,⟨q,_⟩|⟨_,rfl,vo,vn,vc,co,cn,cc,rfl,k,hp,hs,h1,h2,nw1,nw2⟩⟩
 · exact absurd ⟨⟨su_mayC gm gr gl,rfl,rfl,su_ch,fun _ _=>⟨rfl,rfl,su_may⟩⟩,by show 1<=(1048576:Int)/\(1048576:Int)<=67108864;omega⟩ q
 · have h1':vn=1:=h1;have h2':cn=1:=h2;subst h1' h2';exact⟨vo,vc,co,cc,congrArg (fun q=>Ending.returned (.tuple #[.agg #[.slice vo 1 vc, .slice co 1 cc], .bool q, .nilIface])) su_e3,pst1 (X':=fun _=>suY) (P':=fun _=>suQ) hp rfl su_e1 su_e2,sl1 hs rfl su_eC,k⟩
theorem isu_seen(w:World)(gm gr gl:Nat)(lo ho:Option Addr)(cm hc:Nat)(h:(suCo gm gr gl).Lies w)(hp:Pst w lo 1 cm (fun _=>suY) (fun _=>6) (fun _=>6) (fun _=>mz 6 6 suQ))(hs:Sl w ho 1 hc suC):
 Calls Tryz.prog 21 #[.agg #[.slice (some ⟨gm,0,none⟩) 1 1, .slice (some ⟨gr,0,none⟩) 1 1, .int .i64 0], .agg #[.slice lo 1 cm, .slice ho 1 hc], .agg #[.int .i64 10485760, .int .i64 0, .int .i64 104857600, .int .i64 104857600, .int .i64 0]] w fun e w'=>
 ∃ vo vc co cc,e= .returned (.tuple #[.agg #[.slice vo 1 vc, .slice co 1 cc], .bool false, .nilIface])/\Pst w' vo 1 vc (fun _=>suY) (fun _=>6) (fun _=>6) (fun _=>mz 6 6 suZ)/\Sl w' co 1 cc suC/\Below w.heap.size w w':=by
 have hF:Fit (suCo gm gr gl) (yes lo 1 cm ho 1 hc (fun _=>suY) (fun _=>suQ) suC):=⟨su_mayC gm gr gl,rfl,rfl,su_ch,fun _ _=>⟨rfl,rfl,su_mayQ⟩⟩;have hN:Ud.MayN 10485760 0 104857600 104857600 0:=by decide
 refine(P.seen w (suCo gm gr gl) (yes lo 1 cm ho 1 hc (fun _=>suY) (fun _=>suQ) suC) 10485760 0 104857600 104857600 0 h ⟨hp,fun _ _ _ _=>rfl,fun _=>su_bY,fun _=>su_bQ,hs,fun _=>by show(_:Int)<=1073741824/\(1073741824:Int)<=_;omega⟩ (by decide)).mono ?_;rintro e w' ⟨u,⟨q,_⟩|⟨_,q,_⟩|⟨_,_,rfl,vo,vn,vc,co,cn,cc,rfl,k,hp,hs,h1,h2,nw1,nw2⟩⟩
 · exact absurd ⟨hF,hN⟩ q
 · exact absurd (fun k hk=>su_f k hk) q
 · have h1':vn=1:=h1;have h2':cn=1:=h2;subst h1' h2';exact⟨vo,vc,co,cc,congrArg (fun q=>Ending.returned (.tuple #[.agg #[.slice vo 1 vc, .slice co 1 cc], .bool q, .nilIface])) su_e6,pst1 (X':=fun _=>suY) (P':=fun _=>suZ) hp rfl su_e4 su_e5,sl1 hs rfl su_e7,k⟩
theorem isu_one(w:World)(lo ho:Option Addr)(cm hc:Nat)(hp:Pst w lo 1 cm (fun _=>suY) (fun _=>6) (fun _=>6) (fun _=>mz 6 6 suZ))(hs:Sl w ho 1 hc suC):
 Calls Tryz.prog 16 #[.agg #[.slice lo 1 cm, .slice ho 1 hc]] w fun e w'=> ∃ (Y z:Nat->Int),Y 0=10485760/\z 0=52754449/\e= .returned (.tuple #[.agg (Pd.svals Y 6 6 z).toArray, .bool false, .nilIface])/\Below w.heap.size w w':=by
 refine(P.one w (yes lo 1 cm ho 1 hc (fun _=>suY) (fun _=>suZ) suC) ⟨hp,fun _ _ _ _=>rfl,fun _=>su_bY,fun _=>su_bZ,hs,fun _=>by show(_:Int)<=1073741824/\(1073741824:Int)<=_;omega⟩).mono ?_;rintro e w' ⟨k,⟨q,_⟩|⟨_,rfl⟩⟩
 · exact absurd ⟨rfl,su_ch,fun _ _=>⟨rfl,rfl,su_mayZ⟩⟩ q
 · exact⟨_,_,su_e9,su_eA,congrArg (fun q=>Ending.returned (.tuple #[.agg (Pd.svals (jX 1 suC (fun _=>suY)) 6 6 (mz 6 6 (jP 1 suC (fun _=>suY) (fun _=>suZ)))).toArray, .bool q, .nilIface])) su_e8,k⟩
theorem isure_any(w:World)(hA:AngTab w):
 Calls Tryz.prog 7 #[] w fun e w'=>e= .returned (.bool true)/\Below w.heap.size w w':=by
 have H1:Hid (∀ W,Calls Tryz.prog 33 #[.int .i64 0, .int .i64 0, .int .i64 10485760, .int .i64 0, .int .i64 104857600, .int .i64 1048576, .int .i64 1048576] W fun e w'=>e= .returned (.tuple #[.agg (Pd.svals suX 6 6 (mz 6 6 suP)).toArray, .nilIface])/\Below W.heap.size W w'):=fun W=>pblank_yes 0 0 10485760 0 104857600 1048576 1048576 W su_x4 su_d6;have H2:=hidC (isu_start P);have H3:=hidC (isu_ahead P);have H4:=hidC (isu_seen P);have H5:=hidC (isu_one P);have HA:=hidC hA;clear hA;obtain⟨X0,hX0⟩: ∃ z,z=suX:=⟨_,rfl⟩;obtain⟨z0,hz0⟩: ∃ z,z=mz 6 6 suP:=⟨_,rfl⟩;rw [← hX0,← hz0] at H1 H2 H3;clear hX0 hz0;go_enter Tryz.func7,Tryz.ntmps7
 have m0:=((crow_new w 85 [.int .i64 0, .int .i64 0, .int .i64 1048576]).alloc (.cells [.int .i64 1073741824].toArray 2)).alloc (.cells [.slice (some ⟨w.heap.size+1,0,none⟩) 1 1].toArray 27);have m1:=(crow_new1 w (.cells [.int .i64 0, .int .i64 0, .int .i64 1048576].toArray 85) 2 [.int .i64 1073741824]).alloc (.cells [.slice (some ⟨w.heap.size+1,0,none⟩) 1 1].toArray 27);have m2:=crow_new2 w (.cells [.int .i64 0, .int .i64 0, .int .i64 1048576].toArray 85) (.cells [.int .i64 1073741824].toArray 2) 27 [.slice (some ⟨w.heap.size+1,0,none⟩) 1 1];have B0:Below w.heap.size w (((w.alloc (.cells [.int .i64 0, .int .i64 0, .int .i64 1048576].toArray 85)).alloc (.cells [.int .i64 1073741824].toArray 2)).alloc (.cells [.slice (some ⟨w.heap.size+1,0,none⟩) 1 1].toArray 27)):=below_al (below_al (below_al (Below.refl _ _) _) _) _;obtain⟨W,hW⟩: ∃ W,W=((w.alloc (.cells [.int .i64 0, .int .i64 0, .int .i64 1048576].toArray 85)).alloc (.cells [.int .i64 1073741824].toArray 2)).alloc (.cells [.slice (some ⟨w.heap.size+1,0,none⟩) 1 1].toArray 27):=⟨_,rfl⟩;rw [← hW] at m0 m1 m2 B0;have HW:=hidC hW;have HC:=hidC (su_lies m0 m2 m1);have HB0:=hidC B0;clear hW m0 m1 m2 B0
 go_wp2_with (first
  |((with_reducible show wpList _ _ _ _ _ _);refine wpList_sliceM _ (by with_reducible rfl) 0 0 1048576 (by rfl) (by rfl) ?_)
  |(rw [← HW.out])
  |((with_reducible show wpList _ _ _ _ _ _);refine St.wpList_storeNew isCp rfl _ _ (by rfl) _ [.slice none 0 0, .slice none 0 0, .int .i64 0] [.slice (some ⟨w.heap.size,0,none⟩) 1 1, .slice (some ⟨w.heap.size+1+1,0,none⟩) 1 1, .int .i64 0] (by rfl) (by rfl) rfl rfl (one3c _ _ _ _ _ _ _) ?_;intro w6 n6 k6)
  |fail)
 have KB:=hidC (below_tr HB0.out k6);have C6:=hidC (HC.out.keep k6);have N6:=hidC n6;clear n6 k6 HC HB0 HW;refine(H1.out _).mono ?_;rintro e w7 ⟨rfl,k7⟩;have N7:=hidC (CRow.keep N6.out k7);have C7:=hidC (C6.out.keep k7);have K7:=hidC (below_tr KB.out k7);clear N6 C6 KB k7 H1
 go_wp2_with (first
  |(rw [Pd.zeroS];refine St.wpList_storeNew Pd.isS rfl _ _ (by rfl) _ _ _ (by rfl) (by rfl) (Pd.svals_len _ _ _ _) (Pd.svals_len _ _ _ _) (Pd.one_svals _ _ _ _) ?_;intro w8 t8 k8;have N8:=hidC (CRow.keep N7.out k8);have C8:=hidC (C7.out.keep k8);have K8:=hidC (below_tr K7.out k8);have T8:=hidC t8;clear N7 C7 K7 t8 k8)
  |((with_reducible show wpList _ _ _ _ _ _);refine Ud.loadC isCp _ (by with_reducible rfl) W.heap.size _ (by rfl) N8.out rfl (by kernel_rfl) ?_)
  |(refine St.wpList_load Pd.isS (by rfl) _ (by rfl) _ _ (by rfl) (by with_reducible exact T8.out) (Pd.svals_len _ _ _ _) ?_)
  |fail)
 refine(H2.out _ _ _ _ C8.out).mono ?_;rintro e w9 ⟨vo,vc,co,cc,rfl,p9,s9,k9⟩;have N9:=hidC (CRow.keep N8.out k9);have C9:=hidC (C8.out.keep k9);have K9:=hidC (below_tr K8.out k9);have P9:=hidC p9;have S9:=hidC s9;clear N8 C8 K8 T8 p9 s9 k9 H2
 go_wp2_with (first
  |((with_reducible show wpList _ _ _ _ _ _);refine St.wpList_storeNew isIp rfl _ _ (by rfl) _ [.slice none 0 0, .slice none 0 0] [.slice vo 1 vc, .slice co 1 cc] (by rfl) (by rfl) rfl rfl (one2s _ _ _ _ _ _) ?_;intro wA tA kA;have NA:=hidC (CRow.keep N9.out kA);have CA:=hidC (C9.out.keep kA);have KA:=hidC (below_tr K9.out kA);have TA:=hidC tA;have PA:=hidC (P9.out.keep kA);have SA:=hidC (S9.out.keep kA);clear N9 C9 K9 P9 S9 tA kA)
  |((with_reducible show wpList _ _ _ _ _ _);refine Ud.loadC isCp _ (by with_reducible rfl) W.heap.size _ (by rfl) NA.out rfl (by kernel_rfl) ?_)
  |((with_reducible show wpList _ _ _ _ _ _);refine Ud.loadC isIp _ (by with_reducible rfl) _ _ (by rfl) TA.out rfl (by kernel_rfl) ?_)
  |fail)
 refine(H3.out _ _ _ _ _ _ _ _ (HA.out.below KA.out) CA.out PA.out SA.out).mono ?_;rintro e wB ⟨vo2,vc2,co2,cc2,rfl,pB,sB,kB⟩;have NB:=hidC (CRow.keep NA.out kB);have CB:=hidC (CA.out.keep kB);have KB:=hidC (below_tr KA.out kB);have PB:=hidC pB;have SB:=hidC sB;clear NA CA KA TA PA SA pB sB kB H3 HA
 go_wp2_with (first
  |((with_reducible show wpList _ _ _ _ _ _);refine St.wpList_storeNew isIp rfl _ _ (by rfl) _ [.slice none 0 0, .slice none 0 0] [.slice vo2 1 vc2, .slice co2 1 cc2] (by rfl) (by rfl) rfl rfl (one2s _ _ _ _ _ _) ?_;intro wD tD kD;have ND:=hidC (CRow.keep NB.out kD);have CD:=hidC (CB.out.keep kD);have KD:=hidC (below_tr KB.out kD);have TD:=hidC tD;have PD:=hidC (PB.out.keep kD);have SD:=hidC (SB.out.keep kD);clear NB CB KB PB SB tD kD)
  |((with_reducible show wpList _ _ _ _ _ _);refine Ud.loadC isCp _ (by with_reducible rfl) W.heap.size _ (by rfl) ND.out rfl (by kernel_rfl) ?_)
  |((with_reducible show wpList _ _ _ _ _ _);refine Ud.loadC isIp _ (by with_reducible rfl) _ _ (by rfl) TD.out rfl (by kernel_rfl) ?_)
  |fail)
 refine(H4.out _ _ _ _ _ _ _ _ CD.out PD.out SD.out).mono ?_;rintro e wE ⟨vo3,vc3,co3,cc3,rfl,pE,sE,kE⟩;have KE:=hidC (below_tr KD.out kE);have PE:=hidC pE;have SE:=hidC sE;clear ND CD KD TD PD SD pE sE kE H4
 go_wp2_with (first
  |((with_reducible show wpList _ _ _ _ _ _);refine St.wpList_storeNew isIp rfl _ _ (by rfl) _ [.slice none 0 0, .slice none 0 0] [.slice vo3 1 vc3, .slice co3 1 cc3] (by rfl) (by rfl) rfl rfl (one2s _ _ _ _ _ _) ?_;intro wF tF kF;have KF:=hidC (below_tr KE.out kF);have TF:=hidC tF;have PF:=hidC (PE.out.keep kF);have SF:=hidC (SE.out.keep kF);clear KE PE SE tF kF)
  |((with_reducible show wpList _ _ _ _ _ _);refine Ud.loadC isIp _ (by with_reducible rfl) _ _ (by rfl) TF.out rfl (by kernel_rfl) ?_)
  |fail)
 refine(H5.out _ _ _ _ _ PF.out SF.out).mono ?_;rintro e wG ⟨Y,z,hY,hz,rfl,kG⟩;have TG:=hidC (CRow.keep TF.out kG);have SG:=hidC (SF.out.keep kG);have KG:=hidC (below_tr KF.out kG);have HY:=hidC hY;have HZ:=hidC hz;obtain⟨gk,hgk⟩: ∃ g,g=wE.heap.size:=⟨_,rfl⟩;rw [← hgk] at TG ⊢;clear KF TF PF SF kG H5 hY hz hgk
 go_upto_region 7 with(first
  |(rw [Pd.zeroS];refine St.wpList_storeNew Pd.isS rfl _ _ (by rfl) _ _ _ (by rfl) (by rfl) (Pd.svals_len _ _ _ _) (Pd.svals_len _ _ _ _) (Pd.one_svals _ _ _ _) ?_;intro wH tH kH)
  |fail)
 have KH:=hidC (below_tr KG.out kH);have a1:wH.cell? ⟨gk,1,none⟩=some (.slice co3 1 cc3):=CRow.cell (CRow.keep TG.out kH) (k:=1) rfl rfl;obtain⟨xc,hxc,hcc⟩:=(SG.out.keep kH).get;obtain rfl:=hxc (by omega);have a2:=hcc 0 (by omega);rw [Mx.addr_at0] at a2;have a2:wH.cell? xc=some (.int .i64 1073741824):=a2;have a3:wH.cell? ⟨wG.heap.size,0,none⟩=some (.int .i64 10485760):=by have e:=Pd.SRow.x tH (k:=0) (by omega) rfl;rw [HY.out] at e;exact e
 have a4:wH.cell? ⟨wG.heap.size,8,none⟩=some (.int .i64 52754449):=by have e:=Pd.SRow.z tH (k:=0) (by omega) rfl;rw [HZ.out] at e;exact e
 have l9:=SG.out.cap;have l8:=SG.out.le;clear TG SG KG HY HZ tH kH hxc hcc;go_wp2;go_ret;exact⟨rfl,KH.out⟩
end
end
section
open Go.RowKit Vc St Mx
namespace Im
end Im
end
end Go.Proofs.YtcefcokpjbebhaaGreatDoor
