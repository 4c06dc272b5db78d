/-
  Package mix (layer 15): whether states may be joined, their places, a row of each matrix, the diagonal, what a step answered. (By py/MxF.py.)
-/
import Derived.Test.YtcefcokpjbebhaaGreatDoorM36
import Derived.Test.YtcefcokpjbebhaaGreatDoorM38
set_option linter.unusedSimpArgs false
set_option linter.unusedVariables false
set_option maxHeartbeats 4000000
set_option maxRecDepth 20000
namespace Go.Proofs.YtcefcokpjbebhaaGreatDoor
section
open Go.RowKit Vc Cn Mx St Mt Pd
attribute [local go_sem ↓] Go.wp_at_zero Go.wp_at_succ
namespace Mx
theorem dK{p:Prop}(h:p):Hid p:=h
abbrev SO(w:World)(s:Nat)(o:Bool):Prop:=ai w s 178 [.bool o]
theorem aaP(n:Nat)(hn:n<=6)(W:World):(Instr.makeSlice 23 (.int .i64 (n:Int)) (.int .i64 (n:Int))).run Tryz.prog W= .ok (.slice (some ⟨W.heap.size,0,none⟩) n n) (W.alloc (.cells (Mt.aB n (fun _=> .slice none 0 0)).toArray 27)):=by
 have h:=Go.run_make_row' (P:=Tryz.prog) 23 27 (.slice none 0 0) 24 Tryz.underlying23 Ba rfl .i64 .i64 n om1 om1 W
 have e:madeCells #[Value.slice none 0 0] n=(Mt.aB n (fun _=> .slice none 0 0)).toArray:=by
  apply Array.ext';rw [toList_madeCells_one];apply List.ext_getElem?;intro i;by_cases hi:i<n
  · rw [List.toList_toArray,Mt.jZ hi,List.getElem?_replicate,if_pos hi]
  · rw [List.toList_toArray,List.getElem?_eq_none (by simp;omega),List.getElem?_eq_none (by rw [Mt.aA];omega)]
 rw [e] at h;exact h
theorem Ul(n j:Nat)(v:Value)(S:Nat->Value):(Mt.aB n S).set j v=Mt.aB n (fun k=>if k=j then v else S k):=by
 apply List.ext_getElem?;intro i;by_cases hi:i<n
 · rw [Mt.jZ hi,List.getElem?_set,Mt.aA];by_cases e:j=i
   · subst e;simp [hi]
   · rw [if_neg e,Mt.jZ hi,if_neg (fun h=>e h.symm)]
 · rw [List.getElem?_eq_none (by simp [Mt.aA];omega),List.getElem?_eq_none (by rw [Mt.aA];omega)]
theorem Um(g p:Nat)(w:World):(Instr.sliceAt 50 (.pointer (some ⟨g,p,none⟩)) none none none).run Tryz.prog w= .ok (.slice (some ⟨g,p,none⟩) 6 6) w:=by kernel_rfl
theorem aaQ:ckR true= .nilIface:=rfl
theorem ckR_no:ckR false= .iface 93 (.int .i64 1):=rfl
theorem Un{w:World}{g p:Nat}{X:Nat->Int}{r c:Int}{z:Nat->Int}(h:w.rangeAt g p (Pd.aB X r c z)):Sl w (some ⟨g,p,none⟩) 6 6 X:=
 ⟨Nat.le_refl _,om1,fun k hk=>⟨_,rfl,by rw [Addr.add_mid];exact h k _ (FO hk)⟩⟩
abbrev yM(w:World)(g n:Nat)(S:Nat->Value):Prop:=ai w g 27 (Mt.aB n S)
theorem yM.setS{w:World}{g n:Nat}{S:Nat->Value}(h:yM w g n S)(j:Nat)(v:Value):yM (w.setCell ⟨g,j,none⟩ v) g n (fun k=>if k=j then v else S k):=by
 have h1:=ai.set h j v;rw [Ul] at h1;exact h1
theorem yM.off{w:World}{g n:Nat}{S:Nat->Value}(h:yM w g n S)(hS: ∀ k,k<n-> ∃ a m c,S k= .slice a m c){ao:Option Addr}{m ca:Nat}{z:Nat->Int}(s:Sl w ao m ca z)(h0:0<m): ∀ x,ao=some x->x.block≠g:=
 El.Xt h (fun k v q=>by
  rw [List.getElem?_toArray] at q
  by_cases hk:k<n
  · rw [Mt.jZ hk] at q
    obtain⟨a,m',c,e⟩:=hS k hk
    rw [e] at q
    cases q
  · rw [List.getElem?_eq_none (by rw [Mt.aA];omega)] at q
    cases q) s h0
theorem SO.off{w:World}{s:Nat}{o:Bool}(h:SO w s o){ao:Option Addr}{m ca:Nat}{z:Nat->Int}(sl:Sl w ao m ca z)(h0:0<m): ∀ x,ao=some x->x.block≠s:=
 El.Xt h (fun k v q=>by
  match k with
  |0=>simp at q
  |k+1=>simp at q) sl h0
theorem slSet{w:World}{ao:Option Addr}{n ca:Nat}{z:Nat->Int}(h:Sl w ao n ca z){p:Addr}(v:Value)(hx: ∀ x,ao=some x->x.block≠p.block):Sl (w.setCell p v) ao n ca z:=
 Ld.lK h ((Ld.But.refl (fun q=>q=p.block) w).set v rfl) hx
theorem yM.grid{w:World}{g n m:Nat}{S:Nat->Value}{F:Nat->Nat->Int}(h:yM w g n S)(hn:n<=6)(hr: ∀ k,k<n-> ∃ a c,S k= .slice a m c/\Sl w a m c (F k)):Grid w (some ⟨g,0,none⟩) n n m F:=by
 refine⟨fun k=>match S k with| .slice a _ _=>a|_=>none,fun k=>match S k with| .slice _ _ c=>c|_=>0,⟨Nat.le_refl _,om1,fun k hk=>⟨_,rfl, ?_⟩⟩,fun k hk=> ?_⟩
 · obtain⟨a,c,e1,_⟩:=hr k hk;rw [Addr.add_lit,Nat.zero_add];have e2:=h.cell (Mt.jZ hk) rfl;rw [e1] at e2;simp only [e1];exact e2
 · obtain⟨a,c,e1,e2⟩:=hr k hk;simp only [e1];exact e2
end Mx
theorem zf(b:Bool)(lo ho:Option Addr)(n cm m hc:Nat)(X:Nat->Nat->Int)(r c:Nat->Int)(z:Nat->Nat->Int)(F:Nat->Nat->Nat->Int)(ch:Nat->Int)(w:World)(hl:Pst w lo n cm X r c z)(hz: ∀ k,k<n->r k=6->c k=6->z k=mz 6 6 (F k))(hs:Sl w ho m hc ch)(bs:B64 ch)(hb:b=true↔uC n m ch X r c F):
 Calls Tryz.prog 89 #[.slice lo n cm, .slice ho m hc] w fun e w'=>e= .returned (.bool b)/\Below w.heap.size w w':=by
 have l1:=hl.le;have l2:=hl.cap;have l3:=hs.le;have l4:=hs.cap
 have NO:Hid (¬uC n m ch X r c F->b=false):=fun q=>by
  cases hb':b with
  |false=>rfl
  |true=>exact absurd (hb.1 hb') q
 have YES:Hid (uC n m ch X r c F->b=true):=fun q=>hb.2 q;by_cases hnm:n=m
 ·subst hnm;have HC:=dK (FY w ho n hc ch 0 hs bs om1 om1);by_cases hch:Ch n ch 0
  ·obtain⟨g,hlo,hg⟩:=hl.get;have h1:=hch.one;obtain rfl:=hlo om1;have HG:=dK hg
   have HK:Hid (∀ k,k<n-> ∃ t:Bool,(t=true↔r k=6/\c k=6/\Pr.oK (X k) (F k))/\ ∀ W,Calls Tryz.prog 63 #[.agg (Pd.aB (X k) (r k) (c k) (z k)).toArray] W fun e w'=>e= .returned (ckR t)/\Below W.heap.size W w'):=fun k hk=>by
    by_cases h6:r k=6/\c k=6
    ·rw [hz k hk h6.1 h6.2,h6.1,h6.2];by_cases hm:Pr.oK (X k) (F k)
     ·exact⟨true,⟨fun _=>⟨rfl,rfl,hm⟩,fun _=>rfl⟩,fun W=>jy (X k) (F k) true W ⟨fun _=>hm,fun _=>rfl⟩⟩
     ·exact⟨false,⟨fun q=>(by cases q),fun q=>absurd q.2.2 hm⟩,fun W=>jy (X k) (F k) false W ⟨fun q=>(by cases q),fun q=>absurd q hm⟩⟩
    ·exact⟨false,⟨fun q=>(by cases q),fun q=>absurd ⟨q.1,q.2.1⟩ h6⟩,fun W=>BQ (X k) (r k) (c k) (z k) W h6⟩
   have HCH:=dK hch;clear hl hlo hg hs bs hb hz hch;go_enter Tryz.func89,Tryz.ntmps89
   go_wp2_with (first
    |(go_at_call 172;refine HC.out.mono ?_;rintro e w1 ⟨ev,rfl,k1,⟨_,q⟩|⟨q,_⟩⟩;subst q;rotate_left;(exact absurd HCH.out q))
    |fail)
   go_loopw [19] (fun i wr=> ∃ k:Nat,k<=n/\i= .int .i64 (k:Int)/\(∀ j,j<k->r j=6/\c j=6/\Pr.oK (X j) (F j))/\Below w.heap.size w wr) (fun i _=>n- (intOf i).toNat)
   case atStart=>exact⟨0,om1,rfl,fun j hj=>by omega,k1⟩
   case round=>
    rename World=>wr;obtain⟨k,hk,rfl,hj,kb⟩:=hrel;by_cases h:k<n
    ·have r1:wr.rangeAt g (k*44) (Pd.aB (X k) (r k) (c k) (z k)):=fun j v hv=>ah kb (HG.out k h j v hv);obtain⟨t,ht,hck⟩:=HK.out k h;have HT:=dK ht;have HJ:=dK hj;have HCK:=dK hck
     have NO':Hid (t=false->b=false):=fun e=>NO.out fun q=>by
      have e2:=HT.out.2 (q.2.2 k h);rw [e] at e2;cases e2
     have kn:(k:Int)<n:=om1;obtain⟨Xk,hXk⟩: ∃ q,q=X k:=⟨_,rfl⟩;obtain⟨rk,hrk⟩: ∃ q,q=r k:=⟨_,rfl⟩;obtain⟨ck,hck'⟩: ∃ q,q=c k:=⟨_,rfl⟩;obtain⟨zk,hzk⟩: ∃ q,q=z k:=⟨_,rfl⟩;rw [← hXk,← hrk,← hck',← hzk] at HCK;rw [← hXk,← hrk,← hck',← hzk] at r1;clear hXk hrk hck' hzk ht hj hck
     go_wp2_with (first
      |((with_reducible show wpList _ _ _ _ _ _);refine St.dA isS rl1 _ rl1 _ _ _ rl1 (by with_reducible exact r1) (aA _ _ _ _) ?_)
      |(rw [zeroS];refine St.aF isS rfl _ _ rl1 _ _ _ rl1 rl1 (aA _ _ _ _) (aA _ _ _ _) (cZ _ _ _ _) ?_;intro w2 t2 k2;have B2:=ae kb k2;clear k2 r1)
      |((with_reducible show wpList _ _ _ _ _ _);refine St.aI isS rl1 _ rl1 _ _ rl1 (by with_reducible exact t2) (aA _ _ _ _) ?_)
      |fail)
     refine(HCK.out _).mono ?_;rintro e w3 ⟨rfl,k3⟩;have B3:=ae B2 k3;clear t2 B2 k3;cases t with
     |true=>
      rw [aaQ];have hok:=HT.out.1 rfl;have HOK:=dK hok;clear hok;go_wp2;go_roundw
      case rel=>exact⟨k+1,om1,by go_num,fun j hj=>(by
       by_cases e:j=k
       ·rw [e];exact HOK.out
       ·exact HJ.out j om1),B3⟩
      case measure=>simp [intOf];omega
     |false=>
      rw [ckR_no];have hbf:=NO'.out rfl;subst hbf;go_wp2;go_ret;exact⟨rfl,B3⟩
    ·obtain rfl:n=k:=om1;have hbt:=YES.out ⟨rfl,HCH.out,hj⟩;subst hbt;clear hj;go_wp2;go_ret;exact⟨rfl,kb⟩
  ·have hbf:=NO.out (fun q=>hch q.2.1);subst hbf;have HCH:=dK hch;clear hl hs bs hb hz hch;go_enter Tryz.func89,Tryz.ntmps89
   go_wp2_with (first
    |(go_at_call 172;refine HC.out.mono ?_;rintro e w1 ⟨ev,rfl,k1,⟨q,_⟩|⟨_,q⟩⟩;(exact absurd q HCH.out);subst q;simp only [Cb])
    |fail)
   go_ret;exact⟨rfl,k1⟩
 ·have hbf:=NO.out (fun q=>hnm q.1);subst hbf;have e1:(((n:Nat):Int) !=((m:Nat):Int))=true:=by rw [bne_iff_ne];omega
  clear hl hs bs hb hz hnm;go_enter Tryz.func89,Tryz.ntmps89
  go_wp2;go_ret;exact⟨rfl,Below.refl _ _⟩
theorem Ko(lo:Option Addr)(n cm:Nat)(X:Nat->Nat->Int)(r c:Nat->Int)(z:Nat->Nat->Int)(w:World)(hl:Pst w lo n cm X r c z)(hn:n<=4):
 Calls Tryz.prog 176 #[.slice lo n cm] w fun e w'=> ∃ vo vc,e= .returned (.slice vo n vc)/\Below w.heap.size w w'/\Grid w' vo n vc 6 X:=by
 have l1:=hl.le;have l2:=hl.cap;have hmk:=aaP n om1;have HN0:Hid (yM (w.alloc (.cells (Mt.aB n (fun _=> .slice none 0 0)).toArray 27)) w.heap.size n (fun _=> .slice none 0 0)):=aH w 27 _;have HB0:=dK (af (Below.refl _ w) (.cells (Mt.aB n (fun _=> .slice none 0 0)).toArray 27));obtain⟨g,hlo,hg⟩:=hl.get;have HLO:=dK hlo;have HS:Hid (∀ k,k<n->Sl w (some ⟨g,k*44,none⟩) 6 6 (X k)):=fun k hk=>Un (hg k hk);have hsl:=Um g;clear hl hlo hg;go_enter Tryz.func176,Tryz.ntmps176
 go_wp2;go_loopw [10] (fun i wr=> ∃ (k:Nat) (S:Nat->Value),k<=n/\i= .int .i64 (k:Int)/\(∀ j,j<k->S j= .slice (some ⟨g,j*44,none⟩) 6 6)/\yM wr w.heap.size n S/\Below w.heap.size w wr) (fun i _=>n- (intOf i).toNat)
 case atStart=>exact⟨0,_,om1,rfl,fun j hj=>by omega,HN0.out,HB0.out⟩
 case round=>
  rename World=>wr;obtain⟨k,S,hk,rfl,hS,nA,kb⟩:=hrel;by_cases h:k<n
  · obtain rfl:=HLO.out om1;have d1:=nA.cell (Mt.jZ (S:=S) h) rfl;have f1:=nA.free k;have HM1:=dK (yM.setS nA k (.slice (some ⟨g,k*44,none⟩) 6 6));have HK:=dK (kb.setCell (p:=⟨w.heap.size,k,none⟩) (Nat.le_refl _) (.slice (some ⟨g,k*44,none⟩) 6 6))
    have HS1:Hid (∀ j,j<k+1->(if j=k then Value.slice (some ⟨g,k*44,none⟩) 6 6 else S j)= .slice (some ⟨g,j*44,none⟩) 6 6):=fun j hj=>by
     by_cases e:j=k
     · rw [if_pos e,e]
     · rw [if_neg e];exact hS j om1
    have kn:(k:Int)<n:=om1;clear nA kb hS;go_wp2;all_goals go_roundw
    all_goals first
     |(case rel=>exact⟨k+1,_,om1,by go_num,HS1.out,HM1.out,HK.out⟩)
     |(case measure=>simp [intOf];omega)
  · obtain rfl:n=k:=om1;go_wp2;go_ret;exact⟨_,_,rfl,kb,yM.grid nA om1 (fun k hk=>⟨_,_,hS k hk,(HS.out k hk).keep kb⟩)⟩
theorem WJ(g n i:Nat)(M:Nat->Nat->Nat->Int)(w:World)(hg: ∀ k,k<n->w.rangeAt g (k*38) (aj 6 6 (mz 6 6 (M k))))(hn:n<=4)(hi:i<6):
 Calls Tryz.prog 257 #[.slice (some ⟨g,0,none⟩) n n, .int .i64 (i:Int)] w fun e w'=> ∃ vo vc,e= .returned (.slice vo n vc)/\Below w.heap.size w w'/\Grid w' vo n vc 6 (fun k=>M k i):=by
 have hmk:=aaP n om1;have HN0:Hid (yM (w.alloc (.cells (Mt.aB n (fun _=> .slice none 0 0)).toArray 27)) w.heap.size n (fun _=> .slice none 0 0)):=aH w 27 _;have HB0:=dK (af (Below.refl _ w) (.cells (Mt.aB n (fun _=> .slice none 0 0)).toArray 27));have HG:=dK hg;have HR:=dK (fun k W=>ET 6 6 i (M k) W om1 om1 om1 om1 hi);clear hg;go_enter Tryz.func257,Tryz.ntmps257
 go_wp2;go_loopw [13] (fun iv wr=> ∃ (k:Nat) (S:Nat->Value),k<=n/\iv= .int .i64 (k:Int)/\(∀ j,j<n-> ∃ a m c,S j= .slice a m c)/\(∀ j,j<k-> ∃ a c,S j= .slice a 6 c/\Sl wr a 6 c (M j i))/\yM wr w.heap.size n S/\Below w.heap.size w wr) (fun iv _=>n- (intOf iv).toNat)
 case atStart=>exact⟨0,_,om1,rfl,fun j hj=>⟨_,_,_,rfl⟩,fun j hj=>by omega,HN0.out,HB0.out⟩
 case round=>
  rename World=>wr;obtain⟨k,S,hk,rfl,hS,hr,nA,kb⟩:=hrel;by_cases h:k<n
  ·have r1:wr.rangeAt g (k*38) (aj 6 6 (mz 6 6 (M k))):=fun j v hv=>ah kb (HG.out k h j v hv);have HR1:=dK (fun W=>HR.out k W);have HS:=dK hS;have HRR:=dK hr;have HNA:=dK nA;have kn:(k:Int)<n:=om1;obtain⟨zk,hzk⟩: ∃ q,q=mz 6 6 (M k):=⟨_,rfl⟩;obtain⟨f,hf⟩: ∃ q,q=M k i:=⟨_,rfl⟩;rw [← hzk] at r1;rw [← hzk,← hf] at HR1;have HF:=dK hf;clear hzk hf hS hr nA
   go_wp2_with (first
    |((with_reducible show wpList _ _ _ _ _ _);refine St.dA Ie rl1 _ rl1 _ _ _ rl1 (by with_reducible exact r1) (dG _ _ _) ?_)
    |(rw [dY];refine Mt.aF rfl _ _ rl1 _ _ _ _ rl1 rl1 ?_;intro w2 t2 k2;have K2:=dK k2;clear k2 r1)
    |(refine Hk.fP _ (by with_reducible rfl) _ _ _ _ rl1 (by with_reducible exact t2) (by kernel_rfl) ?_)
    |fail)
   refine(HR1.out _).mono ?_;rintro e w3 ⟨co,cc,rfl,s3,fr,k3⟩;have k4:=ae K2.out k3;have n3:yM w3 w.heap.size n S:=ai.keep HNA.out k4;have B3:=ae kb k4;have d1:=n3.cell (Mt.jZ (S:=S) h) rfl;have f1:=n3.free k;have hlt:=ai.lt HNA.out;have hsz:=k4.size;have hsz2:=K2.out.size;obtain⟨a1,m1,c1,e1⟩:=HS.out k h;rw [e1] at d1;have HM1:=dK (yM.setS n3 k (.slice co 6 cc));have HK:=dK (B3.setCell (p:=⟨w.heap.size,k,none⟩) (Nat.le_refl _) (.slice co 6 cc))
   have HS1:Hid (∀ j,j<n-> ∃ a m c,(if j=k then Value.slice co 6 cc else S j)= .slice a m c):=fun j hj=>by
    by_cases e:j=k
    ·rw [if_pos e];exact⟨_,_,_,rfl⟩
    ·rw [if_neg e];exact HS.out j hj
   have HR2:Hid (∀ j,j<k+1-> ∃ a c,(if j=k then Value.slice co 6 cc else S j)= .slice a 6 c/\Sl (w3.setCell ⟨w.heap.size,k,none⟩ (.slice co 6 cc)) a 6 c (M j i)):=fun j hj=>by
    by_cases e:j=k
    ·rw [if_pos e,e,← HF.out];exact⟨_,_,rfl,slSet s3 _ (fun x hx=>by have:=fr x hx;show x.block≠w.heap.size;omega)⟩
    ·rw [if_neg e];obtain⟨a,c,q1,q2⟩:=HRR.out j om1;exact⟨a,c,q1,slSet (q2.keep k4) _ (yM.off n3 HS.out (q2.keep k4) om1)⟩
   clear k4 n3 B3 s3 fr k3 t2 e1;go_wp2;all_goals go_roundw
   all_goals first
    |(case rel=>exact⟨k+1,_,om1,by go_num,HS1.out,HR2.out,HM1.out,HK.out⟩)
    |(case measure=>simp [intOf];omega)
  ·obtain rfl:n=k:=om1;go_wp2;go_ret;exact⟨_,_,rfl,kb,yM.grid nA om1 hr⟩
theorem Kq(z:Nat->Int)(w:World):
 Calls Tryz.prog 258 #[.agg (aj 6 6 z).toArray] w fun e w'=>e= .returned (.agg (aj 6 6 (wdk z (nn (dg z)) 6)).toArray)/\Below w.heap.size w w':=by
 have r0:=(bJ w 6 6 z).alloc (.cells (aj 0 0 (fun _=>0)).toArray 53);have o0:=dR w (.cells (aj 6 6 z).toArray 53) 0 0 (fun _=>0);have B0:Below w.heap.size w ((w.alloc (.cells (aj 6 6 z).toArray 53)).alloc (.cells (aj 0 0 (fun _=>0)).toArray 53)):=af (af (Below.refl _ _) _) _;obtain⟨W,hW⟩: ∃ W,W=(w.alloc (.cells (aj 6 6 z).toArray 53)).alloc (.cells (aj 0 0 (fun _=>0)).toArray 53):=⟨_,rfl⟩;rw [← hW] at r0 o0 B0;have HW:=dK hW;clear hW;go_enter Tryz.func258,Tryz.ntmps258
 go_wp2_with (first
  |(rw [dY,← HW.out])
  |fail)
 go_loopw [4] (fun i wr=> ∃ k:Nat,k<=6/\i= .int .i64 (k:Int)/\dU wr w.heap.size 6 6 (wdk z (nn (dg z)) k)/\dU wr (w.heap.size+1) 0 0 (fun _=>0)/\Below w.heap.size w wr) (fun i _=>6- (intOf i).toNat)
 case atStart=>exact⟨0,om1,rfl,r0.congr (fun i _=>MB z _ i),o0,B0⟩
 case round=>
  obtain⟨k,hk,rfl,r1,o1,B1⟩:=hrel;by_cases h:k<6
  ·rcases(by omega:k=0\/k=1\/k=2\/k=3\/k=4\/k=5) with rfl|rfl|rfl|rfl|rfl|rfl
   ·have cz:=r1.cell (k:=0) (o:=2) om1 rfl;have ez:wdk z (nn (dg z)) 0 0=z 0:=by unfold wdk;rw [if_neg om1]
    rw [ez] at cz;have fz:=r1.free 2;obtain⟨M,hM⟩: ∃ M,max (z 0) 0=M:=⟨_,rfl⟩;have HM:Hid (nn (dg z) 0=M):=hM;clear ez;go_wp2;go_roundw
    case rel=>exact⟨1,om1,rfl,(dU.set r1 0 _ rfl).congr (fun i _=>by rw [← HM.out];exact jH z (nn (dg z)) 0 i),o1.other _ (by show w.heap.size+1≠w.heap.size;omega),B1.trans (St.dB B1.size (Nat.le_refl _) _)⟩
    case measure=>simp [intOf]
   ·have cz:=r1.cell (k:=7) (o:=9) om1 rfl;have ez:wdk z (nn (dg z)) 1 7=z 7:=by unfold wdk;rw [if_neg om1]
    rw [ez] at cz;have fz:=r1.free 9;obtain⟨M,hM⟩: ∃ M,max (z 7) 0=M:=⟨_,rfl⟩;have HM:Hid (nn (dg z) 1=M):=hM;clear ez;go_wp2;go_roundw
    case rel=>exact⟨2,om1,rfl,(dU.set r1 7 _ rfl).congr (fun i _=>by rw [← HM.out];exact jH z (nn (dg z)) 1 i),o1.other _ (by show w.heap.size+1≠w.heap.size;omega),B1.trans (St.dB B1.size (Nat.le_refl _) _)⟩
    case measure=>simp [intOf]
   ·have cz:=r1.cell (k:=14) (o:=16) om1 rfl;have ez:wdk z (nn (dg z)) 2 14=z 14:=by unfold wdk;rw [if_neg om1]
    rw [ez] at cz;have fz:=r1.free 16;obtain⟨M,hM⟩: ∃ M,max (z 14) 0=M:=⟨_,rfl⟩;have HM:Hid (nn (dg z) 2=M):=hM;clear ez;go_wp2;go_roundw
    case rel=>exact⟨3,om1,rfl,(dU.set r1 14 _ rfl).congr (fun i _=>by rw [← HM.out];exact jH z (nn (dg z)) 2 i),o1.other _ (by show w.heap.size+1≠w.heap.size;omega),B1.trans (St.dB B1.size (Nat.le_refl _) _)⟩
    case measure=>simp [intOf]
   ·have cz:=r1.cell (k:=21) (o:=23) om1 rfl;have ez:wdk z (nn (dg z)) 3 21=z 21:=by unfold wdk;rw [if_neg om1]
    rw [ez] at cz;have fz:=r1.free 23;obtain⟨M,hM⟩: ∃ M,max (z 21) 0=M:=⟨_,rfl⟩;have HM:Hid (nn (dg z) 3=M):=hM;clear ez;go_wp2;go_roundw
    case rel=>exact⟨4,om1,rfl,(dU.set r1 21 _ rfl).congr (fun i _=>by rw [← HM.out];exact jH z (nn (dg z)) 3 i),o1.other _ (by show w.heap.size+1≠w.heap.size;omega),B1.trans (St.dB B1.size (Nat.le_refl _) _)⟩
    case measure=>simp [intOf]
   ·have cz:=r1.cell (k:=28) (o:=30) om1 rfl;have ez:wdk z (nn (dg z)) 4 28=z 28:=by unfold wdk;rw [if_neg om1]
    rw [ez] at cz;have fz:=r1.free 30;obtain⟨M,hM⟩: ∃ M,max (z 28) 0=M:=⟨_,rfl⟩;have HM:Hid (nn (dg z) 4=M):=hM;clear ez;go_wp2;go_roundw
    case rel=>exact⟨5,om1,rfl,(dU.set r1 28 _ rfl).congr (fun i _=>by rw [← HM.out];exact jH z (nn (dg z)) 4 i),o1.other _ (by show w.heap.size+1≠w.heap.size;omega),B1.trans (St.dB B1.size (Nat.le_refl _) _)⟩
    case measure=>simp [intOf]
   ·have cz:=r1.cell (k:=35) (o:=37) om1 rfl;have ez:wdk z (nn (dg z)) 5 35=z 35:=by unfold wdk;rw [if_neg om1]
    rw [ez] at cz;have fz:=r1.free 37;obtain⟨M,hM⟩: ∃ M,max (z 35) 0=M:=⟨_,rfl⟩;have HM:Hid (nn (dg z) 5=M):=hM;clear ez;go_wp2;go_roundw
    case rel=>exact⟨6,om1,rfl,(dU.set r1 35 _ rfl).congr (fun i _=>by rw [← HM.out];exact jH z (nn (dg z)) 5 i),o1.other _ (by show w.heap.size+1≠w.heap.size;omega),B1.trans (St.dB B1.size (Nat.le_refl _) _)⟩
    case measure=>simp [intOf]
  ·obtain rfl:k=6:=om1;clear h
   go_wp2_with (first
    |(refine Hk.fP _ (by with_reducible rfl) _ _ _ _ rl1 (by with_reducible exact r1) (by kernel_rfl) ?_)
    |(refine aN rfl _ _ rl1 _ _ _ _ _ _ _ rl1 rl1 (by with_reducible exact o1) ?_)
    |fail)
   exact bodyPost_ret (dS Tryz.results258 _ _ (w.heap.size+1) _ _ _ rfl (o1.row _ _ _)) rfl ⟨rfl,Mt.aJ B1 om1 _⟩
theorem uY(s:Nat)(v er:Value)(a o:Bool)(w:World)(h:SO w s a):
 Calls Tryz.prog 174 #[.pointer (some ⟨s,0,none⟩),v, .bool o,er] w fun e w'=>e= .returned v/\SO w' s (a||o)/\Ld.But (· =s) w w':=by
 have c0:w.cell? ⟨s,0,none⟩=some (.bool a):=h.cell (k:=0) rfl rfl;have f0:=ai.free h 0;have m1:SO (w.setCell ⟨s,0,none⟩ (.bool (a||o))) s (a||o):=ai.set h 0 (.bool (a||o));have b1:Ld.But (· =s) w (w.setCell ⟨s,0,none⟩ (.bool (a||o))):=(Ld.But.refl (· =s) w).set (p:=⟨s,0,none⟩) _ rfl;have HM:=dK m1;have HB:=dK b1;clear m1 b1 h;cases a with
 |true=>
  go_enter Tryz.func174,Tryz.ntmps174
  go_wp2;go_ret;exact⟨rfl,HM.out,HB.out⟩
 |false=>
  go_enter Tryz.func174,Tryz.ntmps174
  go_wp2;go_ret;exact⟨rfl,HM.out,HB.out⟩
theorem Yh{p:Prop}(h:p:=by
 go_enter Tryz.func259,Tryz.ntmps259
 go_wp2_with (first
  |(rw [dY,← HW.out])
  |(refine Hk.fP _ (by with_reducible rfl) _ _ _ _ rl1 (by with_reducible exact r0.other _ n1) (by kernel_rfl) ?_)
  |(refine aN rfl _ _ rl1 _ _ _ _ _ _ _ rl1 rl1 (by with_reducible exact o0.other _ n2) ?_)
  |fail)
 exact bodyPost_ret (dS Tryz.results259 _ _ (w.heap.size+1) _ _ _ rfl ((o0.other _ n2).row _ _ _)) rfl ⟨rfl,m1.aY n3 _,(Bb.set (p:=⟨s,0,none⟩) _ rfl).lJ _ om1⟩):p:=h
theorem uZ(s:Nat)(r c:Int)(z:Nat->Int)(a o:Bool)(v:Value)(w:World)(h:SO w s a):
 Calls Tryz.prog 259 #[.pointer (some ⟨s,0,none⟩), .agg (aj r c z).toArray, .bool o,v] w fun e w'=>e= .returned (.agg (aj r c z).toArray)/\SO w' s (a||o)/\Ld.But (· =s) w w':=by
 have hs:=ai.lt h;have r0:=(bJ w r c z).alloc (.cells (aj 0 0 (fun _=>0)).toArray 53);have o0:=dR w (.cells (aj r c z).toArray 53) 0 0 (fun _=>0);have B0:Below w.heap.size w ((w.alloc (.cells (aj r c z).toArray 53)).alloc (.cells (aj 0 0 (fun _=>0)).toArray 53)):=af (af (Below.refl _ _) _) _;obtain⟨W,hW⟩: ∃ W,W=(w.alloc (.cells (aj r c z).toArray 53)).alloc (.cells (aj 0 0 (fun _=>0)).toArray 53):=⟨_,rfl⟩;rw [← hW] at r0 o0 B0;have HW:=dK hW;have s0:SO W s a:=ai.keep h B0;have c0:W.cell? ⟨s,0,none⟩=some (.bool a):=s0.cell (k:=0) rfl rfl;have f0:=ai.free s0 0;have n1:w.heap.size≠s:=om1;have n2:w.heap.size+1≠s:=om1;have n3:s≠w.heap.size+1:=om1;have m1:SO (W.setCell ⟨s,0,none⟩ (.bool (a||o))) s (a||o):=ai.set s0 0 (.bool (a||o));clear hW h;have Bb:Ld.But (· =s) w W:=Ld.jb B0;cases a with
 |true=>
  exact Yh
 |false=>
  exact Yh
end
section
open Go.RowKit Vc Cn Mx St Mt Pd Qn
attribute [local go_sem ↓] Go.wp_at_zero Go.wp_at_succ
namespace Mx
def dV(M X:Nat->Int):Nat->Int:=fun p=>clamp (X p- M p)
def dO(M X:Nat->Int):Bool:=dN (fun p=>great (X p- M p)) 6
def uV(D:Nat->Int):Nat->Nat->Int:=fun i j=>clamp (rne (D i*D j) (2^20))
def uO(D:Nat->Int):Bool:=jK (fun i j=>great (rne (D i*D j) (2^20))) 6 6
def mV(F U:Nat->Nat->Int):Nat->Nat->Int:=fun i j=>clamp (F i j+U i j)
def mO(F U:Nat->Nat->Int):Bool:=jK (fun i j=>great (F i j+U i j)) 6 6
theorem Nl(f:Nat->Int):B64 (fun k=>clamp (f k)):=fun k=>by have:=GZ (f k);unfold Pr.InV at this;show _<=clamp (f k)/\clamp (f k)<=_;omega
theorem Yi(f:Nat->Nat->Int):B2 (fun i j=>clamp (f i j)):=fun i j=>by have:=GZ (f i j);unfold Pr.InV at this;show _<=clamp (f i j)/\clamp (f i j)<=_;omega
end Mx
theorem OT(s:Nat)(a:Bool)(mo:Option Addr)(mc:Nat)(M X:Nat->Int)(F:Nat->Nat->Int)(w:World)(h:SO w s a)(hm:Sl w mo 6 mc M)(bM:B64 M)(bX:B64 X)(bF:B2 F):
 Calls Tryz.prog 256 #[.pointer (some ⟨s,0,none⟩), .slice mo 6 mc, .agg (Pd.aB X 6 6 (mz 6 6 F)).toArray] w fun e w'=>e= .returned (.agg (aj 6 6 (mz 6 6 (mV F (uV (dV M X))))).toArray)/\SO w' s (a||(dO M X||uO (dV M X)||mO F (uV (dV M X))))/\Ld.But (· =s) w w':=by
 have hs:=ai.lt h;have t0:=(aH w 55 (Pd.aB X 6 6 (mz 6 6 F))).alloc (.cells (aj 0 0 (fun _=>0)).toArray 53);have r0:=dR w (.cells (Pd.aB X 6 6 (mz 6 6 F)).toArray 55) 0 0 (fun _=>0);have B0:Below w.heap.size w ((w.alloc (.cells (Pd.aB X 6 6 (mz 6 6 F)).toArray 55)).alloc (.cells (aj 0 0 (fun _=>0)).toArray 53)):=af (af (Below.refl _ _) _) _;obtain⟨W,hW⟩: ∃ W,W=(w.alloc (.cells (Pd.aB X 6 6 (mz 6 6 F)).toArray 55)).alloc (.cells (aj 0 0 (fun _=>0)).toArray 53):=⟨_,rfl⟩;rw [← hW] at t0 r0 B0;have HW:=dK hW;have s0:SO W s a:=ai.keep h B0;have b0:Ld.But (· =s) w W:=Ld.jb B0;have m0:=hm.keep B0;have x0:Sl W (some ⟨w.heap.size,0,none⟩) 6 6 X:=fH.sl t0;have HS:Hid (∀ V,Below W.heap.size W V->Calls Tryz.prog 288 #[.slice (some ⟨w.heap.size,0,none⟩) 6 6, .slice mo 6 mc] V fun e w'=> ∃ co cc,e= .returned (.tuple #[.slice co 6 cc, .bool (dO M X), .nilIface])/\Sl w' co 6 cc (dV M X)/\Below V.heap.size V w'):=fun V k=>VN 6 6 mc (some ⟨w.heap.size,0,none⟩) mo X M V om1 (x0.keep k) (m0.keep k) bX bM;have HO:Hid (∀ V ao ca,Sl V ao 6 ca (dV M X)->Calls Tryz.prog 289 #[.slice ao 6 ca, .slice ao 6 ca] V fun e w'=>e= .returned (.tuple #[.agg (aj 6 6 (mz 6 6 (uV (dV M X)))).toArray, .bool (uO (dV M X)), .nilIface])/\Below V.heap.size V w'):=fun V ao ca sl=>Oj 6 6 ca ca ao ao (dV M X) (dV M X) V om1 om1 om1 om1 sl sl (Nl _) (Nl _);have HA:Hid (∀ V,Calls Tryz.prog 156 #[.agg (aj 6 6 (mz 6 6 F)).toArray, .agg (aj 6 6 (mz 6 6 (uV (dV M X)))).toArray] V fun e w'=>e= .returned (.tuple #[.agg (aj 6 6 (mz 6 6 (mV F (uV (dV M X))))).toArray, .bool (mO F (uV (dV M X))), .nilIface])/\Below V.heap.size V w'):=fun V=>FC 6 6 F (uV (dV M X)) V om1 om1 om1 om1 bF (Yi _);have hsl:=Um w.heap.size 0;obtain⟨D,hD⟩: ∃ q,q=dV M X:=⟨_,rfl⟩;obtain⟨y1,hy1⟩: ∃ q,q=dO M X:=⟨_,rfl⟩;rw [← hD,← hy1] at HS;rw [← hD] at HO HA;rw [← hD,← hy1];obtain⟨zF,hzF⟩: ∃ q,q=mz 6 6 F:=⟨_,rfl⟩;obtain⟨zU,hzU⟩: ∃ q,q=mz 6 6 (uV D):=⟨_,rfl⟩;obtain⟨zR,hzR⟩: ∃ q,q=mz 6 6 (mV F (uV D)):=⟨_,rfl⟩;obtain⟨y2,hy2⟩: ∃ q,q=uO D:=⟨_,rfl⟩;obtain⟨y3,hy3⟩: ∃ q,q=mO F (uV D):=⟨_,rfl⟩;rw [← hzF] at t0 HW HA ⊢;rw [← hzU,← hy2] at HO;rw [← hzU,← hzR,← hy3] at HA;rw [← hzR,← hy2,← hy3];have p0:=fH.rm t0;clear hD hy1 hzF hzU hzR hy2 hy3 hW h hm bM bX bF m0 x0;go_enter Tryz.func256,Tryz.ntmps256
 go_wp2_with (first
  |(rw [dY,← HW.out])
  |fail)
 refine(HS.out _ (Below.refl _ _)).mono ?_;rintro e w1 ⟨co,cc,rfl,sD,k1⟩;have s1:SO w1 s a:=ai.keep s0 k1;have r1:=r0.keep k1;have t1:=ai.keep t0 k1;have b1:=b0.then k1;clear s0 r0 t0 b0 HS p0;go_wp2_with fail
 refine(uY s _ _ a y1 w1 s1).mono ?_;rintro e w2 ⟨rfl,s2,k2⟩;have sD2:=Ld.lK sD k2 (SO.off s1 sD om1);have r2:=Pd.dE r1 k2 om1;have t2:=Ld.aT t1 k2 om1;have b2:=b1.trans k2;clear s1 r1 t1 b1 sD k2;go_wp2_with fail
 refine(HO.out _ _ _ sD2).mono ?_;rintro e w3 ⟨rfl,k3⟩;have s3:SO w3 s _:=ai.keep s2 k3;have r3:=r2.keep k3;have t3:=ai.keep t2 k3;have b3:=b2.then k3;clear s2 r2 t2 b2 sD2 k3;go_wp2_with fail
 refine(uZ s _ _ _ _ y2 _ w3 s3).mono ?_;rintro e w4 ⟨rfl,s4,k4⟩;have r4:=Pd.dE r3 k4 om1;have t4:=Ld.aT t3 k4 om1;have b4:=b3.trans k4;clear s3 r3 t3 b3 k4;have p4:=fH.rm t4
 go_wp2_with (first
  |(rw [dY];refine Mt.aF rfl _ _ rl1 _ _ _ _ rl1 rl1 ?_;intro w5 n5 k5;have p5:w5.rangeAt w.heap.size 6 (aj 6 6 zF):=(fun j v hv=>ah k5 (p4 j v hv));have s5:SO w5 s _:=ai.keep s4 k5;have r5:=r4.keep k5;have b5:=b4.then k5;clear s4 r4 t4 b4 p4 k5)
  |((with_reducible show wpList _ _ _ _ _ _);refine St.dA Ie rl1 _ rl1 _ _ _ rl1 (by with_reducible exact p5) (dG _ _ _) ?_)
  |(refine Hk.fP _ (by with_reducible rfl) _ _ _ _ rl1 (by with_reducible exact n5) (by kernel_rfl) ?_)
  |fail)
 refine(HA.out _).mono ?_;rintro e w6 ⟨rfl,k6⟩;have s6:SO w6 s _:=ai.keep s5 k6;have r6:=r5.keep k6;have b6:=b5.then k6;clear s5 r5 b5 n5 p5 k6;go_wp2_with fail
 refine(uZ s _ _ _ _ y3 _ w6 s6).mono ?_;rintro e w7 ⟨rfl,s7,k7⟩;have r7:=Pd.dE r6 k7 om1;have b7:=b6.trans k7;clear s6 r6 b6 k7
 go_wp2_with (first
  |(refine aN rfl _ _ rl1 _ _ _ _ _ _ _ rl1 rl1 (by with_reducible exact r7) ?_)
  |fail)
 have eO:(a||(y1||y2||y3))=(((a||y1)||y2)||y3):=by cases a<;>cases y1<;>cases y2<;>rfl
 have s_e:SO (w7.setRow (w.heap.size+1) (aj 6 6 zR).toArray) s _:=ai.aY s7 (g:=w.heap.size+1) om1 _;rw [← eO] at s_e;exact bodyPost_ret (dS Tryz.results256 _ _ (w.heap.size+1) _ _ _ rfl (r7.row _ _ _)) rfl ⟨rfl,s_e,b7.lJ _ om1⟩
end
section
open Go.RowKit Vc Cn Mx St Mt Pd Qn Dt
attribute [local go_sem ↓] Go.wp_at_zero Go.wp_at_succ
namespace Mx
theorem makeM: ∀ (n:Nat),n<=4-> ∀ (W:World),(Instr.makeSlice 354 (.int .i64 (n:Int)) (.int .i64 (n:Int))).run Tryz.prog W= .ok (.slice (some ⟨W.heap.size,0,none⟩) n n) (W.alloc (.cells (El.eu (fun _=>aj 0 0 (fun _=>0)) n).toArray 53))
 |0,_=>fun W=>by kernel_rfl
 |1,_=>fun W=>by kernel_rfl
 |2,_=>fun W=>by kernel_rfl
 |3,_=>fun W=>by kernel_rfl
 |4,_=>fun W=>by kernel_rfl
 |n+5,h=>by omega
theorem But.wide{P Q:Nat->Prop}{a b c:World}(h:Ld.But P a b)(k:Ld.But Q b c)(e: ∀ q,Q q->P q\/a.heap.size<=q):Ld.But P a c:=
 ⟨k.os.trans h.os,k.tape.trans h.tape,k.output.trans h.output,Nat.le_trans h.size k.size,fun i hi hp=>(k.block i (Nat.lt_of_lt_of_le hi h.size) (fun q=>by
  rcases e i q with e|e
  · exact hp e
  · omega)).trans (h.block i hi hp)⟩
theorem Uo(n:Nat)(c:Nat->Int)(X:Nat->Nat->Int)(F:Nat->Nat->Nat->Int):aj 6 6 (wdk (mz 6 6 (je n c X F)) (nn (dg (mz 6 6 (je n c X F)))) 6)=aj 6 6 (mz 6 6 (jP n c X F)):=by
 refine jJ fun k hk=> ?_;rw [RJ _ _ k hk];refine pJ (fun i j hi hj=> ?_) k;unfold wd jP nn;by_cases e:i=j
 · subst e;rw [if_pos rfl,ZY _ hi];by_cases h:je n c X F i i<0
   · rw [if_pos ⟨rfl,h⟩];omega
   · rw [if_neg (fun q=>h q.2)];omega
 · rw [if_neg e,if_neg (fun q=>e q.1)]
theorem Ur{w:World}{s g n:Nat}{o:Bool}{X:Nat->Nat->Int}{r c:Nat->Int}{z:Nat->Nat->Int}(h:SO w s o)(h1:1<=n)(hg: ∀ k,k<n->w.rangeAt g (k*44) (Pd.aB (X k) (r k) (c k) (z k))): ¬g=s:=fun e=>by
 have hc:=hg 0 om1 0 _ (FO om1)
 obtain⟨k,hk⟩:=El.yw h hc e
 match k with
 |0=>simp at hk
 |k+1=>simp at hk
theorem But.new{P:Nat->Prop}{B:Nat}{a b c:World}(h:Ld.But P a b)(k:Below B b c)(e:a.heap.size<=B):Ld.But P a c:=
 ⟨k.os.trans h.os,k.tape.trans h.tape,k.output.trans h.output,Nat.le_trans h.size k.size,fun i hi hp=>(k.block i om1).trans (h.block i hi hp)⟩
theorem WL(X Y:Nat->Int)(r c:Int)(z:Nat->Int):splice (Pd.aB X r c z) 0 (vals 6 Y)=Pd.aB Y r c z:=by
 simp [splice,Pd.aB,aK,List.drop_append]
end Mx
theorem Kt(s:Nat)(a:Bool)(lo ho mo:Option Addr)(n cm hc mc:Nat)(X:Nat->Nat->Int)(F:Nat->Nat->Nat->Int)(ch:Nat->Int)(w:World)(h:SO w s a)(h1:1<=n)(h4:n<=4)
 (hl:Pst w lo n cm X (fun _=>6) (fun _=>6) (fun k=>mz 6 6 (F k))) (hch:Sl w ho n hc ch) (bch:B64 ch) (bX: ∀ k,B64 (X k)) (bF: ∀ k,B2 (F k)) (hm:Sl w mo 6 mc (jX n ch X)):
 Calls Tryz.prog 177 #[.pointer (some ⟨s,0,none⟩), .slice lo n cm, .slice ho n hc, .slice mo 6 mc] w fun e w'=>e= .returned (.agg (aj 6 6 (mz 6 6 (jP n ch X F))).toArray)/\SO w' s (a||((jko n ch X F n||dN (jao n ch X F) 6)||jeo n ch X F))/\Ld.But (· =s) w w':=by
 have hsl:=ai.lt h;have l1:=hl.le;have l2:=hl.cap;have hmk:=makeM n h4;have hmr: ∀ W,(Instr.makeSlice 23 (.int .i64 6) (.int .i64 6)).run Tryz.prog W= .ok (.slice (some ⟨W.heap.size,0,none⟩) 6 6) (W.alloc (.cells (Mt.aB 6 (fun _=> .slice none 0 0)).toArray 27)):=aaP 6 om1
 have HmO:Hid (∀ x,mo=some x->x.block<w.heap.size):=fun x hx=>by
  obtain⟨y,hy,hc⟩:=hm.at' 0 om1;rw [hx] at hy;cases hy
  have:=World.block_lt_of_cell? w _ hc;rw [Ld.dL] at this;exact this
 obtain⟨g,hlo,hg⟩:=hl.get;obtain rfl:=hlo om1;have HG:Hid (∀ k,k<n-> ∀ V,Ld.But (· =s) w V->V.rangeAt g (k*44) (Pd.aB (X k) 6 6 (mz 6 6 (F k)))):=fun k hk V q j v hv=>q.cell (hg k hk j v hv) (Ur h h1 hg);have HCH:Hid (∀ V,Ld.But (· =s) w V->Sl V ho n hc ch):=fun V q=>Ld.lK hch q (SO.off h hch om1)
 have HAb:Hid (∀ k,k<n-> ∀ V o,SO V s o->Sl V mo 6 mc (jX n ch X)->Calls Tryz.prog 256 #[.pointer (some ⟨s,0,none⟩), .slice mo 6 mc, .agg (Pd.aB (X k) 6 6 (mz 6 6 (F k))).toArray] V fun e w'=>e= .returned (.agg (aj 6 6 (mz 6 6 (jm n ch X F k))).toArray)/\SO w' s (o||(jdo n ch X k||juo n ch X k||jmo n ch X F k))/\Ld.But (· =s) V w'):=fun k _ V o q1 q2=>
  OT s o mo mc (jX n ch X) (X k) (F k) V q1 q2 (Nl _) (bX k) (bF k)
 have HJK:Hid (∀ k,jko n ch X F (k+1)=(jko n ch X F k||(jdo n ch X k||juo n ch X k||jmo n ch X F k))):=fun _=>rfl;have HJA:Hid (∀ k,dN (jao n ch X F) (k+1)=(dN (jao n ch X F) k||jao n ch X F k)):=fun _=>rfl
 have HJo:Hid (∀ (i:Nat) V vo vc,i<6->Ld.But (· =s) w V->Grid V vo n vc 6 (fun k=>jm n ch X F k i)->Calls Tryz.prog 175 #[.slice vo n vc, .slice ho n hc] V fun e w'=> ∃ co cc,e= .returned (.tuple #[.slice co 6 cc, .bool (jao n ch X F i), .nilIface])/\Sl w' co 6 cc (ja n ch X F i)/\Below V.heap.size V w'):=fun i V vo vc hi q gr=>by
  obtain⟨A,C,g1,g2⟩:=gr;exact Hg 6 vo ho n vc hc A C (fun k=>jm n ch X F k i) ch V g1 g2 om1 om1 h4 (HCH.out V q) (fun k=>Nl _) bch
 have HE:Hid (∀ V,Calls Tryz.prog 158 #[.agg (aj 6 6 (mz 6 6 (ja n ch X F))).toArray] V fun e w'=>e= .returned (.tuple #[.agg (aj 6 6 (mz 6 6 (je n ch X F))).toArray, .bool (jeo n ch X F), .nilIface])/\Below V.heap.size V w'):=fun V=>Bl 6 (ja n ch X F) V om1 om1 (Yi _);have HN:=dK (fun V=>Kq (mz 6 6 (je n ch X F)) V);rw [Uo] at HN
 have HOf:Hid (∀ V gr,Grid V (some ⟨gr,0,none⟩) 6 6 6 (ja n ch X F)->Calls Tryz.prog 140 #[.slice (some ⟨gr,0,none⟩) 6 6] V fun e w'=>e= .returned (.tuple #[.agg (aj 6 6 (mz 6 6 (ja n ch X F))).toArray, .nilIface])/\Below V.heap.size V w'):=fun V gr q=>by
  obtain⟨A,C,g1,g2⟩:=q;exact AZ 6 6 _ 6 A C _ V om1 om1 om1 om1 g1 g2
 have r0:=bJ w 0 0 (fun _=>0);have B0:=af (Below.refl _ w) (.cells (aj 0 0 (fun _=>0)).toArray 53);obtain⟨W,hW⟩: ∃ W,W=w.alloc (.cells (aj 0 0 (fun _=>0)).toArray 53):=⟨_,rfl⟩;have hWs:W.heap.size=w.heap.size+1:=by rw [hW];simp
 rw [← hW] at r0 B0;have HW:=dK hW;have s0:SO W s a:=ai.keep h B0;have b0:Ld.But (· =s) w W:=Ld.jb B0;have m0:=hm.keep B0;have E1:=El.Fa W 53 38 n (fun _=>aj 0 0 (fun _=>0)) (fun _ _=>dG _ _ _);have B1:=af (Below.refl _ W) (.cells (El.eu (fun _=>aj 0 0 (fun _=>0)) n).toArray 53);have hmk1:=hmk W;clear hmk;obtain⟨V,hV⟩: ∃ V,V=W.alloc (.cells (El.eu (fun _=>aj 0 0 (fun _=>0)) n).toArray 53):=⟨_,rfl⟩;rw [← hV] at E1 B1 hmk1;have r1:=r0.keep B1;have s1:SO V s a:=ai.keep s0 B1;have b1:=b0.then B1;have m1:=m0.keep B1;obtain⟨ge,hge⟩: ∃ ge,ge=W.heap.size:=⟨_,rfl⟩;rw [← hge] at E1 hmk1;have hge1:w.heap.size<ge:=om1;clear hW hV h hm hl hg hlo r0 B0 s0 b0 m0 B1 hWs hge bX bF bch hch;have HST:=dK (show _/\_/\_/\_/\_ from⟨E1,r1,s1,b1,m1⟩);clear E1 r1 s1 b1 m1;go_enter Tryz.func177,Tryz.ntmps177
 go_wp2_with (first
  |(rw [dY,← HW.out])
  |fail)
 go_loopw [21] (fun iv wr=> ∃ (k:Nat) (S:Nat->List Value),k<=n/\iv= .int .i64 (k:Int)/\(∀ j,j<k->S j=aj 6 6 (mz 6 6 (jm n ch X F j)))/\El.nG wr ge 53 38 n S/\dU wr w.heap.size 0 0 (fun _=>0)/\SO wr s (a||jko n ch X F k)/\Ld.But (· =s) w wr/\Sl wr mo 6 mc (jX n ch X)) (fun iv _=>n- (intOf iv).toNat)
 case atStart=>
  obtain⟨q1,q2,q3,q4,q5⟩:=HST.out;exact⟨0,_,om1,rfl,fun j hj=>by omega,q1,q2,by show SO V s (a||false);rw [Bool.or_false];exact q3,q4,q5⟩
 case round=>
  rename World=>wr;obtain⟨k,S,hk,rfl,hS,eR,rR,sR,bR,mR⟩:=hrel;by_cases h:k<n
  ·have p1:=HG.out k h wr bR;have HC:=dK (HAb.out k h);have HS:=dK hS;have HOr:=dK (HJK.out k);have kn:(k:Int)<n:=om1;obtain⟨zk,hzk⟩: ∃ q,q=mz 6 6 (F k):=⟨_,rfl⟩;obtain⟨Xk,hXk⟩: ∃ q,q=X k:=⟨_,rfl⟩;obtain⟨zm,hzm⟩: ∃ q,q=mz 6 6 (jm n ch X F k):=⟨_,rfl⟩;obtain⟨yk,hyk⟩: ∃ q,q=(jdo n ch X k||juo n ch X k||jmo n ch X F k):=⟨_,rfl⟩;obtain⟨yp,hyp⟩: ∃ q,q=jko n ch X F k:=⟨_,rfl⟩;rw [← hzk,← hXk] at p1;rw [← hzk,← hXk,← hzm,← hyk] at HC;rw [← hyk,← hyp] at HOr;rw [← hyp] at sR;have HZM:=dK hzm;clear hzk hXk hzm hyk hyp hS;have hrl:=eR.lt
   go_wp2_with (first
    |((with_reducible show wpList _ _ _ _ _ _);refine St.dA isS rl1 _ rl1 _ _ _ rl1 (by with_reducible exact p1) (aA _ _ _ _) ?_)
    |(rw [zeroS];refine St.aF isS rfl _ _ rl1 _ _ _ rl1 rl1 (aA _ _ _ _) (aA _ _ _ _) (cZ _ _ _ _) ?_;intro w2 t2 k2;have e2:=eR.keep k2;have r2:=rR.keep k2;have s2:SO w2 s _:=ai.keep sR k2;have b2:=bR.then k2;have m2:=mR.keep k2;clear k2 p1 eR rR sR bR mR)
    |((with_reducible show wpList _ _ _ _ _ _);refine St.aI isS rl1 _ rl1 _ _ rl1 (by with_reducible exact t2) (aA _ _ _ _) ?_)
    |fail)
   refine(HC.out w2 _ s2 m2).mono ?_;rintro e w3 ⟨rfl,s3,k3⟩;have e3:=e2.but k3 om1;have r3:=Pd.dE r2 k3 om1;have b3:=b2.trans k3;have m3:=Ld.lK m2 k3 (SO.off s2 m2 om1);clear e2 r2 s2 b2 m2 k3 t2
   go_wp2_with (first
    |((with_reducible show wpList _ _ _ _ _ _);refine El.mQ 53 rfl _ _ rl1 (aj 6 6 zm) rl1 rl1 (by with_reducible exact e3) h (dG _ _ _) Tryz.yJ (vT _ _ _) ?_;intro w4 e4 k4)
    |fail)
   have s4:SO w4 s _:=Ld.aT s3 k4 om1;have r4:=Pd.dE r3 k4 om1;have b4:=But.wide b3 k4 (fun q e=>Or.inr om1);have m4:=Ld.lK m3 k4 (fun x hx=>by have:=HmO.out x hx;omega);have HEE:=dK (show _/\_/\_/\_/\_ from⟨e4,r4,s4,b4,m4⟩);clear e3 r3 s3 b3 m3 k4 e4 r4 s4 b4 m4;go_wp2;all_goals go_roundw
   all_goals first
    |(case rel=>
     obtain⟨q1,q2,q3,q4,q5⟩:=HEE.out;refine⟨k+1,_,om1,by go_num,fun j hj=> ?_,q1,q2,by rw [HOr.out,← Bool.or_assoc];exact q3,q4,q5⟩;by_cases e:j=k
     ·rw [if_pos e,e,HZM.out]
     ·rw [if_neg e];exact HS.out j om1)
    |(case measure=>simp [intOf];omega)
  ·obtain rfl:n=k:=om1;have eR:=eR.congr hS;have hrl:=eR.lt;have R1:=aH wr 27 (Mt.aB 6 (fun _=> .slice none 0 0));have B1:=af (Below.refl _ wr) (.cells (Mt.aB 6 (fun _=> .slice none 0 0)).toArray 27);have hmr1:=hmr wr;clear hmr;obtain⟨V1,hV1⟩: ∃ V,V=wr.alloc (.cells (Mt.aB 6 (fun _=> .slice none 0 0)).toArray 27):=⟨_,rfl⟩;rw [← hV1] at R1 B1 hmr1;have e1:=eR.keep B1;have r1:=rR.keep B1;have s1:SO V1 s _:=ai.keep sR B1;have b1:=bR.then B1;obtain⟨gr,hgr⟩: ∃ gr,gr=wr.heap.size:=⟨_,rfl⟩;rw [← hgr] at R1 hmr1;have hgr1:ge<gr:=om1;have hbs:=bR.size;have hgr2:w.heap.size<=gr:=om1;have hge2: ¬s=gr:=om1;have HST1:=dK (show _/\_/\_/\_/\_ from⟨R1,e1,r1,s1,b1⟩);clear eR rR sR bR mR B1 hV1 hgr hrl R1 e1 r1 s1 b1 hS h hbs;go_wp2;go_loopw [37] (fun iv wl=> ∃ (k:Nat) (S:Nat->Value),k<=6/\iv= .int .i64 (k:Int)/\(∀ j,j<6-> ∃ a m c,S j= .slice a m c)/\(∀ j,j<k-> ∃ a c,S j= .slice a 6 c/\Sl wl a 6 c (ja n ch X F j))/\yM wl gr 6 S/\El.nG wl ge 53 38 n (fun j=>aj 6 6 (mz 6 6 (jm n ch X F j)))/\dU wl w.heap.size 0 0 (fun _=>0)/\SO wl s (a||(jko n ch X F n||dN (jao n ch X F) k))/\Ld.But (· =s) w wl) (fun iv _=>6- (intOf iv).toNat)
   case atStart=>
    obtain⟨q1,q2,q3,q4,q5⟩:=HST1.out;exact⟨0,_,om1,rfl,fun j hj=>⟨_,_,_,rfl⟩,fun j hj=>by omega,q1,q2,q3,by show SO V1 s (a||(jko n ch X F n||false));rw [Bool.or_false];exact q4,q5⟩
   case round=>
    rename World=>wl;obtain⟨k,S,hk,rfl,hS,hr,lL,eL,rL,sL,bL⟩:=hrel;by_cases h:k<6
    ·have HR:=dK (WJ ge n k (fun j=>jm n ch X F j) wl (fun j hj=>(eL.at' j hj).2) h4 h);have HJ:=dK (fun V vo vc q1 q2=>HJo.out k V vo vc h q1 q2);have HS:=dK hS;have HRR:=dK hr;have HOr:=dK (HJA.out k);obtain⟨f,hf⟩: ∃ q,q=ja n ch X F k:=⟨_,rfl⟩;obtain⟨yk,hyk⟩: ∃ q,q=jao n ch X F k:=⟨_,rfl⟩;obtain⟨yp,hyp⟩: ∃ q,q=dN (jao n ch X F) k:=⟨_,rfl⟩;obtain⟨yj,hyj⟩: ∃ q,q=jko n ch X F n:=⟨_,rfl⟩;rw [← hf,← hyk] at HJ;rw [← hyk,← hyp] at HOr;rw [← hyp,← hyj] at sL;rw [← hyj];have HF:=dK hf;clear hf hyk hyp hyj hS hr;have hll:=ai.lt lL;go_wp2_with fail
     refine HR.out.mono ?_;rintro e w1 ⟨vo,vc,rfl,k1,g1⟩;have l1:yM w1 gr 6 S:=ai.keep lL k1;have e1:=eL.keep k1;have r1:=rL.keep k1;have s1:SO w1 s _:=ai.keep sL k1;have b1:=bL.then k1
     have HRR1:Hid (∀ j,j<k-> ∃ a c,S j= .slice a 6 c/\Sl w1 a 6 c (ja n ch X F j)):=fun j hj=>by
      obtain⟨a,c,q1,q2⟩:=HRR.out j hj;exact⟨a,c,q1,q2.keep k1⟩
     clear lL eL rL sL bL HRR k1 HR;go_wp2_with fail
     refine(HJ.out w1 vo vc b1 g1).mono ?_;rintro e w2 ⟨co,cc,rfl,sC,k2⟩;have l2:yM w2 gr 6 S:=ai.keep l1 k2;have e2:=e1.keep k2;have r2:=r1.keep k2;have s2:SO w2 s _:=ai.keep s1 k2;have b2:=b1.then k2
     have HRR2:Hid (∀ j,j<k-> ∃ a c,S j= .slice a 6 c/\Sl w2 a 6 c (ja n ch X F j)):=fun j hj=>by
      obtain⟨a,c,q1,q2⟩:=HRR1.out j hj;exact⟨a,c,q1,q2.keep k2⟩
     clear l1 e1 r1 s1 b1 HRR1 k2 g1;go_wp2_with fail
     refine(uY s _ _ _ yk w2 s2).mono ?_;rintro e w3 ⟨rfl,s3,k3⟩;have l3:yM w3 gr 6 S:=Ld.aT l2 k3 om1;have e3:=e2.but k3 om1;have r3:=Pd.dE r2 k3 om1;have b3:=b2.trans k3;have sC3:=Ld.lK sC k3 (SO.off s2 sC om1)
     have HRR3:Hid (∀ j,j<k-> ∃ a c,S j= .slice a 6 c/\Sl w3 a 6 c (ja n ch X F j)):=fun j hj=>by
      obtain⟨a,c,q1,q2⟩:=HRR2.out j hj;exact⟨a,c,q1,Ld.lK q2 k3 (SO.off s2 q2 om1)⟩
     clear l2 e2 r2 s2 b2 HRR2 k3 sC;have d1:=l3.cell (Mt.jZ (S:=S) h) rfl;have f1:=l3.free k;have k4:Ld.But (· =gr) w3 (w3.setCell ⟨gr,k,none⟩ (.slice co 6 cc)):=(Ld.But.refl _ _).set (p:=⟨gr,k,none⟩) _ rfl;have l4:=yM.setS l3 k (.slice co 6 cc);have e4:=e3.but k4 om1;have r4:=Pd.dE r3 k4 om1;have s4:SO _ s _:=Ld.aT s3 k4 om1;have b4:=But.wide b3 k4 (fun q e=>Or.inr om1)
     have HS4:Hid (∀ j,j<6-> ∃ a m c,(if j=k then Value.slice co 6 cc else S j)= .slice a m c):=fun j hj=>by
      by_cases e:j=k
      ·rw [if_pos e];exact⟨_,_,_,rfl⟩
      ·rw [if_neg e];exact HS.out j hj
     have HR4:Hid (∀ j,j<k+1-> ∃ a c,(if j=k then Value.slice co 6 cc else S j)= .slice a 6 c/\Sl (w3.setCell ⟨gr,k,none⟩ (.slice co 6 cc)) a 6 c (ja n ch X F j)):=fun j hj=>by
      by_cases e:j=k
      ·rw [if_pos e,e,← HF.out];exact⟨_,_,rfl,Ld.lK sC3 k4 (yM.off l3 HS.out sC3 om1)⟩
      ·rw [if_neg e];obtain⟨a,c,q1,q2⟩:=HRR3.out j om1;exact⟨a,c,q1,Ld.lK q2 k4 (yM.off l3 HS.out q2 om1)⟩
     have HEE:=dK (show _/\_/\_/\_/\_ from⟨l4,e4,r4,s4,b4⟩);obtain⟨a1,m1,c1,ee1⟩:=HS.out k h;rw [ee1] at d1;clear l3 e3 r3 s3 b3 k4 l4 e4 r4 s4 b4 ee1 HRR3 sC3;have eB: ∀ p q r t:Bool,((p||(q||r))||t)=(p||(q||(r||t))):=by decide
     have HB:=dK eB;clear eB;go_wp2;go_roundw
     case rel=>
      obtain⟨q1,q2,q3,q4,q5⟩:=HEE.out;exact⟨k+1,_,om1,by go_num,HS4.out,HR4.out,q1,q2,q3,by rw [HOr.out,← HB.out];exact q4,q5⟩
     case measure=>simp [intOf];omega
    ·obtain rfl:k=6:=om1;have gR:=yM.grid lL om1 hr;have HOf1:=dK (HOf.out wl gr gR);clear hS hr lL eL gR h hk;obtain⟨zA,hzA⟩: ∃ q,q=mz 6 6 (ja n ch X F):=⟨_,rfl⟩;obtain⟨zE,hzE⟩: ∃ q,q=mz 6 6 (je n ch X F):=⟨_,rfl⟩;obtain⟨zP,hzP⟩: ∃ q,q=mz 6 6 (jP n ch X F):=⟨_,rfl⟩;obtain⟨yE,hyE⟩: ∃ q,q=jeo n ch X F:=⟨_,rfl⟩;obtain⟨yQ,hyQ⟩: ∃ q,q=(jko n ch X F n||dN (jao n ch X F) 6):=⟨_,rfl⟩;rw [← hzA] at HOf1 HE;rw [← hzE,← hyE] at HE;rw [← hzE,← hzP] at HN;rw [← hyQ] at sL;have HZP:=dK hzP;have HYE:=dK hyE;have HYQ:=dK hyQ;clear hzA hzE hzP hyE hyQ HOf HJo HJA HJK HAb HG HCH;go_wp2_with fail
     refine HOf1.out.mono ?_;rintro e w1 ⟨rfl,k1⟩;have r1:=rL.keep k1;have s1:SO w1 s _:=ai.keep sL k1;have b1:=bL.then k1;clear rL sL bL k1 HOf1
     go_wp2_with (first
      |(rw [dY];refine Mt.aF rfl _ _ rl1 _ _ _ _ rl1 rl1 ?_;intro w2 n2 k2;have s2:SO w2 s _:=ai.keep s1 k2;have r2:=r1.keep k2;have b2:=b1.then k2;clear s1 r1 b1 k2)
      |(refine Hk.fP _ (by with_reducible rfl) _ _ _ _ rl1 (by with_reducible exact n2) (by kernel_rfl) ?_)
      |fail)
     refine(HE.out _).mono ?_;rintro e w3 ⟨rfl,k3⟩;have s3:SO w3 s _:=ai.keep s2 k3;have r3:=r2.keep k3;have b3:=b2.then k3;clear s2 r2 b2 n2 k3;go_wp2_with fail
     refine(uZ s _ _ _ _ yE _ w3 s3).mono ?_;rintro e w4 ⟨rfl,s4,k4⟩;have r4:=Pd.dE r3 k4 om1;have b4:=b3.trans k4;clear s3 r3 b3 k4;go_wp2_with fail
     refine(HN.out _).mono ?_;rintro e w5 ⟨rfl,k5⟩;have s5:SO w5 s _:=ai.keep s4 k5;have r5:=r4.keep k5;have b5:=b4.then k5;clear s4 r4 b4 k5
     go_wp2_with (first
      |(refine aN rfl _ _ rl1 _ _ _ _ _ _ _ rl1 rl1 (by with_reducible exact r5) ?_)
      |fail)
     have s_e:SO (w5.setRow w.heap.size (aj 6 6 zP).toArray) s _:=ai.aY s5 (g:=w.heap.size) om1 _;rw [Bool.or_assoc] at s_e;exact bodyPost_ret (dS Tryz.results177 _ _ w.heap.size _ _ _ rfl (r5.row _ _ _)) rfl ⟨by rw [← HZP.out],by rw [← HYE.out,← HYQ.out];exact s_e,b5.lJ _ om1⟩
end
section
open Go.RowKit Vc Cn Mx St
namespace Mx
theorem bT{p:Prop}(h:p):Hid p:=h
theorem aaR{a:Nat->Int}{n:Nat}(h0: ∀ k,k<n->0<=a k)(hn:0<n):(tot a n=0->mx a n=0)/\(0<tot a n->0<mx a n):=by
 obtain⟨n1,rfl⟩: ∃ n1,n=n1+1:=⟨n- 1,om1⟩;rw [aaF];have hs:=FW a n1;have hq:=MX a n1;refine⟨fun e=>Nb h0 e om1,fun e=> ?_⟩;rcases Int.lt_or_le 0 (a (mst a (n1+1))) with c|c
 · exact c
 · exfalso
   have e2:tot a (n1+1)=tot (fun _=>0) (n1+1):=iC fun k hk=>by
    have h1:=hs.1 k hk;have h2:=h0 k hk;show a k=0;omega
   rw [e2,jc] at e;omega
end Mx
theorem Ku(t n:Nat)(w:World)(ht:t<n)(hn:n<=4):
 Calls Tryz.prog 179 #[.int .i64 (t:Int), .int .i64 (n:Int)] w fun e w'=> ∃ vo vc,e= .returned (.slice vo n vc)/\Below w.heap.size w w'/\Sl w' vo n vc (fun k=>if k=t then 1073741824 else 0):=by
 have hmi:=J8 n hn w;have nA:=aH w 2 (vals n (fun _=>0));have b0:=af (Below.refl _ w) (.cells (vals n (fun _=>0)).toArray 2);obtain⟨W,hW⟩: ∃ W,W=w.alloc (.cells (vals n (fun _=>0)).toArray 2):=⟨_,rfl⟩;rw [← hW] at hmi nA b0;clear hW;have f1:=nA.free t;have m1:=nA.set t (.int .i64 1073741824);rw [fG] at m1;have HM:=bT m1;have HB:=bT (b0.setCell (p:=⟨w.heap.size,t,none⟩) (Nat.le_refl _) (.int .i64 1073741824));have c1:=nA.cell (dI (z:=fun _=>0) ht) rfl;clear nA b0 m1;go_enter Tryz.func179,Tryz.ntmps179
 go_wp2;go_ret;exact⟨_,_,rfl,HB.out,iF HM.out hn⟩
theorem Kv(ao lo:Option Addr)(n ca cm:Nat)(z:Nat->Int)(A:Nat->Option Addr)(L C:Nat->Nat)(R:Nat->Nat->Int)(t:Nat)(W:World)(ha:Sl W ao n ca z)(hl:Sls W lo n cm A L C)(hr: ∀ i,i<n->Sl W (A i) (L i) (C i) (R i))(hM:I9 n z n L R)(ht:t<n):
 Calls Tryz.prog 91 #[.slice ao n ca, .slice lo n cm, .int .i64 (t:Int)] W fun e w'=> ∃ vo vc,e= .returned (.slice vo n vc)/\Below W.heap.size W w'/\Sl w' vo n vc (shr n z R t):=by
 have h4:=hM.ch.four;have l1:=ha.le;have l2:=ha.cap;have l3:=hl.le;have l4:=hl.cap;obtain⟨x,hao,hca⟩:=ha.get;obtain⟨y,hlo,hcl⟩:=hl.get;obtain rfl:=hao om1;obtain rfl:=hlo om1;have HX:=bT hca;have HY:=bT hcl
 have HR:Hid (∀ i,i<n-> ∃ xr,A i=some xr/\L i=n/\n<=C i/\C i<=9223372036854775807/\W.cell? (xr.add t)=some (.int .i64 (R i t))):=fun i hi=>by
  have hs:=hr i hi;have hL:=(hM.row i hi).1;rw [hL] at hs;obtain⟨xr,e1,e2⟩:=hs.at' t ht;exact⟨xr,e1,hL,hs.le,hs.cap,e2⟩
 have HZ:Hid (∀ k,k<n->(0<=z k/\z k<=1073741824)/\0<=R k t/\R k t<=1073741824):=fun k hk=>⟨hM.ch.nn hk,(hM.row k hk).2.nn ht⟩;have HW:Hid (∀ k,k<n->wt n z R t k=z k*R k t):=fun k hk=>by unfold wt;rw [if_pos hk]
 have HMW:=bT (wt_may hM ht);have HS:Hid (∀ k,k<n->shr n z R t k=if tot (wt n z R t) n=0 then(if k=t then 1073741824 else 0) else sh 1073741824 (wt n z R t) n k):=fun k hk=>LM hk;have hmi:=J8 n h4;have HN0:=bT (aH W 2 (vals n (fun _=>0)));have HB0:=bT (af (Below.refl _ W) (.cells (vals n (fun _=>0)).toArray 2));clear ha hl hao hlo hca hcl hr hM;go_enter Tryz.func91,Tryz.ntmps91
 go_wp2;go_loopw [17] (fun iv wr=> ∃ (i:Nat) (zo:Nat->Int),i<=n/\iv= .int .i64 (i:Int)/\(∀ j,j<i->zo j=wt n z R t j)/\ai wr W.heap.size 2 (vals n zo)/\Below W.heap.size W wr) (fun iv _=>n- (intOf iv).toNat)
 case atStart=>exact⟨0,fun _=>0,om1,rfl,fun j hj=>by omega,HN0.out,HB0.out⟩
 case round=>
  rename World=>wr;obtain⟨i,zo,hi,rfl,hzo,nA,kr⟩:=hrel;by_cases h:i<n
  ·obtain⟨xr,e1,e2,e3,e4,e5⟩:=HR.out i h;have c1:=ah kr (HY.out i h);have c2:=ah kr (HX.out i h);have c3:=ah kr e5;rw [e1,e2] at c1;have hz:=HZ.out i h;have p0:0<=z i*R i t:=Int.mul_nonneg hz.1.1 hz.2.1;have p1:z i*R i t<=1073741824*1073741824:=Int.mul_le_mul hz.1.2 hz.2.2 hz.2.1 om1;have d1:=nA.cell (dI (z:=zo) h) rfl;have f1:=nA.free i;have m1:=nA.set i (.int .i64 (z i*R i t));rw [fG] at m1;have HM1:=bT m1;have HK:=bT (kr.setCell (p:=⟨W.heap.size,i,none⟩) (Nat.le_refl _) (.int .i64 (z i*R i t)))
   have HZ1:Hid (∀ q,q<i+1->(if q=i then z i*R i t else zo q)=wt n z R t q):=fun q hq=>by
    by_cases e:q=i
    ·rw [if_pos e,e,HW.out i h]
    ·rw [if_neg e];exact hzo q om1
   obtain⟨X,hX'⟩: ∃ X,X=z i*R i t:=⟨_,rfl⟩;rw [← hX'] at HM1 HK HZ1 p0 p1;obtain⟨Y,hY'⟩: ∃ Y,Y=z i:=⟨_,rfl⟩;obtain⟨V,hV'⟩: ∃ V,V=R i t:=⟨_,rfl⟩;obtain⟨cc,hcc⟩: ∃ cc,cc=C i:=⟨_,rfl⟩;rw [← hcc] at c1 e3 e4;rw [← hY'] at c2 hX';rw [← hV'] at c3 hX';have q1:IntKind.i64.wrap (Y*V)=X:=by rw [← hX',IntKind.wrap_i64];omega
   clear m1 nA kr hzo hX' hY' hV' hcc e1 e2 e5 p0 p1 hz;go_wp2;all_goals go_roundw
   all_goals first
    |(case rel=>exact⟨i+1,_,om1,by go_num,HZ1.out,HM1.out,HK.out⟩)
    |(case measure=>simp [intOf];omega)
  ·obtain rfl:n=i:=om1
   have mW:ai wr W.heap.size 2 (vals n (wt n z R t)):=by
    rw [← dZ (n:=n) (z:=zo) (z':=wt n z R t) hzo];exact nA
   have sW:=iF mW h4;obtain⟨_,_,hcW⟩:=sW.get;have mz:=aaR (a:=wt n z R t) (n:=n) (fun k hk=>(HMW.out.each k hk).1) om1;have t0:=qF (a:=wt n z R t) (n:=n) (fun k hk=>(HMW.out.each k hk).1);have HMx:=bT (Uf ⟨W.heap.size,0,none⟩ n n (wt n z R t) wr om1 (Nat.le_refl _) om1 (fun k hk=>by rw [Addr.add_lit,Nat.zero_add];exact mW.cell (dI hk) rfl));by_cases ht0:tot (wt n z R t) n=0
   ·rw [mz.1 ht0] at HMx;have HSu:=bT (fun w'=>Ku t n w' ht h4);have HEq:Hid (∀ k,k<n->(if k=t then(1073741824:Int) else 0)=shr n z R t k):=fun k hk=>by rw [HS.out k hk,if_pos ht0]
    have HKR:=bT kr;clear mz t0 ht0 sW mW hcW nA hzo kr
    go_wp2_with (first
     |(go_at_call 178;refine HMx.out.mono ?_;rintro e w' ⟨rfl,q⟩;obtain rfl:=q.symm)
     |fail)
    refine(HSu.out _).mono ?_;rintro e w' ⟨vo,vc,rfl,k1,s1⟩;go_wp2;go_ret;exact⟨_,_,rfl,ae HKR.out k1,s1.congr HEq.out⟩
   ·have hp:=mz.2 om1;obtain⟨M,hM'⟩: ∃ M,M=mx (wt n z R t) n:=⟨_,rfl⟩;rw [← hM'] at HMx hp;have q0:(M==0)=false:=beq_eq_false_iff_ne.2 om1
    have HOf:=bT (cn_of wr (some ⟨W.heap.size,0,none⟩) n n (wt n z R t) 0 sW (fun k=>by
     unfold wt;by_cases e:k<n
     ·rw [if_pos e];have hz:=HZ.out k e;have p0:0<=z k*R k t:=Int.mul_nonneg hz.1.1 hz.2.1;have p1:z k*R k t<=1073741824*1073741824:=Int.mul_le_mul hz.1.2 hz.2.2 hz.2.1 om1;omega
     ·rw [if_neg e];omega) om1 om1)
    have HNo:Hid (∀ k,k<n->sh (1073741824- 0*n) (wt n z R t) n k+0=shr n z R t k):=fun k hk=>by rw [HS.out k hk,if_neg ht0,Int.zero_mul,Int.sub_zero,Int.add_zero]
    have HKR:=bT kr;have HPos:Hid (0<tot (wt n z R t) n):=by show 0<_;omega
    clear mz t0 ht0 sW mW hcW nA hzo kr hM'
    go_wp2_with (first
     |(go_at_call 178;refine HMx.out.mono ?_;rintro e w' ⟨rfl,q⟩;obtain rfl:=q.symm)
     |fail)
    refine HOf.out.mono ?_;rintro e w' ⟨vo,vn,vc,ev,rfl,k1,s1,⟨q,_⟩|⟨_,q,_⟩|⟨_,_,rfl,rfl⟩⟩
    ·exact absurd HMW.out q
    ·exact absurd q (by have:=HPos.out;omega)
    ·go_wp2;go_ret;exact⟨_,_,rfl,ae HKR.out k1,s1.congr HNo.out⟩
end
section
open Go.RowKit Vc Cn Mx St Mt Pd Qn Dt
attribute [local go_sem ↓] Go.wp_at_zero Go.wp_at_succ
theorem Ce(s:Nat)(a:Bool)(lo ho:Option Addr)(n cm hc:Nat)(X:Nat->Nat->Int)(F:Nat->Nat->Nat->Int)(ch:Nat->Int)(w:World)(h:SO w s a)(h1:1<=n)(h4:n<=4)
 (hl:Pst w lo n cm X (fun _=>6) (fun _=>6) (fun k=>mz 6 6 (F k))) (hch:Sl w ho n hc ch) (bch:B64 ch) (bX: ∀ k,B64 (X k)) (bF: ∀ k,B2 (F k)):
 Calls Tryz.prog 90 #[.pointer (some ⟨s,0,none⟩), .slice lo n cm, .slice ho n hc] w fun e w'=>e= .returned (.agg (Pd.aB (jX n ch X) 6 6 (mz 6 6 (jP n ch X F))).toArray)/\SO w' s (a||jO n ch X F)/\Ld.But (· =s) w w':=by
 have hsl:=ai.lt h;have r0:=aH w 55 (Pd.aB (fun _=>0) 0 0 (fun _=>0));have B0:=af (Below.refl _ w) (.cells (Pd.aB (fun _=>0) 0 0 (fun _=>0)).toArray 55);obtain⟨W,hW⟩: ∃ W,W=w.alloc (.cells (Pd.aB (fun _=>0) 0 0 (fun _=>0)).toArray 55):=⟨_,rfl⟩;rw [← hW] at r0 B0;have HW:=dK hW;have s0:SO W s a:=ai.keep h B0;have b0:Ld.But (· =s) w W:=Ld.jb B0;have HP:=dK (Ko lo n cm X _ _ _ W (hl.keep B0) h4);have HCH:Hid (∀ V,Ld.But (· =s) w V->Sl V ho n hc ch):=fun V q=>Ld.lK hch q (SO.off h hch om1)
 have HPS:Hid (∀ V,Ld.But (· =s) w V->Pst V lo n cm X (fun _=>6) (fun _=>6) (fun k=>mz 6 6 (F k))):=fun V q=>by
  obtain⟨g,hlo,hg⟩:=hl.get;have hn:=Ur h h1 hg;exact⟨hl.le,hl.cap,fun k hk=>⟨g,hlo om1,fun j v hv=>q.cell (hg k hk j v hv) hn⟩⟩
 have HJo:Hid (∀ V vo vc,Ld.But (· =s) w V->Grid V vo n vc 6 X->Calls Tryz.prog 175 #[.slice vo n vc, .slice ho n hc] V fun e w'=> ∃ co cc,e= .returned (.tuple #[.slice co 6 cc, .bool (jXo n ch X), .nilIface])/\Sl w' co 6 cc (jX n ch X)/\Below V.heap.size V w'):=fun V vo vc q gr=>by
  obtain⟨A,C,g1,g2⟩:=gr;exact Hg 6 vo ho n vc hc A C X ch V g1 g2 om1 om1 h4 (HCH.out V q) bX bch
 have HSp:Hid (∀ V o mo mc,SO V s o->Ld.But (· =s) w V->Sl V mo 6 mc (jX n ch X)->Calls Tryz.prog 177 #[.pointer (some ⟨s,0,none⟩), .slice lo n cm, .slice ho n hc, .slice mo 6 mc] V fun e w'=>e= .returned (.agg (aj 6 6 (mz 6 6 (jP n ch X F))).toArray)/\SO w' s (o||((jko n ch X F n||dN (jao n ch X F) 6)||jeo n ch X F))/\Ld.But (· =s) V w'):=fun V o mo mc q1 q2 q3=>
  Kt s o lo ho mo n cm hc mc X F ch V q1 h1 h4 (HPS.out V q2) (HCH.out V q2) bch bX bF q3
 clear hl hch bch bX bF;have HJ0:Hid (jO n ch X F=(((jXo n ch X||jko n ch X F n)||dN (jao n ch X F) 6)||jeo n ch X F)):=rfl;obtain⟨Y,hY⟩: ∃ q,q=jX n ch X:=⟨_,rfl⟩;obtain⟨zP,hzP⟩: ∃ q,q=mz 6 6 (jP n ch X F):=⟨_,rfl⟩;obtain⟨y1,hy1⟩: ∃ q,q=jXo n ch X:=⟨_,rfl⟩;obtain⟨y2,hy2⟩: ∃ q,q=((jko n ch X F n||dN (jao n ch X F) 6)||jeo n ch X F):=⟨_,rfl⟩;obtain⟨yO,hyO⟩: ∃ q,q=jO n ch X F:=⟨_,rfl⟩
 have HO:Hid (∀ p:Bool,((p||y1)||y2)=(p||yO)):=fun p=>by
  rw [hy1,hy2,hyO,HJ0.out];generalize jXo n ch X=q1;generalize jko n ch X F n=q2;generalize dN (jao n ch X F) 6=q3;generalize jeo n ch X F=q4;cases p<;>cases q1<;>cases q2<;>cases q3<;>rfl
 rw [← hY,← hy1] at HJo;rw [← hY,← hzP,← hy2] at HSp;rw [← hY,← hzP,← hyO];have hal:=Um;clear hW h hY hzP hy1 hy2 hyO HJ0;go_enter Tryz.func90,Tryz.ntmps90
 go_wp2_with (first
  |(rw [zeroS,← HW.out])
  |fail)
 refine HP.out.mono ?_;rintro e w1 ⟨vo,vc,rfl,k1,g1⟩;have s1:SO w1 s a:=ai.keep s0 k1;have r1:=ai.keep r0 k1;have b1:=b0.then k1;clear s0 r0 b0 k1 HP;go_wp2_with fail
 refine(HJo.out _ _ _ b1 g1).mono ?_;rintro e w2 ⟨co,cc,rfl,sC,k2⟩;have s2:SO w2 s a:=ai.keep s1 k2;have r2:=ai.keep r1 k2;have b2:=b1.then k2;clear s1 r1 b1 k2 g1;go_wp2_with fail
 refine(uY s _ _ a y1 w2 s2).mono ?_;rintro e w3 ⟨rfl,s3,k3⟩;have r3:=Ld.aT r2 k3 om1;have b3:=b2.trans k3;have sC3:=Ld.lK sC k3 (SO.off s2 sC om1);clear s2 r2 b2 k3 sC;go_wp2_with fail
 refine(HSp.out _ _ _ _ s3 b3 sC3).mono ?_;rintro e w4 ⟨rfl,s4,k4⟩;have r4:=Ld.aT r3 k4 om1;have b4:=b3.trans k4;have sC4:=Ld.lK sC3 k4 (SO.off s3 sC3 om1);clear s3 r3 b3 k4 sC3;have hlt:w.heap.size<w4.heap.size:=ai.lt r4;have hls:=ai.lt s4
 go_wp2_with (first
  |((with_reducible show wpList _ _ _ _ _ _);refine Pd.SI _ (by with_reducible rfl) _ _ _ rl1 rl1 ?_)
  |(rw [zeroS];refine St.aF isS rfl _ _ rl1 _ _ _ rl1 rl1 (aA _ _ _ _) (aA _ _ _ _) (cZ _ _ _ _) ?_;intro w5 n5 k5;have sC5:=sC4.keep k5;have HY6:=dK (fun h0:0<6=>Sl.src sC5 h0);have hs5:=k5.size)
  |(refine wpList_copy_splice rfl _ _ 27 27 rl1 2 Tryz.underlying27 qK _ _ _ _ _ _ rl1 rl1 w4.heap.size 0 (Pd.aB (fun _=>0) 6 6 zP) 55 n5 (vals 6 Y) (by rw [aK];rfl) (fun h0=>⟨rfl,HY6.out om1⟩) (by rw [aK,Pd.aA];omega) (fK 6 _) w4.heap.size w5 (Below.refl _ _) (Nat.le_refl _) ?_)
  |fail)
 intro w6 hg6 k6
 have n6:ai w6 w4.heap.size 55 (Pd.aB Y 6 6 zP):=by
  have q:=hg6.out;rw [WL] at q;exact q
 have k6':=k5.trans (k6.mono (Nat.le_refl _))
 have s6:SO w6 s ((a||y1)||y2):=by
  show w6.heap[s]?=_;rw [k6'.block s hls];exact s4
 have r6:ai w6 w.heap.size 55 (Pd.aB (fun _=>0) 0 0 (fun _=>0)):=by
  show w6.heap[w.heap.size]?=_;rw [k6'.block _ hlt];exact r4
 have b6:=But.new b4 k6' om1;clear n5 k5 sC5 HY6 hg6 k6 k6' r4 s4 b4 sC4
 go_wp2_with (first
  |((with_reducible show wpList _ _ _ _ _ _);refine St.aI isS rl1 _ rl1 _ _ rl1 (by with_reducible exact n6) (aA _ _ _ _) ?_)
  |(refine St.aU isS rfl _ _ rl1 _ _ _ rl1 rl1 (by with_reducible exact r6) (aA _ _ _ _) (aA _ _ _ _) (cZ _ _ _ _) ?_)
  |fail)
 have s_e:SO (w6.setRow w.heap.size (Pd.aB Y 6 6 zP).toArray) s _:=ai.aY s6 (g:=w.heap.size) om1 _;rw [HO.out] at s_e;exact bodyPost_ret (iV isS Tryz.results90 _ _ w.heap.size _ rfl (ai.row r6 _) (aA _ _ _ _)) rfl ⟨rfl,s_e,b6.lJ _ (Nat.le_refl _)⟩
end
section
open Go.RowKit Vc Cn Mx St Mt Pd Qn Dt
attribute [local go_sem ↓] Go.wp_at_zero Go.wp_at_succ
namespace Mx
theorem Us: ∀ (n:Nat),n<=4-> ∀ (W:World),(Instr.makeSlice 32 (.int .i64 (n:Int)) (.int .i64 (n:Int))).run Tryz.prog W= .ok (.slice (some ⟨W.heap.size,0,none⟩) n n) (W.alloc (.cells (El.eu (fun _=>Pd.aB (fun _=>0) 0 0 (fun _=>0)) n).toArray 55))
 |0,_=>fun W=>by kernel_rfl
 |1,_=>fun W=>by kernel_rfl
 |2,_=>fun W=>by kernel_rfl
 |3,_=>fun W=>by kernel_rfl
 |4,_=>fun W=>by kernel_rfl
 |n+5,h=>by omega
end Mx
theorem aaS:MJoin:=by
 intro W lo ho n cm m hc X r c z F ch hl hz bX bF hs bs;have r0:=aH W 55 (Pd.aB (fun _=>0) 0 0 (fun _=>0));have B0:=af (Below.refl _ W) (.cells (Pd.aB (fun _=>0) 0 0 (fun _=>0)).toArray 55);obtain⟨V,hV⟩: ∃ V,V=W.alloc (.cells (Pd.aB (fun _=>0) 0 0 (fun _=>0)).toArray 55):=⟨_,rfl⟩;rw [← hV] at r0 B0;have HV:=dK hV;have hVs:W.heap.size<V.heap.size:=ai.lt r0;by_cases hJ:uC n m ch X r c F
 ·obtain rfl:n=m:=hJ.1;have HM:=dK (zf true lo ho n cm n hc X r c z F ch V (hl.keep B0) hz (hs.keep B0) bs ⟨fun _=>hJ,fun _=>rfl⟩);have h1:=hJ.2.1.one;have h4:=hJ.2.1.four
  have HP:Hid (∀ U,Below V.heap.size V U->Pst U lo n cm X (fun _=>6) (fun _=>6) (fun k=>mz 6 6 (F k))):=fun U b=>((hl.keep B0).keep b).congr fun k hk=>by
   obtain⟨q1,q2,_⟩:=hJ.2.2 k hk;rw [hz k hk q1 q2,q1,q2]
  have HC:Hid (∀ U,Below V.heap.size V U->Sl U ho n hc ch):=fun U b=>(hs.keep B0).keep b;have HJ:=dK hJ;have HB:=dK (show _/\_/\_ from⟨bs,bX,bF⟩);clear hl hz bX bF hs bs hJ hV;go_enter Tryz.func51,Tryz.ntmps51
  go_wp2_with (first
   |(rw [zeroS,← HV.out])
   |fail)
  refine HM.out.mono ?_;rintro e w1 ⟨rfl,k1⟩;have r1:=ai.keep r0 k1;have B1:=ae B0 k1;have HP1:=dK (HP.out w1 k1);have HC1:=dK (HC.out w1 k1);have hs1:=k1.size;have s2:SO (w1.alloc (.cells #[.bool false] 178)) w1.heap.size false:=aH w1 178 [.bool false];have k2:=af (Below.refl _ w1) (.cells #[.bool false] 178);obtain⟨w2,hw2⟩: ∃ w2,w2=w1.alloc (.cells #[.bool false] 178):=⟨_,rfl⟩;rw [← hw2] at s2 k2;have HW2:=dK hw2;have r2:=ai.keep r1 k2;have B2:=ae B1 k2;have HJn:=dK (Ce w1.heap.size false lo ho n cm hc X F ch w2 s2 h1 h4 (HP1.out.keep k2) (HC1.out.keep k2) HB.out.1 HB.out.2.1 HB.out.2.2);have hs2:=ai.lt s2;have r2l:=ai.lt r2;obtain⟨s,hs⟩: ∃ s,s=w1.heap.size:=⟨_,rfl⟩;rw [← hs] at HJn s2 hs2 hs1;have HS:=dK hs;clear r0 B0 r1 B1 k1 k2 HM hw2 hs HP HC HP1 HC1;obtain⟨Y,hY⟩: ∃ q,q=jX n ch X:=⟨_,rfl⟩;obtain⟨zP,hzP⟩: ∃ q,q=mz 6 6 (jP n ch X F):=⟨_,rfl⟩;obtain⟨yO,hyO⟩: ∃ q,q=jO n ch X F:=⟨_,rfl⟩;rw [← hY,← hzP,← hyO] at HJn;have HYY:=dK (show _/\_/\_ from⟨hY,hzP,hyO⟩);clear hY hzP hyO
  go_wp2_with (first
   |(rw [← HW2.out,← HS.out])
   |fail)
  refine HJn.out.mono ?_;rintro e w3 ⟨rfl,s3,k3⟩;have r3:=Ld.aT r2 k3 om1;have B3:=k3.below B2 om1 (fun q e=>by omega);have hs3:=k3.size;clear s2 r2 B2 k3 HJn
  go_upto_region 5 with(first
   |(rw [zeroS];refine St.aF isS rfl _ _ rl1 _ _ _ rl1 rl1 (aA _ _ _ _) (aA _ _ _ _) (cZ _ _ _ _) ?_;intro w4 n4 k4;have s4:SO w4 s _:=ai.keep s3 k4;have r4:=ai.keep r3 k4;have B4:=ae B3 k4)
   |fail)
  have hn4:s<w3.heap.size:=ai.lt s3;have hn5:=ai.lt n4;obtain⟨g,hg⟩: ∃ g,g=w3.heap.size:=⟨_,rfl⟩;rw [← hg] at n4 hn4 hn5 ⊢;clear s3 r3 B3 k4 hg;have c4:w4.cell? ⟨s,0,none⟩=some (.bool (false||yO)):=s4.cell (k:=0) rfl rfl;refine Ru.aS [5] (fun w'=>ai w' g 55 (Pd.aB Y 6 6 zP)/\w'.cell? ⟨s,0,none⟩=some (.bool (false||yO))) (by kernel_rfl) ⟨ai.drew n4,c4⟩ (fun hHeld=> ?_);refine Ru.tk 0 (.agg (Pd.aB Y 6 6 zP).toArray) rfl (Ru.fF isS (by kernel_rfl) _ rl1 g _ rl1 (fun w h=>h.1) (aA _ _ _ _)) hHeld ?_;refine Ru.tk2 1 (.pointer (some ⟨s,0,none⟩)) hHeld ?_;refine Ru.tk2 2 (.bool (false||yO)) hHeld ?_;refine Ru.rd 3 (fun K hK=> ?_);refine Ru.kK isS (by kernel_rfl) _ _ rl1 (W.heap.size) _ (Pd.aB Y 6 6 zP) rl1 rl1 (ai.drew r4) (aA _ _ _ _) (aA _ _ _ _) (cZ _ _ _ _) ?_;have hr4:=ai.lt r4;have nF:ai (w4.drew.setRow W.heap.size (Pd.aB Y 6 6 zP).toArray) g 55 (Pd.aB Y 6 6 zP):=ai.aY (ai.drew n4) om1 _;have oF:SO (w4.drew.setRow W.heap.size (Pd.aB Y 6 6 zP).toArray) s (false||yO):=ai.aY (ai.drew s4) om1 _;have rF:ai (w4.drew.setRow W.heap.size (Pd.aB Y 6 6 zP).toArray) W.heap.size 55 (Pd.aB Y 6 6 zP):=ai.row (ai.drew r4) _;have bF:=St.aJ B4.drew (g:=W.heap.size) (Nat.le_refl _) (Pd.aB Y 6 6 zP).toArray;have cF:(w4.drew.setRow W.heap.size (Pd.aB Y 6 6 zP).toArray).cell? ⟨s,0,none⟩=some (.bool (false||yO)):=oF.cell (k:=0) rfl rfl;refine Ru.hd hK ⟨nF,cF⟩ (fun hHeld=> ?_);clear hK K;refine Ru.tk2 4 (.bool (false||yO)) hHeld ?_;refine Ru.rd2 5 (fun K hK=> ?_);go_simp;refine hK.out _ _ ?_;clear hK K;try simp only [Act.put,List.getElem_toArray,List.getElem_cons_zero,List.getElem_cons_succ,List.setIfInBounds_toArray,List.set_cons_zero,List.set_cons_succ]
  refine wpAny_done (by kernel_rfl) ?_ _;go_wp2;exact bodyPost_ret (dJ isS Tryz.results51 _ _ W.heap.size _ rfl rF (aA _ _ _ _)) rfl ⟨bF,Or.inr ⟨HJ.out,by obtain⟨q1,q2,q3⟩:=HYY.out;rw [← q1,← q2,← q3];simp⟩⟩
 ·have HM:=dK (zf false lo ho n cm m hc X r c z F ch V (hl.keep B0) hz (hs.keep B0) bs ⟨fun q=>(by cases q),fun q=>absurd q hJ⟩);have HJ:=dK hJ;clear hl hz bX bF hs bs hJ hV;go_enter Tryz.func51,Tryz.ntmps51
  go_wp2_with (first
   |(rw [zeroS,← HV.out])
   |fail)
  refine HM.out.mono ?_;rintro e w1 ⟨rfl,k1⟩;have r1:=ai.keep r0 k1;have B1:=ae B0 k1;clear r0 B0 k1 HM
  go_wp2_with (first
   |((with_reducible show wpList _ _ _ _ _ _);refine Pd.FP (by with_reducible rfl) rl1 ?_)
   |(refine St.aU isS rfl _ _ rl1 _ _ _ rl1 rl1 (by with_reducible exact r1) (aA _ _ _ _) (aA _ _ _ _) (cZ _ _ _ _) ?_)
   |fail)
  exact bodyPost_ret (dJ isS Tryz.results51 _ _ W.heap.size _ rfl (ai.row r1 _) (aA _ _ _ _)) rfl ⟨St.aJ B1 (Nat.le_refl _) _,Or.inl ⟨HJ.out,rfl⟩⟩
namespace Mx
theorem oD{fn:Func}{t u v x:Tmp}(h:fn.results= #[.tmp t, .tmp u, .tmp v, .tmp x])(tmps:Array Value)(P:Program)(w:World):
 (results fn tmps).run P w= .ok (.tuple #[tmps.getD t undef,tmps.getD u undef,tmps.getD v undef,tmps.getD x undef]) w:=by
 simp [results,h]
theorem zg{w:World}{g n:Nat}{S:Nat->List Value}{X:Nat->Nat->Int}{r c:Nat->Int}{z:Nat->Nat->Int}(h:El.nG w g 55 44 n S)(hn:n<=4)(e: ∀ k,k<n->S k=Pd.aB (X k) (r k) (c k) (z k)):Pst w (some ⟨g,0,none⟩) n n X r c z:=
 ⟨Nat.le_refl _,om1,fun k hk=>⟨g,rfl,by rw [← e k hk];exact(h.at' k hk).2⟩⟩
theorem IK:(Tryz.prog.info? 55).map (·.size)=some 44:=by kernel_rfl
theorem cell_lt{w:World}{a:Addr}{v:Value}(h:w.cell? a=some v):a.block<w.heap.size:=by
 rcases Nat.lt_or_ge a.block w.heap.size with k|k
 · exact k
 · unfold World.cell? at h;rw [Array.getElem?_eq_none k] at h;cases h
theorem Vt{w:World}{ao:Option Addr}{n ca:Nat}{z:Nat->Int}(s:Sl w ao n ca z)(h0:0<n): ∀ x,ao=some x->x.block<w.heap.size:=by
 intro x hx;obtain⟨y,hy,hc⟩:=s.at' 0 h0;rw [hx] at hy;cases hy
 have:=cell_lt hc;rwa [Ld.dL] at this
def MAllE:Prop:= ∀ (W:World) (lo ho ro:Option Addr) (n cm m hc q rm:Nat) (X:Nat->Nat->Int) (r c:Nat->Int) (z:Nat->Nat->Int) (F:Nat->Nat->Nat->Int) (ch:Nat->Int) (A:Nat->Option Addr) (L C:Nat->Nat) (R:Nat->Nat->Int),Pst W lo n cm X r c z->(∀ k,k<n->r k=6->c k=6->z k=Mt.mz 6 6 (F k))->(∀ k,B64 (X k))->(∀ k,Mt.B2 (F k))->
 Sl W ho m hc ch->B64 ch->Sls W ro q rm A L C->(∀ i,i<q->Sl W (A i) (L i) (C i) (R i))->(∀ i,B64 (R i))->
 Calls Tryz.prog 35 #[.slice lo n cm, .slice ho m hc, .slice ro q rm] W fun e w'=> ∃ vo vn vc co cn cc b ev,e= .returned (.tuple #[.slice vo vn vc, .slice co cn cc, .bool b,ev])/\Below W.heap.size W w'/\
  Pst w' vo vn vc (fun k=>jX n (shr n ch R k) X) (fun _=>6) (fun _=>6) (fun k=>Mt.mz 6 6 (jP n (shr n ch R k) X F))/\Sl w' co cn cc (sh 1073741824 (mxw n ch R) n)/\
  ((¬(uC n m ch X r c F/\I9 m ch q L R)/\vn=0/\cn=0/\b=false/\ev=FX 1)\/(uC n m ch X r c F/\I9 m ch q L R/\vn=n/\cn=n/\b=aO n ch R X F/\ev= .nilIface))/\qh W vo/\qh W co/\
  (vn=0\/ ∃ (g:Nat) (S:Nat->List Value),vo=some ⟨g,0,none⟩/\vc=n/\El.nG w' g 55 44 n S/\(∀ k,k<n->S k=Pd.aB (jX n (shr n ch R k) X) 6 6 (Mt.mz 6 6 (jP n (shr n ch R k) X F)))/\ ∀ x,co=some x->x.block≠g)
end Mx
theorem aaT:MAllE:=by
 intro W lo ho ro n cm m hc q rm X r c z F ch A L C R hl hz bX bF hs bs hro hR bR;have l1:=hl.le;have l2:=hl.cap;have l3:=hs.le;have l4:=hs.cap;have HX:=dK (aaM W ho ro m hc q rm ch A L C R hs bs hro hR bR);by_cases hM:I9 m ch q L R
 ·obtain rfl:q=m:=hM.rows;have HM:=dK hM;by_cases hJ:uC n q ch X r c F
  ·obtain rfl:n=q:=hJ.1;have h1:=hJ.2.1.one;have h4:=hJ.2.1.four;have HMay:=dK (fun U (b:Below W.heap.size W U)=>zf true lo ho n cm n hc X r c z F ch U (hl.keep b) hz (hs.keep b) bs ⟨fun _=>hJ,fun _=>rfl⟩)
   have HP:Hid (∀ U,Below W.heap.size W U->Pst U lo n cm X (fun _=>6) (fun _=>6) (fun k=>mz 6 6 (F k))):=fun U b=>(hl.keep b).congr fun k hk=>by
    obtain⟨q1,q2,_⟩:=hJ.2.2 k hk;rw [hz k hk q1 q2,q1,q2]
   have HSh:Hid (∀ t,t<n-> ∀ U,Below W.heap.size W U->Calls Tryz.prog 91 #[.slice ho n hc, .slice ro n rm, .int .i64 (t:Int)] U fun e w'=> ∃ vo vc,e= .returned (.slice vo n vc)/\Below U.heap.size U w'/\Sl w' vo n vc (shr n ch R t)):=fun t ht U b=>
    Kv ho ro n hc rm ch A L C R t U (hs.keep b) (hro.keep b) (fun i hi=>(hR i hi).keep b) hM ht
   have HJn:Hid (∀ t,t<n-> ∀ U s o vo vc,SO U s o->Below W.heap.size W U->Sl U vo n vc (shr n ch R t)->Calls Tryz.prog 90 #[.pointer (some ⟨s,0,none⟩), .slice lo n cm, .slice vo n vc] U fun e w'=>e= .returned (.agg (Pd.aB (jX n (shr n ch R t) X) 6 6 (mz 6 6 (jP n (shr n ch R t) X F))).toArray)/\SO w' s (o||jO n (shr n ch R t) X F)/\Ld.But (· =s) U w'):=fun t ht U s o vo vc q1 q2 q3=>
    Ce s o lo vo n cm vc X F (shr n ch R t) U q1 h1 h4 (HP.out U q2) q3 (Za hM ht) bX bF
   have HA:Hid (∀ k,dN (fun t=>jO n (shr n ch R t) X F) (k+1)=(dN (fun t=>jO n (shr n ch R t) X F) k||jO n (shr n ch R k) X F)):=fun _=>rfl;have HAO:Hid (aO n ch R X F=dN (fun t=>jO n (shr n ch R t) X F) n):=rfl;have hmk:=Us n h4;have HJ:=dK hJ;clear hl hz bX bF hs bs hro hR bR hM hJ;go_enter Tryz.func35,Tryz.ntmps35
   go_wp2_with (first
    |(go_at_call 88;refine HX.out.mono ?_;rintro e w1 ⟨vo,vn,vc,ev,rfl,k1,s1,⟨q,_⟩|⟨_,q1,rfl⟩,nw⟩;(exact absurd HM.out q);obtain rfl:n=vn:=q1.symm;have NW:=dK nw;clear nw)
    |fail)
   refine(HMay.out w1 k1).mono ?_;rintro e w2 ⟨rfl,k2⟩;have t2:=s1.keep k2;have B2:=ae k1 k2;clear HX HMay s1 k1 k2;have s3:SO (w2.alloc (.cells #[.bool false] 178)) w2.heap.size false:=aH w2 178 [.bool false];have k3:=af (Below.refl _ w2) (.cells #[.bool false] 178);obtain⟨w3,hw3⟩: ∃ w3,w3=w2.alloc (.cells #[.bool false] 178):=⟨_,rfl⟩;have hw3s:w3.heap.size=w2.heap.size+1:=by rw [hw3];simp
   rw [← hw3] at s3 k3;have HW3:=dK hw3;have E4:=El.Fa w3 55 44 n (fun _=>Pd.aB (fun _=>0) 0 0 (fun _=>0)) (fun _ _=>Pd.aA _ _ _ _);have k4:=af (Below.refl _ w3) (.cells (El.eu (fun _=>Pd.aB (fun _=>0) 0 0 (fun _=>0)) n).toArray 55);have hmk1:=hmk w3;obtain⟨w4,hw4⟩: ∃ w4,w4=w3.alloc (.cells (El.eu (fun _=>Pd.aB (fun _=>0) 0 0 (fun _=>0)) n).toArray 55):=⟨_,rfl⟩;rw [← hw4] at E4 k4 hmk1;have s4:SO w4 w2.heap.size false:=ai.keep s3 k4;have b4:=ae k3 k4;obtain⟨s,hs⟩: ∃ s,s=w2.heap.size:=⟨_,rfl⟩;rw [← hs] at s4;obtain⟨go,hgo⟩: ∃ go,go=w3.heap.size:=⟨_,rfl⟩;rw [← hgo] at E4 hmk1;have hgs:s<go:=om1;have hsw:w2.heap.size<=s:=om1;have hWs:=B2.size;have HGO:Hid (W.heap.size<=go):=(show W.heap.size<=go by omega);have HS:=dK hs;have HST:=dK (show _/\_/\_ from⟨E4,s4,b4⟩);clear hmk s3 k3 hw3 hw3s E4 k4 hw4 s4 b4 hs hgo
   go_wp2_with (first
    |(rw [← HW3.out,← HS.out])
    |fail)
   go_loopw [35] (fun iv wr=> ∃ (k:Nat) (S:Nat->List Value),k<=n/\iv= .int .i64 (k:Int)/\(∀ j,j<k->S j=Pd.aB (jX n (shr n ch R j) X) 6 6 (mz 6 6 (jP n (shr n ch R j) X F)))/\El.nG wr go 55 44 n S/\SO wr s (dN (fun t=>jO n (shr n ch R t) X F) k)/\Below w2.heap.size w2 wr) (fun iv _=>n- (intOf iv).toNat)
   case atStart=>
    obtain⟨q1,q2,q3⟩:=HST.out;exact⟨0,_,om1,rfl,fun j hj=>by omega,q1,q2,q3⟩
   case round=>
    rename World=>wr;obtain⟨k,S,hk,rfl,hS,eR,sR,bR⟩:=hrel;by_cases h:k<n
    ·have HS1:=dK (HSh.out k h wr (ae B2 bR));have HJ1:=dK (HJn.out k h);have HSS:=dK hS;have HOr:=dK (HA.out k);have kn:(k:Int)<n:=om1;obtain⟨Y,hY⟩: ∃ q,q=jX n (shr n ch R k) X:=⟨_,rfl⟩;obtain⟨zP,hzP⟩: ∃ q,q=mz 6 6 (jP n (shr n ch R k) X F):=⟨_,rfl⟩;obtain⟨yO,hyO⟩: ∃ q,q=jO n (shr n ch R k) X F:=⟨_,rfl⟩;obtain⟨yp,hyp⟩: ∃ q,q=dN (fun t=>jO n (shr n ch R t) X F) k:=⟨_,rfl⟩;rw [← hY,← hzP,← hyO] at HJ1;rw [← hyO,← hyp] at HOr;rw [← hyp] at sR;have HYY:=dK (show _/\_ from⟨hY,hzP⟩);have hlr:=eR.lt;clear hY hzP hyO hyp hS;go_wp2_with fail
     refine HS1.out.mono ?_;rintro e w5 ⟨uo,uc,rfl,k5,s5⟩;have e5:=eR.keep k5;have o5:SO w5 s yp:=ai.keep sR k5;have b5:=ae bR k5;clear eR sR bR k5 HS1;go_wp2_with fail
     refine(HJ1.out w5 s yp uo uc o5 (ae B2 b5) s5).mono ?_;rintro e w6 ⟨rfl,o6,k6⟩;have e6:=e5.but k6 om1;have b6:=k6.below b5 b5.size (fun q e=>by omega);clear e5 o5 b5 k6 s5
     go_wp2_with (first
      |((with_reducible show wpList _ _ _ _ _ _);refine El.mQ 55 rfl _ _ rl1 (Pd.aB Y 6 6 zP) rl1 rl1 (by with_reducible exact e6) h (Pd.aA _ _ _ _) IK (cZ _ _ _ _) ?_;intro w7 e7 k7)
      |fail)
     have o7:SO w7 s _:=Ld.aT o6 k7 om1;have b7:=k7.below b6 b6.size (fun q e=>by omega);have HEE:=dK (show _/\_/\_ from⟨e7,o7,b7⟩);clear e6 o6 b6 e7 o7 b7 k7;go_wp2;go_roundw
     case rel=>
      obtain⟨q1,q2,q3⟩:=HEE.out;refine⟨k+1,_,om1,by go_num,fun j hj=> ?_,q1,by rw [HOr.out];exact q2,q3⟩;by_cases e:j=k
      ·obtain⟨p1,p2⟩:=HYY.out;rw [if_pos e,e,← p1,← p2]
      ·rw [if_neg e];exact HSS.out j om1
     case measure=>simp [intOf];omega
    ·obtain rfl:n=k:=om1;have HSS:=dK hS;have HER:=dK eR;have HCO:Hid (∀ x,vo=some x->x.block≠go):=fun x e=>by have:=Vt t2 om1 x e;omega
     have HPst:=dK (zg (X:=fun j=>jX n (shr n ch R j) X) (r:=fun _=>6) (c:=fun _=>6) (z:=fun j=>mz 6 6 (jP n (shr n ch R j) X F)) eR h4 hS);have HT:=dK (t2.keep bR);have HB:=dK (ae B2 bR);rw [← HAO.out] at sR;obtain⟨yA,hyA⟩: ∃ q,q=aO n ch R X F:=⟨_,rfl⟩;rw [← hyA] at sR;have cR:wr.cell? ⟨s,0,none⟩=some (.bool yA):=sR.cell (k:=0) rfl rfl;have HYA:=dK hyA;clear hS eR sR bR hyA;go_wp2;go_quiet (fail)
     go_wp2
     (try simp only [Exit.inBlock,Exit.then]);refine bodyPost_ret (oD rfl _ _ _) rfl ?_;exact⟨_,_,_,_,_,_,_,_,rfl,Vc.below_drewN HB.out _,HPst.out.keep (Vc.below_drewN (Below.refl _ _) _),HT.out.keep (Vc.below_drewN (Below.refl _ _) _),Or.inr ⟨HJ.out,HM.out,rfl,rfl,HYA.out,rfl⟩,fun x e=>(by cases e;exact HGO.out),NW.out,Or.inr ⟨go,_,rfl,rfl,HER.out.drewN _,HSS.out,HCO.out⟩⟩
  ·have HMay:=dK (fun U (b:Below W.heap.size W U)=>zf false lo ho n cm q hc X r c z F ch U (hl.keep b) hz (hs.keep b) bs ⟨fun e=>(by cases e),fun e=>absurd e hJ⟩);have HJ:=dK hJ;clear hl hz bX bF hs bs hro hR bR hM hJ;go_enter Tryz.func35,Tryz.ntmps35
   go_wp2_with (first
    |(go_at_call 88;refine HX.out.mono ?_;rintro e w1 ⟨vo,vn,vc,ev,rfl,k1,s1,⟨q,_⟩|⟨_,rfl,rfl⟩,nw⟩;(exact absurd HM.out q))
    |fail)
   refine(HMay.out w1 k1).mono ?_;rintro e w2 ⟨rfl,k2⟩;have B2:=ae k1 k2;clear HX HMay s1 k1 k2;go_wp2
   (try simp only [Exit.inBlock,Exit.then]);refine bodyPost_ret (oD rfl _ _ _) rfl ?_;exact⟨none,0,0,none,0,0,false,_,rfl,B2,⟨Nat.le_refl _,om1,fun k hk=>by omega⟩,Sl.none _ _,Or.inl ⟨fun e=>HJ.out e.1,rfl,rfl,rfl,rfl⟩,qh.nil _,qh.nil _,Or.inl rfl⟩
 ·have HM:=dK hM;clear hl hz bX bF hs bs hro hR bR hM;go_enter Tryz.func35,Tryz.ntmps35
  go_wp2_with (first
   |(go_at_call 88;refine HX.out.mono ?_;rintro e w1 ⟨vo,vn,vc,ev,rfl,k1,s1,⟨_,rfl,rfl⟩|⟨q,_⟩,nw⟩;rotate_left;(exact absurd q HM.out);simp only [Cb])
   |fail)
  (try simp only [Exit.inBlock,Exit.then]);refine bodyPost_ret (oD rfl _ _ _) rfl ?_;exact⟨none,0,0,none,0,0,false,_,rfl,k1,⟨Nat.le_refl _,om1,fun k hk=>by omega⟩,Sl.none _ _,Or.inl ⟨fun e=>HM.out e.2,rfl,rfl,rfl,rfl⟩,qh.nil _,qh.nil _,Or.inl rfl⟩
end
end Go.Proofs.YtcefcokpjbebhaaGreatDoor
