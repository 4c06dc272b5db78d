/-
  Package mix (layer 15): whether states may be joined, their places, a row of each matrix, the diagonal, what a step answered. (By py/MxF.py.)
-/
import Derived.Test.YtcefcokpjbebhaaGreatDoorM36
import Derived.Test.YtcefcokpjbebhaaGreatDoorM38
import Derived.Test.YtcefcokpjbebhaaGreatDoorM8
import Derived.Test.YtcefcokpjbebhaaGreatDoorM25
import Derived.Test.YtcefcokpjbebhaaGreatDoorM16
import Derived.Test.YtcefcokpjbebhaaGreatDoorM15
import Derived.Test.YtcefcokpjbebhaaGreatDoorRegM
set_option linter.unusedSimpArgs false
set_option linter.unusedVariables false
set_option maxHeartbeats 4000000
set_option maxRecDepth 20000
namespace Go.Proofs.YtcefcokpjbebhaaGreatDoor
section
open Go.RowKit Vc Cn Mx St Mt Pd
attribute [local go_sem ↓] Go.wp_at_zero Go.wp_at_succ
namespace Mx
theorem hideF{p:Prop}(h:p):Hid p:=h
abbrev SO(w:World)(s:Nat)(o:Bool):Prop:=CRow w s 178 [.bool o]
theorem makeL(n:Nat)(hn:n<=6)(W:World):(Instr.makeSlice 23 (.int .i64 (n:Int)) (.int .i64 (n:Int))).run Tryz.prog W= .ok (.slice (some ⟨W.heap.size,0,none⟩) n n) (W.alloc (.cells (Mt.svals n (fun _=> .slice none 0 0)).toArray 27)):=by
 have h:=Go.run_make_row' (P:=Tryz.prog) 23 27 (.slice none 0 0) 24 Tryz.underlying23 infoSl rfl .i64 .i64 n (by omega) (by omega) W
 have e:madeCells #[Value.slice none 0 0] n=(Mt.svals n (fun _=> .slice none 0 0)).toArray:=by
  apply Array.ext';rw [toList_madeCells_one];apply List.ext_getElem?;intro i;by_cases hi:i<n
  · rw [List.toList_toArray,Mt.svals_at hi,List.getElem?_replicate,if_pos hi]
  · rw [List.toList_toArray,List.getElem?_eq_none (by simp;omega),List.getElem?_eq_none (by rw [Mt.svals_len];omega)]
 rw [e] at h;exact h
theorem svals_set(n j:Nat)(v:Value)(S:Nat->Value):(Mt.svals n S).set j v=Mt.svals n (fun k=>if k=j then v else S k):=by
 apply List.ext_getElem?;intro i;by_cases hi:i<n
 · rw [Mt.svals_at hi,List.getElem?_set,Mt.svals_len];by_cases e:j=i
   · subst e;simp [hi]
   · rw [if_neg e,Mt.svals_at hi,if_neg (fun h=>e h.symm)]
 · rw [List.getElem?_eq_none (by simp [Mt.svals_len];omega),List.getElem?_eq_none (by rw [Mt.svals_len];omega)]
theorem sliceX(g p:Nat)(w:World):(Instr.sliceAt 50 (.pointer (some ⟨g,p,none⟩)) none none none).run Tryz.prog w= .ok (.slice (some ⟨g,p,none⟩) 6 6) w:=by kernel_rfl
theorem ckR_yes:ckR true= .nilIface:=rfl
theorem ckR_no:ckR false= .iface 93 (.int .i64 1):=rfl
theorem range_six{w:World}{g p:Nat}{X:Nat->Int}{r c:Int}{z:Nat->Int}(h:w.rangeAt g p (Pd.svals X r c z)):Sl w (some ⟨g,p,none⟩) 6 6 X:=
 ⟨Nat.le_refl _,by omega,fun k hk=>⟨_,rfl,by rw [Addr.add_mid];exact h k _ (svals_x hk)⟩⟩
abbrev LRow(w:World)(g n:Nat)(S:Nat->Value):Prop:=CRow w g 27 (Mt.svals n S)
theorem LRow.setS{w:World}{g n:Nat}{S:Nat->Value}(h:LRow w g n S)(j:Nat)(v:Value):LRow (w.setCell ⟨g,j,none⟩ v) g n (fun k=>if k=j then v else S k):=by
 have h1:=CRow.set h j v;rw [svals_set] at h1;exact h1
theorem LRow.off{w:World}{g n:Nat}{S:Nat->Value}(h:LRow w g n S)(hS: ∀ k,k<n-> ∃ a m c,S k= .slice a m c){ao:Option Addr}{m ca:Nat}{z:Nat->Int}(s:Sl w ao m ca z)(h0:0<m): ∀ x,ao=some x->x.block≠g:=
 El.sl_off h (fun k v q=>by
  rw [List.getElem?_toArray] at q
  by_cases hk:k<n
  · rw [Mt.svals_at hk] at q
    obtain⟨a,m',c,e⟩:=hS k hk
    rw [e] at q
    cases q
  · rw [List.getElem?_eq_none (by rw [Mt.svals_len];omega)] at q
    cases q) s h0
theorem SO.off{w:World}{s:Nat}{o:Bool}(h:SO w s o){ao:Option Addr}{m ca:Nat}{z:Nat->Int}(sl:Sl w ao m ca z)(h0:0<m): ∀ x,ao=some x->x.block≠s:=
 El.sl_off h (fun k v q=>by
  match k with
  |0=>simp at q
  |k+1=>simp at q) sl h0
theorem slSet{w:World}{ao:Option Addr}{n ca:Nat}{z:Nat->Int}(h:Sl w ao n ca z){p:Addr}(v:Value)(hx: ∀ x,ao=some x->x.block≠p.block):Sl (w.setCell p v) ao n ca z:=
 Ld.slBut h ((Ld.But.refl (fun q=>q=p.block) w).set v rfl) hx
theorem LRow.grid{w:World}{g n m:Nat}{S:Nat->Value}{F:Nat->Nat->Int}(h:LRow w g n S)(hn:n<=6)(hr: ∀ k,k<n-> ∃ a c,S k= .slice a m c/\Sl w a m c (F k)):Grid w (some ⟨g,0,none⟩) n n m F:=by
 refine⟨fun k=>match S k with| .slice a _ _=>a|_=>none,fun k=>match S k with| .slice _ _ c=>c|_=>0,⟨Nat.le_refl _,by omega,fun k hk=>⟨_,rfl, ?_⟩⟩,fun k hk=> ?_⟩
 · obtain⟨a,c,e1,_⟩:=hr k hk;rw [Addr.add_lit,Nat.zero_add];have e2:=h.cell (Mt.svals_at hk) rfl;rw [e1] at e2;simp only [e1];exact e2
 · obtain⟨a,c,e1,e2⟩:=hr k hk;simp only [e1];exact e2
end Mx
theorem xmay_any(b:Bool)(lo ho:Option Addr)(n cm m hc:Nat)(X:Nat->Nat->Int)(r c:Nat->Int)(z:Nat->Nat->Int)(F:Nat->Nat->Nat->Int)(ch:Nat->Int)(w:World)(hl:Pst w lo n cm X r c z)(hz: ∀ k,k<n->r k=6->c k=6->z k=mz 6 6 (F k))(hs:Sl w ho m hc ch)(bs:B64 ch)(hb:b=true↔MayJ n m ch X r c F):
 Calls Tryz.prog 89 #[.slice lo n cm, .slice ho m hc] w fun e w'=>e= .returned (.bool b)/\Below w.heap.size w w':=by
 have l1:=hl.le;have l2:=hl.cap;have l3:=hs.le;have l4:=hs.cap
 have NO:Hid (¬MayJ n m ch X r c F->b=false):=fun q=>by
  cases hb':b with
  |false=>rfl
  |true=>exact absurd (hb.1 hb') q
 have YES:Hid (MayJ n m ch X r c F->b=true):=fun q=>hb.2 q;by_cases hnm:n=m
 ·subst hnm;have HC:=hideF (cn_check w ho n hc ch 0 hs bs (by omega) (by omega));by_cases hch:Ch n ch 0
  ·obtain⟨g,hlo,hg⟩:=hl.get;have h1:=hch.one;obtain rfl:=hlo (by omega);have HG:=hideF hg
   have HK:Hid (∀ k,k<n-> ∃ t:Bool,(t=true↔r k=6/\c k=6/\Pr.MayV (X k) (F k))/\ ∀ W,Calls Tryz.prog 63 #[.agg (Pd.svals (X k) (r k) (c k) (z k)).toArray] W fun e w'=>e= .returned (ckR t)/\Below W.heap.size W w'):=fun k hk=>by
    by_cases h6:r k=6/\c k=6
    ·rw [hz k hk h6.1 h6.2,h6.1,h6.2];by_cases hm:Pr.MayV (X k) (F k)
     ·exact⟨true,⟨fun _=>⟨rfl,rfl,hm⟩,fun _=>rfl⟩,fun W=>pcheck_six (X k) (F k) true W ⟨fun _=>hm,fun _=>rfl⟩⟩
     ·exact⟨false,⟨fun q=>(by cases q),fun q=>absurd q.2.2 hm⟩,fun W=>pcheck_six (X k) (F k) false W ⟨fun q=>(by cases q),fun q=>absurd q hm⟩⟩
    ·exact⟨false,⟨fun q=>(by cases q),fun q=>absurd ⟨q.1,q.2.1⟩ h6⟩,fun W=>pcheck_no (X k) (r k) (c k) (z k) W h6⟩
   have HCH:=hideF hch;clear hl hlo hg hs bs hb hz hch;go_enter Tryz.func89,Tryz.ntmps89
   go_wp2_with (first
    |(go_at_call 172;refine HC.out.mono ?_;rintro e w1 ⟨ev,rfl,k1,⟨_,q⟩|⟨q,_⟩⟩;subst q;rotate_left;(exact absurd HCH.out q))
    |fail)
   go_loopw [19] (fun i wr=> ∃ k:Nat,k<=n/\i= .int .i64 (k:Int)/\(∀ j,j<k->r j=6/\c j=6/\Pr.MayV (X j) (F j))/\Below w.heap.size w wr) (fun i _=>n- (intOf i).toNat)
   case atStart=>exact⟨0,by omega,rfl,fun j hj=>by omega,k1⟩
   case round=>
    rename World=>wr;obtain⟨k,hk,rfl,hj,kb⟩:=hrel;by_cases h:k<n
    ·have r1:wr.rangeAt g (k*44) (Pd.svals (X k) (r k) (c k) (z k)):=fun j v hv=>keep_cell kb (HG.out k h j v hv);obtain⟨t,ht,hck⟩:=HK.out k h;have HT:=hideF ht;have HJ:=hideF hj;have HCK:=hideF hck
     have NO':Hid (t=false->b=false):=fun e=>NO.out fun q=>by
      have e2:=HT.out.2 (q.2.2 k h);rw [e] at e2;cases e2
     have kn:(k:Int)<n:=by omega
     obtain⟨Xk,hXk⟩: ∃ q,q=X k:=⟨_,rfl⟩;obtain⟨rk,hrk⟩: ∃ q,q=r k:=⟨_,rfl⟩;obtain⟨ck,hck'⟩: ∃ q,q=c k:=⟨_,rfl⟩;obtain⟨zk,hzk⟩: ∃ q,q=z k:=⟨_,rfl⟩;rw [← hXk,← hrk,← hck',← hzk] at HCK;rw [← hXk,← hrk,← hck',← hzk] at r1;clear hXk hrk hck' hzk ht hj hck
     go_wp2_with (first
      |((with_reducible show wpList _ _ _ _ _ _);refine St.wpList_part isS (by rfl) _ (by rfl) _ _ _ (by rfl) (by with_reducible exact r1) (svals_len _ _ _ _) ?_)
      |(rw [zeroS];refine St.wpList_storeNew isS rfl _ _ (by rfl) _ _ _ (by rfl) (by rfl) (svals_len _ _ _ _) (svals_len _ _ _ _) (one_svals _ _ _ _) ?_;intro w2 t2 k2;have B2:=below_tr kb k2;clear k2 r1)
      |((with_reducible show wpList _ _ _ _ _ _);refine St.wpList_load isS (by rfl) _ (by rfl) _ _ (by rfl) (by with_reducible exact t2) (svals_len _ _ _ _) ?_)
      |fail)
     refine(HCK.out _).mono ?_;rintro e w3 ⟨rfl,k3⟩;have B3:=below_tr B2 k3;clear t2 B2 k3;cases t with
     |true=>
      rw [ckR_yes];have hok:=HT.out.1 rfl;have HOK:=hideF hok;clear hok;go_wp2;go_roundw
      case rel=>exact⟨k+1,by omega,by go_num,fun j hj=>(by
       by_cases e:j=k
       ·rw [e];exact HOK.out
       ·exact HJ.out j (by omega)),B3⟩
      case measure=>simp [intOf];omega
     |false=>
      rw [ckR_no];have hbf:=NO'.out rfl;subst hbf;go_wp2;go_ret;exact⟨rfl,B3⟩
    ·obtain rfl:n=k:=by omega
     have hbt:=YES.out ⟨rfl,HCH.out,hj⟩;subst hbt;clear hj;go_wp2;go_ret;exact⟨rfl,kb⟩
  ·have hbf:=NO.out (fun q=>hch q.2.1);subst hbf;have HCH:=hideF hch;clear hl hs bs hb hz hch;go_enter Tryz.func89,Tryz.ntmps89
   go_wp2_with (first
    |(go_at_call 172;refine HC.out.mono ?_;rintro e w1 ⟨ev,rfl,k1,⟨q,_⟩|⟨_,q⟩⟩;(exact absurd q HCH.out);subst q;simp only [errV])
    |fail)
   go_ret;exact⟨rfl,k1⟩
 ·have hbf:=NO.out (fun q=>hnm q.1);subst hbf;have e1:(((n:Nat):Int) !=((m:Nat):Int))=true:=by rw [bne_iff_ne];omega
  clear hl hs bs hb hz hnm;go_enter Tryz.func89,Tryz.ntmps89
  go_wp2;go_ret;exact⟨rfl,Below.refl _ _⟩
theorem xplaces_any(lo:Option Addr)(n cm:Nat)(X:Nat->Nat->Int)(r c:Nat->Int)(z:Nat->Nat->Int)(w:World)(hl:Pst w lo n cm X r c z)(hn:n<=4):
 Calls Tryz.prog 176 #[.slice lo n cm] w fun e w'=> ∃ vo vc,e= .returned (.slice vo n vc)/\Below w.heap.size w w'/\Grid w' vo n vc 6 X:=by
 have l1:=hl.le;have l2:=hl.cap;have hmk:=makeL n (by omega);have HN0:Hid (LRow (w.alloc (.cells (Mt.svals n (fun _=> .slice none 0 0)).toArray 27)) w.heap.size n (fun _=> .slice none 0 0)):=crow_new w 27 _;have HB0:=hideF (below_al (Below.refl _ w) (.cells (Mt.svals n (fun _=> .slice none 0 0)).toArray 27));obtain⟨g,hlo,hg⟩:=hl.get;have HLO:=hideF hlo;have HS:Hid (∀ k,k<n->Sl w (some ⟨g,k*44,none⟩) 6 6 (X k)):=fun k hk=>range_six (hg k hk);have hsl:=sliceX g;clear hl hlo hg;go_enter Tryz.func176,Tryz.ntmps176
 go_wp2;go_loopw [10] (fun i wr=> ∃ (k:Nat) (S:Nat->Value),k<=n/\i= .int .i64 (k:Int)/\(∀ j,j<k->S j= .slice (some ⟨g,j*44,none⟩) 6 6)/\LRow wr w.heap.size n S/\Below w.heap.size w wr) (fun i _=>n- (intOf i).toNat)
 case atStart=>exact⟨0,_,by omega,rfl,fun j hj=>by omega,HN0.out,HB0.out⟩
 case round=>
  rename World=>wr;obtain⟨k,S,hk,rfl,hS,nA,kb⟩:=hrel;by_cases h:k<n
  · obtain rfl:=HLO.out (by omega);have d1:=nA.cell (Mt.svals_at (S:=S) h) rfl;have f1:=nA.free k;have HM1:=hideF (LRow.setS nA k (.slice (some ⟨g,k*44,none⟩) 6 6));have HK:=hideF (kb.setCell (p:=⟨w.heap.size,k,none⟩) (Nat.le_refl _) (.slice (some ⟨g,k*44,none⟩) 6 6))
    have HS1:Hid (∀ j,j<k+1->(if j=k then Value.slice (some ⟨g,k*44,none⟩) 6 6 else S j)= .slice (some ⟨g,j*44,none⟩) 6 6):=fun j hj=>by
     by_cases e:j=k
     · rw [if_pos e,e]
     · rw [if_neg e];exact hS j (by omega)
    have kn:(k:Int)<n:=by omega
    clear nA kb hS;go_wp2;all_goals go_roundw
    all_goals first
     |(case rel=>exact⟨k+1,_,by omega,by go_num,HS1.out,HM1.out,HK.out⟩)
     |(case measure=>simp [intOf];omega)
  · obtain rfl:n=k:=by omega
    go_wp2;go_ret;exact⟨_,_,rfl,kb,LRow.grid nA (by omega) (fun k hk=>⟨_,_,hS k hk,(HS.out k hk).keep kb⟩)⟩
theorem xrow_any(g n i:Nat)(M:Nat->Nat->Nat->Int)(w:World)(hg: ∀ k,k<n->w.rangeAt g (k*38) (mvals 6 6 (mz 6 6 (M k))))(hn:n<=4)(hi:i<6):
 Calls Tryz.prog 257 #[.slice (some ⟨g,0,none⟩) n n, .int .i64 (i:Int)] w fun e w'=> ∃ vo vc,e= .returned (.slice vo n vc)/\Below w.heap.size w w'/\Grid w' vo n vc 6 (fun k=>M k i):=by
 have hmk:=makeL n (by omega);have HN0:Hid (LRow (w.alloc (.cells (Mt.svals n (fun _=> .slice none 0 0)).toArray 27)) w.heap.size n (fun _=> .slice none 0 0)):=crow_new w 27 _;have HB0:=hideF (below_al (Below.refl _ w) (.cells (Mt.svals n (fun _=> .slice none 0 0)).toArray 27));have HG:=hideF hg;have HR:=hideF (fun k W=>mrow_any 6 6 i (M k) W (by omega) (by omega) (by omega) (by omega) hi);clear hg;go_enter Tryz.func257,Tryz.ntmps257
 go_wp2;go_loopw [13] (fun iv wr=> ∃ (k:Nat) (S:Nat->Value),k<=n/\iv= .int .i64 (k:Int)/\(∀ j,j<n-> ∃ a m c,S j= .slice a m c)/\(∀ j,j<k-> ∃ a c,S j= .slice a 6 c/\Sl wr a 6 c (M j i))/\LRow wr w.heap.size n S/\Below w.heap.size w wr) (fun iv _=>n- (intOf iv).toNat)
 case atStart=>exact⟨0,_,by omega,rfl,fun j hj=>⟨_,_,_,rfl⟩,fun j hj=>by omega,HN0.out,HB0.out⟩
 case round=>
  rename World=>wr;obtain⟨k,S,hk,rfl,hS,hr,nA,kb⟩:=hrel;by_cases h:k<n
  ·have r1:wr.rangeAt g (k*38) (mvals 6 6 (mz 6 6 (M k))):=fun j v hv=>keep_cell kb (HG.out k h j v hv);have HR1:=hideF (fun W=>HR.out k W);have HS:=hideF hS;have HRR:=hideF hr;have HNA:=hideF nA;have kn:(k:Int)<n:=by omega
   obtain⟨zk,hzk⟩: ∃ q,q=mz 6 6 (M k):=⟨_,rfl⟩;obtain⟨f,hf⟩: ∃ q,q=M k i:=⟨_,rfl⟩;rw [← hzk] at r1;rw [← hzk,← hf] at HR1;have HF:=hideF hf;clear hzk hf hS hr nA
   go_wp2_with (first
    |((with_reducible show wpList _ _ _ _ _ _);refine St.wpList_part isMt (by rfl) _ (by rfl) _ _ _ (by rfl) (by with_reducible exact r1) (mvals_len _ _ _) ?_)
    |(rw [zeroM];refine Mt.wpList_storeNew rfl _ _ (by rfl) _ _ _ _ (by rfl) (by rfl) ?_;intro w2 t2 k2;have K2:=hideF k2;clear k2 r1)
    |(refine Hk.loadM _ (by with_reducible rfl) _ _ _ _ (by rfl) (by with_reducible exact t2) (by kernel_rfl) ?_)
    |fail)
   refine(HR1.out _).mono ?_;rintro e w3 ⟨co,cc,rfl,s3,fr,k3⟩;have k4:=below_tr K2.out k3;have n3:LRow w3 w.heap.size n S:=CRow.keep HNA.out k4;have B3:=below_tr kb k4;have d1:=n3.cell (Mt.svals_at (S:=S) h) rfl;have f1:=n3.free k;have hlt:=CRow.lt HNA.out;have hsz:=k4.size;have hsz2:=K2.out.size;obtain⟨a1,m1,c1,e1⟩:=HS.out k h;rw [e1] at d1;have HM1:=hideF (LRow.setS n3 k (.slice co 6 cc));have HK:=hideF (B3.setCell (p:=⟨w.heap.size,k,none⟩) (Nat.le_refl _) (.slice co 6 cc))
   have HS1:Hid (∀ j,j<n-> ∃ a m c,(if j=k then Value.slice co 6 cc else S j)= .slice a m c):=fun j hj=>by
    by_cases e:j=k
    ·rw [if_pos e];exact⟨_,_,_,rfl⟩
    ·rw [if_neg e];exact HS.out j hj
   have HR2:Hid (∀ j,j<k+1-> ∃ a c,(if j=k then Value.slice co 6 cc else S j)= .slice a 6 c/\Sl (w3.setCell ⟨w.heap.size,k,none⟩ (.slice co 6 cc)) a 6 c (M j i)):=fun j hj=>by
    by_cases e:j=k
    ·rw [if_pos e,e,← HF.out];exact⟨_,_,rfl,slSet s3 _ (fun x hx=>by have:=fr x hx;show x.block≠w.heap.size;omega)⟩
    ·rw [if_neg e];obtain⟨a,c,q1,q2⟩:=HRR.out j (by omega);exact⟨a,c,q1,slSet (q2.keep k4) _ (LRow.off n3 HS.out (q2.keep k4) (by omega))⟩
   clear k4 n3 B3 s3 fr k3 t2 e1;go_wp2;all_goals go_roundw
   all_goals first
    |(case rel=>exact⟨k+1,_,by omega,by go_num,HS1.out,HR2.out,HM1.out,HK.out⟩)
    |(case measure=>simp [intOf];omega)
  ·obtain rfl:n=k:=by omega
   go_wp2;go_ret;exact⟨_,_,rfl,kb,LRow.grid nA (by omega) hr⟩
theorem xnought_any(z:Nat->Int)(w:World):
 Calls Tryz.prog 258 #[.agg (mvals 6 6 z).toArray] w fun e w'=>e= .returned (.agg (mvals 6 6 (wdk z (nn (dg z)) 6)).toArray)/\Below w.heap.size w w':=by
 have r0:=(mrow_new w 6 6 z).alloc (.cells (mvals 0 0 (fun _=>0)).toArray 53);have o0:=mrow_new1 w (.cells (mvals 6 6 z).toArray 53) 0 0 (fun _=>0);have B0:Below w.heap.size w ((w.alloc (.cells (mvals 6 6 z).toArray 53)).alloc (.cells (mvals 0 0 (fun _=>0)).toArray 53)):=below_al (below_al (Below.refl _ _) _) _;obtain⟨W,hW⟩: ∃ W,W=(w.alloc (.cells (mvals 6 6 z).toArray 53)).alloc (.cells (mvals 0 0 (fun _=>0)).toArray 53):=⟨_,rfl⟩;rw [← hW] at r0 o0 B0;have HW:=hideF hW;clear hW;go_enter Tryz.func258,Tryz.ntmps258
 go_wp2_with (first
  |(rw [zeroM,← HW.out])
  |fail)
 go_loopw [4] (fun i wr=> ∃ k:Nat,k<=6/\i= .int .i64 (k:Int)/\MRow wr w.heap.size 6 6 (wdk z (nn (dg z)) k)/\MRow wr (w.heap.size+1) 0 0 (fun _=>0)/\Below w.heap.size w wr) (fun i _=>6- (intOf i).toNat)
 case atStart=>exact⟨0,by omega,rfl,r0.congr (fun i _=>wdk_zero z _ i),o0,B0⟩
 case round=>
  obtain⟨k,hk,rfl,r1,o1,B1⟩:=hrel;by_cases h:k<6
  ·rcases(by omega:k=0\/k=1\/k=2\/k=3\/k=4\/k=5) with rfl|rfl|rfl|rfl|rfl|rfl
   ·have cz:=r1.cell (k:=0) (o:=2) (by omega) rfl;have ez:wdk z (nn (dg z)) 0 0=z 0:=by unfold wdk;rw [if_neg (by omega)]
    rw [ez] at cz;have fz:=r1.free 2;obtain⟨M,hM⟩: ∃ M,max (z 0) 0=M:=⟨_,rfl⟩;have HM:Hid (nn (dg z) 0=M):=hM;clear ez;go_wp2;go_roundw
    case rel=>exact⟨1,by omega,rfl,(MRow.set r1 0 _ rfl).congr (fun i _=>by rw [← HM.out];exact wdk_step z (nn (dg z)) 0 i),o1.other _ (by show w.heap.size+1≠w.heap.size;omega),B1.trans (St.below_set B1.size (Nat.le_refl _) _)⟩
    case measure=>simp [intOf]
   ·have cz:=r1.cell (k:=7) (o:=9) (by omega) rfl;have ez:wdk z (nn (dg z)) 1 7=z 7:=by unfold wdk;rw [if_neg (by omega)]
    rw [ez] at cz;have fz:=r1.free 9;obtain⟨M,hM⟩: ∃ M,max (z 7) 0=M:=⟨_,rfl⟩;have HM:Hid (nn (dg z) 1=M):=hM;clear ez;go_wp2;go_roundw
    case rel=>exact⟨2,by omega,rfl,(MRow.set r1 7 _ rfl).congr (fun i _=>by rw [← HM.out];exact wdk_step z (nn (dg z)) 1 i),o1.other _ (by show w.heap.size+1≠w.heap.size;omega),B1.trans (St.below_set B1.size (Nat.le_refl _) _)⟩
    case measure=>simp [intOf]
   ·have cz:=r1.cell (k:=14) (o:=16) (by omega) rfl;have ez:wdk z (nn (dg z)) 2 14=z 14:=by unfold wdk;rw [if_neg (by omega)]
    rw [ez] at cz;have fz:=r1.free 16;obtain⟨M,hM⟩: ∃ M,max (z 14) 0=M:=⟨_,rfl⟩;have HM:Hid (nn (dg z) 2=M):=hM;clear ez;go_wp2;go_roundw
    case rel=>exact⟨3,by omega,rfl,(MRow.set r1 14 _ rfl).congr (fun i _=>by rw [← HM.out];exact wdk_step z (nn (dg z)) 2 i),o1.other _ (by show w.heap.size+1≠w.heap.size;omega),B1.trans (St.below_set B1.size (Nat.le_refl _) _)⟩
    case measure=>simp [intOf]
   ·have cz:=r1.cell (k:=21) (o:=23) (by omega) rfl;have ez:wdk z (nn (dg z)) 3 21=z 21:=by unfold wdk;rw [if_neg (by omega)]
    rw [ez] at cz;have fz:=r1.free 23;obtain⟨M,hM⟩: ∃ M,max (z 21) 0=M:=⟨_,rfl⟩;have HM:Hid (nn (dg z) 3=M):=hM;clear ez;go_wp2;go_roundw
    case rel=>exact⟨4,by omega,rfl,(MRow.set r1 21 _ rfl).congr (fun i _=>by rw [← HM.out];exact wdk_step z (nn (dg z)) 3 i),o1.other _ (by show w.heap.size+1≠w.heap.size;omega),B1.trans (St.below_set B1.size (Nat.le_refl _) _)⟩
    case measure=>simp [intOf]
   ·have cz:=r1.cell (k:=28) (o:=30) (by omega) rfl;have ez:wdk z (nn (dg z)) 4 28=z 28:=by unfold wdk;rw [if_neg (by omega)]
    rw [ez] at cz;have fz:=r1.free 30;obtain⟨M,hM⟩: ∃ M,max (z 28) 0=M:=⟨_,rfl⟩;have HM:Hid (nn (dg z) 4=M):=hM;clear ez;go_wp2;go_roundw
    case rel=>exact⟨5,by omega,rfl,(MRow.set r1 28 _ rfl).congr (fun i _=>by rw [← HM.out];exact wdk_step z (nn (dg z)) 4 i),o1.other _ (by show w.heap.size+1≠w.heap.size;omega),B1.trans (St.below_set B1.size (Nat.le_refl _) _)⟩
    case measure=>simp [intOf]
   ·have cz:=r1.cell (k:=35) (o:=37) (by omega) rfl;have ez:wdk z (nn (dg z)) 5 35=z 35:=by unfold wdk;rw [if_neg (by omega)]
    rw [ez] at cz;have fz:=r1.free 37;obtain⟨M,hM⟩: ∃ M,max (z 35) 0=M:=⟨_,rfl⟩;have HM:Hid (nn (dg z) 5=M):=hM;clear ez;go_wp2;go_roundw
    case rel=>exact⟨6,by omega,rfl,(MRow.set r1 35 _ rfl).congr (fun i _=>by rw [← HM.out];exact wdk_step z (nn (dg z)) 5 i),o1.other _ (by show w.heap.size+1≠w.heap.size;omega),B1.trans (St.below_set B1.size (Nat.le_refl _) _)⟩
    case measure=>simp [intOf]
  ·obtain rfl:k=6:=by omega
   clear h
   go_wp2_with (first
    |(refine Hk.loadM _ (by with_reducible rfl) _ _ _ _ (by rfl) (by with_reducible exact r1) (by kernel_rfl) ?_)
    |(refine wpList_storeM rfl _ _ (by rfl) _ _ _ _ _ _ _ (by rfl) (by rfl) (by with_reducible exact o1) ?_)
    |fail)
   exact bodyPost_ret (results_M1 Tryz.results258 _ _ (w.heap.size+1) _ _ _ rfl (o1.row _ _ _)) rfl ⟨rfl,Mt.below_row B1 (by omega) _⟩
theorem xvector_any(s:Nat)(v er:Value)(a o:Bool)(w:World)(h:SO w s a):
 Calls Tryz.prog 174 #[.pointer (some ⟨s,0,none⟩),v, .bool o,er] w fun e w'=>e= .returned v/\SO w' s (a||o)/\Ld.But (· =s) w w':=by
 have c0:w.cell? ⟨s,0,none⟩=some (.bool a):=h.cell (k:=0) rfl rfl;have f0:=CRow.free h 0;have m1:SO (w.setCell ⟨s,0,none⟩ (.bool (a||o))) s (a||o):=CRow.set h 0 (.bool (a||o));have b1:Ld.But (· =s) w (w.setCell ⟨s,0,none⟩ (.bool (a||o))):=(Ld.But.refl (· =s) w).set (p:=⟨s,0,none⟩) _ rfl;have HM:=hideF m1;have HB:=hideF b1;clear m1 b1 h;cases a with
 |true=>
  go_enter Tryz.func174,Tryz.ntmps174
  go_wp2;go_ret;exact⟨rfl,HM.out,HB.out⟩
 |false=>
  go_enter Tryz.func174,Tryz.ntmps174
  go_wp2;go_ret;exact⟨rfl,HM.out,HB.out⟩
theorem mxfFa1{p:Prop}(h:p:=by
 go_enter Tryz.func259,Tryz.ntmps259
 go_wp2_with (first
  |(rw [zeroM,← HW.out])
  |(refine Hk.loadM _ (by with_reducible rfl) _ _ _ _ (by rfl) (by with_reducible exact r0.other _ n1) (by kernel_rfl) ?_)
  |(refine wpList_storeM rfl _ _ (by rfl) _ _ _ _ _ _ _ (by rfl) (by rfl) (by with_reducible exact o0.other _ n2) ?_)
  |fail)
 exact bodyPost_ret (results_M1 Tryz.results259 _ _ (w.heap.size+1) _ _ _ rfl ((o0.other _ n2).row _ _ _)) rfl ⟨rfl,m1.rowOther n3 _,(Bb.set (p:=⟨s,0,none⟩) _ rfl).rowNew _ (by omega)⟩):p:=h
theorem xmatrix_any(s:Nat)(r c:Int)(z:Nat->Int)(a o:Bool)(v:Value)(w:World)(h:SO w s a):
 Calls Tryz.prog 259 #[.pointer (some ⟨s,0,none⟩), .agg (mvals r c z).toArray, .bool o,v] w fun e w'=>e= .returned (.agg (mvals r c z).toArray)/\SO w' s (a||o)/\Ld.But (· =s) w w':=by
 have hs:=CRow.lt h;have r0:=(mrow_new w r c z).alloc (.cells (mvals 0 0 (fun _=>0)).toArray 53);have o0:=mrow_new1 w (.cells (mvals r c z).toArray 53) 0 0 (fun _=>0);have B0:Below w.heap.size w ((w.alloc (.cells (mvals r c z).toArray 53)).alloc (.cells (mvals 0 0 (fun _=>0)).toArray 53)):=below_al (below_al (Below.refl _ _) _) _;obtain⟨W,hW⟩: ∃ W,W=(w.alloc (.cells (mvals r c z).toArray 53)).alloc (.cells (mvals 0 0 (fun _=>0)).toArray 53):=⟨_,rfl⟩;rw [← hW] at r0 o0 B0;have HW:=hideF hW;have s0:SO W s a:=CRow.keep h B0;have c0:W.cell? ⟨s,0,none⟩=some (.bool a):=s0.cell (k:=0) rfl rfl;have f0:=CRow.free s0 0;have n1:w.heap.size≠s:=by omega
 have n2:w.heap.size+1≠s:=by omega
 have n3:s≠w.heap.size+1:=by omega
 have m1:SO (W.setCell ⟨s,0,none⟩ (.bool (a||o))) s (a||o):=CRow.set s0 0 (.bool (a||o));clear hW h;have Bb:Ld.But (· =s) w W:=Ld.but_of B0;cases a with
 |true=>
  exact mxfFa1
 |false=>
  exact mxfFa1
end
section
open Go.RowKit Vc Cn Mx St Mt Pd Qn
attribute [local go_sem ↓] Go.wp_at_zero Go.wp_at_succ
namespace Mx
def dV(M X:Nat->Int):Nat->Int:=fun p=>clamp (X p- M p)
def dO(M X:Nat->Int):Bool:=anyb (fun p=>great (X p- M p)) 6
def uV(D:Nat->Int):Nat->Nat->Int:=fun i j=>clamp (rne (D i*D j) (2^20))
def uO(D:Nat->Int):Bool:=any2 (fun i j=>great (rne (D i*D j) (2^20))) 6 6
def mV(F U:Nat->Nat->Int):Nat->Nat->Int:=fun i j=>clamp (F i j+U i j)
def mO(F U:Nat->Nat->Int):Bool:=any2 (fun i j=>great (F i j+U i j)) 6 6
theorem cl_b64(f:Nat->Int):B64 (fun k=>clamp (f k)):=fun k=>by have:=cl_inV (f k);unfold Pr.InV at this;show _<=clamp (f k)/\clamp (f k)<=_;omega
theorem cl_b22(f:Nat->Nat->Int):B2 (fun i j=>clamp (f i j)):=fun i j=>by have:=cl_inV (f i j);unfold Pr.InV at this;show _<=clamp (f i j)/\clamp (f i j)<=_;omega
end Mx
theorem xabout_any(s:Nat)(a:Bool)(mo:Option Addr)(mc:Nat)(M X:Nat->Int)(F:Nat->Nat->Int)(w:World)(h:SO w s a)(hm:Sl w mo 6 mc M)(bM:B64 M)(bX:B64 X)(bF:B2 F):
 Calls Tryz.prog 256 #[.pointer (some ⟨s,0,none⟩), .slice mo 6 mc, .agg (Pd.svals X 6 6 (mz 6 6 F)).toArray] w fun e w'=>e= .returned (.agg (mvals 6 6 (mz 6 6 (mV F (uV (dV M X))))).toArray)/\SO w' s (a||(dO M X||uO (dV M X)||mO F (uV (dV M X))))/\Ld.But (· =s) w w':=by
 have hs:=CRow.lt h;have t0:=(crow_new w 55 (Pd.svals X 6 6 (mz 6 6 F))).alloc (.cells (mvals 0 0 (fun _=>0)).toArray 53);have r0:=mrow_new1 w (.cells (Pd.svals X 6 6 (mz 6 6 F)).toArray 55) 0 0 (fun _=>0);have B0:Below w.heap.size w ((w.alloc (.cells (Pd.svals X 6 6 (mz 6 6 F)).toArray 55)).alloc (.cells (mvals 0 0 (fun _=>0)).toArray 53)):=below_al (below_al (Below.refl _ _) _) _;obtain⟨W,hW⟩: ∃ W,W=(w.alloc (.cells (Pd.svals X 6 6 (mz 6 6 F)).toArray 55)).alloc (.cells (mvals 0 0 (fun _=>0)).toArray 53):=⟨_,rfl⟩;rw [← hW] at t0 r0 B0;have HW:=hideF hW;have s0:SO W s a:=CRow.keep h B0;have b0:Ld.But (· =s) w W:=Ld.but_of B0;have m0:=hm.keep B0;have x0:Sl W (some ⟨w.heap.size,0,none⟩) 6 6 X:=SRow.sl t0;have HS:Hid (∀ V,Below W.heap.size W V->Calls Tryz.prog 288 #[.slice (some ⟨w.heap.size,0,none⟩) 6 6, .slice mo 6 mc] V fun e w'=> ∃ co cc,e= .returned (.tuple #[.slice co 6 cc, .bool (dO M X), .nilIface])/\Sl w' co 6 cc (dV M X)/\Below V.heap.size V w'):=fun V k=>vsub_any 6 6 mc (some ⟨w.heap.size,0,none⟩) mo X M V (by omega) (x0.keep k) (m0.keep k) bX bM;have HO:Hid (∀ V ao ca,Sl V ao 6 ca (dV M X)->Calls Tryz.prog 289 #[.slice ao 6 ca, .slice ao 6 ca] V fun e w'=>e= .returned (.tuple #[.agg (mvals 6 6 (mz 6 6 (uV (dV M X)))).toArray, .bool (uO (dV M X)), .nilIface])/\Below V.heap.size V w'):=fun V ao ca sl=>mouter_any 6 6 ca ca ao ao (dV M X) (dV M X) V (by omega) (by omega) (by omega) (by omega) sl sl (cl_b64 _) (cl_b64 _);have HA:Hid (∀ V,Calls Tryz.prog 156 #[.agg (mvals 6 6 (mz 6 6 F)).toArray, .agg (mvals 6 6 (mz 6 6 (uV (dV M X)))).toArray] V fun e w'=>e= .returned (.tuple #[.agg (mvals 6 6 (mz 6 6 (mV F (uV (dV M X))))).toArray, .bool (mO F (uV (dV M X))), .nilIface])/\Below V.heap.size V w'):=fun V=>madd_any 6 6 F (uV (dV M X)) V (by omega) (by omega) (by omega) (by omega) bF (cl_b22 _);have hsl:=sliceX w.heap.size 0;obtain⟨D,hD⟩: ∃ q,q=dV M X:=⟨_,rfl⟩;obtain⟨y1,hy1⟩: ∃ q,q=dO M X:=⟨_,rfl⟩;rw [← hD,← hy1] at HS;rw [← hD] at HO HA;rw [← hD,← hy1];obtain⟨zF,hzF⟩: ∃ q,q=mz 6 6 F:=⟨_,rfl⟩;obtain⟨zU,hzU⟩: ∃ q,q=mz 6 6 (uV D):=⟨_,rfl⟩;obtain⟨zR,hzR⟩: ∃ q,q=mz 6 6 (mV F (uV D)):=⟨_,rfl⟩;obtain⟨y2,hy2⟩: ∃ q,q=uO D:=⟨_,rfl⟩;obtain⟨y3,hy3⟩: ∃ q,q=mO F (uV D):=⟨_,rfl⟩;rw [← hzF] at t0 HW HA ⊢;rw [← hzU,← hy2] at HO;rw [← hzU,← hzR,← hy3] at HA;rw [← hzR,← hy2,← hy3];have p0:=SRow.rm t0;clear hD hy1 hzF hzU hzR hy2 hy3 hW h hm bM bX bF m0 x0;go_enter Tryz.func256,Tryz.ntmps256
 go_wp2_with (first
  |(rw [zeroM,← HW.out])
  |fail)
 refine(HS.out _ (Below.refl _ _)).mono ?_;rintro e w1 ⟨co,cc,rfl,sD,k1⟩;have s1:SO w1 s a:=CRow.keep s0 k1;have r1:=r0.keep k1;have t1:=CRow.keep t0 k1;have b1:=b0.then k1;clear s0 r0 t0 b0 HS p0;go_wp2_with fail
 refine(xvector_any s _ _ a y1 w1 s1).mono ?_;rintro e w2 ⟨rfl,s2,k2⟩;have sD2:=Ld.slBut sD k2 (SO.off s1 sD (by omega));have r2:=Pd.mrowBut r1 k2 (by omega);have t2:=Ld.crowBut t1 k2 (by omega);have b2:=b1.trans k2;clear s1 r1 t1 b1 sD k2;go_wp2_with fail
 refine(HO.out _ _ _ sD2).mono ?_;rintro e w3 ⟨rfl,k3⟩;have s3:SO w3 s _:=CRow.keep s2 k3;have r3:=r2.keep k3;have t3:=CRow.keep t2 k3;have b3:=b2.then k3;clear s2 r2 t2 b2 sD2 k3;go_wp2_with fail
 refine(xmatrix_any s _ _ _ _ y2 _ w3 s3).mono ?_;rintro e w4 ⟨rfl,s4,k4⟩;have r4:=Pd.mrowBut r3 k4 (by omega);have t4:=Ld.crowBut t3 k4 (by omega);have b4:=b3.trans k4;clear s3 r3 t3 b3 k4;have p4:=SRow.rm t4
 go_wp2_with (first
  |(rw [zeroM];refine Mt.wpList_storeNew rfl _ _ (by rfl) _ _ _ _ (by rfl) (by rfl) ?_;intro w5 n5 k5;have p5:w5.rangeAt w.heap.size 6 (mvals 6 6 zF):=(fun j v hv=>keep_cell k5 (p4 j v hv));have s5:SO w5 s _:=CRow.keep s4 k5;have r5:=r4.keep k5;have b5:=b4.then k5;clear s4 r4 t4 b4 p4 k5)
  |((with_reducible show wpList _ _ _ _ _ _);refine St.wpList_part isMt (by rfl) _ (by rfl) _ _ _ (by rfl) (by with_reducible exact p5) (mvals_len _ _ _) ?_)
  |(refine Hk.loadM _ (by with_reducible rfl) _ _ _ _ (by rfl) (by with_reducible exact n5) (by kernel_rfl) ?_)
  |fail)
 refine(HA.out _).mono ?_;rintro e w6 ⟨rfl,k6⟩;have s6:SO w6 s _:=CRow.keep s5 k6;have r6:=r5.keep k6;have b6:=b5.then k6;clear s5 r5 b5 n5 p5 k6;go_wp2_with fail
 refine(xmatrix_any s _ _ _ _ y3 _ w6 s6).mono ?_;rintro e w7 ⟨rfl,s7,k7⟩;have r7:=Pd.mrowBut r6 k7 (by omega);have b7:=b6.trans k7;clear s6 r6 b6 k7
 go_wp2_with (first
  |(refine wpList_storeM rfl _ _ (by rfl) _ _ _ _ _ _ _ (by rfl) (by rfl) (by with_reducible exact r7) ?_)
  |fail)
 have eO:(a||(y1||y2||y3))=(((a||y1)||y2)||y3):=by cases a<;>cases y1<;>cases y2<;>rfl
 have s_e:SO (w7.setRow (w.heap.size+1) (mvals 6 6 zR).toArray) s _:=CRow.rowOther s7 (g:=w.heap.size+1) (by omega) _;rw [← eO] at s_e;exact bodyPost_ret (results_M1 Tryz.results256 _ _ (w.heap.size+1) _ _ _ rfl (r7.row _ _ _)) rfl ⟨rfl,s_e,b7.rowNew _ (by omega)⟩
end
section
open Go.RowKit Vc Cn Mx St Mt Pd Qn Dt
attribute [local go_sem ↓] Go.wp_at_zero Go.wp_at_succ
namespace Mx
theorem makeM: ∀ (n:Nat),n<=4-> ∀ (W:World),(Instr.makeSlice 354 (.int .i64 (n:Int)) (.int .i64 (n:Int))).run Tryz.prog W= .ok (.slice (some ⟨W.heap.size,0,none⟩) n n) (W.alloc (.cells (El.ecells (fun _=>mvals 0 0 (fun _=>0)) n).toArray 53))
 |0,_=>fun W=>by kernel_rfl
 |1,_=>fun W=>by kernel_rfl
 |2,_=>fun W=>by kernel_rfl
 |3,_=>fun W=>by kernel_rfl
 |4,_=>fun W=>by kernel_rfl
 |n+5,h=>by omega
theorem But.wide{P Q:Nat->Prop}{a b c:World}(h:Ld.But P a b)(k:Ld.But Q b c)(e: ∀ q,Q q->P q\/a.heap.size<=q):Ld.But P a c:=
 ⟨k.os.trans h.os,k.tape.trans h.tape,k.output.trans h.output,Nat.le_trans h.size k.size,fun i hi hp=>(k.block i (Nat.lt_of_lt_of_le hi h.size) (fun q=>by
  rcases e i q with e|e
  · exact hp e
  · omega)).trans (h.block i hi hp)⟩
theorem nought_jP(n:Nat)(c:Nat->Int)(X:Nat->Nat->Int)(F:Nat->Nat->Nat->Int):mvals 6 6 (wdk (mz 6 6 (je n c X F)) (nn (dg (mz 6 6 (je n c X F)))) 6)=mvals 6 6 (mz 6 6 (jP n c X F)):=by
 refine mvals_congr fun k hk=> ?_;rw [wdk_mz _ _ k hk];refine mz_congr (fun i j hi hj=> ?_) k;unfold wd jP nn;by_cases e:i=j
 · subst e;rw [if_pos rfl,dg_mz _ hi];by_cases h:je n c X F i i<0
   · rw [if_pos ⟨rfl,h⟩];omega
   · rw [if_neg (fun q=>h q.2)];omega
 · rw [if_neg e,if_neg (fun q=>e q.1)]
theorem pst_off{w:World}{s g n:Nat}{o:Bool}{X:Nat->Nat->Int}{r c:Nat->Int}{z:Nat->Nat->Int}(h:SO w s o)(h1:1<=n)(hg: ∀ k,k<n->w.rangeAt g (k*44) (Pd.svals (X k) (r k) (c k) (z k))): ¬g=s:=fun e=>by
 have hc:=hg 0 (by omega) 0 _ (svals_x (by omega))
 obtain⟨k,hk⟩:=El.in_row h hc e
 match k with
 |0=>simp at hk
 |k+1=>simp at hk
theorem But.new{P:Nat->Prop}{B:Nat}{a b c:World}(h:Ld.But P a b)(k:Below B b c)(e:a.heap.size<=B):Ld.But P a c:=
 ⟨k.os.trans h.os,k.tape.trans h.tape,k.output.trans h.output,Nat.le_trans h.size k.size,fun i hi hp=>(k.block i (by omega)).trans (h.block i hi hp)⟩
theorem splice_x(X Y:Nat->Int)(r c:Int)(z:Nat->Int):splice (Pd.svals X r c z) 0 (vals 6 Y)=Pd.svals Y r c z:=by
 simp [splice,Pd.svals,vals_len,List.drop_append]
end Mx
theorem xspread_any(s:Nat)(a:Bool)(lo ho mo:Option Addr)(n cm hc mc:Nat)(X:Nat->Nat->Int)(F:Nat->Nat->Nat->Int)(ch:Nat->Int)(w:World)(h:SO w s a)(h1:1<=n)(h4:n<=4)
 (hl:Pst w lo n cm X (fun _=>6) (fun _=>6) (fun k=>mz 6 6 (F k))) (hch:Sl w ho n hc ch) (bch:B64 ch) (bX: ∀ k,B64 (X k)) (bF: ∀ k,B2 (F k)) (hm:Sl w mo 6 mc (jX n ch X)):
 Calls Tryz.prog 177 #[.pointer (some ⟨s,0,none⟩), .slice lo n cm, .slice ho n hc, .slice mo 6 mc] w fun e w'=>e= .returned (.agg (mvals 6 6 (mz 6 6 (jP n ch X F))).toArray)/\SO w' s (a||((jko n ch X F n||anyb (jao n ch X F) 6)||jeo n ch X F))/\Ld.But (· =s) w w':=by
 have hsl:=CRow.lt h;have l1:=hl.le;have l2:=hl.cap;have hmk:=makeM n h4;have hmr: ∀ W,(Instr.makeSlice 23 (.int .i64 6) (.int .i64 6)).run Tryz.prog W= .ok (.slice (some ⟨W.heap.size,0,none⟩) 6 6) (W.alloc (.cells (Mt.svals 6 (fun _=> .slice none 0 0)).toArray 27)):=makeL 6 (by omega)
 have HmO:Hid (∀ x,mo=some x->x.block<w.heap.size):=fun x hx=>by
  obtain⟨y,hy,hc⟩:=hm.at' 0 (by omega);rw [hx] at hy;cases hy
  have:=World.block_lt_of_cell? w _ hc;rw [Ld.addr_block] at this;exact this
 obtain⟨g,hlo,hg⟩:=hl.get;obtain rfl:=hlo (by omega);have HG:Hid (∀ k,k<n-> ∀ V,Ld.But (· =s) w V->V.rangeAt g (k*44) (Pd.svals (X k) 6 6 (mz 6 6 (F k)))):=fun k hk V q j v hv=>q.cell (hg k hk j v hv) (pst_off h h1 hg);have HCH:Hid (∀ V,Ld.But (· =s) w V->Sl V ho n hc ch):=fun V q=>Ld.slBut hch q (SO.off h hch (by omega))
 have HAb:Hid (∀ k,k<n-> ∀ V o,SO V s o->Sl V mo 6 mc (jX n ch X)->Calls Tryz.prog 256 #[.pointer (some ⟨s,0,none⟩), .slice mo 6 mc, .agg (Pd.svals (X k) 6 6 (mz 6 6 (F k))).toArray] V fun e w'=>e= .returned (.agg (mvals 6 6 (mz 6 6 (jm n ch X F k))).toArray)/\SO w' s (o||(jdo n ch X k||juo n ch X k||jmo n ch X F k))/\Ld.But (· =s) V w'):=fun k _ V o q1 q2=>
  xabout_any s o mo mc (jX n ch X) (X k) (F k) V q1 q2 (cl_b64 _) (bX k) (bF k)
 have HJK:Hid (∀ k,jko n ch X F (k+1)=(jko n ch X F k||(jdo n ch X k||juo n ch X k||jmo n ch X F k))):=fun _=>rfl;have HJA:Hid (∀ k,anyb (jao n ch X F) (k+1)=(anyb (jao n ch X F) k||jao n ch X F k)):=fun _=>rfl
 have HJo:Hid (∀ (i:Nat) V vo vc,i<6->Ld.But (· =s) w V->Grid V vo n vc 6 (fun k=>jm n ch X F k i)->Calls Tryz.prog 175 #[.slice vo n vc, .slice ho n hc] V fun e w'=> ∃ co cc,e= .returned (.tuple #[.slice co 6 cc, .bool (jao n ch X F i), .nilIface])/\Sl w' co 6 cc (ja n ch X F i)/\Below V.heap.size V w'):=fun i V vo vc hi q gr=>by
  obtain⟨A,C,g1,g2⟩:=gr;exact vjoin_any 6 vo ho n vc hc A C (fun k=>jm n ch X F k i) ch V g1 g2 (by omega) (by omega) h4 (HCH.out V q) (fun k=>cl_b64 _) bch
 have HE:Hid (∀ V,Calls Tryz.prog 158 #[.agg (mvals 6 6 (mz 6 6 (ja n ch X F))).toArray] V fun e w'=>e= .returned (.tuple #[.agg (mvals 6 6 (mz 6 6 (je n ch X F))).toArray, .bool (jeo n ch X F), .nilIface])/\Below V.heap.size V w'):=fun V=>meven_any 6 (ja n ch X F) V (by omega) (by omega) (cl_b22 _);have HN:=hideF (fun V=>xnought_any (mz 6 6 (je n ch X F)) V);rw [nought_jP] at HN
 have HOf:Hid (∀ V gr,Grid V (some ⟨gr,0,none⟩) 6 6 6 (ja n ch X F)->Calls Tryz.prog 140 #[.slice (some ⟨gr,0,none⟩) 6 6] V fun e w'=>e= .returned (.tuple #[.agg (mvals 6 6 (mz 6 6 (ja n ch X F))).toArray, .nilIface])/\Below V.heap.size V w'):=fun V gr q=>by
  obtain⟨A,C,g1,g2⟩:=q;exact mof_any 6 6 _ 6 A C _ V (by omega) (by omega) (by omega) (by omega) g1 g2
 have r0:=mrow_new w 0 0 (fun _=>0);have B0:=below_al (Below.refl _ w) (.cells (mvals 0 0 (fun _=>0)).toArray 53);obtain⟨W,hW⟩: ∃ W,W=w.alloc (.cells (mvals 0 0 (fun _=>0)).toArray 53):=⟨_,rfl⟩;have hWs:W.heap.size=w.heap.size+1:=by rw [hW];simp
 rw [← hW] at r0 B0;have HW:=hideF hW;have s0:SO W s a:=CRow.keep h B0;have b0:Ld.But (· =s) w W:=Ld.but_of B0;have m0:=hm.keep B0;have E1:=El.erow_new W 53 38 n (fun _=>mvals 0 0 (fun _=>0)) (fun _ _=>mvals_len _ _ _);have B1:=below_al (Below.refl _ W) (.cells (El.ecells (fun _=>mvals 0 0 (fun _=>0)) n).toArray 53);have hmk1:=hmk W;clear hmk;obtain⟨V,hV⟩: ∃ V,V=W.alloc (.cells (El.ecells (fun _=>mvals 0 0 (fun _=>0)) n).toArray 53):=⟨_,rfl⟩;rw [← hV] at E1 B1 hmk1;have r1:=r0.keep B1;have s1:SO V s a:=CRow.keep s0 B1;have b1:=b0.then B1;have m1:=m0.keep B1;obtain⟨ge,hge⟩: ∃ ge,ge=W.heap.size:=⟨_,rfl⟩;rw [← hge] at E1 hmk1;have hge1:w.heap.size<ge:=by omega
 clear hW hV h hm hl hg hlo r0 B0 s0 b0 m0 B1 hWs hge bX bF bch hch;have HST:=hideF (show _/\_/\_/\_/\_ from⟨E1,r1,s1,b1,m1⟩);clear E1 r1 s1 b1 m1;go_enter Tryz.func177,Tryz.ntmps177
 go_wp2_with (first
  |(rw [zeroM,← HW.out])
  |fail)
 go_loopw [21] (fun iv wr=> ∃ (k:Nat) (S:Nat->List Value),k<=n/\iv= .int .i64 (k:Int)/\(∀ j,j<k->S j=mvals 6 6 (mz 6 6 (jm n ch X F j)))/\El.ERow wr ge 53 38 n S/\MRow wr w.heap.size 0 0 (fun _=>0)/\SO wr s (a||jko n ch X F k)/\Ld.But (· =s) w wr/\Sl wr mo 6 mc (jX n ch X)) (fun iv _=>n- (intOf iv).toNat)
 case atStart=>
  obtain⟨q1,q2,q3,q4,q5⟩:=HST.out;exact⟨0,_,by omega,rfl,fun j hj=>by omega,q1,q2,by show SO V s (a||false);rw [Bool.or_false];exact q3,q4,q5⟩
 case round=>
  rename World=>wr;obtain⟨k,S,hk,rfl,hS,eR,rR,sR,bR,mR⟩:=hrel;by_cases h:k<n
  ·have p1:=HG.out k h wr bR;have HC:=hideF (HAb.out k h);have HS:=hideF hS;have HOr:=hideF (HJK.out k);have kn:(k:Int)<n:=by omega
   obtain⟨zk,hzk⟩: ∃ q,q=mz 6 6 (F k):=⟨_,rfl⟩;obtain⟨Xk,hXk⟩: ∃ q,q=X k:=⟨_,rfl⟩;obtain⟨zm,hzm⟩: ∃ q,q=mz 6 6 (jm n ch X F k):=⟨_,rfl⟩;obtain⟨yk,hyk⟩: ∃ q,q=(jdo n ch X k||juo n ch X k||jmo n ch X F k):=⟨_,rfl⟩;obtain⟨yp,hyp⟩: ∃ q,q=jko n ch X F k:=⟨_,rfl⟩;rw [← hzk,← hXk] at p1;rw [← hzk,← hXk,← hzm,← hyk] at HC;rw [← hyk,← hyp] at HOr;rw [← hyp] at sR;have HZM:=hideF hzm;clear hzk hXk hzm hyk hyp hS;have hrl:=eR.lt
   go_wp2_with (first
    |((with_reducible show wpList _ _ _ _ _ _);refine St.wpList_part isS (by rfl) _ (by rfl) _ _ _ (by rfl) (by with_reducible exact p1) (svals_len _ _ _ _) ?_)
    |(rw [zeroS];refine St.wpList_storeNew isS rfl _ _ (by rfl) _ _ _ (by rfl) (by rfl) (svals_len _ _ _ _) (svals_len _ _ _ _) (one_svals _ _ _ _) ?_;intro w2 t2 k2;have e2:=eR.keep k2;have r2:=rR.keep k2;have s2:SO w2 s _:=CRow.keep sR k2;have b2:=bR.then k2;have m2:=mR.keep k2;clear k2 p1 eR rR sR bR mR)
    |((with_reducible show wpList _ _ _ _ _ _);refine St.wpList_load isS (by rfl) _ (by rfl) _ _ (by rfl) (by with_reducible exact t2) (svals_len _ _ _ _) ?_)
    |fail)
   refine(HC.out w2 _ s2 m2).mono ?_;rintro e w3 ⟨rfl,s3,k3⟩;have e3:=e2.but k3 (by omega);have r3:=Pd.mrowBut r2 k3 (by omega);have b3:=b2.trans k3;have m3:=Ld.slBut m2 k3 (SO.off s2 m2 (by omega));clear e2 r2 s2 b2 m2 k3 t2
   go_wp2_with (first
    |((with_reducible show wpList _ _ _ _ _ _);refine El.wpList_storeE 53 rfl _ _ (by rfl) (mvals 6 6 zm) (by rfl) (by rfl) (by with_reducible exact e3) h (mvals_len _ _ _) Tryz.sizeM (one_mvals _ _ _) ?_;intro w4 e4 k4)
    |fail)
   have s4:SO w4 s _:=Ld.crowBut s3 k4 (by omega);have r4:=Pd.mrowBut r3 k4 (by omega);have b4:=But.wide b3 k4 (fun q e=>Or.inr (by omega));have m4:=Ld.slBut m3 k4 (fun x hx=>by have:=HmO.out x hx;omega);have HEE:=hideF (show _/\_/\_/\_/\_ from⟨e4,r4,s4,b4,m4⟩);clear e3 r3 s3 b3 m3 k4 e4 r4 s4 b4 m4;go_wp2;all_goals go_roundw
   all_goals first
    |(case rel=>
     obtain⟨q1,q2,q3,q4,q5⟩:=HEE.out;refine⟨k+1,_,by omega,by go_num,fun j hj=> ?_,q1,q2,by rw [HOr.out,← Bool.or_assoc];exact q3,q4,q5⟩;by_cases e:j=k
     ·rw [if_pos e,e,HZM.out]
     ·rw [if_neg e];exact HS.out j (by omega))
    |(case measure=>simp [intOf];omega)
  ·obtain rfl:n=k:=by omega
   have eR:=eR.congr hS;have hrl:=eR.lt;have R1:=crow_new wr 27 (Mt.svals 6 (fun _=> .slice none 0 0));have B1:=below_al (Below.refl _ wr) (.cells (Mt.svals 6 (fun _=> .slice none 0 0)).toArray 27);have hmr1:=hmr wr;clear hmr;obtain⟨V1,hV1⟩: ∃ V,V=wr.alloc (.cells (Mt.svals 6 (fun _=> .slice none 0 0)).toArray 27):=⟨_,rfl⟩;rw [← hV1] at R1 B1 hmr1;have e1:=eR.keep B1;have r1:=rR.keep B1;have s1:SO V1 s _:=CRow.keep sR B1;have b1:=bR.then B1;obtain⟨gr,hgr⟩: ∃ gr,gr=wr.heap.size:=⟨_,rfl⟩;rw [← hgr] at R1 hmr1;have hgr1:ge<gr:=by omega
   have hbs:=bR.size;have hgr2:w.heap.size<=gr:=by omega
   have hge2: ¬s=gr:=by omega
   have HST1:=hideF (show _/\_/\_/\_/\_ from⟨R1,e1,r1,s1,b1⟩);clear eR rR sR bR mR B1 hV1 hgr hrl R1 e1 r1 s1 b1 hS h hbs;go_wp2;go_loopw [37] (fun iv wl=> ∃ (k:Nat) (S:Nat->Value),k<=6/\iv= .int .i64 (k:Int)/\(∀ j,j<6-> ∃ a m c,S j= .slice a m c)/\(∀ j,j<k-> ∃ a c,S j= .slice a 6 c/\Sl wl a 6 c (ja n ch X F j))/\LRow wl gr 6 S/\El.ERow wl ge 53 38 n (fun j=>mvals 6 6 (mz 6 6 (jm n ch X F j)))/\MRow wl w.heap.size 0 0 (fun _=>0)/\SO wl s (a||(jko n ch X F n||anyb (jao n ch X F) k))/\Ld.But (· =s) w wl) (fun iv _=>6- (intOf iv).toNat)
   case atStart=>
    obtain⟨q1,q2,q3,q4,q5⟩:=HST1.out;exact⟨0,_,by omega,rfl,fun j hj=>⟨_,_,_,rfl⟩,fun j hj=>by omega,q1,q2,q3,by show SO V1 s (a||(jko n ch X F n||false));rw [Bool.or_false];exact q4,q5⟩
   case round=>
    rename World=>wl;obtain⟨k,S,hk,rfl,hS,hr,lL,eL,rL,sL,bL⟩:=hrel;by_cases h:k<6
    ·have HR:=hideF (xrow_any ge n k (fun j=>jm n ch X F j) wl (fun j hj=>(eL.at' j hj).2) h4 h);have HJ:=hideF (fun V vo vc q1 q2=>HJo.out k V vo vc h q1 q2);have HS:=hideF hS;have HRR:=hideF hr;have HOr:=hideF (HJA.out k);obtain⟨f,hf⟩: ∃ q,q=ja n ch X F k:=⟨_,rfl⟩;obtain⟨yk,hyk⟩: ∃ q,q=jao n ch X F k:=⟨_,rfl⟩;obtain⟨yp,hyp⟩: ∃ q,q=anyb (jao n ch X F) k:=⟨_,rfl⟩;obtain⟨yj,hyj⟩: ∃ q,q=jko n ch X F n:=⟨_,rfl⟩;rw [← hf,← hyk] at HJ;rw [← hyk,← hyp] at HOr;rw [← hyp,← hyj] at sL;rw [← hyj];have HF:=hideF hf;clear hf hyk hyp hyj hS hr;have hll:=CRow.lt lL;go_wp2_with fail
     refine HR.out.mono ?_;rintro e w1 ⟨vo,vc,rfl,k1,g1⟩;have l1:LRow w1 gr 6 S:=CRow.keep lL k1;have e1:=eL.keep k1;have r1:=rL.keep k1;have s1:SO w1 s _:=CRow.keep sL k1;have b1:=bL.then k1
     have HRR1:Hid (∀ j,j<k-> ∃ a c,S j= .slice a 6 c/\Sl w1 a 6 c (ja n ch X F j)):=fun j hj=>by
      obtain⟨a,c,q1,q2⟩:=HRR.out j hj;exact⟨a,c,q1,q2.keep k1⟩
     clear lL eL rL sL bL HRR k1 HR;go_wp2_with fail
     refine(HJ.out w1 vo vc b1 g1).mono ?_;rintro e w2 ⟨co,cc,rfl,sC,k2⟩;have l2:LRow w2 gr 6 S:=CRow.keep l1 k2;have e2:=e1.keep k2;have r2:=r1.keep k2;have s2:SO w2 s _:=CRow.keep s1 k2;have b2:=b1.then k2
     have HRR2:Hid (∀ j,j<k-> ∃ a c,S j= .slice a 6 c/\Sl w2 a 6 c (ja n ch X F j)):=fun j hj=>by
      obtain⟨a,c,q1,q2⟩:=HRR1.out j hj;exact⟨a,c,q1,q2.keep k2⟩
     clear l1 e1 r1 s1 b1 HRR1 k2 g1;go_wp2_with fail
     refine(xvector_any s _ _ _ yk w2 s2).mono ?_;rintro e w3 ⟨rfl,s3,k3⟩;have l3:LRow w3 gr 6 S:=Ld.crowBut l2 k3 (by omega);have e3:=e2.but k3 (by omega);have r3:=Pd.mrowBut r2 k3 (by omega);have b3:=b2.trans k3;have sC3:=Ld.slBut sC k3 (SO.off s2 sC (by omega))
     have HRR3:Hid (∀ j,j<k-> ∃ a c,S j= .slice a 6 c/\Sl w3 a 6 c (ja n ch X F j)):=fun j hj=>by
      obtain⟨a,c,q1,q2⟩:=HRR2.out j hj;exact⟨a,c,q1,Ld.slBut q2 k3 (SO.off s2 q2 (by omega))⟩
     clear l2 e2 r2 s2 b2 HRR2 k3 sC;have d1:=l3.cell (Mt.svals_at (S:=S) h) rfl;have f1:=l3.free k;have k4:Ld.But (· =gr) w3 (w3.setCell ⟨gr,k,none⟩ (.slice co 6 cc)):=(Ld.But.refl _ _).set (p:=⟨gr,k,none⟩) _ rfl;have l4:=LRow.setS l3 k (.slice co 6 cc);have e4:=e3.but k4 (by omega);have r4:=Pd.mrowBut r3 k4 (by omega);have s4:SO _ s _:=Ld.crowBut s3 k4 (by omega);have b4:=But.wide b3 k4 (fun q e=>Or.inr (by omega))
     have HS4:Hid (∀ j,j<6-> ∃ a m c,(if j=k then Value.slice co 6 cc else S j)= .slice a m c):=fun j hj=>by
      by_cases e:j=k
      ·rw [if_pos e];exact⟨_,_,_,rfl⟩
      ·rw [if_neg e];exact HS.out j hj
     have HR4:Hid (∀ j,j<k+1-> ∃ a c,(if j=k then Value.slice co 6 cc else S j)= .slice a 6 c/\Sl (w3.setCell ⟨gr,k,none⟩ (.slice co 6 cc)) a 6 c (ja n ch X F j)):=fun j hj=>by
      by_cases e:j=k
      ·rw [if_pos e,e,← HF.out];exact⟨_,_,rfl,Ld.slBut sC3 k4 (LRow.off l3 HS.out sC3 (by omega))⟩
      ·rw [if_neg e];obtain⟨a,c,q1,q2⟩:=HRR3.out j (by omega);exact⟨a,c,q1,Ld.slBut q2 k4 (LRow.off l3 HS.out q2 (by omega))⟩
     have HEE:=hideF (show _/\_/\_/\_/\_ from⟨l4,e4,r4,s4,b4⟩);obtain⟨a1,m1,c1,ee1⟩:=HS.out k h;rw [ee1] at d1;clear l3 e3 r3 s3 b3 k4 l4 e4 r4 s4 b4 ee1 HRR3 sC3;have eB: ∀ p q r t:Bool,((p||(q||r))||t)=(p||(q||(r||t))):=by decide
     have HB:=hideF eB;clear eB;go_wp2;go_roundw
     case rel=>
      obtain⟨q1,q2,q3,q4,q5⟩:=HEE.out;exact⟨k+1,_,by omega,by go_num,HS4.out,HR4.out,q1,q2,q3,by rw [HOr.out,← HB.out];exact q4,q5⟩
     case measure=>simp [intOf];omega
    ·obtain rfl:k=6:=by omega
     have gR:=LRow.grid lL (by omega) hr;have HOf1:=hideF (HOf.out wl gr gR);clear hS hr lL eL gR h hk;obtain⟨zA,hzA⟩: ∃ q,q=mz 6 6 (ja n ch X F):=⟨_,rfl⟩;obtain⟨zE,hzE⟩: ∃ q,q=mz 6 6 (je n ch X F):=⟨_,rfl⟩;obtain⟨zP,hzP⟩: ∃ q,q=mz 6 6 (jP n ch X F):=⟨_,rfl⟩;obtain⟨yE,hyE⟩: ∃ q,q=jeo n ch X F:=⟨_,rfl⟩;obtain⟨yQ,hyQ⟩: ∃ q,q=(jko n ch X F n||anyb (jao n ch X F) 6):=⟨_,rfl⟩;rw [← hzA] at HOf1 HE;rw [← hzE,← hyE] at HE;rw [← hzE,← hzP] at HN;rw [← hyQ] at sL;have HZP:=hideF hzP;have HYE:=hideF hyE;have HYQ:=hideF hyQ;clear hzA hzE hzP hyE hyQ HOf HJo HJA HJK HAb HG HCH;go_wp2_with fail
     refine HOf1.out.mono ?_;rintro e w1 ⟨rfl,k1⟩;have r1:=rL.keep k1;have s1:SO w1 s _:=CRow.keep sL k1;have b1:=bL.then k1;clear rL sL bL k1 HOf1
     go_wp2_with (first
      |(rw [zeroM];refine Mt.wpList_storeNew rfl _ _ (by rfl) _ _ _ _ (by rfl) (by rfl) ?_;intro w2 n2 k2;have s2:SO w2 s _:=CRow.keep s1 k2;have r2:=r1.keep k2;have b2:=b1.then k2;clear s1 r1 b1 k2)
      |(refine Hk.loadM _ (by with_reducible rfl) _ _ _ _ (by rfl) (by with_reducible exact n2) (by kernel_rfl) ?_)
      |fail)
     refine(HE.out _).mono ?_;rintro e w3 ⟨rfl,k3⟩;have s3:SO w3 s _:=CRow.keep s2 k3;have r3:=r2.keep k3;have b3:=b2.then k3;clear s2 r2 b2 n2 k3;go_wp2_with fail
     refine(xmatrix_any s _ _ _ _ yE _ w3 s3).mono ?_;rintro e w4 ⟨rfl,s4,k4⟩;have r4:=Pd.mrowBut r3 k4 (by omega);have b4:=b3.trans k4;clear s3 r3 b3 k4;go_wp2_with fail
     refine(HN.out _).mono ?_;rintro e w5 ⟨rfl,k5⟩;have s5:SO w5 s _:=CRow.keep s4 k5;have r5:=r4.keep k5;have b5:=b4.then k5;clear s4 r4 b4 k5
     go_wp2_with (first
      |(refine wpList_storeM rfl _ _ (by rfl) _ _ _ _ _ _ _ (by rfl) (by rfl) (by with_reducible exact r5) ?_)
      |fail)
     have s_e:SO (w5.setRow w.heap.size (mvals 6 6 zP).toArray) s _:=CRow.rowOther s5 (g:=w.heap.size) (by omega) _;rw [Bool.or_assoc] at s_e;exact bodyPost_ret (results_M1 Tryz.results177 _ _ w.heap.size _ _ _ rfl (r5.row _ _ _)) rfl ⟨by rw [← HZP.out],by rw [← HYE.out,← HYQ.out];exact s_e,b5.rowNew _ (by omega)⟩
end
section
open Go.RowKit Vc Cn Mx St
namespace Mx
theorem hideE{p:Prop}(h:p):Hid p:=h
theorem mx_zero{a:Nat->Int}{n:Nat}(h0: ∀ k,k<n->0<=a k)(hn:0<n):(tot a n=0->mx a n=0)/\(0<tot a n->0<mx a n):=by
 obtain⟨n1,rfl⟩: ∃ n1,n=n1+1:=⟨n- 1,by omega⟩;rw [mx_is];have hs:=mst_spec a n1;have hq:=mst_lt a n1;refine⟨fun e=>tot_zero h0 e (by omega),fun e=> ?_⟩;rcases Int.lt_or_le 0 (a (mst a (n1+1))) with c|c
 · exact c
 · exfalso
   have e2:tot a (n1+1)=tot (fun _=>0) (n1+1):=tot_congr fun k hk=>by
    have h1:=hs.1 k hk;have h2:=h0 k hk;show a k=0;omega
   rw [e2,tot_const] at e;omega
end Mx
theorem xsureAt_any(t n:Nat)(w:World)(ht:t<n)(hn:n<=4):
 Calls Tryz.prog 179 #[.int .i64 (t:Int), .int .i64 (n:Int)] w fun e w'=> ∃ vo vc,e= .returned (.slice vo n vc)/\Below w.heap.size w w'/\Sl w' vo n vc (fun k=>if k=t then 1073741824 else 0):=by
 have hmi:=makeI n hn w;have nA:=crow_new w 2 (vals n (fun _=>0));have b0:=below_al (Below.refl _ w) (.cells (vals n (fun _=>0)).toArray 2);obtain⟨W,hW⟩: ∃ W,W=w.alloc (.cells (vals n (fun _=>0)).toArray 2):=⟨_,rfl⟩;rw [← hW] at hmi nA b0;clear hW;have f1:=nA.free t;have m1:=nA.set t (.int .i64 1073741824);rw [vals_set] at m1;have HM:=hideE m1;have HB:=hideE (b0.setCell (p:=⟨w.heap.size,t,none⟩) (Nat.le_refl _) (.int .i64 1073741824));have c1:=nA.cell (vals_at (z:=fun _=>0) ht) rfl;clear nA b0 m1;go_enter Tryz.func179,Tryz.ntmps179
 go_wp2;go_ret;exact⟨_,_,rfl,HB.out,crow_sl HM.out hn⟩
theorem xshares_any(ao lo:Option Addr)(n ca cm:Nat)(z:Nat->Int)(A:Nat->Option Addr)(L C:Nat->Nat)(R:Nat->Nat->Int)(t:Nat)(W:World)(ha:Sl W ao n ca z)(hl:Sls W lo n cm A L C)(hr: ∀ i,i<n->Sl W (A i) (L i) (C i) (R i))(hM:MayX n z n L R)(ht:t<n):
 Calls Tryz.prog 91 #[.slice ao n ca, .slice lo n cm, .int .i64 (t:Int)] W fun e w'=> ∃ vo vc,e= .returned (.slice vo n vc)/\Below W.heap.size W w'/\Sl w' vo n vc (shr n z R t):=by
 have h4:=hM.ch.four;have l1:=ha.le;have l2:=ha.cap;have l3:=hl.le;have l4:=hl.cap;obtain⟨x,hao,hca⟩:=ha.get;obtain⟨y,hlo,hcl⟩:=hl.get;obtain rfl:=hao (by omega);obtain rfl:=hlo (by omega);have HX:=hideE hca;have HY:=hideE hcl
 have HR:Hid (∀ i,i<n-> ∃ xr,A i=some xr/\L i=n/\n<=C i/\C i<=9223372036854775807/\W.cell? (xr.add t)=some (.int .i64 (R i t))):=fun i hi=>by
  have hs:=hr i hi;have hL:=(hM.row i hi).1;rw [hL] at hs;obtain⟨xr,e1,e2⟩:=hs.at' t ht;exact⟨xr,e1,hL,hs.le,hs.cap,e2⟩
 have HZ:Hid (∀ k,k<n->(0<=z k/\z k<=1073741824)/\0<=R k t/\R k t<=1073741824):=fun k hk=>⟨hM.ch.nn hk,(hM.row k hk).2.nn ht⟩;have HW:Hid (∀ k,k<n->wt n z R t k=z k*R k t):=fun k hk=>by unfold wt;rw [if_pos hk]
 have HMW:=hideE (wt_may hM ht);have HS:Hid (∀ k,k<n->shr n z R t k=if tot (wt n z R t) n=0 then(if k=t then 1073741824 else 0) else sh 1073741824 (wt n z R t) n k):=fun k hk=>shr_is hk;have hmi:=makeI n h4;have HN0:=hideE (crow_new W 2 (vals n (fun _=>0)));have HB0:=hideE (below_al (Below.refl _ W) (.cells (vals n (fun _=>0)).toArray 2));clear ha hl hao hlo hca hcl hr hM;go_enter Tryz.func91,Tryz.ntmps91
 go_wp2;go_loopw [17] (fun iv wr=> ∃ (i:Nat) (zo:Nat->Int),i<=n/\iv= .int .i64 (i:Int)/\(∀ j,j<i->zo j=wt n z R t j)/\CRow wr W.heap.size 2 (vals n zo)/\Below W.heap.size W wr) (fun iv _=>n- (intOf iv).toNat)
 case atStart=>exact⟨0,fun _=>0,by omega,rfl,fun j hj=>by omega,HN0.out,HB0.out⟩
 case round=>
  rename World=>wr;obtain⟨i,zo,hi,rfl,hzo,nA,kr⟩:=hrel;by_cases h:i<n
  ·obtain⟨xr,e1,e2,e3,e4,e5⟩:=HR.out i h;have c1:=keep_cell kr (HY.out i h);have c2:=keep_cell kr (HX.out i h);have c3:=keep_cell kr e5;rw [e1,e2] at c1;have hz:=HZ.out i h;have p0:0<=z i*R i t:=Int.mul_nonneg hz.1.1 hz.2.1;have p1:z i*R i t<=1073741824*1073741824:=Int.mul_le_mul hz.1.2 hz.2.2 hz.2.1 (by omega);have d1:=nA.cell (vals_at (z:=zo) h) rfl;have f1:=nA.free i;have m1:=nA.set i (.int .i64 (z i*R i t));rw [vals_set] at m1;have HM1:=hideE m1;have HK:=hideE (kr.setCell (p:=⟨W.heap.size,i,none⟩) (Nat.le_refl _) (.int .i64 (z i*R i t)))
   have HZ1:Hid (∀ q,q<i+1->(if q=i then z i*R i t else zo q)=wt n z R t q):=fun q hq=>by
    by_cases e:q=i
    ·rw [if_pos e,e,HW.out i h]
    ·rw [if_neg e];exact hzo q (by omega)
   obtain⟨X,hX'⟩: ∃ X,X=z i*R i t:=⟨_,rfl⟩;rw [← hX'] at HM1 HK HZ1 p0 p1;obtain⟨Y,hY'⟩: ∃ Y,Y=z i:=⟨_,rfl⟩;obtain⟨V,hV'⟩: ∃ V,V=R i t:=⟨_,rfl⟩;obtain⟨cc,hcc⟩: ∃ cc,cc=C i:=⟨_,rfl⟩;rw [← hcc] at c1 e3 e4;rw [← hY'] at c2 hX';rw [← hV'] at c3 hX';have q1:IntKind.i64.wrap (Y*V)=X:=by rw [← hX',IntKind.wrap_i64];omega
   clear m1 nA kr hzo hX' hY' hV' hcc e1 e2 e5 p0 p1 hz;go_wp2;all_goals go_roundw
   all_goals first
    |(case rel=>exact⟨i+1,_,by omega,by go_num,HZ1.out,HM1.out,HK.out⟩)
    |(case measure=>simp [intOf];omega)
  ·obtain rfl:n=i:=by omega
   have mW:CRow wr W.heap.size 2 (vals n (wt n z R t)):=by
    rw [← vals_congr (n:=n) (z:=zo) (z':=wt n z R t) hzo];exact nA
   have sW:=crow_sl mW h4;obtain⟨_,_,hcW⟩:=sW.get;have mz:=mx_zero (a:=wt n z R t) (n:=n) (fun k hk=>(HMW.out.each k hk).1) (by omega);have t0:=tot_nn (a:=wt n z R t) (n:=n) (fun k hk=>(HMW.out.each k hk).1);have HMx:=hideE (cmaxI_any ⟨W.heap.size,0,none⟩ n n (wt n z R t) wr (by omega) (Nat.le_refl _) (by omega) (fun k hk=>by rw [Addr.add_lit,Nat.zero_add];exact mW.cell (vals_at hk) rfl));by_cases ht0:tot (wt n z R t) n=0
   ·rw [mz.1 ht0] at HMx;have HSu:=hideE (fun w'=>xsureAt_any t n w' ht h4);have HEq:Hid (∀ k,k<n->(if k=t then(1073741824:Int) else 0)=shr n z R t k):=fun k hk=>by rw [HS.out k hk,if_pos ht0]
    have HKR:=hideE kr;clear mz t0 ht0 sW mW hcW nA hzo kr
    go_wp2_with (first
     |(go_at_call 178;refine HMx.out.mono ?_;rintro e w' ⟨rfl,q⟩;obtain rfl:=q.symm)
     |fail)
    refine(HSu.out _).mono ?_;rintro e w' ⟨vo,vc,rfl,k1,s1⟩;go_wp2;go_ret;exact⟨_,_,rfl,below_tr HKR.out k1,s1.congr HEq.out⟩
   ·have hp:=mz.2 (by omega);obtain⟨M,hM'⟩: ∃ M,M=mx (wt n z R t) n:=⟨_,rfl⟩;rw [← hM'] at HMx hp;have q0:(M==0)=false:=beq_eq_false_iff_ne.2 (by omega)
    have HOf:=hideE (cn_of wr (some ⟨W.heap.size,0,none⟩) n n (wt n z R t) 0 sW (fun k=>by
     unfold wt;by_cases e:k<n
     ·rw [if_pos e];have hz:=HZ.out k e;have p0:0<=z k*R k t:=Int.mul_nonneg hz.1.1 hz.2.1;have p1:z k*R k t<=1073741824*1073741824:=Int.mul_le_mul hz.1.2 hz.2.2 hz.2.1 (by omega);omega
     ·rw [if_neg e];omega) (by omega) (by omega))
    have HNo:Hid (∀ k,k<n->sh (1073741824- 0*n) (wt n z R t) n k+0=shr n z R t k):=fun k hk=>by rw [HS.out k hk,if_neg ht0,Int.zero_mul,Int.sub_zero,Int.add_zero]
    have HKR:=hideE kr;have HPos:Hid (0<tot (wt n z R t) n):=by show 0<_;omega
    clear mz t0 ht0 sW mW hcW nA hzo kr hM'
    go_wp2_with (first
     |(go_at_call 178;refine HMx.out.mono ?_;rintro e w' ⟨rfl,q⟩;obtain rfl:=q.symm)
     |fail)
    refine HOf.out.mono ?_;rintro e w' ⟨vo,vn,vc,ev,rfl,k1,s1,⟨q,_⟩|⟨_,q,_⟩|⟨_,_,rfl,rfl⟩⟩
    ·exact absurd HMW.out q
    ·exact absurd q (by have:=HPos.out;omega)
    ·go_wp2;go_ret;exact⟨_,_,rfl,below_tr HKR.out k1,s1.congr HNo.out⟩
end
section
open Go.RowKit Vc Cn Mx St Mt Pd Qn Dt
attribute [local go_sem ↓] Go.wp_at_zero Go.wp_at_succ
theorem xjoined_any(s:Nat)(a:Bool)(lo ho:Option Addr)(n cm hc:Nat)(X:Nat->Nat->Int)(F:Nat->Nat->Nat->Int)(ch:Nat->Int)(w:World)(h:SO w s a)(h1:1<=n)(h4:n<=4)
 (hl:Pst w lo n cm X (fun _=>6) (fun _=>6) (fun k=>mz 6 6 (F k))) (hch:Sl w ho n hc ch) (bch:B64 ch) (bX: ∀ k,B64 (X k)) (bF: ∀ k,B2 (F k)):
 Calls Tryz.prog 90 #[.pointer (some ⟨s,0,none⟩), .slice lo n cm, .slice ho n hc] w fun e w'=>e= .returned (.agg (Pd.svals (jX n ch X) 6 6 (mz 6 6 (jP n ch X F))).toArray)/\SO w' s (a||jO n ch X F)/\Ld.But (· =s) w w':=by
 have hsl:=CRow.lt h;have r0:=crow_new w 55 (Pd.svals (fun _=>0) 0 0 (fun _=>0));have B0:=below_al (Below.refl _ w) (.cells (Pd.svals (fun _=>0) 0 0 (fun _=>0)).toArray 55);obtain⟨W,hW⟩: ∃ W,W=w.alloc (.cells (Pd.svals (fun _=>0) 0 0 (fun _=>0)).toArray 55):=⟨_,rfl⟩;rw [← hW] at r0 B0;have HW:=hideF hW;have s0:SO W s a:=CRow.keep h B0;have b0:Ld.But (· =s) w W:=Ld.but_of B0;have HP:=hideF (xplaces_any lo n cm X _ _ _ W (hl.keep B0) h4);have HCH:Hid (∀ V,Ld.But (· =s) w V->Sl V ho n hc ch):=fun V q=>Ld.slBut hch q (SO.off h hch (by omega))
 have HPS:Hid (∀ V,Ld.But (· =s) w V->Pst V lo n cm X (fun _=>6) (fun _=>6) (fun k=>mz 6 6 (F k))):=fun V q=>by
  obtain⟨g,hlo,hg⟩:=hl.get;have hn:=pst_off h h1 hg;exact⟨hl.le,hl.cap,fun k hk=>⟨g,hlo (by omega),fun j v hv=>q.cell (hg k hk j v hv) hn⟩⟩
 have HJo:Hid (∀ V vo vc,Ld.But (· =s) w V->Grid V vo n vc 6 X->Calls Tryz.prog 175 #[.slice vo n vc, .slice ho n hc] V fun e w'=> ∃ co cc,e= .returned (.tuple #[.slice co 6 cc, .bool (jXo n ch X), .nilIface])/\Sl w' co 6 cc (jX n ch X)/\Below V.heap.size V w'):=fun V vo vc q gr=>by
  obtain⟨A,C,g1,g2⟩:=gr;exact vjoin_any 6 vo ho n vc hc A C X ch V g1 g2 (by omega) (by omega) h4 (HCH.out V q) bX bch
 have HSp:Hid (∀ V o mo mc,SO V s o->Ld.But (· =s) w V->Sl V mo 6 mc (jX n ch X)->Calls Tryz.prog 177 #[.pointer (some ⟨s,0,none⟩), .slice lo n cm, .slice ho n hc, .slice mo 6 mc] V fun e w'=>e= .returned (.agg (mvals 6 6 (mz 6 6 (jP n ch X F))).toArray)/\SO w' s (o||((jko n ch X F n||anyb (jao n ch X F) 6)||jeo n ch X F))/\Ld.But (· =s) V w'):=fun V o mo mc q1 q2 q3=>
  xspread_any s o lo ho mo n cm hc mc X F ch V q1 h1 h4 (HPS.out V q2) (HCH.out V q2) bch bX bF q3
 clear hl hch bch bX bF;have HJ0:Hid (jO n ch X F=(((jXo n ch X||jko n ch X F n)||anyb (jao n ch X F) 6)||jeo n ch X F)):=rfl;obtain⟨Y,hY⟩: ∃ q,q=jX n ch X:=⟨_,rfl⟩;obtain⟨zP,hzP⟩: ∃ q,q=mz 6 6 (jP n ch X F):=⟨_,rfl⟩;obtain⟨y1,hy1⟩: ∃ q,q=jXo n ch X:=⟨_,rfl⟩;obtain⟨y2,hy2⟩: ∃ q,q=((jko n ch X F n||anyb (jao n ch X F) 6)||jeo n ch X F):=⟨_,rfl⟩;obtain⟨yO,hyO⟩: ∃ q,q=jO n ch X F:=⟨_,rfl⟩
 have HO:Hid (∀ p:Bool,((p||y1)||y2)=(p||yO)):=fun p=>by
  rw [hy1,hy2,hyO,HJ0.out];generalize jXo n ch X=q1;generalize jko n ch X F n=q2;generalize anyb (jao n ch X F) 6=q3;generalize jeo n ch X F=q4;cases p<;>cases q1<;>cases q2<;>cases q3<;>rfl
 rw [← hY,← hy1] at HJo;rw [← hY,← hzP,← hy2] at HSp;rw [← hY,← hzP,← hyO];have hal:=sliceX;clear hW h hY hzP hy1 hy2 hyO HJ0;go_enter Tryz.func90,Tryz.ntmps90
 go_wp2_with (first
  |(rw [zeroS,← HW.out])
  |fail)
 refine HP.out.mono ?_;rintro e w1 ⟨vo,vc,rfl,k1,g1⟩;have s1:SO w1 s a:=CRow.keep s0 k1;have r1:=CRow.keep r0 k1;have b1:=b0.then k1;clear s0 r0 b0 k1 HP;go_wp2_with fail
 refine(HJo.out _ _ _ b1 g1).mono ?_;rintro e w2 ⟨co,cc,rfl,sC,k2⟩;have s2:SO w2 s a:=CRow.keep s1 k2;have r2:=CRow.keep r1 k2;have b2:=b1.then k2;clear s1 r1 b1 k2 g1;go_wp2_with fail
 refine(xvector_any s _ _ a y1 w2 s2).mono ?_;rintro e w3 ⟨rfl,s3,k3⟩;have r3:=Ld.crowBut r2 k3 (by omega);have b3:=b2.trans k3;have sC3:=Ld.slBut sC k3 (SO.off s2 sC (by omega));clear s2 r2 b2 k3 sC;go_wp2_with fail
 refine(HSp.out _ _ _ _ s3 b3 sC3).mono ?_;rintro e w4 ⟨rfl,s4,k4⟩;have r4:=Ld.crowBut r3 k4 (by omega);have b4:=b3.trans k4;have sC4:=Ld.slBut sC3 k4 (SO.off s3 sC3 (by omega));clear s3 r3 b3 k4 sC3;have hlt:w.heap.size<w4.heap.size:=CRow.lt r4;have hls:=CRow.lt s4
 go_wp2_with (first
  |((with_reducible show wpList _ _ _ _ _ _);refine Pd.buildS1 _ (by with_reducible rfl) _ _ _ (by rfl) (by rfl) ?_)
  |(rw [zeroS];refine St.wpList_storeNew isS rfl _ _ (by rfl) _ _ _ (by rfl) (by rfl) (svals_len _ _ _ _) (svals_len _ _ _ _) (one_svals _ _ _ _) ?_;intro w5 n5 k5;have sC5:=sC4.keep k5;have HY6:=hideF (fun h0:0<6=>Sl.src sC5 h0);have hs5:=k5.size)
  |(refine wpList_copy_splice rfl _ _ 27 27 (by rfl) 2 Tryz.underlying27 sizeI64 _ _ _ _ _ _ (by rfl) (by rfl) w4.heap.size 0 (Pd.svals (fun _=>0) 6 6 zP) 55 n5 (vals 6 Y) (by rw [vals_len];rfl) (fun h0=>⟨rfl,HY6.out (by omega)⟩) (by rw [vals_len,Pd.svals_len];omega) (one_vals 6 _) w4.heap.size w5 (Below.refl _ _) (Nat.le_refl _) ?_)
  |fail)
 intro w6 hg6 k6
 have n6:CRow w6 w4.heap.size 55 (Pd.svals Y 6 6 zP):=by
  have q:=hg6.out;rw [splice_x] at q;exact q
 have k6':=k5.trans (k6.mono (Nat.le_refl _))
 have s6:SO w6 s ((a||y1)||y2):=by
  show w6.heap[s]?=_;rw [k6'.block s hls];exact s4
 have r6:CRow w6 w.heap.size 55 (Pd.svals (fun _=>0) 0 0 (fun _=>0)):=by
  show w6.heap[w.heap.size]?=_;rw [k6'.block _ hlt];exact r4
 have b6:=But.new b4 k6' (by omega);clear n5 k5 sC5 HY6 hg6 k6 k6' r4 s4 b4 sC4
 go_wp2_with (first
  |((with_reducible show wpList _ _ _ _ _ _);refine St.wpList_load isS (by rfl) _ (by rfl) _ _ (by rfl) (by with_reducible exact n6) (svals_len _ _ _ _) ?_)
  |(refine St.wpList_store isS rfl _ _ (by rfl) _ _ _ (by rfl) (by rfl) (by with_reducible exact r6) (svals_len _ _ _ _) (svals_len _ _ _ _) (one_svals _ _ _ _) ?_)
  |fail)
 have s_e:SO (w6.setRow w.heap.size (Pd.svals Y 6 6 zP).toArray) s _:=CRow.rowOther s6 (g:=w.heap.size) (by omega) _;rw [HO.out] at s_e;exact bodyPost_ret (results_1 isS Tryz.results90 _ _ w.heap.size _ rfl (CRow.row r6 _) (svals_len _ _ _ _)) rfl ⟨rfl,s_e,b6.rowNew _ (Nat.le_refl _)⟩
end
section
open Go.RowKit Vc Cn Mx St Mt Pd Qn Dt
attribute [local go_sem ↓] Go.wp_at_zero Go.wp_at_succ
namespace Mx
theorem makeSt: ∀ (n:Nat),n<=4-> ∀ (W:World),(Instr.makeSlice 32 (.int .i64 (n:Int)) (.int .i64 (n:Int))).run Tryz.prog W= .ok (.slice (some ⟨W.heap.size,0,none⟩) n n) (W.alloc (.cells (El.ecells (fun _=>Pd.svals (fun _=>0) 0 0 (fun _=>0)) n).toArray 55))
 |0,_=>fun W=>by kernel_rfl
 |1,_=>fun W=>by kernel_rfl
 |2,_=>fun W=>by kernel_rfl
 |3,_=>fun W=>by kernel_rfl
 |4,_=>fun W=>by kernel_rfl
 |n+5,h=>by omega
end Mx
theorem mx_join:MJoin:=by
 intro W lo ho n cm m hc X r c z F ch hl hz bX bF hs bs;have r0:=crow_new W 55 (Pd.svals (fun _=>0) 0 0 (fun _=>0));have B0:=below_al (Below.refl _ W) (.cells (Pd.svals (fun _=>0) 0 0 (fun _=>0)).toArray 55);obtain⟨V,hV⟩: ∃ V,V=W.alloc (.cells (Pd.svals (fun _=>0) 0 0 (fun _=>0)).toArray 55):=⟨_,rfl⟩;rw [← hV] at r0 B0;have HV:=hideF hV;have hVs:W.heap.size<V.heap.size:=CRow.lt r0;by_cases hJ:MayJ n m ch X r c F
 ·obtain rfl:n=m:=hJ.1;have HM:=hideF (xmay_any true lo ho n cm n hc X r c z F ch V (hl.keep B0) hz (hs.keep B0) bs ⟨fun _=>hJ,fun _=>rfl⟩);have h1:=hJ.2.1.one;have h4:=hJ.2.1.four
  have HP:Hid (∀ U,Below V.heap.size V U->Pst U lo n cm X (fun _=>6) (fun _=>6) (fun k=>mz 6 6 (F k))):=fun U b=>((hl.keep B0).keep b).congr fun k hk=>by
   obtain⟨q1,q2,_⟩:=hJ.2.2 k hk;rw [hz k hk q1 q2,q1,q2]
  have HC:Hid (∀ U,Below V.heap.size V U->Sl U ho n hc ch):=fun U b=>(hs.keep B0).keep b;have HJ:=hideF hJ;have HB:=hideF (show _/\_/\_ from⟨bs,bX,bF⟩);clear hl hz bX bF hs bs hJ hV;go_enter Tryz.func51,Tryz.ntmps51
  go_wp2_with (first
   |(rw [zeroS,← HV.out])
   |fail)
  refine HM.out.mono ?_;rintro e w1 ⟨rfl,k1⟩;have r1:=CRow.keep r0 k1;have B1:=below_tr B0 k1;have HP1:=hideF (HP.out w1 k1);have HC1:=hideF (HC.out w1 k1);have hs1:=k1.size;have s2:SO (w1.alloc (.cells #[.bool false] 178)) w1.heap.size false:=crow_new w1 178 [.bool false];have k2:=below_al (Below.refl _ w1) (.cells #[.bool false] 178);obtain⟨w2,hw2⟩: ∃ w2,w2=w1.alloc (.cells #[.bool false] 178):=⟨_,rfl⟩;rw [← hw2] at s2 k2;have HW2:=hideF hw2;have r2:=CRow.keep r1 k2;have B2:=below_tr B1 k2;have HJn:=hideF (xjoined_any w1.heap.size false lo ho n cm hc X F ch w2 s2 h1 h4 (HP1.out.keep k2) (HC1.out.keep k2) HB.out.1 HB.out.2.1 HB.out.2.2);have hs2:=CRow.lt s2;have r2l:=CRow.lt r2;obtain⟨s,hs⟩: ∃ s,s=w1.heap.size:=⟨_,rfl⟩;rw [← hs] at HJn s2 hs2 hs1;have HS:=hideF hs;clear r0 B0 r1 B1 k1 k2 HM hw2 hs HP HC HP1 HC1;obtain⟨Y,hY⟩: ∃ q,q=jX n ch X:=⟨_,rfl⟩;obtain⟨zP,hzP⟩: ∃ q,q=mz 6 6 (jP n ch X F):=⟨_,rfl⟩;obtain⟨yO,hyO⟩: ∃ q,q=jO n ch X F:=⟨_,rfl⟩;rw [← hY,← hzP,← hyO] at HJn;have HYY:=hideF (show _/\_/\_ from⟨hY,hzP,hyO⟩);clear hY hzP hyO
  go_wp2_with (first
   |(rw [← HW2.out,← HS.out])
   |fail)
  refine HJn.out.mono ?_;rintro e w3 ⟨rfl,s3,k3⟩;have r3:=Ld.crowBut r2 k3 (by omega);have B3:=k3.below B2 (by omega) (fun q e=>by omega);have hs3:=k3.size;clear s2 r2 B2 k3 HJn
  go_upto_region 5 with(first
   |(rw [zeroS];refine St.wpList_storeNew isS rfl _ _ (by rfl) _ _ _ (by rfl) (by rfl) (svals_len _ _ _ _) (svals_len _ _ _ _) (one_svals _ _ _ _) ?_;intro w4 n4 k4;have s4:SO w4 s _:=CRow.keep s3 k4;have r4:=CRow.keep r3 k4;have B4:=below_tr B3 k4)
   |fail)
  have hn4:s<w3.heap.size:=CRow.lt s3;have hn5:=CRow.lt n4;obtain⟨g,hg⟩: ∃ g,g=w3.heap.size:=⟨_,rfl⟩;rw [← hg] at n4 hn4 hn5 ⊢;clear s3 r3 B3 k4 hg;have c4:w4.cell? ⟨s,0,none⟩=some (.bool (false||yO)):=s4.cell (k:=0) rfl rfl;refine Ru.wp_region_U [5] (fun w'=>CRow w' g 55 (Pd.svals Y 6 6 zP)/\w'.cell? ⟨s,0,none⟩=some (.bool (false||yO))) (by kernel_rfl) ⟨CRow.drew n4,c4⟩ (fun hHeld=> ?_);refine Ru.tk 0 (.agg (Pd.svals Y 6 6 zP).toArray) rfl (Ru.yieldsC isS (by kernel_rfl) _ (by rfl) g _ (by rfl) (fun w h=>h.1) (svals_len _ _ _ _)) hHeld ?_;refine Ru.tk2 1 (.pointer (some ⟨s,0,none⟩)) hHeld ?_;refine Ru.tk2 2 (.bool (false||yO)) hHeld ?_;refine Ru.rd 3 (fun K hK=> ?_);refine Ru.stepC isS (by kernel_rfl) _ _ (by rfl) (W.heap.size) _ (Pd.svals Y 6 6 zP) (by rfl) (by rfl) (CRow.drew r4) (svals_len _ _ _ _) (svals_len _ _ _ _) (one_svals _ _ _ _) ?_;have hr4:=CRow.lt r4;have nF:CRow (w4.drew.setRow W.heap.size (Pd.svals Y 6 6 zP).toArray) g 55 (Pd.svals Y 6 6 zP):=CRow.rowOther (CRow.drew n4) (by omega) _;have oF:SO (w4.drew.setRow W.heap.size (Pd.svals Y 6 6 zP).toArray) s (false||yO):=CRow.rowOther (CRow.drew s4) (by omega) _;have rF:CRow (w4.drew.setRow W.heap.size (Pd.svals Y 6 6 zP).toArray) W.heap.size 55 (Pd.svals Y 6 6 zP):=CRow.row (CRow.drew r4) _;have bF:=St.below_row B4.drew (g:=W.heap.size) (Nat.le_refl _) (Pd.svals Y 6 6 zP).toArray;have cF:(w4.drew.setRow W.heap.size (Pd.svals Y 6 6 zP).toArray).cell? ⟨s,0,none⟩=some (.bool (false||yO)):=oF.cell (k:=0) rfl rfl;refine Ru.hd hK ⟨nF,cF⟩ (fun hHeld=> ?_);clear hK K;refine Ru.tk2 4 (.bool (false||yO)) hHeld ?_;refine Ru.rd2 5 (fun K hK=> ?_);go_simp;refine hK.out _ _ ?_;clear hK K;try simp only [Act.put,List.getElem_toArray,List.getElem_cons_zero,List.getElem_cons_succ,List.setIfInBounds_toArray,List.set_cons_zero,List.set_cons_succ]
  refine wpAny_done (by kernel_rfl) ?_ _;go_wp2;exact bodyPost_ret (results_3 isS Tryz.results51 _ _ W.heap.size _ rfl rF (svals_len _ _ _ _)) rfl ⟨bF,Or.inr ⟨HJ.out,by obtain⟨q1,q2,q3⟩:=HYY.out;rw [← q1,← q2,← q3];simp⟩⟩
 ·have HM:=hideF (xmay_any false lo ho n cm m hc X r c z F ch V (hl.keep B0) hz (hs.keep B0) bs ⟨fun q=>(by cases q),fun q=>absurd q hJ⟩);have HJ:=hideF hJ;clear hl hz bX bF hs bs hJ hV;go_enter Tryz.func51,Tryz.ntmps51
  go_wp2_with (first
   |(rw [zeroS,← HV.out])
   |fail)
  refine HM.out.mono ?_;rintro e w1 ⟨rfl,k1⟩;have r1:=CRow.keep r0 k1;have B1:=below_tr B0 k1;clear r0 B0 k1 HM
  go_wp2_with (first
   |((with_reducible show wpList _ _ _ _ _ _);refine Pd.buildS0 (by with_reducible rfl) (by rfl) ?_)
   |(refine St.wpList_store isS rfl _ _ (by rfl) _ _ _ (by rfl) (by rfl) (by with_reducible exact r1) (svals_len _ _ _ _) (svals_len _ _ _ _) (one_svals _ _ _ _) ?_)
   |fail)
  exact bodyPost_ret (results_3 isS Tryz.results51 _ _ W.heap.size _ rfl (CRow.row r1 _) (svals_len _ _ _ _)) rfl ⟨St.below_row B1 (Nat.le_refl _) _,Or.inl ⟨HJ.out,rfl⟩⟩
namespace Mx
theorem results_tmp4{fn:Func}{t u v x:Tmp}(h:fn.results= #[.tmp t, .tmp u, .tmp v, .tmp x])(tmps:Array Value)(P:Program)(w:World):
 (results fn tmps).run P w= .ok (.tuple #[tmps.getD t undef,tmps.getD u undef,tmps.getD v undef,tmps.getD x undef]) w:=by
 simp [results,h]
theorem erow_pst{w:World}{g n:Nat}{S:Nat->List Value}{X:Nat->Nat->Int}{r c:Nat->Int}{z:Nat->Nat->Int}(h:El.ERow w g 55 44 n S)(hn:n<=4)(e: ∀ k,k<n->S k=Pd.svals (X k) (r k) (c k) (z k)):Pst w (some ⟨g,0,none⟩) n n X r c z:=
 ⟨Nat.le_refl _,by omega,fun k hk=>⟨g,rfl,by rw [← e k hk];exact(h.at' k hk).2⟩⟩
theorem infoSt:(Tryz.prog.info? 55).map (·.size)=some 44:=by kernel_rfl
theorem cell_lt{w:World}{a:Addr}{v:Value}(h:w.cell? a=some v):a.block<w.heap.size:=by
 rcases Nat.lt_or_ge a.block w.heap.size with k|k
 · exact k
 · unfold World.cell? at h;rw [Array.getElem?_eq_none k] at h;cases h
theorem sl_lt{w:World}{ao:Option Addr}{n ca:Nat}{z:Nat->Int}(s:Sl w ao n ca z)(h0:0<n): ∀ x,ao=some x->x.block<w.heap.size:=by
 intro x hx;obtain⟨y,hy,hc⟩:=s.at' 0 h0;rw [hx] at hy;cases hy
 have:=cell_lt hc;rwa [Ld.addr_block] at this
def MAllE:Prop:= ∀ (W:World) (lo ho ro:Option Addr) (n cm m hc q rm:Nat) (X:Nat->Nat->Int) (r c:Nat->Int) (z:Nat->Nat->Int) (F:Nat->Nat->Nat->Int) (ch:Nat->Int) (A:Nat->Option Addr) (L C:Nat->Nat) (R:Nat->Nat->Int),Pst W lo n cm X r c z->(∀ k,k<n->r k=6->c k=6->z k=Mt.mz 6 6 (F k))->(∀ k,B64 (X k))->(∀ k,Mt.B2 (F k))->
 Sl W ho m hc ch->B64 ch->Sls W ro q rm A L C->(∀ i,i<q->Sl W (A i) (L i) (C i) (R i))->(∀ i,B64 (R i))->
 Calls Tryz.prog 35 #[.slice lo n cm, .slice ho m hc, .slice ro q rm] W fun e w'=> ∃ vo vn vc co cn cc b ev,e= .returned (.tuple #[.slice vo vn vc, .slice co cn cc, .bool b,ev])/\Below W.heap.size W w'/\
  Pst w' vo vn vc (fun k=>jX n (shr n ch R k) X) (fun _=>6) (fun _=>6) (fun k=>Mt.mz 6 6 (jP n (shr n ch R k) X F))/\Sl w' co cn cc (sh 1073741824 (mxw n ch R) n)/\
  ((¬(MayJ n m ch X r c F/\MayX m ch q L R)/\vn=0/\cn=0/\b=false/\ev=errX 1)\/(MayJ n m ch X r c F/\MayX m ch q L R/\vn=n/\cn=n/\b=aO n ch R X F/\ev= .nilIface))/\NewL W vo/\NewL W co/\
  (vn=0\/ ∃ (g:Nat) (S:Nat->List Value),vo=some ⟨g,0,none⟩/\vc=n/\El.ERow w' g 55 44 n S/\(∀ k,k<n->S k=Pd.svals (jX n (shr n ch R k) X) 6 6 (Mt.mz 6 6 (jP n (shr n ch R k) X F)))/\ ∀ x,co=some x->x.block≠g)
end Mx
theorem mx_allE:MAllE:=by
 intro W lo ho ro n cm m hc q rm X r c z F ch A L C R hl hz bX bF hs bs hro hR bR;have l1:=hl.le;have l2:=hl.cap;have l3:=hs.le;have l4:=hs.cap;have HX:=hideF (cn_mixN W ho ro m hc q rm ch A L C R hs bs hro hR bR);by_cases hM:MayX m ch q L R
 ·obtain rfl:q=m:=hM.rows;have HM:=hideF hM;by_cases hJ:MayJ n q ch X r c F
  ·obtain rfl:n=q:=hJ.1;have h1:=hJ.2.1.one;have h4:=hJ.2.1.four;have HMay:=hideF (fun U (b:Below W.heap.size W U)=>xmay_any true lo ho n cm n hc X r c z F ch U (hl.keep b) hz (hs.keep b) bs ⟨fun _=>hJ,fun _=>rfl⟩)
   have HP:Hid (∀ U,Below W.heap.size W U->Pst U lo n cm X (fun _=>6) (fun _=>6) (fun k=>mz 6 6 (F k))):=fun U b=>(hl.keep b).congr fun k hk=>by
    obtain⟨q1,q2,_⟩:=hJ.2.2 k hk;rw [hz k hk q1 q2,q1,q2]
   have HSh:Hid (∀ t,t<n-> ∀ U,Below W.heap.size W U->Calls Tryz.prog 91 #[.slice ho n hc, .slice ro n rm, .int .i64 (t:Int)] U fun e w'=> ∃ vo vc,e= .returned (.slice vo n vc)/\Below U.heap.size U w'/\Sl w' vo n vc (shr n ch R t)):=fun t ht U b=>
    xshares_any ho ro n hc rm ch A L C R t U (hs.keep b) (hro.keep b) (fun i hi=>(hR i hi).keep b) hM ht
   have HJn:Hid (∀ t,t<n-> ∀ U s o vo vc,SO U s o->Below W.heap.size W U->Sl U vo n vc (shr n ch R t)->Calls Tryz.prog 90 #[.pointer (some ⟨s,0,none⟩), .slice lo n cm, .slice vo n vc] U fun e w'=>e= .returned (.agg (Pd.svals (jX n (shr n ch R t) X) 6 6 (mz 6 6 (jP n (shr n ch R t) X F))).toArray)/\SO w' s (o||jO n (shr n ch R t) X F)/\Ld.But (· =s) U w'):=fun t ht U s o vo vc q1 q2 q3=>
    xjoined_any s o lo vo n cm vc X F (shr n ch R t) U q1 h1 h4 (HP.out U q2) q3 (shr_b64 hM ht) bX bF
   have HA:Hid (∀ k,anyb (fun t=>jO n (shr n ch R t) X F) (k+1)=(anyb (fun t=>jO n (shr n ch R t) X F) k||jO n (shr n ch R k) X F)):=fun _=>rfl;have HAO:Hid (aO n ch R X F=anyb (fun t=>jO n (shr n ch R t) X F) n):=rfl;have hmk:=makeSt n h4;have HJ:=hideF hJ;clear hl hz bX bF hs bs hro hR bR hM hJ;go_enter Tryz.func35,Tryz.ntmps35
   go_wp2_with (first
    |(go_at_call 88;refine HX.out.mono ?_;rintro e w1 ⟨vo,vn,vc,ev,rfl,k1,s1,⟨q,_⟩|⟨_,q1,rfl⟩,nw⟩;(exact absurd HM.out q);obtain rfl:n=vn:=q1.symm;have NW:=hideF nw;clear nw)
    |fail)
   refine(HMay.out w1 k1).mono ?_;rintro e w2 ⟨rfl,k2⟩;have t2:=s1.keep k2;have B2:=below_tr k1 k2;clear HX HMay s1 k1 k2;have s3:SO (w2.alloc (.cells #[.bool false] 178)) w2.heap.size false:=crow_new w2 178 [.bool false];have k3:=below_al (Below.refl _ w2) (.cells #[.bool false] 178);obtain⟨w3,hw3⟩: ∃ w3,w3=w2.alloc (.cells #[.bool false] 178):=⟨_,rfl⟩;have hw3s:w3.heap.size=w2.heap.size+1:=by rw [hw3];simp
   rw [← hw3] at s3 k3;have HW3:=hideF hw3;have E4:=El.erow_new w3 55 44 n (fun _=>Pd.svals (fun _=>0) 0 0 (fun _=>0)) (fun _ _=>Pd.svals_len _ _ _ _);have k4:=below_al (Below.refl _ w3) (.cells (El.ecells (fun _=>Pd.svals (fun _=>0) 0 0 (fun _=>0)) n).toArray 55);have hmk1:=hmk w3;obtain⟨w4,hw4⟩: ∃ w4,w4=w3.alloc (.cells (El.ecells (fun _=>Pd.svals (fun _=>0) 0 0 (fun _=>0)) n).toArray 55):=⟨_,rfl⟩;rw [← hw4] at E4 k4 hmk1;have s4:SO w4 w2.heap.size false:=CRow.keep s3 k4;have b4:=below_tr k3 k4;obtain⟨s,hs⟩: ∃ s,s=w2.heap.size:=⟨_,rfl⟩;rw [← hs] at s4;obtain⟨go,hgo⟩: ∃ go,go=w3.heap.size:=⟨_,rfl⟩;rw [← hgo] at E4 hmk1;have hgs:s<go:=by omega
   have hsw:w2.heap.size<=s:=by omega
   have hWs:=B2.size;have HGO:Hid (W.heap.size<=go):=(show W.heap.size<=go by omega);have HS:=hideF hs;have HST:=hideF (show _/\_/\_ from⟨E4,s4,b4⟩);clear hmk s3 k3 hw3 hw3s E4 k4 hw4 s4 b4 hs hgo
   go_wp2_with (first
    |(rw [← HW3.out,← HS.out])
    |fail)
   go_loopw [35] (fun iv wr=> ∃ (k:Nat) (S:Nat->List Value),k<=n/\iv= .int .i64 (k:Int)/\(∀ j,j<k->S j=Pd.svals (jX n (shr n ch R j) X) 6 6 (mz 6 6 (jP n (shr n ch R j) X F)))/\El.ERow wr go 55 44 n S/\SO wr s (anyb (fun t=>jO n (shr n ch R t) X F) k)/\Below w2.heap.size w2 wr) (fun iv _=>n- (intOf iv).toNat)
   case atStart=>
    obtain⟨q1,q2,q3⟩:=HST.out;exact⟨0,_,by omega,rfl,fun j hj=>by omega,q1,q2,q3⟩
   case round=>
    rename World=>wr;obtain⟨k,S,hk,rfl,hS,eR,sR,bR⟩:=hrel;by_cases h:k<n
    ·have HS1:=hideF (HSh.out k h wr (below_tr B2 bR));have HJ1:=hideF (HJn.out k h);have HSS:=hideF hS;have HOr:=hideF (HA.out k);have kn:(k:Int)<n:=by omega
     obtain⟨Y,hY⟩: ∃ q,q=jX n (shr n ch R k) X:=⟨_,rfl⟩;obtain⟨zP,hzP⟩: ∃ q,q=mz 6 6 (jP n (shr n ch R k) X F):=⟨_,rfl⟩;obtain⟨yO,hyO⟩: ∃ q,q=jO n (shr n ch R k) X F:=⟨_,rfl⟩;obtain⟨yp,hyp⟩: ∃ q,q=anyb (fun t=>jO n (shr n ch R t) X F) k:=⟨_,rfl⟩;rw [← hY,← hzP,← hyO] at HJ1;rw [← hyO,← hyp] at HOr;rw [← hyp] at sR;have HYY:=hideF (show _/\_ from⟨hY,hzP⟩);have hlr:=eR.lt;clear hY hzP hyO hyp hS;go_wp2_with fail
     refine HS1.out.mono ?_;rintro e w5 ⟨uo,uc,rfl,k5,s5⟩;have e5:=eR.keep k5;have o5:SO w5 s yp:=CRow.keep sR k5;have b5:=below_tr bR k5;clear eR sR bR k5 HS1;go_wp2_with fail
     refine(HJ1.out w5 s yp uo uc o5 (below_tr B2 b5) s5).mono ?_;rintro e w6 ⟨rfl,o6,k6⟩;have e6:=e5.but k6 (by omega);have b6:=k6.below b5 b5.size (fun q e=>by omega);clear e5 o5 b5 k6 s5
     go_wp2_with (first
      |((with_reducible show wpList _ _ _ _ _ _);refine El.wpList_storeE 55 rfl _ _ (by rfl) (Pd.svals Y 6 6 zP) (by rfl) (by rfl) (by with_reducible exact e6) h (Pd.svals_len _ _ _ _) infoSt (one_svals _ _ _ _) ?_;intro w7 e7 k7)
      |fail)
     have o7:SO w7 s _:=Ld.crowBut o6 k7 (by omega);have b7:=k7.below b6 b6.size (fun q e=>by omega);have HEE:=hideF (show _/\_/\_ from⟨e7,o7,b7⟩);clear e6 o6 b6 e7 o7 b7 k7;go_wp2;go_roundw
     case rel=>
      obtain⟨q1,q2,q3⟩:=HEE.out;refine⟨k+1,_,by omega,by go_num,fun j hj=> ?_,q1,by rw [HOr.out];exact q2,q3⟩;by_cases e:j=k
      ·obtain⟨p1,p2⟩:=HYY.out;rw [if_pos e,e,← p1,← p2]
      ·rw [if_neg e];exact HSS.out j (by omega)
     case measure=>simp [intOf];omega
    ·obtain rfl:n=k:=by omega
     have HSS:=hideF hS;have HER:=hideF eR;have HCO:Hid (∀ x,vo=some x->x.block≠go):=fun x e=>by have:=sl_lt t2 (by omega) x e;omega
     have HPst:=hideF (erow_pst (X:=fun j=>jX n (shr n ch R j) X) (r:=fun _=>6) (c:=fun _=>6) (z:=fun j=>mz 6 6 (jP n (shr n ch R j) X F)) eR h4 hS);have HT:=hideF (t2.keep bR);have HB:=hideF (below_tr B2 bR);rw [← HAO.out] at sR;obtain⟨yA,hyA⟩: ∃ q,q=aO n ch R X F:=⟨_,rfl⟩;rw [← hyA] at sR;have cR:wr.cell? ⟨s,0,none⟩=some (.bool yA):=sR.cell (k:=0) rfl rfl;have HYA:=hideF hyA;clear hS eR sR bR hyA;go_wp2;go_quiet (fail)
     go_wp2
     (try simp only [Exit.inBlock,Exit.then]);refine bodyPost_ret (results_tmp4 rfl _ _ _) rfl ?_;exact⟨_,_,_,_,_,_,_,_,rfl,Vc.below_drewN HB.out _,HPst.out.keep (Vc.below_drewN (Below.refl _ _) _),HT.out.keep (Vc.below_drewN (Below.refl _ _) _),Or.inr ⟨HJ.out,HM.out,rfl,rfl,HYA.out,rfl⟩,fun x e=>(by cases e;exact HGO.out),NW.out,Or.inr ⟨go,_,rfl,rfl,HER.out.drewN _,HSS.out,HCO.out⟩⟩
  ·have HMay:=hideF (fun U (b:Below W.heap.size W U)=>xmay_any false lo ho n cm q hc X r c z F ch U (hl.keep b) hz (hs.keep b) bs ⟨fun e=>(by cases e),fun e=>absurd e hJ⟩);have HJ:=hideF hJ;clear hl hz bX bF hs bs hro hR bR hM hJ;go_enter Tryz.func35,Tryz.ntmps35
   go_wp2_with (first
    |(go_at_call 88;refine HX.out.mono ?_;rintro e w1 ⟨vo,vn,vc,ev,rfl,k1,s1,⟨q,_⟩|⟨_,rfl,rfl⟩,nw⟩;(exact absurd HM.out q))
    |fail)
   refine(HMay.out w1 k1).mono ?_;rintro e w2 ⟨rfl,k2⟩;have B2:=below_tr k1 k2;clear HX HMay s1 k1 k2;go_wp2
   (try simp only [Exit.inBlock,Exit.then]);refine bodyPost_ret (results_tmp4 rfl _ _ _) rfl ?_;exact⟨none,0,0,none,0,0,false,_,rfl,B2,⟨Nat.le_refl _,by omega,fun k hk=>by omega⟩,Sl.none _ _,Or.inl ⟨fun e=>HJ.out e.1,rfl,rfl,rfl,rfl⟩,NewL.nil _,NewL.nil _,Or.inl rfl⟩
 ·have HM:=hideF hM;clear hl hz bX bF hs bs hro hR bR hM;go_enter Tryz.func35,Tryz.ntmps35
  go_wp2_with (first
   |(go_at_call 88;refine HX.out.mono ?_;rintro e w1 ⟨vo,vn,vc,ev,rfl,k1,s1,⟨_,rfl,rfl⟩|⟨q,_⟩,nw⟩;rotate_left;(exact absurd q HM.out);simp only [errV])
   |fail)
  (try simp only [Exit.inBlock,Exit.then]);refine bodyPost_ret (results_tmp4 rfl _ _ _) rfl ?_;exact⟨none,0,0,none,0,0,false,_,rfl,k1,⟨Nat.le_refl _,by omega,fun k hk=>by omega⟩,Sl.none _ _,Or.inl ⟨fun e=>HM.out e.2,rfl,rfl,rfl,rfl⟩,NewL.nil _,NewL.nil _,Or.inl rfl⟩
end
end Go.Proofs.YtcefcokpjbebhaaGreatDoor
