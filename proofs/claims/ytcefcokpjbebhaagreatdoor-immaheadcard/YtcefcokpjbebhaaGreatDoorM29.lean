/-
  The document's answer of layer 14 (radomeref14): a whole number by shares.
-/
import Derived.Test.YtcefcokpjbebhaaGreatDoorM26
import Derived.Test.YtcefcokpjbebhaaGreatDoorRegM
import Derived.Test.YtcefcokpjbebhaaGreatDoorM1
import Derived.Test.YtcefcokpjbebhaaGreatDoorM28
import Derived.Test.YtcefcokpjbebhaaGreatDoorM3
import Derived.Deep.DeepCutAuto
import Derived.Deep.CutRange
import Derived.Test.YtcefcokpjbebhaaGreatDoorM8
import Derived.Deep.MidRow
import Derived.Test.YtcefcokpjbebhaaGreatDoorM9
import Derived.Test.YtcefcokpjbebhaaGreatDoorRegU
import Derived.Deep.AppendLies
import Derived.Deep.RegionHeld3
set_option linter.unusedSimpArgs false
set_option linter.unusedVariables false
set_option maxHeartbeats 8000000
set_option maxRecDepth 20000
namespace Go.Proofs.YtcefcokpjbebhaaGreatDoor
section
open Go.RowKit Dec Nv Vc St Ld Nu
attribute [local go_sem ↓] Go.wp_at_zero Go.wp_at_succ
namespace Cn
theorem hide{p:Prop}(h:p):Hid p:=h
theorem tot_le{a:Nat->Int}{M:Int}: ∀ {n:Nat},(∀ k,k<n->0<=a k/\a k<=M)->0<=tot a n/\tot a n<=M*n
 |0,_=>by show(0:Int)<=0/\(0:Int)<=M*0;omega
 |n+1,h=>by
  have h1:=tot_le (n:=n) (fun k hk=>h k om1)
  have h2:=h n om1
  show 0<=tot a n+a n/\tot a n+a n<=M*((n:Int)+1)
  rw [Int.mul_add,Int.mul_one];omega
theorem tot_up{a:Nat->Int}: ∀ {n k:Nat},(∀ j,j<n->0<=a j)->k<=n->tot a k<=tot a n
 |0,k,_,h=>by(obtain rfl:k=0:=by omega);exact Int.le_refl _
 |n+1,k,h0,h=>by
  by_cases e:k=n+1
  · rw [e];exact Int.le_refl _
  · have h1:=tot_up (n:=n) (k:=k) (fun j hj=>h0 j om1) om1
    have h2:=h0 n om1
    show tot a k<=tot a n+a n;omega
theorem len_of{z:Int}(h:z.natAbs<10^100):(digs z.natAbs).length<=900000:=by
 have:=length_digs_le h;omega
theorem bst_some{n:Nat}{o c:Nat->Int}(hc: ∀ i,i<n->0<=c i){t:Nat}(ht:t<n):0<=bst (give n o c t).2 n/\(bst (give n o c t).2 n).toNat<n:=by
 obtain⟨h1,h2,_⟩:=give_inv (o:=o) hc t om1;rcases bst_spec (give n o c t).2 n with⟨b1,b2⟩|⟨b1,b2,_,_⟩
 · exfalso
   have all:tot (got n o c t) n=n:=by
    rw [tot_congr (b:=fun _=>1) (fun k hk=> ?_),tot_const];simp;unfold got;rw [if_pos];rcases h2 k hk with⟨e,_⟩|⟨e,_⟩
    · have:=hc k hk;have:=b2 k hk;omega
    · exact e
   omega
 · exact⟨b1,b2⟩
theorem give_in{n:Nat}{o c:Nat->Int}{M S:Int}(hc: ∀ i,i<n->0<=c i/\c i<=S)(ho: ∀ i,i<n->0<=o i/\o i<=M)(hS:0<=S){t:Nat}(ht:t<=n){i:Nat}(hi:i<n):
 0<=(give n o c t).1 i/\(give n o c t).1 i<=M+1/\ -1<=(give n o c t).2 i/\(give n o c t).2 i<=S:=by
 have h1:=hc i hi;have h2:=ho i hi;rcases(give_inv (o:=o) (fun i hi=>(hc i hi).1) t ht).2.1 i hi with⟨e1,e2⟩|⟨e1,e2⟩<;>rw [e1,e2]<;>omega
theorem give_next{n:Nat}{o c:Nat->Int}{t b:Nat}(hb:bst (give n o c t).2 n=(b:Int)):
 (fun k=>if k=b then(give n o c t).1 b+1 else(give n o c t).1 k)=(give n o c (t+1)).1/\(fun k=>if k=b then(-1:Int) else(give n o c t).2 k)=(give n o c (t+1)).2:=by
 have u:give n o c (t+1)=if bst (give n o c t).2 n<0 then give n o c t else
  (fun i=>if i=(bst (give n o c t).2 n).toNat then(give n o c t).1 i+1 else(give n o c t).1 i,fun i=>if i=(bst (give n o c t).2 n).toNat then-1 else(give n o c t).2 i):=rfl
 rw [u,if_neg om1,hb,Int.toNat_natCast];refine⟨funext fun k=> ?_,rfl⟩;by_cases e:k=b
 · subst e;rw [if_pos rfl];show _=if k=k then _ else _;rw [if_pos rfl]
 · rw [if_neg e];show _=if k=b then _ else _;rw [if_neg e]
theorem bst_yes{C:Nat->Int}{k:Nat}(h1:0<=C k)(h2:bst C k<0\/C (bst C k).toNat<C k):bst C (k+1)=(k:Int):=if_pos ⟨h1,h2⟩
theorem bst_no{C:Nat->Int}{k:Nat}(h: ¬(0<=C k/\(bst C k<0\/C (bst C k).toNat<C k))):bst C (k+1)=bst C k:=if_neg h
theorem bst_lt{C:Nat->Int}{k:Nat}(h:0<=bst C k):(bst C k).toNat<k:=by
 rcases bst_spec C k with⟨e,_⟩|⟨_,e,_⟩
 · omega
 · exact e
theorem bst_lo(C:Nat->Int)(k:Nat): -1<=bst C k/\bst C k<k:=by
 rcases bst_spec C k with⟨e,_⟩|⟨e1,e,_⟩<;>omega
theorem row_mono{w:World}{B B':Nat}{e:TypeId}{s:Nat}{v:Value}{n:Nat}{xs:List Value}(h:w.ownsRow B e s v n xs)(hb:B'<=B):w.ownsRow B' e s v n xs:=
 ⟨h.1,h.2.imp id (fun⟨g,cap,cur,h1,h2,h3⟩=>⟨g,cap,cur,h1,Nat.le_trans hb h2,h3⟩)⟩
theorem sign_cases(z:Int):(z<0/\z.sign= -1)\/(z=0/\z.sign=0)\/(0<z/\z.sign=1):=by
 rcases Int.lt_trichotomy z 0 with h|h|h
 · exact Or.inl ⟨h,Int.sign_eq_neg_one_of_neg h⟩
 · exact Or.inr (Or.inl ⟨h,by rw [h];rfl⟩)
 · exact Or.inr (Or.inr ⟨h,Int.sign_eq_one_of_pos h⟩)
end Cn
open Cn
theorem dshares_any(m:Int)(g n cap:Nat)(a:Nat->Int)(w:World)(hl:Nu.At w g n cap a)(hn:n<=4)(hm0:0<=m)(hm1:m<=1073741824)(ha: ∀ k,k<n->0<=a k/\a k<=4611686018427387904)(hS:0<tot a n):
 Calls Tryz.prog 142 #[.int .i64 m, .slice (some ⟨g,0,none⟩) n cap] w fun e w'=> ∃ v,e= .returned v/\Own w.heap.size w w' v n (sh m a n):=by
 have HL:=hide hl;have l1:=hl.le;have l2:=hl.cap
 have HT:Hid (∀ k,k<=n->0<=tot a k/\tot a k<=18446744073709551616):=fun k hk=>by
  have h:=tot_le (a:=a) (M:=4611686018427387904) (n:=k) (fun j hj=>ha j om1);omega
 have HA:=hide ha;have HS0:=hide hS;clear hl ha hS;go_enter Tryz.func142,Tryz.ntmps142
 go_wp2_with (first
  |(refine St.wpList_storeNew isNum rfl _ _ rl1 _ [.bool false, .slice none 0 0] [.bool false, .slice none 0 0] rl1 rl1 rfl rfl (one2 _ _ _ _) ?_;intro w1 n1 k1)
  |fail)
 have v1:Var w1 w.heap.size (tot a 0):=⟨none,0,0,n1,zero_is w1⟩;clear n1;go_loopw [6] (fun i wr=> ∃ k:Nat,k<=n/\i= .int .i64 (k:Int)/\Var wr w.heap.size (tot a k)/\Below w.heap.size w wr) (fun i _=>n- (intOf i).toNat)
 case atStart=>exact⟨0,om1,rfl,v1,k1⟩
 case round=>
  rename World=>wr;obtain⟨k,hk,rfl,vr,Br⟩:=hrel;by_cases h:k<n
  ·obtain⟨sp,sl,sc,cr,ci⟩:=vr;obtain⟨p,l,c,c0,c1,ei⟩:=(HL.out.keep Br).num k h;have bt:=HT.out k hk;have ba:=HA.out k h;have HD:=hide (fun W (h1:IsNum W (.agg #[.bool (decide (tot a k<0)), .slice sp sl sc]) (tot a k)) (h2:IsNum W (.agg #[.bool (decide (a k<0)), .slice p l c]) (a k))=>add_any _ _ (tot a k) (a k) W (len100 om1) (len100 om1) h1 h2);have HU:Hid (tot a (k+1)=tot a k+a k):=rfl;obtain⟨s0,hs0⟩: ∃ q,q=decide (tot a k<0):=⟨_,rfl⟩;obtain⟨s1,hs1⟩: ∃ q,q=decide (a k<0):=⟨_,rfl⟩;obtain⟨Tk,hTk⟩: ∃ q,q=tot a k:=⟨_,rfl⟩;obtain⟨ak,hak⟩: ∃ q,q=a k:=⟨_,rfl⟩;rw [← hs0] at cr ci HD;rw [← hs1] at c0 ei HD;rw [← hTk] at ci HD HU;rw [← hak] at ei HD HU;have HS:Hid (∀ V,Below wr.heap.size wr V->(CRow V w.heap.size 190 [.bool s0, .slice sp sl sc]/\V.cell? ⟨g,k*2,none⟩=some (.bool s1)/\V.cell? ⟨g,k*2+1,none⟩=some (.slice p l c))):=fun V b=>⟨CRow.keep cr b,keep_cell b c0,keep_cell b c1⟩;have D0:=Vc.below_drew' wr;have kn:(k:Int)<n:=om1;clear hs0 hs1 hTk hak c0 c1 bt ba;go_upto_region 5 with fail
   refine Ru.wp_region_U [6] (fun w'=>CRow w' w.heap.size 190 [.bool s0, .slice sp sl sc]/\w'.cell? ⟨g,k*2,none⟩=some (.bool s1)/\w'.cell? ⟨g,k*2+1,none⟩=some (.slice p l c)) (by kernel_rfl) (HS.out _ D0) (fun hHeld=> ?_);refine Ru.tk 0 (.agg [.bool s0, .slice sp sl sc].toArray) rfl (Ru.yieldsC isNum (by kernel_rfl) _ rl1 w.heap.size _ rl1 (fun w h=>h.1) rfl) hHeld ?_;refine Ru.tk3 1 (.slice (some ⟨g,0,none⟩) n cap) hHeld ?_;refine Ru.tk3 2 (.int .i64 (k:Int)) hHeld ?_;refine Ru.tk3 3 (.pointer (some ⟨g,k*2,none⟩)) hHeld ?_;refine Ru.tk 4 (.agg #[.bool s1, .slice p l c]) rfl (Nu.yieldsN (by kernel_rfl) _ rl1 g (k*2) _ _ rl1 (fun w h=>⟨h.2.1,h.2.2⟩)) hHeld ?_;refine Ru.rd 5 (fun K hK=> ?_);go_simp;refine(HD.out _ (ci.below D0) (ei.below D0)).mono ?_;rintro e w2 ⟨v,rfl,iv,k2⟩;have D2:=below_tr D0 k2;obtain⟨q1,q2,q3,rfl⟩:=iv.form;go_wp2_with fail
   refine Ru.hd hK (HS.out _ D2) (fun hHeld=> ?_);clear hK K;refine Ru.rd2 6 (fun K hK=> ?_);have c2:=(HS.out _ D2).1;refine Ru.stepC isNum (by kernel_rfl) _ _ rl1 w.heap.size _ [.bool (decide (Tk+ak<0)), .slice q1 q2 q3] rl1 rl1 c2 rfl rfl (one2 _ _ _ _) ?_;have v3:=var_set c2 iv;have B3:=St.below_row (below_tr Br D2) (g:=w.heap.size) (Nat.le_refl _) [.bool (decide (Tk+ak<0)), .slice q1 q2 q3].toArray;refine hK.out _ _ ?_;clear hK K;try simp only [Act.put,List.getElem_toArray,List.getElem_cons_zero,List.getElem_cons_succ,List.setIfInBounds_toArray,List.set_cons_zero,List.set_cons_succ]
   refine wpAny_done (by kernel_rfl) ?_ _;go_wp2;go_roundw
   case rel=>exact⟨k+1,om1,by go_num,by rw [HU.out];exact v3,B3⟩
   case measure=>simp [intOf];omega
  ·obtain rfl:n=k:=om1;have bS:=HT.out n (Nat.le_refl _);have hSp:=HS0.out;have hnp:=n_pos hSp;have HR:=hide vr;have HBr:=hide Br;obtain⟨Sn,hSn⟩: ∃ q,q=tot a n:=⟨_,rfl⟩;rw [← hSn] at HR bS hSp;have HSn:=hide hSn;have HQ:Hid (∀ k,qt m a n k=m*a k/Sn/\rt m a n k=m*a k%Sn):=fun k=>by rw [hSn];exact⟨rfl,rfl⟩
   clear hSn vr Br h;go_wp2;go_loopw [7,8,9,10] (fun vx vy lv i wl=> ∃ k:Nat,k<=n/\i= .int .i64 (k:Int)/\lv= .int .i64 (m- tot (qt m a n) k)/\Nu.Two wr.heap.size wr wl vx k (qt m a n) vy k (rt m a n)) (fun _ _ _ i _=>n- (intOf i).toNat)
   case atStart=>exact⟨0,om1,rfl,by show Value.int .i64 m= .int .i64 (m- 0);rw [Int.sub_zero],⟨Own.nil (Below.refl _ _) (Nat.le_refl _) _,Nls.nil (Below.refl _ _) (Nat.le_refl _) _,fun g e=>(by cases e)⟩⟩
   case round=>
    rename World=>wl;obtain⟨k,hk,rfl,rfl,TT⟩:=hrel;by_cases h:k<n
    ·have kl:=TT.x.below;obtain⟨sp,sl,sc,cr,ci⟩:=HR.out.keep kl;obtain⟨p,l,c,c0,c1,ei⟩:=(HL.out.keep (below_tr HBr.out kl)).num k h;have ba:=HA.out k h;have hq:=HQ.out k;have hU:tot (qt m a n) (k+1)=tot (qt m a n) k+qt m a n k:=rfl;have hlo:=tot_nn (a:=qt m a n) (n:=k) (fun j hj=>qt_nn hm0 (fun i hi=>(HA.out i hi).1) HS0.out om1)
     have hup:tot (qt m a n) (k+1)<=m:=by
      have h1:=(lf_in (m:=m) HS0.out).1;have h2:tot (qt m a n) (k+1)<=tot (qt m a n) n:=tot_up (fun j hj=>qt_nn hm0 (fun i hi=>(HA.out i hi).1) HS0.out hj) om1;unfold lf at h1;omega
     have hqn:=qt_nn hm0 (fun i hi=>(HA.out i hi).1) HS0.out h;obtain⟨ak,hak⟩: ∃ q,q=a k:=⟨_,rfl⟩;obtain⟨s0,hs0⟩: ∃ q,q=decide (Sn<0):=⟨_,rfl⟩;obtain⟨s1,hs1⟩: ∃ q,q=decide (a k<0):=⟨_,rfl⟩;rw [← hs0] at cr ci;rw [← hs1] at c0 ei;rw [← hak] at ei ba hq;have hmk0:0<=m*ak:=Int.mul_nonneg hm0 ba.1;have hmk1:m*ak<=1073741824*4611686018427387904:=Int.mul_le_mul hm1 ba.2 ba.1 om1;have HOf:=hide (fun W=>of_any m W om1 om1);have HMu:=hide (fun W va (h1:IsNum W va m) (h2:IsNum W (.agg #[.bool s1, .slice p l c]) ak)=>mul_any va _ m ak W (len100 om1) (len100 om1) h1 h2);have HDi:=hide (fun W va (h1:IsNum W va (m*ak)) (h2:IsNum W (.agg #[.bool s0, .slice sp sl sc]) Sn)=>div_any va _ (m*ak) Sn W (len_of om1) om1 (len_of om1) h1 h2);obtain⟨q,hqq⟩: ∃ q,q=qt m a n k:=⟨_,rfl⟩;obtain⟨r,hrr⟩: ∃ q,q=rt m a n k:=⟨_,rfl⟩;rw [← hqq] at hq hU hqn;rw [← hrr] at hq;rw [← hq.1,← hq.2] at HDi;obtain⟨tk,htk⟩: ∃ q,q=tot (qt m a n) k:=⟨_,rfl⟩;rw [← htk] at hU hlo ⊢;have HQQ:=hide hqq;have HRR:=hide hrr;have HUU:=hide hU;have hup':tk+q<=m:=by rw [← hU];exact hup
     have HS:Hid (∀ V,Below wl.heap.size wl V->(CRow V w.heap.size 190 [.bool s0, .slice sp sl sc]/\V.cell? ⟨g,k*2,none⟩=some (.bool s1)/\V.cell? ⟨g,k*2+1,none⟩=some (.slice p l c))):=fun V b=>⟨CRow.keep cr b,keep_cell b c0,keep_cell b c1⟩;have lgA:w.heap.size<wl.heap.size:=CRow.lt cr;have lgl:g<wl.heap.size:=World.block_lt_of_cell? wl _ c0;have kn:(k:Int)<n:=om1;have HCI:=hide ci;have HEI:=hide ei;clear hqq hrr hs0 hs1 hak htk hq hU hup c0 c1 cr ci ei hmk0 hmk1;go_upto_region 12 with fail
     go_cut [11,12] (fun p1 p2 wx=> ∃ g1 g2:Nat,p1= .pointer (some ⟨g1,0,none⟩)/\p2= .pointer (some ⟨g2,0,none⟩)/\Var wx g1 q/\Var wx g2 r/\wl.heap.size<=g2/\Below wl.heap.size wl wx)
     case first=>
      have D:=Vc.below_drew' wl;refine Ru.wp_region_U [15] (fun w'=>CRow w' w.heap.size 190 [.bool s0, .slice sp sl sc]/\w'.cell? ⟨g,k*2,none⟩=some (.bool s1)/\w'.cell? ⟨g,k*2+1,none⟩=some (.slice p l c)) (by kernel_rfl) (HS.out _ D) (fun hHeld=> ?_);refine Ru.tk3 0 (.int .i64 m) hHeld ?_;refine Ru.tk3 2 (.slice (some ⟨g,0,none⟩) n cap) hHeld ?_;refine Ru.tk3 3 (.int .i64 (k:Int)) hHeld ?_;refine Ru.tk3 4 (.pointer (some ⟨g,k*2,none⟩)) hHeld ?_;refine Ru.tk 5 (.agg #[.bool s1, .slice p l c]) rfl (Nu.yieldsN (by kernel_rfl) _ rl1 g (k*2) _ _ rl1 (fun w h=>⟨h.2.1,h.2.2⟩)) hHeld ?_;refine Ru.tk 7 (.agg [.bool s0, .slice sp sl sc].toArray) rfl (Ru.yieldsC isNum (by kernel_rfl) _ rl1 w.heap.size _ rl1 (fun w h=>h.1) rfl) hHeld ?_;refine Ru.rs [1,12,13] ?_
      repeat' (first
       |((with_reducible show Ru.AllReadyU _ _ _ _ _ _ _ _ _ _ _);first
        |refine Ru.sp ?_ ?_
        |(refine Ru.co1 (i:=1) (fun K hK=> ?_);go_simp;refine(HOf.out _).mono ?_;rintro e x ⟨v,rfl,i1,kk⟩;replace D:=below_tr D kk;(try replace a12:=CRow.keep a12 kk);(try replace a13:=CRow.keep a13 kk);go_wp2_with fail;refine Ru.hd hK (HS.out _ D) (fun hHeld=> ?_);clear hK K;first|refine Ru.rz [6,12,13] ?_|refine Ru.rz [6,12] ?_|refine Ru.rz [6,13] ?_|refine Ru.rz [6] ?_)
        |(refine Ru.co1 (i:=6) (fun K hK=> ?_);go_simp;refine(HMu.out _ _ i1 (HEI.out.below D)).mono ?_;rintro e x ⟨v,rfl,i6,kk⟩;replace D:=below_tr D kk;(try replace a12:=CRow.keep a12 kk);(try replace a13:=CRow.keep a13 kk);go_wp2_with fail;refine Ru.hd hK (HS.out _ D) (fun hHeld=> ?_);clear hK K;clear i1;first|refine Ru.rz [8,12,13] ?_|refine Ru.rz [8,12] ?_|refine Ru.rz [8,13] ?_|refine Ru.rz [8] ?_)
        |(refine Ru.co1 (i:=8) (fun K hK=> ?_);go_simp;refine(HDi.out _ _ i6 (HCI.out.below D)).mono ?_;rintro e x ⟨u,v,rfl,iq,ir,kk⟩;replace D:=below_tr D kk;(try replace a12:=CRow.keep a12 kk);(try replace a13:=CRow.keep a13 kk);go_wp2_with fail;refine Ru.hd hK (HS.out _ D) (fun hHeld=> ?_);clear hK K;clear i6;refine Ru.tk3 9 (.tuple #[u,v]) hHeld ?_;refine Ru.tk3 10 u hHeld ?_;refine Ru.tk3 11 v hHeld ?_;first|refine Ru.rz [12,13] ?_|refine Ru.rz [12] ?_|refine Ru.rz [13] ?_|skip)
        |(refine Ru.co1 (i:=12) (fun K hK=> ?_);go_simp;obtain⟨g12,x,hg,hx,a12,l12,kk⟩:=made D 190 [.bool false, .slice none 0 0];(first|rw [← hx]|rw [show(wl.alloc (.cells [.bool false, .slice none 0 0].toArray 190)).drew=x from hx.symm]);(try rw [← hg]);(try rw [show wl.heap.size=g12 from hg.symm]);(try have hne:g12≠g13:=by have:=CRow.lt a13;omega);clear hg hx;replace D:=below_tr D kk;(try replace i1:=i1.below kk);(try replace i6:=i6.below kk);(try replace iq:=iq.below kk);(try replace ir:=ir.below kk);(try replace a13:=CRow.keep a13 kk);refine Ru.hd hK (HS.out _ D) (fun hHeld=> ?_);clear hK K;first|(have q':=iq;clear q';first|refine Ru.rz [13] ?_|skip)|(have q':=i6;clear q';first|refine Ru.rz [8,13] ?_|refine Ru.rz [8] ?_)|(have q':=i1;clear q';first|refine Ru.rz [6,13] ?_|refine Ru.rz [6] ?_)|refine Ru.rz [1,13] ?_|refine Ru.rz [1] ?_)
        |(refine Ru.co1 (i:=13) (fun K hK=> ?_);go_simp;obtain⟨g13,x,hg,hx,a13,l13,kk⟩:=made D 190 [.bool false, .slice none 0 0];(first|rw [← hx]|rw [show(wl.alloc (.cells [.bool false, .slice none 0 0].toArray 190)).drew=x from hx.symm]);(try rw [← hg]);(try rw [show wl.heap.size=g13 from hg.symm]);(try have hne:g12≠g13:=by have:=CRow.lt a12;omega);clear hg hx;replace D:=below_tr D kk;(try replace i1:=i1.below kk);(try replace i6:=i6.below kk);(try replace iq:=iq.below kk);(try replace ir:=ir.below kk);(try replace a12:=CRow.keep a12 kk);refine Ru.hd hK (HS.out _ D) (fun hHeld=> ?_);clear hK K;first|(have q':=iq;clear q';first|refine Ru.rz [12] ?_|skip)|(have q':=i6;clear q';first|refine Ru.rz [8,12] ?_|refine Ru.rz [8] ?_)|(have q':=i1;clear q';first|refine Ru.rz [6,12] ?_|refine Ru.rz [6] ?_)|refine Ru.rz [1,12] ?_|refine Ru.rz [1] ?_))
       |as_aux_lemma=>(obtain⟨q1,q2,q3,e1⟩:=iq.form;obtain⟨q4,q5,q6,e2⟩:=ir.form;subst e1 e2;refine Ru.rd 14 (fun K hK=> ?_);refine Ru.stepC isNum (by kernel_rfl) _ _ rl1 g12 _ [.bool (decide (q<0)), .slice q1 q2 q3] rl1 rl1 a12 rfl rfl (one2 _ _ _ _) ?_;have h9:=HS.out _ D;have kb:But (· =g12) x (World.setRow x g12 [.bool (decide (q<0)), .slice q1 q2 q3].toArray):=⟨rfl,rfl,rfl,by simp,fun k hk hn=>setRow_other _ g12 k _ hn⟩;have vA:=var_set a12 iq;have rB:=CRow.rowOther a13 (fun e=>hne e.symm) [.bool (decide (q<0)), .slice q1 q2 q3].toArray;have iB2:=num_but ir kb (fun b e=>by rw [e];exact crow_not a12);have BA:=St.below_row D (g:=g12) l12 [.bool (decide (q<0)), .slice q1 q2 q3].toArray;refine Ru.hd hK ⟨CRow.rowOther h9.1 om1 _,kb.cell h9.2.1 (by show ¬g=g12;omega),kb.cell h9.2.2 (by show ¬g=g12;omega)⟩ (fun hHeld=> ?_);clear hK K;refine Ru.rd2 15 (fun K hK=> ?_);refine Ru.stepC isNum (by kernel_rfl) _ _ rl1 g13 _ [.bool (decide (r<0)), .slice q4 q5 q6] rl1 rl1 rB rfl rfl (one2 _ _ _ _) ?_;have vB:=var_set rB iB2;have vA2:=var_other rB vA hne [.bool (decide (r<0)), .slice q4 q5 q6].toArray;have BB:=St.below_row BA (g:=g13) l13 [.bool (decide (r<0)), .slice q4 q5 q6].toArray;refine hK.out _ _ ?_;clear hK K;(try simp only [Act.put,Ru.zq1,Ru.zq2,Ru.zq3,Ru.zq4,Ru.zq5,Ru.zq6]);refine wpAny_done (by kernel_rfl) ?_ _;go_wp2_with fail;go_meet;exact⟨_,_,rfl,rfl,vA2,vB,l13,BB⟩))
     rename World=>wx;obtain⟨g1,g2,rfl,rfl,vq,vr2,lg2,kx⟩:=hcut;have T1:=TT.keep kx;have off:=TT.off lg2;clear TT HOf HMu HDi HS HCI HEI;obtain⟨qp,ql,qc,cq,iq⟩:=vq;obtain⟨rp,rl,rc,cr2,ir⟩:=vr2;obtain⟨dd,hdd,hRd⟩:=iq;obtain⟨ds,hds⟩: ∃ d,d=digs q.natAbs:=⟨_,rfl⟩;rw [← hds] at hRd;have hsm:Small ds:=by rw [hds];exact small_digs _
     have hvl:(val ds:Int)=q:=by rw [hds,val_digs];omega
     have hll:ds.length<=20:=by rw [hds];exact length_digs_le (show q.natAbs<10^20 by omega)
     obtain⟨ao,b,off',cp,e1,hcp,hao,hcell⟩:=hRd.shape
     have cq1:wx.cell? ⟨g1,1,none⟩=some (.slice ao ds.length cp):=by
      have e:=CRow.cell cq (k:=1) rfl rfl
      have e2:Value.slice qp ql qc=dd:=by
       injection hdd with hdd
       simpa using hdd
      rw [e2,e1] at e;exact e
     obtain⟨L,hL⟩: ∃ L,L=ds.length:=⟨_,rfl⟩;rw [← hL] at cq1 hcp hao hll;have HLn:=hide hL;have HV:=hide hvl;have HSM:=hide hsm;have HC:=hide hcell;have HAO:=hide hao;have HT1:=hide T1;have HOFF:=hide off;have HCR:=hide cr2;have HIR:=hide ir;clear hL hvl hsm hcell hao hdd hds hRd e1 T1 off cr2 ir cq;go_wp2;go_loopw [13,14] (fun v i w3=> ∃ j:Nat,j<=L/\i= .int .i64 ((j:Int)- 1)/\v= .int .i64 (val (ds.drop j):Int)/\wx=w3) (fun _ i _=>((intOf i)+1).toNat)
     case atStart=>exact⟨L,Nat.le_refl _,rfl,by rw [HLn.out,List.drop_length];rfl,rfl⟩
     case round=>
      obtain⟨j,hj,rfl,rfl,rfl⟩:=hrel;cases j with
      |succ j=>
       have e0:((j+1:Nat):Int)- 1=(j:Int):=om1;rw [e0];have hjl:j<ds.length:=by rw [← HLn.out];omega
       have hck:=(HC.out j hjl).2;have d1:=val_drop ds j hjl;have d2:=val_drop_le ds j;have d3:=HV.out;have hsj:=HSM.out j;obtain⟨A,hA⟩: ∃ A,val (ds.drop (j+1))=A:=⟨_,rfl⟩;obtain⟨Bv,hB⟩: ∃ A,val (ds.drop j)=A:=⟨_,rfl⟩;obtain⟨dg,hdg⟩: ∃ dg,ds.getD j 0=dg:=⟨_,rfl⟩;rw [hdg] at hck hsj d1;rw [hA] at d1 ⊢;rw [hB] at d1 d2;have HB:Hid (val (ds.drop j)=Bv):=hB;have D1:Hid (Bv=dg+10*A):=d1;have b1:10*A+dg<=1073741824:=om1
       obtain rfl:ao=some ⟨b,off',none⟩:=by
        rcases HAO.out with e|⟨_,e⟩
        ·exact e
        ·omega
       clear d1 d2 d3 hA hB hdg;go_wp2;go_roundw
       case rel=>exact⟨j,om1,rfl,by rw [HB.out,D1.out];go_num,by first|trivial|rfl⟩
       case measure=>simp [intOf]
      |zero=>
       have e0:((0:Nat):Int)- 1= -1:=om1;rw [e0,List.drop_zero,HV.out];have T1:=HT1.out;have off:=HOFF.out;have cr2:=HCR.out;have ir:=HIR.out;have lg:=CRow.lt cr2;obtain⟨sr,hsr⟩: ∃ q,q=decide (r<0):=⟨_,rfl⟩;rw [← hsr] at cr2 ir;have HSR:=hide hsr;have HRr:=hide (show rt m a n k=r from HRR.out.symm);have HQr:=hide (show q=qt m a n k from HQQ.out);clear hsr HT1 HOFF HCR HIR;go_upto_region 18 with fail
       have D0:=Vc.below_drew' wx;have tw0:=T1.keep D0;have cz0:=CRow.keep cr2 D0;have iz0:=ir.below D0;refine Ru.wp_region_U [] (fun w'=>CRow w' g2 190 [.bool sr, .slice rp rl rc]) (by kernel_rfl) cz0 (fun hHeld=> ?_);refine Ru.tk1 0 u7 hHeld ?_;refine Ru.tk1 1 (.int .i64 q) hHeld ?_;refine Ru.tk1 4 u8 hHeld ?_;refine Ru.tk 5 (.agg [.bool sr, .slice rp rl rc].toArray) rfl (Ru.yieldsC isNum (by kernel_rfl) _ rl1 g2 _ rl1 (fun w h=>h) rfl) hHeld ?_;refine Ru.rs [2,6] ?_;refine Ru.co (fun K hK=> ?_) ?_
       ·go_simp;have e_1:wx.drew.heap.size=wx.heap.size:=rfl;have k_1:=below_al (Below.refl _ wx.drew) (.cells [.int .i64 q].toArray 2);have of_1:Off u7 u8 (wx.heap.size):=by have h:=tw0.off (b:=wx.drew.heap.size) (Nat.le_refl _);rw [e_1] at h;exact h
        have b_1:CRow (wx.drew.alloc (.cells [.int .i64 q].toArray 2)) (wx.heap.size) 2 [.int .i64 q]:=by have h:=crow_new wx.drew 2 [.int .i64 q];rw [e_1] at h;exact h
        have tw_1:=tw0.keep k_1;have cz_1:=CRow.keep cz0 k_1;have iz_1:=iz0.below k_1;refine Ru.hd hK cz_1 (fun hHeld=> ?_);clear hK K;refine Ru.rs [3,6] ?_;refine Ru.co (fun K hK=> ?_) ?_
        ·refine Nu.step_x rl1 (.tmp 65) (.tmp 67) rl1 tw_1 rl1 om1 (b:=wx.heap.size) (y:=q) rl1 b_1 HQr.out ?_;intro v1 w1 tw_2 kb_2 of_2 nn_2;have lz_2:=CRow.lt cz_1;have cz_2:=crowBut cz_1 kb_2 off.x;have iz_2:=nn_2 _ _ iz_1;have oo_2:=of_2 _ lz_2 off;refine Ru.hd hK cz_2 (fun hHeld=> ?_);clear hK K;refine Ru.rd 6 (fun K hK=> ?_);go_simp;have e_3:w1.heap.size=w1.heap.size:=by simp
         have k_3:=below_al (Below.refl _ w1) (.cells [.bool sr, .slice rp rl rc].toArray 190);have of_3:Off v1 u8 (w1.heap.size):=by have h:=tw_2.off (b:=w1.heap.size) (Nat.le_refl _);rw [e_3] at h;exact h
         have b_3:CRow (w1.alloc (.cells [.bool sr, .slice rp rl rc].toArray 190)) (w1.heap.size) 190 [.bool sr, .slice rp rl rc]:=by have h:=crow_new w1 190 [.bool sr, .slice rp rl rc];rw [e_3] at h;exact h
         have tw_3:=tw_2.keep k_3;have cz_3:=CRow.keep cz_2 k_3;have iz_3:=iz_2.below k_3;refine Ru.hd hK cz_3 (fun hHeld=> ?_);clear hK K;refine Ru.rd 7 (fun K hK=> ?_);refine Nu.step_y rl1 (.tmp 69) (.tmp 71) rl1 tw_3 rl1 om1 (b:=w1.heap.size) (p:=rp) (l:=rl) (c:=rc) rl1 (by rw [HRr.out,← HSR.out];exact b_3) (by rw [HRr.out,← HSR.out];exact iz_3) ?_;intro v2 w2 tw_4 kb_4 of_4 nn_4;have cz_4:=crowBut cz_3 kb_4 oo_2.y;refine Ru.hd hK cz_4 (fun hHeld=> ?_);clear hK K;refine Ru.tk1 8 v1 hHeld ?_;refine Ru.tk1 9 v2 hHeld ?_;refine Ru.wpAnyU_done (by kernel_rfl) ?_;have TF:=tw_4;go_wp2;go_roundw
         case rel=>exact⟨k+1,om1,by go_num,by rw [HUU.out];congr 1;omega,TF⟩
         case measure=>simp [intOf];omega
        refine Ru.co1 (fun K hK=> ?_);go_simp;have e_5:(wx.drew.alloc (.cells [.int .i64 q].toArray 2)).heap.size=wx.heap.size+1:=by simp
        have k_5:=below_al (Below.refl _ (wx.drew.alloc (.cells [.int .i64 q].toArray 2))) (.cells [.bool sr, .slice rp rl rc].toArray 190);have of_5:Off u7 u8 (wx.heap.size+1):=by have h:=tw_1.off (b:=(wx.drew.alloc (.cells [.int .i64 q].toArray 2)).heap.size) (Nat.le_refl _);rw [e_5] at h;exact h
        have b_5:CRow ((wx.drew.alloc (.cells [.int .i64 q].toArray 2)).alloc (.cells [.bool sr, .slice rp rl rc].toArray 190)) (wx.heap.size+1) 190 [.bool sr, .slice rp rl rc]:=by have h:=crow_new (wx.drew.alloc (.cells [.int .i64 q].toArray 2)) 190 [.bool sr, .slice rp rl rc];rw [e_5] at h;exact h
        have b2_5:=CRow.keep b_1 k_5;have tw_5:=tw_1.keep k_5;have cz_5:=CRow.keep cz_1 k_5;have iz_5:=iz_1.below k_5;refine Ru.hd hK cz_5 (fun hHeld=> ?_);clear hK K;refine Ru.rd 3 (fun K hK=> ?_);refine Nu.step_x rl1 (.tmp 65) (.tmp 67) rl1 tw_5 rl1 om1 (b:=wx.heap.size) (y:=q) rl1 b2_5 HQr.out ?_;intro v1 w1 tw_6 kb_6 of_6 nn_6;have lz_6:=CRow.lt cz_5;have cz_6:=crowBut cz_5 kb_6 off.x;have iz_6:=nn_6 _ _ iz_5;have oo_6:=of_6 _ lz_6 off;have b6_6:=crowBut b_5 kb_6 of_5.x;refine Ru.hd hK cz_6 (fun hHeld=> ?_);clear hK K;refine Ru.rd 7 (fun K hK=> ?_);refine Nu.step_y rl1 (.tmp 69) (.tmp 71) rl1 tw_6 rl1 om1 (b:=wx.heap.size+1) (p:=rp) (l:=rl) (c:=rc) rl1 (by rw [HRr.out,← HSR.out];exact b6_6) (by rw [HRr.out,← HSR.out];exact iz_6) ?_;intro v2 w2 tw_7 kb_7 of_7 nn_7;have cz_7:=crowBut cz_6 kb_7 oo_6.y;refine Ru.hd hK cz_7 (fun hHeld=> ?_);clear hK K;refine Ru.tk1 8 v1 hHeld ?_;refine Ru.tk1 9 v2 hHeld ?_;refine Ru.wpAnyU_done (by kernel_rfl) ?_;have TF:=tw_7;go_wp2;go_roundw
        case rel=>exact⟨k+1,om1,by go_num,by rw [HUU.out];congr 1;omega,TF⟩
        case measure=>simp [intOf];omega
       refine Ru.co1 (fun K hK=> ?_);go_simp;have e_8:wx.drew.heap.size=wx.heap.size:=rfl;have k_8:=below_al (Below.refl _ wx.drew) (.cells [.bool sr, .slice rp rl rc].toArray 190);have of_8:Off u7 u8 (wx.heap.size):=by have h:=tw0.off (b:=wx.drew.heap.size) (Nat.le_refl _);rw [e_8] at h;exact h
       have b_8:CRow (wx.drew.alloc (.cells [.bool sr, .slice rp rl rc].toArray 190)) (wx.heap.size) 190 [.bool sr, .slice rp rl rc]:=by have h:=crow_new wx.drew 190 [.bool sr, .slice rp rl rc];rw [e_8] at h;exact h
       have tw_8:=tw0.keep k_8;have cz_8:=CRow.keep cz0 k_8;have iz_8:=iz0.below k_8;refine Ru.hd hK cz_8 (fun hHeld=> ?_);clear hK K;refine Ru.rd 2 (fun K hK=> ?_);go_simp;have e_9:(wx.drew.alloc (.cells [.bool sr, .slice rp rl rc].toArray 190)).heap.size=wx.heap.size+1:=by simp
       have k_9:=below_al (Below.refl _ (wx.drew.alloc (.cells [.bool sr, .slice rp rl rc].toArray 190))) (.cells [.int .i64 q].toArray 2);have of_9:Off u7 u8 (wx.heap.size+1):=by have h:=tw_8.off (b:=(wx.drew.alloc (.cells [.bool sr, .slice rp rl rc].toArray 190)).heap.size) (Nat.le_refl _);rw [e_9] at h;exact h
       have b_9:CRow ((wx.drew.alloc (.cells [.bool sr, .slice rp rl rc].toArray 190)).alloc (.cells [.int .i64 q].toArray 2)) (wx.heap.size+1) 2 [.int .i64 q]:=by have h:=crow_new (wx.drew.alloc (.cells [.bool sr, .slice rp rl rc].toArray 190)) 2 [.int .i64 q];rw [e_9] at h;exact h
       have b6_9:=CRow.keep b_8 k_9;have tw_9:=tw_8.keep k_9;have cz_9:=CRow.keep cz_8 k_9;have iz_9:=iz_8.below k_9;refine Ru.hd hK cz_9 (fun hHeld=> ?_);clear hK K;refine Ru.rd 3 (fun K hK=> ?_);refine Nu.step_x rl1 (.tmp 65) (.tmp 67) rl1 tw_9 rl1 om1 (b:=wx.heap.size+1) (y:=q) rl1 b_9 HQr.out ?_;intro v1 w1 tw_10 kb_10 of_10 nn_10;have lz_10:=CRow.lt cz_9;have cz_10:=crowBut cz_9 kb_10 off.x;have iz_10:=nn_10 _ _ iz_9;have oo_10:=of_10 _ lz_10 off;have b6_10:=crowBut b6_9 kb_10 of_8.x;refine Ru.hd hK cz_10 (fun hHeld=> ?_);clear hK K;refine Ru.rd 7 (fun K hK=> ?_);refine Nu.step_y rl1 (.tmp 69) (.tmp 71) rl1 tw_10 rl1 om1 (b:=wx.heap.size) (p:=rp) (l:=rl) (c:=rc) rl1 (by rw [HRr.out,← HSR.out];exact b6_10) (by rw [HRr.out,← HSR.out];exact iz_10) ?_;intro v2 w2 tw_11 kb_11 of_11 nn_11;have cz_11:=crowBut cz_10 kb_11 oo_10.y;refine Ru.hd hK cz_11 (fun hHeld=> ?_);clear hK K;refine Ru.tk1 8 v1 hHeld ?_;refine Ru.tk1 9 v2 hHeld ?_;refine Ru.wpAnyU_done (by kernel_rfl) ?_;have TF:=tw_11;go_wp2;go_roundw
       case rel=>exact⟨k+1,om1,by go_num,by rw [HUU.out];congr 1;omega,TF⟩
       case measure=>simp [intOf];omega
    ·obtain rfl:n=k:=om1;have hlf:=lf_in (m:=m) HS0.out;have HRI:Hid (∀ i,i<n->0<=rt m a n i/\rt m a n i<=18446744073709551616):=fun i hi=>by have h1:=rt_in (m:=m) HS0.out i;have h2:=(HT.out n (Nat.le_refl _)).2;omega
     have HQI:Hid (∀ i,i<n->0<=qt m a n i/\qt m a n i<=1073741824):=fun i hi=>by
      have h0:=fun j hj=>qt_nn (m:=m) (a:=a) (n:=n) hm0 (fun i hi=>(HA.out i hi).1) HS0.out (i:=j) hj;have h1:=h0 i hi;have h2:=tot_le_each (a:=qt m a n) (n:=n) h0 hi;have h3:=hlf.1;unfold lf at h3;omega
     have HSH:Hid (sh m a n=(give n (qt m a n) (rt m a n) (lf m a n).toNat).1):=rfl;have eL:m- tot (qt m a n) n=lf m a n:=rfl;rw [eL];obtain⟨F,hF⟩: ∃ F,F=lf m a n:=⟨_,rfl⟩;rw [← hF] at hlf HSH ⊢;obtain⟨q,hq⟩: ∃ q,q=qt m a n:=⟨_,rfl⟩;obtain⟨r,hr⟩: ∃ q,q=rt m a n:=⟨_,rfl⟩;rw [← hq] at TT HQI HSH;rw [← hr] at TT HRI HSH;clear eL hF hq hr HQ h;obtain⟨gx,cx,rfl,_,_⟩:=TT.x.row.form hnp;obtain⟨gy,cy,rfl,_,_⟩:=TT.y.at hnp;have HTT:=hide TT;clear TT;go_wp2;go_loopw [9] (fun lv wq=> ∃ t:Nat,(t:Int)<=F/\lv= .int .i64 (F- (t:Int))/\Nu.Two wr.heap.size wr wq (.slice (some ⟨gx,0,none⟩) n cx) n (give n q r t).1 (.slice (some ⟨gy,0,none⟩) n cy) n (give n q r t).2) (fun lv _=>(intOf lv).toNat)
     case atStart=>exact⟨0,om1,by show Value.int .i64 F= .int .i64 (F- 0);rw [Int.sub_zero],HTT.out⟩
     case round=>
      rename World=>wq;obtain⟨t,ht,rfl,T2⟩:=hrel;by_cases h:(t:Int)<F
      ·have hFt:0<F- (t:Int):=om1;obtain⟨gy_,cy_,ey_,hat,_⟩:=T2.y.at hnp;cases ey_
       have lcy:=hat.le;have lcy2:=hat.cap;have hbs:=bst_some (o:=q) (fun i hi=>(HRI.out i hi).1) (t:=t) om1;have HIN:Hid (∀ i,i<n->_):=fun i hi=>give_in HRI.out HQI.out om1 (t:=t) om1 hi;have HNX:Hid (∀ b:Nat,_->_):=fun b hb=>give_next (n:=n) (o:=q) (c:=r) (t:=t) (b:=b) hb;obtain⟨O,hO⟩: ∃ O,O=(give n q r t).1:=⟨_,rfl⟩;obtain⟨C,hC⟩: ∃ O,O=(give n q r t).2:=⟨_,rfl⟩;rw [← hO] at T2 HIN HNX;rw [← hC] at T2 HIN HNX hat hbs;clear hO hC;have HT2:=hide T2;have HAT:=hide hat;clear T2 hat;go_wp2;go_loopw [15,16] (fun b i w3=> ∃ k:Nat,k<=n/\i= .int .i64 (k:Int)/\b= .int .i64 (bst C k)/\Below wq.heap.size wq w3) (fun _ i _=>n- (intOf i).toNat)
       case atStart=>exact⟨0,om1,rfl,rfl,Below.refl _ _⟩
       case round=>
        rename World=>w3;obtain⟨k,hk,rfl,rfl,B3⟩:=hrel;by_cases hkn:k<n
        ·obtain⟨p,l,c,c0,c1,ei⟩:=(HAT.out.keep B3).num k hkn;have kn:(k:Int)<n:=om1;have bC:=HIN.out k hkn;have hbl:=bst_lo C k;obtain⟨s1,hs1⟩: ∃ q,q=decide (C k<0):=⟨_,rfl⟩;rw [← hs1] at c0 ei;have HSg:=hide (fun W (h1:IsNum W (.agg #[.bool s1, .slice p l c]) (C k))=>sign_any _ (C k) W (Nat.le_trans (len100 om1) om1) h1);by_cases hc0:0<=C k
         ·obtain⟨sg,hsg⟩: ∃ q,q=(C k).sign:=⟨_,rfl⟩;have hsg0:0<=sg:=by rcases sign_cases (C k) with h|h|h<;>omega
          rw [← hsg] at HSg;by_cases hb0:bst C k<0
          ·have HB:=hide (bst_yes hc0 (Or.inl hb0));have HS:Hid (∀ V,Below w3.heap.size w3 V->(V.cell? ⟨gy,k*2,none⟩=some (.bool s1)/\V.cell? ⟨gy,k*2+1,none⟩=some (.slice p l c))):=fun V b=>⟨keep_cell b c0,keep_cell b c1⟩;obtain⟨B,hB⟩: ∃ q,q=bst C k:=⟨_,rfl⟩;rw [← hB] at hb0 hbl ⊢;clear c0 c1 hs1 hsg hB hc0 bC;go_upto_region 25 with fail
           have D0:=Vc.below_drew' w3;refine Ru.wp_region_U [] (fun w'=>w'.cell? ⟨gy,k*2,none⟩=some (.bool s1)/\w'.cell? ⟨gy,k*2+1,none⟩=some (.slice p l c)) (by kernel_rfl) (HS.out _ D0) (fun hHeld=> ?_);refine Ru.tk2 0 (.slice (some ⟨gy,0,none⟩) n cy) hHeld ?_;refine Ru.tk2 1 (.int .i64 (k:Int)) hHeld ?_;refine Ru.tk2 2 (.pointer (some ⟨gy,k*2,none⟩)) hHeld ?_;refine Ru.tk 3 (.agg #[.bool s1, .slice p l c]) rfl (Nu.yieldsN (by kernel_rfl) _ rl1 gy (k*2) _ _ rl1 (fun w h=>⟨h.1,h.2⟩)) hHeld ?_;refine Ru.rd 4 (fun K hK=> ?_);go_simp;refine(HSg.out _ (ei.below D0)).mono ?_;rintro e w5 ⟨rfl,k5⟩;have D5:=below_tr D0 k5;go_wp2_with fail
           refine Ru.hd hK (HS.out _ D5) (fun hHeld=> ?_);clear hK K;refine Ru.tk2 5 (.bool true) hHeld ?_;refine Ru.tk2 6 (.bool true) hHeld ?_;refine Ru.tk2 7 (.int .i64 B) hHeld ?_;refine Ru.tk2 8 (.bool true) hHeld ?_;refine Ru.tk2 9 (.bool true) hHeld ?_;refine Ru.tk 10 undef rfl (Or.inr ⟨by kernel_rfl,rfl⟩) hHeld ?_;refine Ru.tk 11 undef rfl (Or.inr ⟨by kernel_rfl,rfl⟩) hHeld ?_;refine Ru.tk 12 undef rfl (Or.inr ⟨by kernel_rfl,rfl⟩) hHeld ?_;refine Ru.tk 13 undef rfl (Or.inr ⟨by kernel_rfl,rfl⟩) hHeld ?_;refine Ru.tk 14 undef rfl (Or.inr ⟨by kernel_rfl,rfl⟩) hHeld ?_;refine Ru.tk 15 undef rfl (Or.inr ⟨by kernel_rfl,rfl⟩) hHeld ?_;refine Ru.tk 16 undef rfl (Or.inr ⟨by kernel_rfl,rfl⟩) hHeld ?_;refine Ru.tk 17 undef rfl (Or.inr ⟨by kernel_rfl,rfl⟩) hHeld ?_;refine Ru.tk 18 undef rfl (Or.inr ⟨by kernel_rfl,rfl⟩) hHeld ?_;refine Ru.tk 19 undef rfl (Or.inr ⟨by kernel_rfl,rfl⟩) hHeld ?_;refine Ru.tk2 20 (.bool true) hHeld ?_;refine Ru.tk2 21 (.bool true) hHeld ?_;refine Ru.wpAnyU_done (by kernel_rfl) ?_;have DD:=below_tr B3 D5;clear B3;go_wp2;go_roundw
           case rel=>exact⟨k+1,om1,by go_num,by rw [HB.out],DD⟩
           case measure=>simp [intOf];omega
          ·have hlt:=bst_lt (C:=C) (k:=k) om1;obtain⟨B,hB⟩: ∃ q,q=bst C k:=⟨_,rfl⟩;obtain⟨bb,hbb⟩: ∃ b:Nat,B=(b:Int):=⟨B.toNat,om1⟩;have hB2:(bst C k).toNat=bb:=om1;rw [hB2] at hlt;obtain⟨p2,l2,c2,d0,d1,ei2⟩:=(HAT.out.keep B3).num bb om1;have bC2:=HIN.out bb om1;obtain⟨s2,hs2⟩: ∃ q,q=decide (C bb<0):=⟨_,rfl⟩;rw [← hs2] at d0 ei2;have HCm:=hide (fun W (h1:IsNum W (.agg #[.bool s1, .slice p l c]) (C k)) (h2:IsNum W (.agg #[.bool s2, .slice p2 l2 c2]) (C bb))=>cmp_any _ _ (C k) (C bb) W (len100 om1) (len100 om1) h1 h2);have HS:Hid (∀ V,Below w3.heap.size w3 V->(V.cell? ⟨gy,k*2,none⟩=some (.bool s1)/\V.cell? ⟨gy,k*2+1,none⟩=some (.slice p l c)/\V.cell? ⟨gy,bb*2,none⟩=some (.bool s2)/\V.cell? ⟨gy,bb*2+1,none⟩=some (.slice p2 l2 c2))):=fun V b=>⟨keep_cell b c0,keep_cell b c1,keep_cell b d0,keep_cell b d1⟩;obtain⟨cm,hcm⟩: ∃ q,q=(C k- C bb).sign:=⟨_,rfl⟩;rw [← hcm] at HCm;by_cases hg:C bb<C k
           ·have HB:Hid (bst C (k+1)=(k:Int)):=bst_yes hc0 (Or.inr (by rw [hB2];exact hg));have hcm1:cm=1:=by rcases sign_cases (C k- C bb) with h|h|h<;>omega
            rw [← hB] at hb0 hbl ⊢;have kbb:B<n:=om1;clear c0 c1 d0 d1 hs1 hs2 hsg hc0 bC bC2 hcm hg hB2 hB hlt;subst hcm1;subst hbb;go_upto_region 25 with fail
            have D0:=Vc.below_drew' w3;refine Ru.wp_region_U [] (fun w'=>w'.cell? ⟨gy,k*2,none⟩=some (.bool s1)/\w'.cell? ⟨gy,k*2+1,none⟩=some (.slice p l c)/\w'.cell? ⟨gy,bb*2,none⟩=some (.bool s2)/\w'.cell? ⟨gy,bb*2+1,none⟩=some (.slice p2 l2 c2)) (by kernel_rfl) (HS.out _ D0) (fun hHeld=> ?_);refine Ru.tk4 0 (.slice (some ⟨gy,0,none⟩) n cy) hHeld ?_;refine Ru.tk4 1 (.int .i64 (k:Int)) hHeld ?_;refine Ru.tk4 2 (.pointer (some ⟨gy,k*2,none⟩)) hHeld ?_;refine Ru.tk 3 (.agg #[.bool s1, .slice p l c]) rfl (Nu.yieldsN (by kernel_rfl) _ rl1 gy (k*2) _ _ rl1 (fun w h=>⟨h.1,h.2.1⟩)) hHeld ?_;refine Ru.rd 4 (fun K hK=> ?_);go_simp;refine(HSg.out _ (ei.below D0)).mono ?_;rintro e w5 ⟨rfl,k5⟩;have D5:=below_tr D0 k5;go_wp2_with fail
            refine Ru.hd hK (HS.out _ D5) (fun hHeld=> ?_);clear hK K;refine Ru.tk4 5 (.bool true) hHeld ?_;refine Ru.tk4 6 (.bool true) hHeld ?_;refine Ru.tk4 7 (.int .i64 (bb:Int)) hHeld ?_;refine Ru.tk4 8 (.bool false) hHeld ?_;refine Ru.tk4 9 (.bool false) hHeld ?_;refine Ru.tk4 10 (.slice (some ⟨gy,0,none⟩) n cy) hHeld ?_;refine Ru.tk4 11 (.int .i64 (k:Int)) hHeld ?_;refine Ru.tk4 12 (.pointer (some ⟨gy,k*2,none⟩)) hHeld ?_;refine Ru.tk 13 (.agg #[.bool s1, .slice p l c]) rfl (Nu.yieldsN (by kernel_rfl) _ rl1 gy (k*2) _ _ rl1 (fun w h=>⟨h.1,h.2.1⟩)) hHeld ?_;refine Ru.tk4 14 (.slice (some ⟨gy,0,none⟩) n cy) hHeld ?_;refine Ru.tk4 15 (.int .i64 (bb:Int)) hHeld ?_;refine Ru.tk4 16 (.pointer (some ⟨gy,bb*2,none⟩)) hHeld ?_;refine Ru.tk 17 (.agg #[.bool s2, .slice p2 l2 c2]) rfl (Nu.yieldsN (by kernel_rfl) _ rl1 gy (bb*2) _ _ rl1 (fun w h=>⟨h.2.2.1,h.2.2.2⟩)) hHeld ?_;refine Ru.rd 18 (fun K hK=> ?_);go_simp;refine(HCm.out _ (ei.below D5) (ei2.below D5)).mono ?_;rintro e w6 ⟨rfl,k6⟩;have D6:=below_tr D5 k6;go_wp2_with fail
            refine Ru.hd hK (HS.out _ D6) (fun hHeld=> ?_);clear hK K;refine Ru.tk4 19 (.bool true) hHeld ?_;refine Ru.tk4 20 (.bool true) hHeld ?_;refine Ru.tk4 21 (.bool true) hHeld ?_;refine Ru.wpAnyU_done (by kernel_rfl) ?_;have DD:=below_tr B3 D6;clear B3;go_wp2;go_roundw
            case rel=>exact⟨k+1,om1,by go_num,by rw [HB.out],DD⟩
            case measure=>simp [intOf];omega
           ·have HB:Hid (bst C (k+1)=B):=by rw [hB];exact bst_no (fun q=>by rw [hB2] at q;omega)
            have hcm1:cm<=0:=by rcases sign_cases (C k- C bb) with h|h|h<;>omega
            rw [← hB] at hb0 hbl ⊢;have kbb:B<n:=om1;clear c0 c1 d0 d1 hs1 hs2 hsg hc0 bC bC2 hcm hg hB2 hB hlt;subst hbb;go_upto_region 25 with fail
            have D0:=Vc.below_drew' w3;refine Ru.wp_region_U [] (fun w'=>w'.cell? ⟨gy,k*2,none⟩=some (.bool s1)/\w'.cell? ⟨gy,k*2+1,none⟩=some (.slice p l c)/\w'.cell? ⟨gy,bb*2,none⟩=some (.bool s2)/\w'.cell? ⟨gy,bb*2+1,none⟩=some (.slice p2 l2 c2)) (by kernel_rfl) (HS.out _ D0) (fun hHeld=> ?_);refine Ru.tk4 0 (.slice (some ⟨gy,0,none⟩) n cy) hHeld ?_;refine Ru.tk4 1 (.int .i64 (k:Int)) hHeld ?_;refine Ru.tk4 2 (.pointer (some ⟨gy,k*2,none⟩)) hHeld ?_;refine Ru.tk 3 (.agg #[.bool s1, .slice p l c]) rfl (Nu.yieldsN (by kernel_rfl) _ rl1 gy (k*2) _ _ rl1 (fun w h=>⟨h.1,h.2.1⟩)) hHeld ?_;refine Ru.rd 4 (fun K hK=> ?_);go_simp;refine(HSg.out _ (ei.below D0)).mono ?_;rintro e w5 ⟨rfl,k5⟩;have D5:=below_tr D0 k5;go_wp2_with fail
            refine Ru.hd hK (HS.out _ D5) (fun hHeld=> ?_);clear hK K;refine Ru.tk4 5 (.bool true) hHeld ?_;refine Ru.tk4 6 (.bool true) hHeld ?_;refine Ru.tk4 7 (.int .i64 (bb:Int)) hHeld ?_;refine Ru.tk4 8 (.bool false) hHeld ?_;refine Ru.tk4 9 (.bool false) hHeld ?_;refine Ru.tk4 10 (.slice (some ⟨gy,0,none⟩) n cy) hHeld ?_;refine Ru.tk4 11 (.int .i64 (k:Int)) hHeld ?_;refine Ru.tk4 12 (.pointer (some ⟨gy,k*2,none⟩)) hHeld ?_;refine Ru.tk 13 (.agg #[.bool s1, .slice p l c]) rfl (Nu.yieldsN (by kernel_rfl) _ rl1 gy (k*2) _ _ rl1 (fun w h=>⟨h.1,h.2.1⟩)) hHeld ?_;refine Ru.tk4 14 (.slice (some ⟨gy,0,none⟩) n cy) hHeld ?_;refine Ru.tk4 15 (.int .i64 (bb:Int)) hHeld ?_;refine Ru.tk4 16 (.pointer (some ⟨gy,bb*2,none⟩)) hHeld ?_;refine Ru.tk 17 (.agg #[.bool s2, .slice p2 l2 c2]) rfl (Nu.yieldsN (by kernel_rfl) _ rl1 gy (bb*2) _ _ rl1 (fun w h=>⟨h.2.2.1,h.2.2.2⟩)) hHeld ?_;refine Ru.rd 18 (fun K hK=> ?_);go_simp;refine(HCm.out _ (ei.below D5) (ei2.below D5)).mono ?_;rintro e w6 ⟨rfl,k6⟩;have D6:=below_tr D5 k6;go_wp2_with fail
            refine Ru.hd hK (HS.out _ D6) (fun hHeld=> ?_);clear hK K;refine Ru.tk4 19 (.bool false) hHeld ?_;refine Ru.tk4 20 (.bool false) hHeld ?_;refine Ru.tk4 21 (.bool false) hHeld ?_;refine Ru.wpAnyU_done (by kernel_rfl) ?_;have DD:=below_tr B3 D6;clear B3;go_wp2;go_roundw
            case rel=>exact⟨k+1,om1,by go_num,by rw [HB.out],DD⟩
            case measure=>simp [intOf];omega
         ·have HB:=hide (bst_no (C:=C) (k:=k) (fun q=>hc0 q.1));have hsg:(C k).sign= -1:=by rcases sign_cases (C k) with h|h|h<;>omega
          rw [hsg] at HSg;have HS:Hid (∀ V,Below w3.heap.size w3 V->(V.cell? ⟨gy,k*2,none⟩=some (.bool s1)/\V.cell? ⟨gy,k*2+1,none⟩=some (.slice p l c))):=fun V b=>⟨keep_cell b c0,keep_cell b c1⟩;obtain⟨B,hB⟩: ∃ q,q=bst C k:=⟨_,rfl⟩;rw [← hB] at hbl HB ⊢;clear c0 c1 hs1 hsg hB hc0 bC;go_upto_region 25 with fail
          have D0:=Vc.below_drew' w3;refine Ru.wp_region_U [] (fun w'=>w'.cell? ⟨gy,k*2,none⟩=some (.bool s1)/\w'.cell? ⟨gy,k*2+1,none⟩=some (.slice p l c)) (by kernel_rfl) (HS.out _ D0) (fun hHeld=> ?_);refine Ru.tk2 0 (.slice (some ⟨gy,0,none⟩) n cy) hHeld ?_;refine Ru.tk2 1 (.int .i64 (k:Int)) hHeld ?_;refine Ru.tk2 2 (.pointer (some ⟨gy,k*2,none⟩)) hHeld ?_;refine Ru.tk 3 (.agg #[.bool s1, .slice p l c]) rfl (Nu.yieldsN (by kernel_rfl) _ rl1 gy (k*2) _ _ rl1 (fun w h=>⟨h.1,h.2⟩)) hHeld ?_;refine Ru.rd 4 (fun K hK=> ?_);go_simp;refine(HSg.out _ (ei.below D0)).mono ?_;rintro e w5 ⟨rfl,k5⟩;have D5:=below_tr D0 k5;go_wp2_with fail
          refine Ru.hd hK (HS.out _ D5) (fun hHeld=> ?_);clear hK K;refine Ru.tk2 5 (.bool false) hHeld ?_;refine Ru.tk2 6 (.bool false) hHeld ?_;refine Ru.tk 7 undef rfl (Or.inr ⟨by kernel_rfl,rfl⟩) hHeld ?_;refine Ru.tk 8 undef rfl (Or.inr ⟨by kernel_rfl,rfl⟩) hHeld ?_;refine Ru.tk 9 undef rfl (Or.inr ⟨by kernel_rfl,rfl⟩) hHeld ?_;refine Ru.tk 10 undef rfl (Or.inr ⟨by kernel_rfl,rfl⟩) hHeld ?_;refine Ru.tk 11 undef rfl (Or.inr ⟨by kernel_rfl,rfl⟩) hHeld ?_;refine Ru.tk 12 undef rfl (Or.inr ⟨by kernel_rfl,rfl⟩) hHeld ?_;refine Ru.tk 13 undef rfl (Or.inr ⟨by kernel_rfl,rfl⟩) hHeld ?_;refine Ru.tk 14 undef rfl (Or.inr ⟨by kernel_rfl,rfl⟩) hHeld ?_;refine Ru.tk 15 undef rfl (Or.inr ⟨by kernel_rfl,rfl⟩) hHeld ?_;refine Ru.tk 16 undef rfl (Or.inr ⟨by kernel_rfl,rfl⟩) hHeld ?_;refine Ru.tk 17 undef rfl (Or.inr ⟨by kernel_rfl,rfl⟩) hHeld ?_;refine Ru.tk 18 undef rfl (Or.inr ⟨by kernel_rfl,rfl⟩) hHeld ?_;refine Ru.tk 19 undef rfl (Or.inr ⟨by kernel_rfl,rfl⟩) hHeld ?_;refine Ru.tk 20 undef rfl (Or.inr ⟨by kernel_rfl,rfl⟩) hHeld ?_;refine Ru.tk2 21 (.bool false) hHeld ?_;refine Ru.wpAnyU_done (by kernel_rfl) ?_;have DD:=below_tr B3 D5;clear B3;go_wp2;go_roundw
          case rel=>exact⟨k+1,om1,by go_num,by rw [HB.out],DD⟩
          case measure=>simp [intOf];omega
        ·obtain rfl:n=k:=om1;obtain⟨bb,hbb⟩: ∃ b:Nat,bst C n=(b:Int):=⟨(bst C n).toNat,om1⟩;have hbn:bb<n:=om1;have e12:=HNX.out bb hbb;have bO:=HIN.out bb hbn;have T3:=HT2.out.keep B3;have hcx:=T3.x.cell (j:=bb) hbn;have hfx:=T3.x.free bb;rw [hbb];obtain⟨ob,hob⟩: ∃ q,q=O bb:=⟨_,rfl⟩;rw [← hob] at hcx bO e12;have T4:=T3.setx bb (ob+1);have HOm:=hide (fun W=>of_any (-1) W om1 om1);have HT4:=hide T4;have HE12:=hide e12;have lx:=T3.x.row.1;have hcxl:=T3.x.sl;obtain⟨_,_,exx,slx⟩:=hcxl;cases exx
         have slx1:=slx.le;have slx2:=slx.cap;have kbn:(bb:Int)<n:=om1;clear T3 T4 e12 hbb hob hbs B3 slx lx;go_wp2_with fail
         refine(HOm.out _).mono ?_;rintro e w4 ⟨v,rfl,iv,k4⟩;have T5:=HT4.out.keep k4;obtain⟨q1,q2,q3,rfl⟩:=iv.form;have th:=T5.y.there hbn;have T6:=T5.sety hbn iv;have HT6:=hide (T6.congr HE12.out.1 HE12.out.2);clear T5 T6;go_wp2_with (refine Nu.wpList_storeN rfl _ _ rl1 gy (bb*2) _ _ _ _ rl1 rl1 th ?_)
         go_roundw
         case rel=>exact⟨t+1,om1,by go_num,HT6.out⟩
         case measure=>simp [intOf];omega
      ·have eF:F- (t:Int)=0:=om1;have et:F.toNat=t:=om1;rw [et] at HSH;rw [eF];have ow:Own w.heap.size w wq _ n (sh m a n):=⟨by rw [HSH.out];exact row_mono T2.x.row HBr.out.size,HBr.out.trans (T2.x.below.mono HBr.out.size),Nat.le_trans HBr.out.size T2.x.base⟩;go_wp2;go_ret;exact⟨_,rfl,ow⟩
end
section
open Go.RowKit Dec Nv Vc St Ld Nu Cn
attribute [local go_sem ↓] Go.wp_at_zero Go.wp_at_succ
theorem deven14(n:Nat)(w:World)(h1:1<=n)(h4:n<=4):
 Calls Tryz.prog 69 #[.int .i64 (n:Int)] w fun e w'=> ∃ v,e= .returned v/\Own w.heap.size w w' v n (sh 1073741824 (fun _=>1) n):=by
 have HOf:=hide (fun W=>of_any 1 W om1 om1);go_enter Tryz.func69,Tryz.ntmps69
 go_wp2;go_loopw [3,4] (fun v i wr=> ∃ k:Nat,k<=n/\i= .int .i64 (k:Int)/\Nls w.heap.size w wr v k (fun _=>1)) (fun _ i _=>n- (intOf i).toNat)
 case atStart=>exact⟨0,om1,rfl,Nls.nil (Below.refl _ _) (Nat.le_refl _) _⟩
 case round=>
  rename World=>wr;obtain⟨k,hk,rfl,hN⟩:=hrel;by_cases h:k<n
  · have HN:=hide hN;clear hN;have kn:(k:Int)<n:=om1;go_wp2_with fail
    refine(HOf.out _).mono ?_;rintro e w1 ⟨v,rfl,iv,k1⟩;obtain⟨q1,q2,q3,rfl⟩:=iv.form;have nr:=HN.out.keep k1
    go_wp2_with (first
     |(refine Nu.wpList_pushN rfl _ _ rl1 w.heap.size w _ k (fun _=>1) rl1 nr om1 _ q1 q2 q3 rl1 iv rl1 ?_;intro v' w2 n2)
     |fail)
    go_roundw
    case rel=>exact⟨k+1,om1,by go_num,n2⟩
    case measure=>simp [intOf];omega
  · obtain rfl:n=k:=om1;obtain⟨g,cap,rfl,hat,_⟩:=hN.at om1;have HSh:=hide (dshares_any 1073741824 g n cap (fun _=>1) wr hat h4 om1 om1 (fun k _=>by omega) (by rw [tot_const];omega));have HB:=hide hN.below;have HL:=hide (show w.heap.size<=wr.heap.size from hN.base);clear hN hat;go_wp2_with fail
    refine(HSh.out).mono ?_;rintro e w2 ⟨v,rfl,ow⟩;have ow2:Own w.heap.size w w2 v n (sh 1073741824 (fun _=>1) n):=⟨row_mono ow.row HL.out,HB.out.trans (ow.below.mono HL.out),Nat.le_trans HL.out ow.base⟩;clear ow;go_wp2;go_ret;exact⟨_,rfl,ow2⟩
theorem dcheck14_any(ao:Option Addr)(n ca:Nat)(z:Nat->Int)(fl:Int)(w:World)(hs:Sl w ao n ca z)(hz:B64 z)(b:Bool)(hb:b=true↔Ch n z fl)(f0: -9223372036854775808<=fl)(f1:fl<=9223372036854775807):
 Calls Tryz.prog 27 #[.slice ao n ca, .int .i64 fl] w fun e w'=>e= .returned (.bool b)/\Below w.heap.size w w':=by
 obtain⟨x,hao,hc⟩:=hs.get;have l1:=hs.le;have l2:=hs.cap;have HZ:=hide hz;have HB:=hide hb;have HC:=hide hc;have no: ¬Ch n z fl->b=false:=fun h=>by cases b<;>simp_all
 have NO:=hide no;clear hz hb hc no hs;by_cases hH:1<=n/\n<=4/\0<=fl/\fl<=67108864
 ·obtain⟨hn1,hn4,hf0,hf1⟩:=hH;obtain rfl:=hao om1;have e1: ¬(n:Int)<1:=om1;have e2: ¬(4:Int)<n:=om1;go_enter Tryz.func27,Tryz.ntmps27
  go_wp2;go_loopw [5,6] (fun lv i wr=> ∃ k:Nat,k<=n/\i= .int .i64 (k:Int)/\lv= .int .i64 (1073741824- tot z k)/\0<=1073741824- tot z k/\0<=tot z k/\(∀ j,j<k->fl<=z j)/\w=wr) (fun _ i _=>n- (intOf i).toNat)
  case atStart=>exact⟨0,om1,rfl,rfl,by show(0:Int)<=1073741824- 0;omega,Int.le_refl _,fun j hj=>by omega,rfl⟩
  case round=>
   obtain⟨k,hk,rfl,rfl,hl0,ht0,hfl,rfl⟩:=hrel;by_cases h:k<n
   ·have ck:=HC.out k h;have bk:=HZ.out k;have HU:Hid (tot z (k+1)=tot z k+z k):=rfl;have HF:=hide hfl;have kn:(k:Int)<n:=om1;obtain⟨zk,hzk⟩: ∃ q,q=z k:=⟨_,rfl⟩;obtain⟨tk,htk⟩: ∃ q,q=tot z k:=⟨_,rfl⟩;rw [← hzk] at ck bk HU;rw [← htk] at hl0 ht0 HU ⊢;have HZK:=hide hzk;clear hzk htk hfl;by_cases c1:zk<fl
    ·obtain rfl:b=false:=NO.out (fun q=>by have:=q.each k h;rw [← HZK.out] at this;omega);go_wp2;go_ret;exact⟨rfl,Below.refl _ _⟩
    ·by_cases c2:1073741824- tk<zk
     ·obtain rfl:b=false:=NO.out (fun q=>by have:=q.le (k:=k+1) h;rw [HU.out] at this;omega);go_wp2;go_ret;exact⟨rfl,Below.refl _ _⟩
     ·go_wp2;go_roundw
      case rel=>
       refine⟨k+1,om1,by go_num,by rw [HU.out];congr 1;omega,by rw [HU.out];omega,by rw [HU.out];omega,fun j hj=> ?_,by first|trivial|rfl⟩;by_cases e:j=k
       ·rw [e,← HZK.out];omega
       ·exact HF.out j om1
      case measure=>simp [intOf];omega
   ·obtain rfl:n=k:=om1;have HF:=hide hfl
    have hd:b=decide (1073741824- tot z n=0):=by
     by_cases e:tot z n=1073741824
     ·rw [HB.out.2 ⟨hn1,hn4,hf0,hf1,hfl,e⟩];exact(decide_eq_true om1).symm
     ·rw [NO.out (fun q=>e q.sum)];exact(decide_eq_false om1).symm
    have HD:=hide hd;obtain⟨tk,htk⟩: ∃ q,q=tot z n:=⟨_,rfl⟩;rw [← htk] at hl0 ht0 HD ⊢;clear htk hfl hd;by_cases e:1073741824- tk=0
    ·obtain rfl:b=true:=by rw [HD.out];exact decide_eq_true e
     rw [e];go_wp2;go_ret;exact⟨rfl,Below.refl _ _⟩
    ·obtain rfl:b=false:=by rw [HD.out];exact decide_eq_false e
     have e':(1073741824- tk==0)=false:=by simp [e]
     have e'': ¬tk=1073741824:=om1;have e3: ¬(1073741824:Int)=tk:=om1;go_wp2;go_ret;exact⟨rfl,Below.refl _ _⟩
 ·obtain rfl:b=false:=NO.out (fun q=>hH ⟨q.one,q.four,q.lo,q.hi⟩);clear hao HC HZ HB NO;rcases(by omega:n=0\/4<n\/(1<=n/\n<=4/\fl<0)\/(1<=n/\n<=4/\0<=fl/\67108864<fl)) with h|h|⟨h1,h2,h3⟩|⟨h1,h2,h3,h4⟩
  ·subst h;go_enter Tryz.func27,Tryz.ntmps27
   go_wp2;go_ret;exact⟨rfl,Below.refl _ _⟩
  ·have e1: ¬(n:Int)<1:=om1;have e2:(4:Int)<n:=om1;go_enter Tryz.func27,Tryz.ntmps27
   go_wp2;go_ret;exact⟨rfl,Below.refl _ _⟩
  ·have e1: ¬(n:Int)<1:=om1;have e2: ¬(4:Int)<n:=om1;go_enter Tryz.func27,Tryz.ntmps27
   go_wp2;go_ret;exact⟨rfl,Below.refl _ _⟩
  ·have e1: ¬(n:Int)<1:=om1;have e2: ¬(4:Int)<n:=om1;go_enter Tryz.func27,Tryz.ntmps27
   go_wp2;go_ret;exact⟨rfl,Below.refl _ _⟩
def OfR(w w':World)(n:Nat)(z:Nat->Int)(fl:Int)(v:Value)(er:Int):Prop:=
 (¬MayW n z fl/\v= .slice none 0 0/\er=1/\Below w.heap.size w w')\/(MayW n z fl/\tot z n=0/\v= .slice none 0 0/\er=11/\Below w.heap.size w w')\/
 (MayW n z fl/\0<tot z n/\er=0/\Own w.heap.size w w' v n (fun k=>sh (1073741824- fl*n) z n k+fl))
theorem dof14_any(ao:Option Addr)(n ca:Nat)(z:Nat->Int)(fl:Int)(w:World)(hs:Sl w ao n ca z)(hz:B64 z)(f0: -9223372036854775808<=fl)(f1:fl<=9223372036854775807):
 Calls Tryz.prog 134 #[.slice ao n ca, .int .i64 fl] w fun e w'=> ∃ v er,e= .returned (.tuple #[v, .int .i64 er])/\OfR w w' n z fl v er:=by
 obtain⟨x,hao,hc⟩:=hs.get;have l1:=hs.le;have l2:=hs.cap;have HZ:=hide hz;have HC:=hide hc;clear hz hc hs;by_cases hH:1<=n/\n<=4/\0<=fl/\fl<=67108864
 ·obtain⟨hn1,hn4,hf0,hf1⟩:=hH;obtain rfl:=hao om1;have e1: ¬(n:Int)<1:=om1;have e2: ¬(4:Int)<n:=om1;go_enter Tryz.func134,Tryz.ntmps134
  go_wp2;go_loopw [6,7,8] (fun v sv i wr=> ∃ k:Nat,k<=n/\i= .int .i64 (k:Int)/\sv= .bool (decide (0<tot z k))/\Nls w.heap.size w wr v k z/\(∀ j,j<k->0<=z j/\z j<=4611686018427387903)) (fun _ _ i _=>n- (intOf i).toNat)
  case atStart=>exact⟨0,om1,rfl,rfl,Nls.nil (Below.refl _ _) (Nat.le_refl _) _,fun j hj=>by omega⟩
  case round=>
   rename World=>wr;obtain⟨k,hk,rfl,rfl,hN,hfl⟩:=hrel;by_cases h:k<n
   ·have ck:=keep_cell hN.below (HC.out k h);have bk:=HZ.out k;have ht0:=tot_nn (a:=z) (n:=k) (fun j hj=>(hfl j hj).1);have HU:Hid (tot z (k+1)=tot z k+z k):=rfl;have HF:=hide hfl;have HN:=hide hN;have kn:(k:Int)<n:=om1;obtain⟨zk,hzk⟩: ∃ q,q=z k:=⟨_,rfl⟩;obtain⟨tk,htk⟩: ∃ q,q=tot z k:=⟨_,rfl⟩;rw [← hzk] at ck bk HU;rw [← htk] at ht0 HU ⊢;have HZK:=hide hzk;clear hzk htk hfl hN;by_cases c1:zk<0
    ·have hno: ¬MayW n z fl:=fun q=>by have:=q.each k h;rw [← HZK.out] at this;omega
     have HNO:=hide hno;clear hno;go_wp2;go_ret2;exact⟨_,_,rfl,Or.inl ⟨HNO.out,rfl,rfl,HN.out.below⟩⟩
    ·by_cases c2:4611686018427387903<zk
     ·have hno: ¬MayW n z fl:=fun q=>by have:=q.each k h;rw [← HZK.out] at this;omega
      have HNO:=hide hno;clear hno;go_wp2;go_ret2;exact⟨_,_,rfl,Or.inl ⟨HNO.out,rfl,rfl,HN.out.below⟩⟩
     ·have HOf:=hide (fun W=>of_any zk W om1 om1)
      have HFN:Hid (∀ j,j<k+1->0<=z j/\z j<=4611686018427387903):=fun j hj=>by
       by_cases e:j=k
       ·rw [e,← HZK.out];omega
       ·exact HF.out j om1
      obtain⟨sb,hsb⟩: ∃ q,q=decide (0<tk):=⟨_,rfl⟩;rw [← hsb];by_cases c3:0<tk
      ·rw [decide_eq_true c3] at hsb;subst hsb;go_wp2_with fail
       refine(HOf.out _).mono ?_;rintro e w1 ⟨v,rfl,iv,k1⟩;obtain⟨q1,q2,q3,rfl⟩:=iv.form;have nr:=HN.out.keep k1
       go_wp2_with (first
        |(refine Nu.wpList_pushN rfl _ _ rl1 w.heap.size w _ k z rl1 nr om1 _ q1 q2 q3 (by rw [HZK.out]) (by rw [← HZK.out];exact iv) rl1 ?_;intro v' w2 n2)
        |fail)
       go_roundw
       case rel=>exact⟨k+1,om1,by go_num,by rw [HU.out,decide_eq_true (show 0<tk+zk by omega)],n2,HFN.out⟩
       case measure=>simp [intOf];omega
      ·rw [decide_eq_false c3] at hsb;subst hsb;have HSN:Hid (decide (0<tot z (k+1))=decide (0<zk)):=by show decide (0<tot z (k+1))=decide (0<zk);rw [HU.out,show tk+zk=zk by omega]
       go_wp2_with fail
       refine(HOf.out _).mono ?_;rintro e w1 ⟨v,rfl,iv,k1⟩;obtain⟨q1,q2,q3,rfl⟩:=iv.form;have nr:=HN.out.keep k1
       go_wp2_with (first
        |(refine Nu.wpList_pushN rfl _ _ rl1 w.heap.size w _ k z rl1 nr om1 _ q1 q2 q3 (by rw [HZK.out]) (by rw [← HZK.out];exact iv) rl1 ?_;intro v' w2 n2)
        |fail)
       go_roundw
       case rel=>exact⟨k+1,om1,by go_num,by rw [HSN.out],n2,HFN.out⟩
       case measure=>simp [intOf];omega
   ·obtain rfl:n=k:=om1;have hmay:MayW n z fl:=⟨hn1,hn4,hf0,hf1,hfl⟩;have ht0:=tot_nn (a:=z) (n:=n) (fun j hj=>(hfl j hj).1);by_cases c3:0<tot z n
    ·rw [decide_eq_true c3];obtain⟨g,cap,rfl,hat,_⟩:=hN.at om1;have hm4:=mul_four hf0 hf1 hn4;have HSh:=hide (dshares_any (1073741824- fl*n) g n cap z wr hat hn4 om1 om1 (fun k hk=>by have:=hfl k hk;omega) c3)
     have hsn: ∀ j,j<n->0<=sh (1073741824- fl*n) z n j/\sh (1073741824- fl*n) z n j<=1073741824:=fun j hj=>by
      have a1:=sh_nn (m:=1073741824- fl*n) om1 (fun i hi=>(hfl i hi).1) c3 hj;have a2:=sh_le (m:=1073741824- fl*n) om1 (fun i hi=>(hfl i hi).1) c3 hj;omega
     have HSN:=hide hsn;have HMAY:=hide hmay;have HT:=hide c3;have HB:=hide hN.below;have HL:=hide (show w.heap.size<=wr.heap.size from hN.base);obtain⟨P,hP⟩: ∃ q,q=fl*(n:Int):=⟨_,rfl⟩;obtain⟨s,hs⟩: ∃ q,q=sh (1073741824- fl*n) z n:=⟨_,rfl⟩;rw [← hs] at HSh HSN;rw [← hP] at HSh hm4;have HSS:=hide hs;have hPw:fl*(n:Int)=P:=hP.symm;clear hN hat hfl hmay hsn c3 hs hP;go_wp2_with fail
     refine(HSh.out).mono ?_;rintro e w2 ⟨v,rfl,ow⟩;obtain⟨gx,cx,rfl,_,_⟩:=ow.row.form om1;have owl:=ow.sl;obtain⟨_,_,exx,slx⟩:=owl;cases exx
     have slx1:=slx.le;have slx2:=slx.cap;have HO:=hide ow;clear ow slx;go_wp2;go_loopw [10] (fun i w3=> ∃ k:Nat,k<=n/\i= .int .i64 (k:Int)/\Own wr.heap.size wr w3 (.slice (some ⟨gx,0,none⟩) n cx) n (fun j=>if j<k then s j+fl else s j)) (fun i _=>n- (intOf i).toNat)
     case atStart=>exact⟨0,om1,rfl,HO.out.congr (fun k hk=>by rw [if_neg om1])⟩
     case round=>
      rename World=>w3;obtain⟨k,hk,rfl,o3⟩:=hrel;by_cases h:k<n
      ·have ck:=o3.cell (j:=k) h;simp only [if_neg (Nat.lt_irrefl k)] at ck;have fk:=o3.free k;have bk:=HSN.out k h;have kn:(k:Int)<n:=om1;obtain⟨sk,hsk⟩: ∃ q,q=s k:=⟨_,rfl⟩;rw [← hsk] at ck bk;have o4:=o3.set k (sk+fl)
       have HO4:=hide (o4.congr (z':=fun j=>if j<k+1 then s j+fl else s j) (fun j hj=>by
        show(if j=k then sk+fl else if j<k then s j+fl else s j)=if j<k+1 then s j+fl else s j
        by_cases e:j=k
        ·rw [if_pos e,if_pos om1,e,hsk]
        ·rw [if_neg e];by_cases e2:j<k
         ·rw [if_pos e2,if_pos om1]
         ·rw [if_neg e2,if_neg om1]))
       clear o3 o4 hsk;go_wp2;go_roundw
       case rel=>exact⟨k+1,om1,by go_num,HO4.out⟩
       case measure=>simp [intOf];omega
      ·obtain rfl:n=k:=om1;have o5:Own w.heap.size w w3 (.slice (some ⟨gx,0,none⟩) n cx) n (fun k=>s k+fl):=⟨(row_mono (o3.congr (z':=fun k=>s k+fl) (fun j hj=>by rw [if_pos hj])).row HL.out),HB.out.trans (o3.below.mono HL.out),Nat.le_trans HL.out o3.base⟩;have HO5:=hide o5;clear o3 o5;go_wp2;go_ret2;refine⟨_,_,rfl,Or.inr (Or.inr ⟨HMAY.out,HT.out,rfl, ?_⟩)⟩;rw [← HSS.out];exact HO5.out
    ·have HMAY:=hide hmay;have HT0:Hid (tot z n=0):=by show tot z n=0;omega
     have HNB:=hide hN.below;rw [decide_eq_false c3];clear hmay hfl hN c3 ht0;go_wp2;go_ret2;exact⟨_,_,rfl,Or.inr (Or.inl ⟨HMAY.out,HT0.out,rfl,rfl,HNB.out⟩)⟩
 ·have hno: ¬MayW n z fl:=fun q=>hH ⟨q.one,q.four,q.lo,q.hi⟩;have HNO:=hide hno;clear hao HC HZ hno;rcases(by omega:n=0\/4<n\/(1<=n/\n<=4/\fl<0)\/(1<=n/\n<=4/\0<=fl/\67108864<fl)) with h|h|⟨h1,h2,h3⟩|⟨h1,h2,h3,h4⟩
  ·subst h;clear hH;go_enter Tryz.func134,Tryz.ntmps134
   go_wp2;go_ret2;exact⟨_,_,rfl,Or.inl ⟨HNO.out,rfl,rfl,Below.refl _ _⟩⟩
  ·have e1: ¬(n:Int)<1:=om1;have e2:(4:Int)<n:=om1;clear hH;go_enter Tryz.func134,Tryz.ntmps134
   go_wp2;go_ret2;exact⟨_,_,rfl,Or.inl ⟨HNO.out,rfl,rfl,Below.refl _ _⟩⟩
  ·have e1: ¬(n:Int)<1:=om1;have e2: ¬(4:Int)<n:=om1;clear hH;go_enter Tryz.func134,Tryz.ntmps134
   go_wp2;go_ret2;exact⟨_,_,rfl,Or.inl ⟨HNO.out,rfl,rfl,Below.refl _ _⟩⟩
  ·have e1: ¬(n:Int)<1:=om1;have e2: ¬(4:Int)<n:=om1;clear hH;go_enter Tryz.func134,Tryz.ntmps134
   go_wp2;go_ret2;exact⟨_,_,rfl,Or.inl ⟨HNO.out,rfl,rfl,Below.refl _ _⟩⟩
end
section
open Go.RowKit Vc Cn Mt
attribute [local go_sem ↓] Go.wp_at_zero Go.wp_at_succ
namespace Mx
theorem hideB{p:Prop}(h:p):Hid p:=h
structure Dst(w:World)(lo:Option Addr)(n cm:Nat)(U V:Nat->Value):Prop where
 le:n<=cm
 cap:cm<=9223372036854775807
 at': ∀ k,k<n-> ∃ x,lo=some x/\w.cell? (x.add (k*2))=some (U k)/\w.cell? ((x.add (k*2)).add 1)=some (V k)
theorem Dst.get{w:World}{lo:Option Addr}{n cm:Nat}{U V:Nat->Value}(h:Dst w lo n cm U V): ∃ x,(0<n->lo=some x)/\ ∀ k,k<n->w.cell? (x.add (k*2))=some (U k)/\w.cell? ((x.add (k*2)).add 1)=some (V k):=by
 cases lo with
 |none=>exact⟨⟨0,0,none⟩,fun h0=>(by obtain⟨x,hx,_⟩:=h.at' 0 h0;cases hx),fun k hk=>(by obtain⟨x,hx,_⟩:=h.at' k hk;cases hx)⟩
 |some x=>exact⟨x,fun _=>rfl,fun k hk=>by obtain⟨y,hy,hc⟩:=h.at' k hk;cases hy;exact hc⟩
theorem Dst.keep{w w':World}{lo:Option Addr}{n cm:Nat}{U V:Nat->Value}(h:Dst w lo n cm U V)(b:Below w.heap.size w w'):Dst w' lo n cm U V:=
 ⟨h.le,h.cap,fun k hk=>by obtain⟨x,hx,h0,h1⟩:=h.at' k hk;exact⟨x,hx,keep_cell b h0,keep_cell b h1⟩⟩
theorem addr_at0(a:Addr):a.add 0=a:=by
 unfold Addr.add;split<;>simp_all
theorem isD:Tryz.prog.underlying 60=some (.struct (Tryz.prog.fieldsOf 60)):=by kernel_rfl
theorem sizeD:(Tryz.prog.info? 60).map (·.size)=some 2:=by kernel_rfl
theorem run_loadD(w:World)(x:Addr)(u v:Value)(h0:w.cell? x=some u)(h1:w.cell? (x.add 1)=some v):(Instr.loadAt 60 (.pointer (some x))).run Tryz.prog w= .ok (.agg #[u,v]) w:=by
 have hl:(loadCells x [u,v].length).run Tryz.prog w= .ok [u,v].toArray w:=run_loadCells_list (P:=Tryz.prog) w x [u,v] (fun j y hv=>by
  match j,hv with
  |0,hv=>rw [addr_at0];simp at hv;subst hv;exact h0
  |1,hv=>simp at hv;subst hv;exact h1)
 have hv:(loadVar 60 x).run Tryz.prog w= .ok (.agg #[u,v]) w:=by
  cases hq:Tryz.prog.info? 60 with
  |none=>have:=sizeD;rw [hq] at this;cases this
  |some i=>
   have hs:i.size=2:=by have:=sizeD;rw [hq] at this;simpa using this
   have hagg:(isAgg 60).run Tryz.prog w= .ok true w:=by
    unfold isAgg;rw [Sem.run_bind,run_underlying isD w];simp
   simp [loadVar,Sem.run_bind,hagg,sizeOf,typeInfo,hq,hs];simp at hl;simp [hl]
 simp only [Instr.loadAt,Instr.sureAddr,Sem.run_bind,Sem.run_pure,Result.andThen_ok,hv]
theorem wpList_loadV{P:Program}{ops:Array Oper}{rest:List Oper}{o:Oper}{a:Act}{w:World}{Q:Exit->Act->World->Prop}(hgd:o.guard=none)(t:TypeId)(y:Operand)(ho:o.op= .load t y)
 (x:Addr) (u:Value) (hy:a.eval y= .pointer (some x)) (hr:(Instr.loadAt t (.pointer (some x))).run P w= .ok u w)
 (h:wpList P ops Q rest (a.put o.dst u) w):wpList P ops Q (o::rest) a w:=by
 refine wpList_plain hgd fun _ hK=> ?_;unfold Oper.wp execOp;simp only [ho,hy,Sem.run_bind,Sem.run_pure,hr,Result.andThen_ok];exact hK _ _ h
end Mx
open Mx
theorem dmay15_any(lo ho:Option Addr)(n cm m hc:Nat)(U V:Nat->Value)(c:Nat->Int)(g:Nat->Bool)(b:Bool)(w:World)(hl:Dst w lo n cm U V)(hs:Sl w ho m hc c)(bc:B64 c)
 (hg: ∀ W,Below w.heap.size w W-> ∀ k,k<n->Calls Tryz.prog 25 #[.agg #[U k,V k]] W fun e w'=>e= .returned (.bool (g k))/\Below W.heap.size W w')
 (hb:b=true↔n=m/\Ch m c 0/\ ∀ k,k<n->g k=true):
 Calls Tryz.prog 17 #[.slice lo n cm, .slice ho m hc] w fun e w'=>e= .returned (.bool b)/\Below w.heap.size w w':=by
 have HCk:=hideB (fun W (k:Below w.heap.size w W) (b:Bool) (hb:b=true↔Ch m c 0)=>dcheck14_any ho m hc c 0 W (hs.keep k) bc b hb om1 om1);have l1:=hl.le;have l2:=hl.cap;have l3:=hs.le;have l4:=hs.cap;obtain⟨x,hlo,hcl⟩:=hl.get;have HLO:=hideB hlo;have HCL:=hideB hcl;have HG:=hideB hg;have HB:=hideB hb;have no: ∀ q:Prop,(b=true->q)-> ¬q->b=false:=fun q h1 h2=>by cases b<;>simp_all
 have NO:=hideB no;clear hl hs hlo hcl hg hb no bc;by_cases e:n=m
 ·subst e;by_cases h:Ch n c 0
  ·have D:=hideB (HCk.out w (Below.refl _ _) true ⟨fun _=>h,fun _=>rfl⟩);have hn1:=h.one;have HH:=hideB h;obtain rfl:=HLO.out om1;clear HCk h;go_enter Tryz.func17,Tryz.ntmps17
   go_wp2_with fail
   refine(D.out).mono ?_;rintro e w1 ⟨rfl,k1⟩;have HK1:=hideB k1;clear k1 D;go_wp2;go_loopw [5] (fun i wr=> ∃ k:Nat,k<=n/\i= .int .i64 (k:Int)/\(∀ j,j<k->g j=true)/\Below w.heap.size w wr) (fun i _=>n- (intOf i).toNat)
   case atStart=>exact⟨0,om1,rfl,fun j hj=>by omega,HK1.out⟩
   case round=>
    rename World=>wr;obtain⟨k,hk,rfl,hj,kb⟩:=hrel;by_cases hkn:k<n
    ·obtain⟨c0,c1⟩:=HCL.out k hkn;have c0:=keep_cell kb c0;have c1:=keep_cell kb c1;have HC:=hideB (HG.out wr kb k hkn);have HJ:=hideB hj;have HKB:=hideB kb;have HC0:=hideB c0;have HC1:=hideB c1;have kn:(k:Int)<n:=om1;obtain⟨u,hu⟩: ∃ q,q=U k:=⟨_,rfl⟩;obtain⟨v,hv⟩: ∃ q,q=V k:=⟨_,rfl⟩;obtain⟨gk,hgk⟩: ∃ q,q=g k:=⟨_,rfl⟩;rw [← hu,← hv,← hgk] at HC;rw [← hu] at HC0;rw [← hv] at HC1;have HGK:=hideB hgk;clear hu hv hgk hj kb c0 c1
     go_wp2_with (first
      |(refine wpList_loadV rfl 60 _ rl1 (x.add (k*2)) (.agg #[u,v]) rl1 (run_loadD _ _ u v HC0.out HC1.out) ?_)
      |fail)
     refine(HC.out).mono ?_;rintro e w2 ⟨rfl,k2⟩;have KB:=below_tr HKB.out k2;clear k2;cases gk
     ·have hbf:b=false:=NO.out _ HB.out.1 fun q=>by have:=q.2.2 k hkn;rw [← HGK.out] at this;cases this
      subst hbf;go_wp2;go_ret;exact⟨rfl,KB⟩
     ·go_wp2;go_roundw
      case rel=>exact⟨k+1,om1,by go_num,fun j hj=>by
       by_cases e:j=k
       ·rw [e,← HGK.out]
       ·exact HJ.out j om1,KB⟩
      case measure=>simp [intOf];omega
    ·obtain rfl:n=k:=om1;have hbt:b=true:=HB.out.2 ⟨by first|rfl|trivial,HH.out,hj⟩;subst hbt;go_wp2;go_ret;exact⟨rfl,kb⟩
  ·have D:=hideB (HCk.out w (Below.refl _ _) false ⟨fun q=>(by cases q),fun q=>absurd q h⟩);have hbf:b=false:=NO.out _ HB.out.1 fun q=>h q.2.1;subst hbf;clear HCk h;go_enter Tryz.func17,Tryz.ntmps17
   go_wp2_with fail
   refine(D.out).mono ?_;rintro e w1 ⟨rfl,k1⟩;go_wp2;go_ret;exact⟨rfl,k1⟩
 ·have hbf:b=false:=NO.out _ HB.out.1 fun q=>e q.1;subst hbf;have e': ¬(n:Int)=m:=om1;clear HCk e;go_enter Tryz.func17,Tryz.ntmps17
  go_wp2;go_ret;exact⟨rfl,Below.refl _ _⟩
end
section
open Go.RowKit Dec Nv Vc St Ld Nu Cn
attribute [local go_sem ↓] Go.wp_at_zero Go.wp_at_succ
namespace Nu
theorem stepN{ops:Array Oper}{o:Oper}{a:Act}{w:World}{K:Act->World->Prop}{Q:Exit->Act->World->Prop}{E:Prop}(hw:Region.wanted o (yielded ops a.tmps)=true)(x y:Operand)(ho:o.op= .store 190 x y)
 (g j:Nat) (s:Bool) (p:Option Addr) (l c:Nat) (hx:a.eval x= .pointer (some ⟨g,j,none⟩)) (hy:a.eval y= .agg #[.bool s, .slice p l c]) (ht:w.there g j 2)
 (h:K (a.put o.dst undef) (w.setCells g j [.bool s, .slice p l c])):if Region.wanted o (yielded ops a.tmps)=true then Oper.wp Tryz.prog o a w K Q else E:=by
 rw [if_pos hw];exact wp_store_mid _ x y ho g j #[.bool s, .slice p l c] hx hy ht (by rw [isNum.size];rfl) (by simp [Value.oneCell']) h
end Nu
def MixR(w w':World)(n:Nat)(z:Nat->Int)(m:Nat)(L:Nat->Nat)(R:Nat->Nat->Int)(v:Value)(er:Int):Prop:=
 (¬MayX n z m L R/\v= .slice none 0 0/\er=1/\Below w.heap.size w w')\/(MayX n z m L R/\er=0/\Own w.heap.size w w' v n (sh 1073741824 (mxw n z R) n))
theorem dmix14_any(ao lo:Option Addr)(n ca m cm:Nat)(z:Nat->Int)(A:Nat->Option Addr)(L C:Nat->Nat)(R:Nat->Nat->Int)(w:World)(hs:Sl w ao n ca z)(hz:B64 z)(hl:Sls w lo m cm A L C)
 (hr: ∀ i,i<m->Sl w (A i) (L i) (C i) (R i)) (hR: ∀ i,B64 (R i)):
 Calls Tryz.prog 92 #[.slice ao n ca, .slice lo m cm] w fun e w'=> ∃ v er,e= .returned (.tuple #[v, .int .i64 er])/\MixR w w' n z m L R v er:=by
 have HS:=hide hs;have l1:=hs.le;have l2:=hs.cap;have l3:=hl.le;have l4:=hl.cap;have HCk:Hid (∀ W,Below w.heap.size w W-> ∀ b:Bool,(b=true↔Ch n z 0)->Calls Tryz.prog 27 #[.slice ao n ca, .int .i64 0] W fun e w'=>e= .returned (.bool b)/\Below W.heap.size W w'):=fun W k b hb=>dcheck14_any ao n ca z 0 W (hs.keep k) hz b hb om1 om1;have HCr:Hid (∀ W,Below w.heap.size w W-> ∀ i,i<m-> ∀ b:Bool,(b=true↔Ch (L i) (R i) 0)->Calls Tryz.prog 27 #[.slice (A i) (L i) (C i), .int .i64 0] W fun e w'=>e= .returned (.bool b)/\Below W.heap.size W w'):=fun W k i hi b hb=>dcheck14_any (A i) (L i) (C i) (R i) 0 W ((hr i hi).keep k) (hR i) b hb om1 om1;obtain⟨xl,hlo,hlc⟩:=hl.get;have HLC:=hide hlc;have HLO:=hide hlo;have HR:=hide hr;have HRB:=hide hR;have HZ:=hide hz;clear hs hz hl hr hR hlc hlo;by_cases hc:Ch n z 0
 ·have hn1:=hc.one;have hn4:=hc.four;have HCH:=hide hc;have D0:=hide (HCk.out w (Below.refl _ _) true ⟨fun _=>hc,fun _=>rfl⟩);clear HCk hc;by_cases hm:m=n
  ·subst hm;obtain rfl:=HLO.out om1;obtain⟨i0,hi0,hz0,hz1,hz2⟩:=info2;go_enter Tryz.func92,Tryz.ntmps92
   go_wp2_with fail
   refine(D0.out).mono ?_;rintro e w1 ⟨rfl,k1⟩
   go_wp2_with (first
    |(refine wpList_make_full _ rfl _ _ _ rl1 w.heap.size 190 i0 (.agg #[.bool false, .slice none 0 0]) 2 Tryz.underlying240 hi0 hz0 hz1 .i64 .i64 _ _ m rl1 rl1 rl1 rl1 (by rw [hz2];omega) (by unfold maxLen;omega) k1.size ?_;intro w2 o2 g2)
    |fail)
   have N2:=nls_made o2 (k1.grown g2 k1.size (fun k hk=>by cases hk)) (Nat.le_trans k1.size g2.size);have HN2:=hide N2;obtain⟨gw,hgw⟩: ∃ q,q=w1.heap.size:=⟨_,rfl⟩;rw [← hgw] at HN2 ⊢;clear N2 o2 g2 hgw k1 hi0 hz0 hz1 hz2;go_loopw [7] (fun i wr=> ∃ k:Nat,k<=m/\i= .int .i64 (k:Int)/\(∀ q,q<k->L q=m/\Ch m (R q) 0)/\Nls w.heap.size w wr (.slice (some ⟨gw,0,none⟩) m m) m (fun j=>tot (fun q=>z q*R q j) k)) (fun i _=>m- (intOf i).toNat)
   case atStart=>exact⟨0,om1,rfl,fun q hq=>by omega,HN2.out⟩
   case round=>
    rename World=>wr;obtain⟨k,hk,rfl,hrw,hN⟩:=hrel;by_cases h:k<m
    ·have ck:=keep_cell hN.below (HLC.out k h);have HK:=hide (HCr.out wr hN.below k h);have kn:(k:Int)<m:=om1;have rl1:=(HR.out k h).le;have rl2:=(HR.out k h).cap;have HRW:=hide hrw;have HN:=hide hN;clear hrw hN;by_cases e1:L k=m
     ·by_cases e2:Ch (L k) (R k) 0
      ·have HKy:=hide (HK.out true ⟨fun _=>e2,fun _=>rfl⟩);have HE2:Hid (Ch m (R k) 0):=by show Ch m (R k) 0;rw [← e1];exact e2
       have HRK:Hid (Sl w (A k) m (C k) (R k)):=by show Sl w (A k) m (C k) (R k);rw [← e1];exact HR.out k h
       rw [e1] at ck HKy rl1;have HE1:=hide e1;have ck0:w.cell? (xl.add k)=some (.slice (A k) m (C k)):=by have q:=HLC.out k h;rw [e1] at q;exact q
       clear HK e2 e1;obtain⟨Ak,hAk⟩: ∃ q,q=A k:=⟨_,rfl⟩;obtain⟨Ck,hCk⟩: ∃ q,q=C k:=⟨_,rfl⟩;rw [← hAk,← hCk] at ck HKy HRK ck0;rw [← hCk] at rl1 rl2;have ck3:=hide (fun V (b:Below w.heap.size w V)=>keep_cell b ck0);clear hAk hCk ck0;go_wp2_with fail
       refine(HKy.out).mono ?_;rintro e w3 ⟨rfl,k3⟩;have N3:=HN.out.keep k3;have HN3:Hid (Nls w.heap.size w w3 (.slice (some ⟨gw,0,none⟩) m m) m (fun j=>if j<0 then tot (fun q=>z q*R q j) (k+1) else tot (fun q=>z q*R q j) k)):=N3.congr (fun j hj=>by rw [if_neg om1]);clear N3 ck HKy k3;go_wp2;go_loopw [8] (fun jv wq=> ∃ j:Nat,j<=m/\jv= .int .i64 (j:Int)/\Nls w.heap.size w wq (.slice (some ⟨gw,0,none⟩) m m) m (fun q=>if q<j then tot (fun i=>z i*R i q) (k+1) else tot (fun i=>z i*R i q) k)) (fun jv _=>m- (intOf jv).toNat)
       case atStart=>exact⟨0,om1,rfl,HN3.out⟩
       case round=>
        rename World=>wq;obtain⟨j,hj,rfl,hQ⟩:=hrel;by_cases hjm:j<m
        ·obtain⟨_,_,ee,hat,_⟩:=hQ.at om1;cases ee
         obtain⟨p,l,c,c0,c1,ei⟩:=hat.num j hjm;simp only [if_neg (Nat.lt_irrefl j)] at c0 ei;have B0:=hQ.below;obtain⟨xa,hxa,dz⟩:=HS.out.get;obtain rfl:=hxa om1;have dz:=keep_cell B0 (dz k h);obtain⟨xr,hxr,dr⟩:=HRK.out.get;obtain rfl:=hxr om1;have dr:=keep_cell B0 (dr j hjm);have dl:=ck3.out _ B0;have hzk:=HCH.out.nn h;have hrk:=HE2.out.nn hjm
         have htk:=tot_le (a:=fun i=>z i*R i j) (M:=1152921504606846976) (n:=k) (fun q hq=>by
          have a1:=HCH.out.nn (k:=q) om1;have a2:=(HRW.out q hq).2.nn hjm
          exact⟨Int.mul_nonneg a1.1 a2.1,Int.mul_le_mul a1.2 a2.2 a2.1 om1⟩)
         have hp0:0<=z k*R k j:=Int.mul_nonneg hzk.1 hrk.1;have hp1:z k*R k j<=1152921504606846976:=Int.mul_le_mul hzk.2 hrk.2 hrk.1 om1;have HU:Hid (tot (fun i=>z i*R i j) (k+1)=tot (fun i=>z i*R i j) k+z k*R k j):=rfl;obtain⟨tk,htk2⟩: ∃ q,q=tot (fun i=>z i*R i j) k:=⟨_,rfl⟩;obtain⟨zk,hzk2⟩: ∃ q,q=z k:=⟨_,rfl⟩;obtain⟨rk,hrk2⟩: ∃ q,q=R k j:=⟨_,rfl⟩;rw [← htk2] at c0 ei htk HU;rw [← hzk2] at dz hzk hp0 hp1 HU;rw [← hrk2] at dr hrk hp0 hp1 HU;obtain⟨s1,hs1⟩: ∃ q,q=decide (tk<0):=⟨_,rfl⟩;rw [← hs1] at c0 ei;have HO1:=hide (fun W=>of_any zk W om1 om1);have HO2:=hide (fun W=>of_any rk W om1 om1);have HMu:=hide (fun W va vb (h1:IsNum W va zk) (h2:IsNum W vb rk)=>mul_any va vb zk rk W (len100 om1) (len100 om1) h1 h2);have HAd:=hide (fun W vb (h1:IsNum W (.agg #[.bool s1, .slice p l c]) tk) (h2:IsNum W vb (zk*rk))=>add_any _ vb tk (zk*rk) W (len100 om1) (len100 om1) h1 h2);have HSS:Hid (∀ V,Below wq.heap.size wq V->(V.cell? ⟨gw,j*2,none⟩=some (.bool s1)/\V.cell? ⟨gw,j*2+1,none⟩=some (.slice p l c)/\V.cell? (xa.add k)=some (.int .i64 zk)/\V.cell? (xl.add k)=some (.slice (some xr) m Ck)/\V.cell? (xr.add j)=some (.int .i64 rk))):=fun V b=>⟨keep_cell b c0,keep_cell b c1,keep_cell b dz,keep_cell b dl,keep_cell b dr⟩;have hk1:(j:Int)<m:=om1;have HQ:=hide hQ;have EI:=hide ei;clear hs1 htk2 hzk2 hrk2 c0 c1 dz dl dr hQ hat ei B0 hp0 hp1;go_upto_region 12 with fail
         have D0:=Vc.below_drew' wq;refine Ru.wp_region_U [22] (fun w'=>w'.cell? ⟨gw,j*2,none⟩=some (.bool s1)/\w'.cell? ⟨gw,j*2+1,none⟩=some (.slice p l c)/\w'.cell? (xa.add k)=some (.int .i64 zk)/\w'.cell? (xl.add k)=some (.slice (some xr) m Ck)/\w'.cell? (xr.add j)=some (.int .i64 rk)) (by kernel_rfl) (HSS.out _ D0) (fun hHeld=> ?_);refine Ru.tk5 0 (.slice (some ⟨gw,0,none⟩) m m) hHeld ?_;refine Ru.tk5 1 (.int .i64 (j:Int)) hHeld ?_;refine Ru.tk5 2 (.slice (some ⟨gw,0,none⟩) m m) hHeld ?_;refine Ru.tk5 3 (.int .i64 (j:Int)) hHeld ?_;refine Ru.tk5 4 (.pointer (some ⟨gw,j*2,none⟩)) hHeld ?_;refine Ru.tk 5 (.agg #[.bool s1, .slice p l c]) rfl (Nu.yieldsN (by kernel_rfl) _ rl1 gw (j*2) _ _ rl1 (fun w h=>⟨h.1,h.2.1⟩)) hHeld ?_;refine Ru.tk5 6 (.slice (some xa) m ca) hHeld ?_;refine Ru.tk5 7 (.int .i64 (k:Int)) hHeld ?_;refine Ru.tk5 8 (.pointer (some (xa.add k))) hHeld ?_;refine Ru.tk5 9 (.int .i64 zk) hHeld ?_;refine Ru.tk5 11 (.slice (some xl) m cm) hHeld ?_;refine Ru.tk5 12 (.int .i64 (k:Int)) hHeld ?_;refine Ru.tk5 13 (.pointer (some (xl.add k))) hHeld ?_;refine Ru.tk5 14 (.slice (some xr) m Ck) hHeld ?_;refine Ru.tk5 15 (.int .i64 (j:Int)) hHeld ?_;refine Ru.tk5 16 (.pointer (some (xr.add j))) hHeld ?_;refine Ru.tk5 17 (.int .i64 rk) hHeld ?_;refine Ru.rd 10 (fun K hK=> ?_);go_simp;refine(HO1.out _).mono ?_;rintro e x1 ⟨va,rfl,ia,kx1⟩;have D1:=below_tr D0 kx1;go_wp2_with fail
         refine Ru.hd hK (HSS.out _ D1) (fun hHeld=> ?_);clear hK K;refine Ru.rd 18 (fun K hK=> ?_);go_simp;refine(HO2.out _).mono ?_;rintro e x2 ⟨vb,rfl,ib,kx2⟩;have D2:=below_tr D1 kx2;have ia2:=ia.below kx2;go_wp2_with fail
         refine Ru.hd hK (HSS.out _ D2) (fun hHeld=> ?_);clear hK K;refine Ru.rd 19 (fun K hK=> ?_);go_simp;refine(HMu.out _ _ _ ia2 ib).mono ?_;rintro e x3 ⟨vc,rfl,ic,kx3⟩;have D3:=below_tr D2 kx3;go_wp2_with fail
         refine Ru.hd hK (HSS.out _ D3) (fun hHeld=> ?_);clear hK K;refine Ru.rd 20 (fun K hK=> ?_);go_simp;refine(HAd.out _ _ (EI.out.below D3) ic).mono ?_;rintro e x4 ⟨vd,rfl,id',kx4⟩;have D4:=below_tr D3 kx4;go_wp2_with fail
         refine Ru.hd hK (HSS.out _ D4) (fun hHeld=> ?_);clear hK K;refine Ru.tk5 21 (.pointer (some ⟨gw,j*2,none⟩)) hHeld ?_;obtain⟨q1,q2,q3,rfl⟩:=id'.form;have N4:=HQ.out.keep D4;refine Ru.rd2 22 (fun K hK=> ?_);refine Nu.stepN (by kernel_rfl) _ _ rl1 gw (j*2) _ _ _ _ rl1 rl1 (N4.there hjm) ?_;have N5:=(N4.set hjm id').1
         have HN5:=hide (N5.congr (b:=fun q=>if q<j+1 then tot (fun i=>z i*R i q) (k+1) else tot (fun i=>z i*R i q) k) (fun q hq=>by
          show(if q=j then tk+zk*rk else if q<j then tot (fun i=>z i*R i q) (k+1) else tot (fun i=>z i*R i q) k)=if q<j+1 then tot (fun i=>z i*R i q) (k+1) else tot (fun i=>z i*R i q) k
          by_cases e:q=j
          ·rw [if_pos e,if_pos om1,e,HU.out]
          ·rw [if_neg e];by_cases e2:q<j
           ·rw [if_pos e2,if_pos om1]
           ·rw [if_neg e2,if_neg om1]))
         clear N4 N5;refine hK.out _ _ ?_;clear hK K;try simp only [Act.put,List.getElem_toArray,List.getElem_cons_zero,List.getElem_cons_succ,List.setIfInBounds_toArray,List.set_cons_zero,List.set_cons_succ]
         refine wpAny_done (by kernel_rfl) ?_ _;go_wp2;go_roundw
         case rel=>exact⟨j+1,om1,by go_num,HN5.out⟩
         case measure=>simp [intOf];omega
        ·obtain rfl:m=j:=om1;have HN4:Hid (Nls w.heap.size w wq (.slice (some ⟨gw,0,none⟩) m m) m (fun j=>tot (fun q=>z q*R q j) (k+1))):=hQ.congr (fun q hq=>by rw [if_pos hq]);clear hQ;go_wp2;go_roundw
         case rel=>
          refine⟨k+1,om1,by go_num,fun q hq=> ?_,HN4.out⟩;by_cases e:q=k
          ·subst e;exact⟨HE1.out,HE2.out⟩
          ·exact HRW.out q om1
         case measure=>simp [intOf];omega
      ·have HKn:=hide (HK.out false ⟨fun q=>(by cases q),fun q=>absurd q e2⟩);have HNO:Hid (¬MayX m z m L R):=fun q=>e2 (by rw [e1];exact(q.row k h).2);rw [e1] at ck HKn rl1;clear HK e2 e1;obtain⟨Ak,hAk⟩: ∃ q,q=A k:=⟨_,rfl⟩;obtain⟨Ck,hCk⟩: ∃ q,q=C k:=⟨_,rfl⟩;rw [← hAk,← hCk] at ck HKn;rw [← hCk] at rl1 rl2;clear hAk hCk;go_wp2_with fail
       refine(HKn.out).mono ?_;rintro e w3 ⟨rfl,k3⟩;have B3:=HN.out.below.trans (k3.mono HN.out.base);go_wp2;go_ret2;exact⟨_,_,rfl,Or.inl ⟨HNO.out,rfl,rfl,B3⟩⟩
     ·have HNO:Hid (¬MayX m z m L R):=fun q=>e1 (q.row k h).1;have e3: ¬((L k:Nat):Int)=(m:Int):=om1;obtain⟨Ak,hAk⟩: ∃ q,q=A k:=⟨_,rfl⟩;obtain⟨Ck,hCk⟩: ∃ q,q=C k:=⟨_,rfl⟩;obtain⟨Lk,hLk⟩: ∃ q,q=L k:=⟨_,rfl⟩;rw [← hAk,← hCk,← hLk] at ck;rw [← hCk,← hLk] at rl1;rw [← hCk] at rl2;rw [← hLk] at e3;clear HK e1 hAk hCk hLk;go_wp2;go_ret2;exact⟨_,_,rfl,Or.inl ⟨HNO.out,rfl,rfl,HN.out.below⟩⟩
    ·obtain rfl:m=k:=om1;have hmay:MayX m z m L R:=⟨HCH.out,rfl,hrw⟩;obtain⟨_,_,ee,hat,_⟩:=hN.at om1;cases ee
     have HSh:=hide (dshares_any 1073741824 gw m m (mxw m z R) wr hat hn4 om1 om1 (fun j hj=>by have h1:=mxw_nn hmay hj;have h2:=mxw_le hmay hj;omega) (by rw [mxw_tot hmay];omega));have HMAY:=hide hmay;have HB:=hide hN.below;have HL:=hide (show w.heap.size<=wr.heap.size from hN.base);clear hN hat hmay hrw;go_wp2_with fail
     refine(HSh.out).mono ?_;rintro e w2 ⟨v,rfl,ow⟩;have ow2:Own w.heap.size w w2 v m (sh 1073741824 (mxw m z R) m):=⟨row_mono ow.row HL.out,HB.out.trans (ow.below.mono HL.out),Nat.le_trans HL.out ow.base⟩;have HO2:=hide ow2;clear ow ow2;go_wp2;go_ret2;exact⟨_,_,rfl,Or.inr ⟨HMAY.out,rfl,HO2.out⟩⟩
  ·have HNO:Hid (¬MayX n z m L R):=fun q=>hm q.rows;have e3: ¬(m:Int)=(n:Int):=om1;go_enter Tryz.func92,Tryz.ntmps92
   go_wp2_with fail
   refine(D0.out).mono ?_;rintro e w1 ⟨rfl,k1⟩;go_wp2;go_ret2;exact⟨_,_,rfl,Or.inl ⟨HNO.out,rfl,rfl,k1⟩⟩
 ·have HNO:Hid (¬MayX n z m L R):=fun q=>hc q.ch;have D0:=hide (HCk.out w (Below.refl _ _) false ⟨fun q=>(by cases q),fun q=>absurd q hc⟩);clear HCk hc;go_enter Tryz.func92,Tryz.ntmps92
  go_wp2_with fail
  refine(D0.out).mono ?_;rintro e w1 ⟨rfl,k1⟩;go_wp2;go_ret2;exact⟨_,_,rfl,Or.inl ⟨HNO.out,rfl,rfl,k1⟩⟩
end
section
open Go.RowKit Vc Cn Mx
attribute [local go_sem ↓] Go.wp_at_zero Go.wp_at_succ
namespace Mx
theorem hideX{p:Prop}(h:p):Hid p:=h
def SharesR(w w':World)(n:Nat)(z:Nat->Int)(m:Nat)(L:Nat->Nat)(R:Nat->Nat->Int)(tq:Int)(v:Value)(er:Int):Prop:=
 (¬(MayX n z m L R/\0<=tq/\tq<n)/\v= .slice none 0 0/\er=1/\Below w.heap.size w w')\/(MayX n z m L R/\0<=tq/\tq<n/\er=0/\Own w.heap.size w w' v n (shr n z R tq.toNat))
theorem step_push{ops:Array Oper}{o:Oper}{a:Act}{K:Act->World->Prop}{Q:Exit->Act->World->Prop}{E:Prop}{wr:World}(hgd:o.guard=none)(s x:Operand)
 (ho:o.op= .call { callee:= .builtin .append,args:= #[s,x],argTypes:= #[27,27] }) (B:Nat) (w0:World) (v:Value) (n:Nat) (z:Nat->Int) (hs:a.eval s=v) (hown:Own B w0 wr v n z) (hl:n<=2000000) (y:Int) (hy:y=z n)
 (hx:a.eval x= .slice (some ⟨wr.heap.size,0,none⟩) 1 1)
 (h: ∀ v' w',Own B w0 w' v' (n+1) z->K (a.put o.dst v') w'):if Region.wanted o (yielded ops a.tmps)=true then Oper.wp Tryz.prog o a (wr.alloc (.cells #[.int .i64 y] 2)) K Q else E:=by
 obtain⟨i0,hi,hz0,hz1,hz2⟩:=info_parts infoI64;subst hy;refine step_append_lies _ hgd s x 27 ho B 2 i0 (.int .i64 0) 1 8 Tryz.underlying27 hi hz0 hz1 hz2 rfl (by decide) v n (vals n z) hs (hown.row.alloc _) ⟨wr.heap.size,0,none⟩ 1 1 [.int .i64 (z n)] hx rfl (cell_one_new _ _ _) (by intro u hu;simp at hu;subst hu;rfl) om1 (by unfold maxLen;omega) om1 (by have:=hown.base;simp;omega) _ rfl ?_;intro g cap w' h1 h2 _ _;rw [vals_push] at h1;refine h _ w' ⟨h1, ?_,Nat.le_trans (by have:=hown.base;simp;omega) h2.size⟩;refine(hown.below.alloc hown.base _).grown h2 (by have:=hown.base;simp;omega) ?_;intro k hk;exact(hown.row.lt k hk).1
end Mx
theorem mxaFa1{p:Prop}(h:p:=by
 have HM:=hideX hm;clear hm;go_enter Tryz.func93,Tryz.ntmps93
 go_wp2_with fail
 refine(HD.out).mono ?_;rintro e w1 ⟨v1,er,rfl,⟨q,_⟩|⟨_,rfl,ow⟩⟩
 · exact absurd HM.out q
 · have HB:=hideX ow.below;clear ow;go_wp2;go_ret2
   exact⟨_,_,rfl,Or.inl ⟨HNO.out,rfl,rfl,HB.out⟩⟩):p:=h
theorem dshares15_any(ao lo:Option Addr)(n ca m cm:Nat)(z:Nat->Int)(A:Nat->Option Addr)(L C:Nat->Nat)(R:Nat->Nat->Int)(tq:Int)(w:World)(hs:Sl w ao n ca z)(hz:B64 z)(hl:Sls w lo m cm A L C)
 (hr: ∀ i,i<m->Sl w (A i) (L i) (C i) (R i)) (hR: ∀ i,B64 (R i)) (t0: -9223372036854775808<=tq) (t1:tq<=9223372036854775807):
 Calls Tryz.prog 93 #[.slice ao n ca, .slice lo m cm, .int .i64 tq] w fun e w'=> ∃ v er,e= .returned (.tuple #[v, .int .i64 er])/\SharesR w w' n z m L R tq v er:=by
 have HD:=hideX (dmix14_any ao lo n ca m cm z A L C R w hs hz hl hr hR);have l1:=hs.le;have l2:=hs.cap;have l3:=hl.le;have l4:=hl.cap;obtain⟨xa,hxa,hac⟩:=hs.get;obtain⟨xl,hlo,hlc⟩:=hl.get;have HXA:=hideX hxa;have HAC:=hideX hac;have HLO:=hideX hlo;have HLC:=hideX hlc;have HR:=hideX hr;clear hs hz hl hr hR hxa hac hlo hlc;by_cases hm:MayX n z m L R
 ·have hn1:=hm.ch.one;have hn4:=hm.ch.four;have hmn:=hm.rows;subst hmn;by_cases hto:tq<0
  ·have HNO:Hid (¬(MayX m z m L R/\0<=tq/\tq<m)):=fun q=>by have:=q.2.1;omega
   exact mxaFa1
  ·by_cases hto2:(m:Int)<=tq
   ·have HNO:Hid (¬(MayX m z m L R/\0<=tq/\tq<m)):=fun q=>by have:=q.2.2;omega
    exact mxaFa1
   ·obtain⟨t,rfl⟩: ∃ t:Nat,tq=(t:Int):=⟨tq.toNat,om1⟩;have ht:t<m:=om1;have hd1:decide ((t:Int)<0)=false:=decide_eq_false om1;have hd2:decide (m<=t)=false:=decide_eq_false om1;have hd3:decide ((t:Int)>=m)=false:=decide_eq_false om1;obtain rfl:=HXA.out om1;obtain rfl:=HLO.out om1;have HM:=hideX hm;have HW:=hideX (wt_in hm ht);clear hm;go_enter Tryz.func93,Tryz.ntmps93
    go_wp2_with fail
    refine(HD.out).mono ?_;rintro e w1 ⟨v1,er,rfl,⟨q,_⟩|⟨_,rfl,ow⟩⟩
    ·exact absurd HM.out q
    have HB:=hideX ow.below;clear ow HD;go_wp2;go_loopw [10,11,12] (fun v sv i wr=> ∃ k:Nat,k<=m/\i= .int .i64 (k:Int)/\sv= .bool (decide (0<tot (wt m z R t) k))/\Own w1.heap.size w1 wr v k (wt m z R t)) (fun _ _ i _=>m- (intOf i).toNat)
    case atStart=>exact⟨0,om1,rfl,rfl,Own.nil (Below.refl _ _) (Nat.le_refl _) _⟩
    case round=>
     rename World=>wr;obtain⟨k,hk,rfl,rfl,hO⟩:=hrel;have KB:=below_tr HB.out hO.below;by_cases h:k<m
     ·have ck:=keep_cell HB.out (HAC.out k h);have c1:=keep_cell HB.out (HLC.out k h);have hrow:=(HM.out.row k h).1;obtain⟨xr,hxr,hrc⟩:=(HR.out k h).get;have l5:=(HR.out k h).le;have l6:=(HR.out k h).cap;rw [hrow] at hxr hrc c1 l5;obtain hxr:=hxr om1;have c2:=keep_cell HB.out (hrc t ht);rw [hxr] at c1;have wk:=HW.out k;have t0':=tot_nn (a:=wt m z R t) (n:=k) (fun j _=>(HW.out j).1);have HU:Hid (tot (wt m z R t) (k+1)=tot (wt m z R t) k+wt m z R t k):=rfl;have hwk:wt m z R t k=z k*R k t:=by unfold wt;rw [if_pos h]
      have hzk:=HM.out.ch.nn h;have hrk:=(HM.out.row k h).2.nn ht;obtain⟨cc,hcc⟩: ∃ q,q=C k:=⟨_,rfl⟩;obtain⟨zk,hzk2⟩: ∃ q,q=z k:=⟨_,rfl⟩;obtain⟨rk,hrk2⟩: ∃ q,q=R k t:=⟨_,rfl⟩;rw [← hcc] at c1 l5 l6;rw [← hzk2] at ck hzk hwk;rw [← hrk2] at c2 hrk hwk;obtain⟨V,hV⟩: ∃ q,q=wt m z R t k:=⟨_,rfl⟩;obtain⟨tk,htk⟩: ∃ q,q=tot (wt m z R t) k:=⟨_,rfl⟩;rw [← hV] at wk HU hwk;rw [← htk] at t0' HU ⊢;have HV:=hideX hV;have hp:zk*rk=V:=hwk.symm;have hVw:IntKind.i64.wrap V=V:=by rw [IntKind.wrap_i64];omega
      obtain⟨vo,vc,rfl,_⟩:=hO.sl;have kn:(k:Int)<m:=om1;have tn:(t:Int)<m:=om1;have CK:=hideX (fun W (q:Below w1.heap.size w1 W)=>(⟨keep_cell q ck,keep_cell q c1,keep_cell q c2⟩:W.cell? (xa.add k)=some (.int .i64 zk)/\W.cell? (xl.add k)=some (.slice (some xr) m cc)/\W.cell? (xr.add t)=some (.int .i64 rk)));clear hrow hxr hrc hcc hzk2 hrk2 hV htk hwk KB ck c1 c2;go_wp2;refine Ru.wp_region_U [] (fun w'=>w'.cell? (xa.add k)=some (.int .i64 zk)/\w'.cell? (xl.add k)=some (.slice (some xr) m cc)/\w'.cell? (xr.add t)=some (.int .i64 rk)) (by kernel_rfl) (CK.out _ (below_tr hO.below (Vc.below_drew' _))) (fun hHeld=> ?_);refine Ru.tk3 0 (.slice vo k vc) hHeld ?_;refine Ru.tk3 1 (.slice (some xa) m ca) hHeld ?_;refine Ru.tk3 2 (.int .i64 (k:Int)) hHeld ?_;refine Ru.tk3 3 (.pointer (some (xa.add k))) hHeld ?_;refine Ru.tk3 4 (.int .i64 zk) hHeld ?_;refine Ru.tk3 5 (.slice (some xl) m cm) hHeld ?_;refine Ru.tk3 6 (.int .i64 (k:Int)) hHeld ?_;refine Ru.tk3 7 (.pointer (some (xl.add k))) hHeld ?_;refine Ru.tk3 8 (.slice (some xr) m cc) hHeld ?_;refine Ru.tk3 9 (.int .i64 (t:Int)) hHeld ?_;refine Ru.tk3 10 (.pointer (some (xr.add t))) hHeld ?_;refine Ru.tk3 11 (.int .i64 rk) hHeld ?_;refine Ru.tk3 12 (.int .i64 V) hHeld ?_;refine Ru.rd 13 (fun K hK=> ?_);go_simp;refine Ru.hd hK (CK.out _ (below_tr hO.below (below_al (Vc.below_drew' _) _))) (fun hHeld=> ?_);clear hK K;refine Ru.rd 14 (fun K hK=> ?_);refine Mx.step_push rfl (.tmp 40) (.tmp 53) rl1 w1.heap.size w1 (.slice vo k vc) k (wt m z R t) rl1 hO.drew om1 V (by exact HV.out) rl1 ?_;intro v' w' hO';refine Ru.hd hK (CK.out _ hO'.below) (fun hHeld=> ?_);clear hK K;refine Ru.tk3 15 (v') hHeld ?_;refine Ru.wpAnyU_done (by kernel_rfl) ?_;obtain⟨po,pc,rfl,hps⟩:=hO'.sl;obtain⟨px,hpx,hpc⟩:=hps.get;obtain rfl:=hpx om1;have ck':=hpc k om1;have l7:=hps.le;have l8:=hps.cap;rw [← HV.out] at ck';have HO:=hideX hO';clear hps hpx hpc hO';by_cases c3:0<tk
      ·rw [decide_eq_true c3];go_wp2;go_roundw
       case rel=>exact⟨k+1,om1,by go_num,by rw [HU.out,decide_eq_true (show 0<tk+V by omega)],HO.out⟩
       case measure=>simp [intOf];omega
      ·rw [decide_eq_false c3];have HSN:Hid (decide (0<tot (wt m z R t) (k+1))=decide (0<V)):=by show decide (0<tot (wt m z R t) (k+1))=decide (0<V);rw [HU.out,show tk+V=V by omega]
       go_wp2;go_roundw
       case rel=>exact⟨k+1,om1,by go_num,by rw [HSN.out],HO.out⟩
       case measure=>simp [intOf];omega
     ·obtain rfl:m=k:=om1;have t0':=tot_nn (a:=wt m z R t) (n:=m) (fun j _=>(HW.out j).1);obtain⟨po,pc,rfl,hps⟩:=hO.sl;have HB2:=hideX KB;have HS:=hideX hps;have HL:=hideX (show w.heap.size<=wr.heap.size from KB.size);clear KB hps hO;by_cases c3:0<tot (wt m z R t) m
      ·rw [decide_eq_true c3];have HOf:=hideX (dof14_any po m pc (wt m z R t) 0 wr HS.out (fun j=>by have:=HW.out j;omega) om1 om1);have HMW:=hideX (wt_may HM.out ht);have HC3:=hideX c3;clear c3 t0';go_wp2_with fail
       refine(HOf.out).mono ?_;rintro e w3 ⟨v3,er3,rfl,⟨q,_⟩|⟨_,q,_⟩|⟨_,_,rfl,ow⟩⟩
       ·exact absurd HMW.out q
       ·exact absurd q (by have:=HC3.out;omega)
       ·have ow2:Own w.heap.size w w3 v3 m (shr m z R t):=⟨row_mono (ow.congr (z':=shr m z R t) fun j hj=>by
         show sh (1073741824- 0*(m:Int)) (wt m z R t) m j+0=shr m z R t j
         rw [shr_is hj,if_neg (by have:=HC3.out;omega),Int.zero_mul,Int.sub_zero,Int.add_zero]).row HL.out,HB2.out.trans (ow.below.mono HL.out),Nat.le_trans HL.out ow.base⟩
        have HO2:=hideX ow2;clear ow ow2;go_wp2;go_ret2;exact⟨_,_,rfl,Or.inr ⟨HM.out,om1,om1,rfl,HO2.out⟩⟩
      ·rw [decide_eq_false c3];obtain⟨i0,hi,hz0,hz1,hz2⟩:=info_parts infoI64;have HC3:Hid (tot (wt m z R t) m=0):=by show tot (wt m z R t) m=0;omega
       have kn:(t:Int)<m:=om1;clear c3 t0';go_wp2_with (at_make;refine wpList_make_full _ rfl _ _ 27 rfl wr.heap.size 2 i0 (.int .i64 0) 1 Tryz.underlying27 hi hz0 hz1 _ _ _ _ m rfl rfl om1 om1 (by rw [hz2];omega) (by unfold maxLen;omega) (Nat.le_refl _) ?_)
       intro w3 o3 g3;have hO3:=own_made o3 g3 (Nat.le_refl _);have cT:=hO3.cell (j:=t) ht;have fT:=hO3.free t;have hO4:=hO3.set t 1073741824;have ow2:Own w.heap.size w _ _ m (shr m z R t):=⟨row_mono (hO4.congr (z':=shr m z R t) fun j hj=>by rw [shr_is hj,if_pos HC3.out]).row HL.out,HB2.out.trans (hO4.below.mono HL.out),Nat.le_trans HL.out hO4.base⟩;have HO2:=hideX ow2;clear hO3 hO4 ow2 o3 g3 hi hz0 hz1 hz2;go_wp2;go_ret2;exact⟨_,_,rfl,Or.inr ⟨HM.out,om1,om1,rfl,HO2.out⟩⟩
 ·have HNO:Hid (¬(MayX n z m L R/\0<=tq/\tq<n)):=fun q=>hm q.1;have HM:=hideX hm;clear hm;go_enter Tryz.func93,Tryz.ntmps93
  go_wp2_with fail
  refine(HD.out).mono ?_;rintro e w1 ⟨v1,er,rfl,⟨_,rfl,rfl,k1⟩|⟨q,_⟩⟩
  ·go_wp2;go_ret2;exact⟨_,_,rfl,Or.inl ⟨HNO.out,rfl,rfl,k1⟩⟩
  ·exact absurd q HM.out
end
section
open Go.RowKit Vc St Mt Dt Cn Mx El
attribute [local go_sem ↓] Go.wp_at_zero Go.wp_at_succ
namespace Mx
theorem hideC{p:Prop}(h:p):Hid p:=h
theorem infoS2:(Tryz.prog.info? 60).map (fun i=>(i.zero,i.size,i.bytes))=some (some (.agg #[.slice none 0 0, .slice none 0 0]),2,48):=by kernel_rfl
theorem infoG:(Tryz.prog.info? 23).map (fun i=>(i.zero,i.size,i.bytes))=some (some (.slice none 0 0),1,24):=by kernel_rfl
def JoinR(w w':World)(X:Nat->Int)(P:Nat->Nat->Int)(xo:Option Addr)(xc:Nat)(po:Option Addr)(pm:Nat):Prop:=Below w.heap.size w w'/\Free w.heap.size w' (fun W=>Sl W xo 6 xc X/\Grid W po 6 pm 6 P)
theorem ja_b64(n:Nat)(c:Nat->Int)(X:Nat->Nat->Int)(P:Nat->Nat->Nat->Int):B2 (ja n c X P):=Pr.cl_b2 _
theorem jm_b2(n:Nat)(c:Nat->Int)(X:Nat->Nat->Int)(P:Nat->Nat->Nat->Int)(k:Nat):B2 (jm n c X P k):=Pr.cl_b2 _
theorem jX_b64(n:Nat)(c:Nat->Int)(X:Nat->Nat->Int):B64 (jX n c X):=fun p=>Pr.cl_b2 (fun _ p=>jx n c X p) 0 p
theorem jd_b64(n:Nat)(c:Nat->Int)(X:Nat->Nat->Int)(k:Nat):B64 (jd n c X k):=fun p=>Pr.cl_b2 (fun _ p=>X k p- jX n c X p) 0 p
theorem ju_b2(n:Nat)(c:Nat->Int)(X:Nat->Nat->Int)(k:Nat):B2 (ju n c X k):=Pr.cl_b2 _
end Mx
theorem djoin15_any(lo ho:Option Addr)(n cm hc:Nat)(A pl:Nat->Option Addr)(C pc:Nat->Nat)(X:Nat->Nat->Int)(P:Nat->Nat->Nat->Int)(c:Nat->Int)(w:World)
 (hl:Dst w lo n cm (fun k=> .slice (A k) 6 (C k)) (fun k=> .slice (pl k) 6 (pc k))) (hX: ∀ k,k<n->Sl w (A k) 6 (C k) (X k)) (hP: ∀ k,k<n->Grid w (pl k) 6 (pc k) 6 (P k)) (hs:Sl w ho n hc c)
 (bX: ∀ k,B64 (X k)) (bP: ∀ k,B2 (P k)) (bc:B64 c) (h1:0<n) (h4:n<=4):
 Calls Tryz.prog 52 #[.slice lo n cm, .slice ho n hc] w fun e w'=> ∃ xo xc po pm,e= .returned (.tuple #[.agg #[.slice xo 6 xc, .slice po 6 pm], .bool (jO n c X P)])/\JoinR w w' (jX n c X) (jP n c X P) xo xc po pm:=by
 have r0:=crow_new w 60 [.slice none 0 0, .slice none 0 0];have B0:=below_al (Below.refl _ w) (.cells [.slice none 0 0, .slice none 0 0].toArray 60);obtain⟨W,hW⟩: ∃ W,W=w.alloc (.cells [.slice none 0 0, .slice none 0 0].toArray 60):=⟨_,rfl⟩;rw [← hW] at r0 B0;have lW:w.heap.size<W.heap.size:=CRow.lt r0
 have J1:Hid (∀ lo cm W,Grid W lo n cm 6 X->Sl W ho n hc c->Calls Tryz.prog 114 #[.slice lo n cm, .slice ho n hc] W fun e w'=> ∃ co cc,e= .returned (.tuple #[.slice co 6 cc, .bool (jXo n c X)])/\Own W.heap.size W w' (.slice co 6 cc) 6 (jX n c X)):=by
  rintro lo cm W ⟨A,C,h,hz⟩ hh;exact rjoin_own 6 lo ho n cm hc A C X c W h hz om1 h1 h4 hh bX bc
 have J2:Hid (∀ r lo cm W,Grid W lo n cm 6 (fun k=>jm n c X P k r)->Sl W ho n hc c->Calls Tryz.prog 114 #[.slice lo n cm, .slice ho n hc] W fun e w'=> ∃ co cc,e= .returned (.tuple #[.slice co 6 cc, .bool (jao n c X P r)])/\Own W.heap.size W w' (.slice co 6 cc) 6 (ja n c X P r)):=by
  rintro r lo cm W ⟨A,C,h,hz⟩ hh;exact rjoin_own 6 lo ho n cm hc A C (fun k=>jm n c X P k r) c W h hz om1 h1 h4 hh (fun k=>jm_b2 n c X P k r) bc
 have HA:Hid (∀ k xo xc W,Sl W (A k) 6 (C k) (X k)->Sl W xo 6 xc (jX n c X)->Calls Tryz.prog 115 #[.slice (A k) 6 (C k), .slice xo 6 xc, .bool true] W fun e w'=> ∃ co cc,e= .returned (.tuple #[.slice co 6 cc, .bool (jdo n c X k)])/\Sl w' co 6 cc (jd n c X k)/\Below W.heap.size W w'):=
  fun k xo xc W h h'=>radd_yes 6 (C k) xc (A k) xo (X k) (jX n c X) W om1 h h' (bX k) (jX_b64 n c X)
 have HO:Hid (∀ k d dc W,Sl W d 6 dc (jd n c X k)->Calls Tryz.prog 116 #[.slice d 6 dc, .slice d 6 dc] W fun e w'=> ∃ lo cm,e= .returned (.tuple #[.slice lo 6 cm, .bool (juo n c X k)])/\Grid w' lo 6 cm 6 (ju n c X k)/\Below W.heap.size W w'):=
  fun k d dc W h=>router_any 6 6 dc dc d d (jd n c X k) (jd n c X k) W om1 om1 om1 om1 h h (jd_b64 n c X k) (jd_b64 n c X k)
 have HM:Hid (∀ k u uc W,Grid W (pl k) 6 (pc k) 6 (P k)->Grid W u 6 uc 6 (ju n c X k)->Calls Tryz.prog 103 #[.slice (pl k) 6 (pc k), .slice u 6 uc, .bool false] W fun e w'=> ∃ L' cm' G' C',e= .returned (.tuple #[.slice (some ⟨L',0,none⟩) 6 cm', .bool (jmo n c X P k)])/\RwcAt W.heap.size W w' L' cm' G' C' 6 6 (jm n c X P k)):=
  fun k u uc W h h'=>rmadd_own 6 6 (pc k) uc (pl k) u (P k) (ju n c X k) W om1 om1 om1 om1 h h' (bP k) (ju_b2 n c X k)
 have HE:Hid (∀ lo cm W,Grid W lo 6 cm 6 (ja n c X P)->Calls Tryz.prog 104 #[.slice lo 6 cm] W fun e w'=> ∃ L' cm' G' C',e= .returned (.tuple #[.slice (some ⟨L',0,none⟩) 6 cm', .bool (jeo n c X P)])/\RwcAt W.heap.size W w' L' cm' G' C' 6 6 (je n c X P)):=
  fun lo cm W h=>reven_own 6 cm lo (ja n c X P) W om1 om1 h (ja_b64 n c X P)
 have HP:Hid (∀ i j,i<6->Pr.nD (je n c X P) 6 i j=jP n c X P i j):=fun i j hi=>Pr.nD_end _ j hi
 have ST1:Hid (∀ k,(jXo n c X||jko n c X P (k+1))=((((jXo n c X||jko n c X P k)||jdo n c X k)||juo n c X k)||jmo n c X P k)):=fun k=>by
  show(jXo n c X||(jko n c X P k||(jdo n c X k||juo n c X k||jmo n c X P k)))=_;simp only [Bool.or_assoc]
 have ST0:Hid (jXo n c X=(jXo n c X||jko n c X P 0)):=by show jXo n c X=(jXo n c X||false);rw [Bool.or_false]
 have ST2:Hid (∀ r,(((jXo n c X||jko n c X P n)||anyb (jao n c X P) (r+1)))=(((jXo n c X||jko n c X P n)||anyb (jao n c X P) r)||jao n c X P r)):=fun r=>by
  show(_||(anyb (jao n c X P) r||jao n c X P r))=_;rw [← Bool.or_assoc]
 have SJ:Hid (jO n c X P=(((jXo n c X||jko n c X P n)||anyb (jao n c X P) 6)||jeo n c X P)):=rfl;obtain⟨jo,hjo⟩: ∃ b,b=jO n c X P:=⟨_,rfl⟩;rw [← hjo] at SJ ⊢;clear hjo;obtain⟨JX,hJX⟩: ∃ f,f=jX n c X:=⟨_,rfl⟩;rw [← hJX] at J1 HA ⊢;clear hJX;obtain⟨JP,hJP⟩: ∃ f,f=jP n c X P:=⟨_,rfl⟩;rw [← hJP] at HP ⊢;clear hJP;obtain⟨E,hE⟩: ∃ f,f=je n c X P:=⟨_,rfl⟩;rw [← hE] at HE HP;clear hE;obtain⟨JA,hJA⟩: ∃ f,f=ja n c X P:=⟨_,rfl⟩;rw [← hJA] at HE J2;clear hJA;obtain⟨JM,hJM⟩: ∃ f,f=jm n c X P:=⟨_,rfl⟩;rw [← hJM] at J2 HM;clear hJM;obtain⟨JU,hJU⟩: ∃ f,f=ju n c X:=⟨_,rfl⟩;rw [← hJU] at HO HM;clear hJU;obtain⟨JD,hJD⟩: ∃ f,f=jd n c X:=⟨_,rfl⟩;rw [← hJD] at HA HO;clear hJD;obtain⟨bX0,hb0⟩: ∃ b,b=jXo n c X:=⟨_,rfl⟩;rw [← hb0] at J1 ST0 ST1 ST2 SJ;clear hb0;obtain⟨bK,hbK⟩: ∃ b,b=jko n c X P:=⟨_,rfl⟩;rw [← hbK] at ST0 ST1 ST2 SJ;clear hbK;obtain⟨b1,hb1⟩: ∃ b,b=jdo n c X:=⟨_,rfl⟩;rw [← hb1] at ST1 HA;clear hb1;obtain⟨b2,hb2⟩: ∃ b,b=juo n c X:=⟨_,rfl⟩;rw [← hb2] at ST1 HO;clear hb2;obtain⟨b3,hb3⟩: ∃ b,b=jmo n c X P:=⟨_,rfl⟩;rw [← hb3] at ST1 HM;clear hb3;obtain⟨b4,hb4⟩: ∃ b,b=jao n c X P:=⟨_,rfl⟩;rw [← hb4] at ST2 SJ J2;clear hb4;obtain⟨b5,hb5⟩: ∃ b,b=jeo n c X P:=⟨_,rfl⟩;rw [← hb5] at SJ HE;clear hb5;have l1:=hl.le;have l2:=hl.cap;have l3:=hs.le;have l4:=hs.cap;obtain⟨x,hlo,hcl⟩:=hl.get;obtain rfl:=hlo h1;have HCL:=hideC fun W' (k:Below w.heap.size w W') i (hi:i<n)=>(⟨keep_cell k (hcl i hi).1,keep_cell k (hcl i hi).2⟩:W'.cell? (x.add (i*2))=some (.slice (A i) 6 (C i))/\W'.cell? ((x.add (i*2)).add 1)=some (.slice (pl i) 6 (pc i)));have HX:=hideC hX;have HPl:=hideC hP;have HS:=hideC hs;have HW:=hideC hW;clear hl hlo hcl hX hP hs hW bX bP bc;go_enter Tryz.func52,Tryz.ntmps52
 go_wp2_with (first|(rw [← HW.out])|fail)
 go_loopw [6,7] (fun xs i wr=> ∃ k:Nat,k<=n/\i= .int .i64 (k:Int)/\Els 27 1 W.heap.size W wr xs k (RowR 6 X)) (fun _ i _=>n- (intOf i).toNat)
 case atStart=>exact⟨0,om1,rfl,Els.nil (Below.refl _ _) (Nat.le_refl _) _ _ _⟩
 case round=>
  rename World=>wr;obtain⟨k,hk,rfl,hL⟩:=hrel;by_cases hkn:k<n
  ·have c0:=(HCL.out wr (below_tr B0 hL.below) k hkn).1;have HR:=hideC (fun W' (r:El.Rest _ wr W')=>(⟨_,_,rfl,(hL.elder r).slN ((HX.out k hkn).keep B0)⟩:RowR 6 X k [.slice (A k) 6 (C k)] W'));have HL:=hideC hL;have kn:(k:Int)<n:=om1;obtain⟨u,hu⟩: ∃ q,q=A k:=⟨_,rfl⟩;obtain⟨cu,hcu⟩: ∃ q,q=C k:=⟨_,rfl⟩;rw [← hu,← hcu] at c0 HR;clear hu hcu hL;go_wp2_with (at_builtin;refine El.push rl1 (.tmp 33) (.tmp 39) 23 27 1 24 (.slice none 0 0) rl1 Tryz.underlying23 infoSl rfl (by decide) (by decide) W.heap.size W _ k (RowR 6 X) rl1 HL.out om1 [.slice u 6 cu] rfl (one1 _ _ _) HR.out rl1 ?_)
   intro v' w' hL';go_wp2;go_roundw
   case rel=>exact⟨k+1,om1,by go_num,hL'⟩
   case measure=>simp [intOf];omega
  ·obtain rfl:n=k:=om1;obtain⟨xl,xm,rfl,hg⟩:=hL.grid;have HB:=hideC hL.below;have HG:=hideC hg;clear hL hg;go_wp2_with fail
   refine(J1.out _ _ _ HG.out ((HS.out.keep B0).keep HB.out)).mono ?_;rintro e w2 ⟨xo,xc,rfl,ox⟩;have KX:=below_tr HB.out ox.below;have r2:=CRow.keep r0 KX;have FX:=hideC (El.Own.free' ox);have lwr:W.heap.size<=wr.heap.size:=HB.out.size;have B2:=below_tr B0 KX;have HSX:=hideC (Free.self FX.out);clear ox KX HB HG J1 r0;go_wp2;go_loopw [9,10,11] (fun an ms i ws=> ∃ k:Nat,k<=n/\i= .int .i64 (k:Int)/\an= .bool (bX0||bK k)/\Els 23 1 w2.heap.size w2 ws ms k (GridR 6 6 JM)) (fun _ _ i _=>n- (intOf i).toNat)
   case atStart=>exact⟨0,om1,rfl,by rw [← ST0.out],Els.nil (Below.refl _ _) (Nat.le_refl _) _ _ _⟩
   case round=>
    rename World=>ws;obtain⟨k,hk,rfl,rfl,hL⟩:=hrel;have K2:=hL.below;by_cases hkn:k<n
    ·obtain⟨c0,c1⟩:=HCL.out ws (below_tr B2 K2) k hkn;have C1:=hideC (HA.out k xo xc ws ((HX.out k hkn).keep (below_tr B2 K2)) (HSX.out.keep K2));have C2:=hideC (HO.out k);have C3:=hideC (fun W' (q:Below ws.heap.size ws W') u uc=>HM.out k u uc W' ((HPl.out k hkn).keep (below_tr (below_tr B2 K2) q)));have S1:=hideC (ST1.out k);have HL:=hideC hL;have kn:(k:Int)<n:=om1;obtain⟨T,hT⟩: ∃ T,T=(bX0||bK k):=⟨_,rfl⟩;obtain⟨o1,ho1⟩: ∃ T,T=b1 k:=⟨_,rfl⟩;obtain⟨o2,ho2⟩: ∃ T,T=b2 k:=⟨_,rfl⟩;obtain⟨o3,ho3⟩: ∃ T,T=b3 k:=⟨_,rfl⟩;rw [← hT,← ho1,← ho2,← ho3] at S1;rw [← ho1] at C1;rw [← ho2] at C2;rw [← ho3] at C3;rw [← hT];obtain⟨u,hu⟩: ∃ q,q=A k:=⟨_,rfl⟩;obtain⟨cu,hcu⟩: ∃ q,q=C k:=⟨_,rfl⟩;obtain⟨pu,hpu⟩: ∃ q,q=pl k:=⟨_,rfl⟩;obtain⟨pcu,hpcu⟩: ∃ q,q=pc k:=⟨_,rfl⟩;rw [← hu,← hcu] at c0 C1;rw [← hpu,← hpcu] at c1 C3;clear hu hcu hpu hpcu hT ho1 ho2 ho3 hL;go_wp2_with fail
     refine(C1.out).mono ?_;rintro e w3 ⟨d,dc,rfl,sd,k3⟩;have c1':=keep_cell k3 c1;clear C1;go_wp2_with fail
     refine(C2.out _ _ _ sd).mono ?_;rintro e w4 ⟨uo,uc,rfl,gu,k4⟩;have c1'':w4.cell? { block:=(x.add (k*2)).block,off:=(x.add (k*2)).off+1 }=some (.slice pu 6 pcu):=keep_cell k4 c1';have k34:=below_tr k3 k4;clear C2 c1 c1' c0 sd k3 k4;go_wp2_with fail
     refine(C3.out _ k34 _ _ gu).mono ?_;rintro e w5 ⟨L',cm',G',C',rfl,hR⟩;have HL4:=hideC (HL.out.keep k34);have HL5:=hideC (HL4.out.keep hR.below);have HR:=hideC (fun W' (r:El.Rest _ w5 W')=>(⟨_,_,rfl,HL4.out.free (El.RwcAt.free' hR) r⟩:GridR 6 6 JM k [.slice (some ⟨L',0,none⟩) 6 cm'] W'));clear C3 gu c1'' hR HL k34 HL4;go_wp2_with (at_builtin;refine El.push rl1 (.tmp 79) (.tmp 81) 216 23 1 24 (.slice none 0 0) rl1 Tryz.underlying216 infoG rfl (by decide) (by decide) w2.heap.size w2 _ k (GridR 6 6 JM) rl1 HL5.out om1 [.slice (some ⟨L',0,none⟩) 6 cm'] rfl (one1 _ _ _) HR.out rl1 ?_)
     intro v' w' hL';cases T<;>cases o1<;>cases o2
     all_goals go_wp2
     all_goals go_roundw
     all_goals first
      |(simp [intOf];omega)
      |exact⟨k+1,om1,by go_num,by rw [S1.out];first|rfl|simp,hL'⟩
    ·obtain rfl:n=k:=om1;obtain⟨mg,mcap,S,rfl,m1,m2,m3,m4,m5,_⟩:=hL.at h1
     have HMS:Hid (∀ i,i<n-> ∃ lo cm,ws.cell? ⟨mg,i,none⟩=some (.slice lo 6 cm)/\Grid ws lo 6 cm 6 (JM i)):=fun i hi=>by
      obtain⟨_,⟨lo,cm,e1,hg⟩,hc⟩:=m5 i hi;have:=hc 0 (.slice lo 6 cm) (by rw [e1];rfl);exact⟨lo,cm,by simpa using this,hg⟩
     have B3:=below_tr B2 K2;have r3:=CRow.keep r2 K2;have FX3:=hideC (FX.out.keep K2);have ST2':=hideC (ST2.out);obtain⟨T2,hT2⟩: ∃ T,T=(bX0||bK n):=⟨_,rfl⟩;rw [← hT2] at ST2' SJ;rw [← hT2];clear hT2 ST2 hL m5 r2 B2 FX HSX ST1 ST0 HA HO HM HX HPl HCL K2;go_wp2;go_loopw [9,18,19] (fun an al r wo=> ∃ k:Nat,k<=6/\r= .int .i64 (k:Int)/\an= .bool (T2||anyb b4 k)/\Els 27 1 ws.heap.size ws wo al k (RowR 6 JA)) (fun _ _ r _=>6- (intOf r).toNat)
     case atStart=>exact⟨0,om1,rfl,by show _=Value.bool (T2||false);rw [Bool.or_false],Els.nil (Below.refl _ _) (Nat.le_refl _) _ _ _⟩
     case round=>
      rename World=>wo;obtain⟨r,hr,rfl,rfl,hL⟩:=hrel;have S2:=hideC (ST2'.out r);obtain⟨T,hT⟩: ∃ T,T=(T2||anyb b4 r):=⟨_,rfl⟩;by_cases h6:r<6
      ·have C2:=hideC (J2.out r);obtain⟨o4,ho4⟩: ∃ T,T=b4 r:=⟨_,rfl⟩;rw [← hT,← ho4] at S2;rw [← ho4] at C2;rw [← hT];clear hT ho4;have r6:(r:Int)<6:=om1;go_wp2;go_loopw [20,21] (fun rs i wi=> ∃ t:Nat,t<=n/\i= .int .i64 (t:Int)/\Els 27 1 wo.heap.size wo wi rs t (RowR 6 (fun k=>JM k r))) (fun _ i _=>n- (intOf i).toNat)
       case atStart=>exact⟨0,om1,rfl,Els.nil (Below.refl _ _) (Nat.le_refl _) _ _ _⟩
       case round=>
        rename World=>wi;obtain⟨t,ht,rfl,hI⟩:=hrel;by_cases htn:t<n
        ·obtain⟨gl,gc,cg,hg⟩:=HMS.out t htn;have cg':=keep_cell (below_tr hL.below hI.below) cg;obtain⟨A',C',hA',hz'⟩:=hg.keep hL.below;obtain⟨y,hy,hyc⟩:=hA'.get;obtain rfl:=hy om1;have l5:=hA'.le;have l6:=hA'.cap;have c1:=keep_cell hI.below (hyc r h6);have HR:=hideC (fun W' (q:El.Rest _ wi W')=>(⟨_,_,rfl,(hI.elder q).slN (hz' r h6)⟩:RowR 6 (fun k=>JM k r) t [.slice (A' r) 6 (C' r)] W'));have HI:=hideC hI;have tn:(t:Int)<n:=om1;obtain⟨u,hu⟩: ∃ q,q=A' r:=⟨_,rfl⟩;obtain⟨cu,hcu⟩: ∃ q,q=C' r:=⟨_,rfl⟩;rw [← hu,← hcu] at c1 HR;clear hu hcu hI cg hg hA' hz' hy hyc;go_wp2_with (at_builtin;refine El.push rl1 (.tmp 103) (.tmp 111) 23 27 1 24 (.slice none 0 0) rl1 Tryz.underlying23 infoSl rfl (by decide) (by decide) wo.heap.size wo _ t (RowR 6 (fun k=>JM k r)) rl1 HI.out om1 [.slice u 6 cu] rfl (one1 _ _ _) HR.out rl1 ?_)
         intro v' w' hI';go_wp2;go_roundw
         case rel=>exact⟨t+1,om1,by go_num,hI'⟩
         case measure=>simp [intOf];omega
        ·obtain rfl:n=t:=om1;obtain⟨rl,rm,rfl,hg⟩:=hI.grid;have HLi:=hideC (hL.keep hI.below);have C3:=hideC (C2.out rl rm wi hg (HS.out.keep (below_tr B3 (below_tr hL.below hI.below))));have HL:=hideC hL;clear hg hI C2 hL;go_wp2_with fail
         refine(C3.out).mono ?_;rintro e w6 ⟨co,cc,rfl,oc⟩;have HL6:=hideC (HLi.out.keep oc.below);have HR:=hideC (fun W' (q:El.Rest _ w6 W')=>(⟨_,_,rfl,HLi.out.free (El.Own.free' oc) q⟩:RowR 6 JA r [.slice co 6 cc] W'));clear C3 oc HLi HL;go_wp2_with (at_builtin;refine El.push rl1 (.tmp 119) (.tmp 121) 23 27 1 24 (.slice none 0 0) rl1 Tryz.underlying23 infoSl rfl (by decide) (by decide) ws.heap.size ws _ r (RowR 6 JA) rl1 HL6.out om1 [.slice co 6 cc] rfl (one1 _ _ _) HR.out rl1 ?_)
         intro v' w' hL';cases T
         all_goals go_wp2
         all_goals go_roundw
         all_goals first
          |(simp [intOf];omega)
          |exact⟨r+1,om1,by go_num,by rw [S2.out];first|rfl|simp,hL'⟩
      ·obtain rfl:r=6:=om1;rw [← hT] at SJ;rw [← hT];obtain⟨al,am,rfl,hg⟩:=hL.grid;have C2:=hideC (HE.out al am wo hg);have KL:=hL.below;have B4:=below_tr B3 KL;have r4:=CRow.keep r3 KL;have FX4:=hideC (FX3.out.keep KL);have ls:=CRow.lt r4;have lo':=KL.size;clear hT S2 hg hL J2 HE HMS KL B3 r3 FX3;go_wp2_with fail
       refine(C2.out).mono ?_;rintro e w7 ⟨L,lm,G,Cc,rfl,hR⟩;have R6:=hR.congr (F':=Pr.nD E 0) (fun i j _ _=>Pr.nD_zero E i j);have capL:=hR.cap;have capL2:=hR.cap2;clear hR C2;go_wp2;go_loopw [26] (fun v wz=> ∃ k:Nat,k<=6/\v= .int .i64 (k:Int)/\RwcAt wo.heap.size wo wz L lm G Cc 6 6 (Pr.nD E k)) (fun v _=>6- (intOf v).toNat)
       case atStart=>exact⟨0,om1,rfl,R6⟩
       case round=>
        rename World=>wz;obtain⟨k,hk,rfl,hO⟩:=hrel;by_cases h:k<6
        ·have l0:=hO.cellL h;have a0:=hO.cell h h;have fr:=hO.free h k;have s0:=hO.set h h 0;have rm:=hO.room k h;rw [Pr.nD_at] at a0;have k6':(k:Int)<6:=om1;obtain⟨g0,hg0⟩: ∃ g,g=G k:=⟨_,rfl⟩;obtain⟨ck,hck⟩: ∃ c,c=Cc k:=⟨_,rfl⟩;rw [← hg0] at l0 a0 fr s0;rw [← hck] at l0 rm;obtain⟨r6,r7⟩:=rm;by_cases hn:E k k<0
         ·have s1:=s0.congr (fun i j _ _=>Pr.nD_put E k hn i j);obtain⟨V,hV⟩: ∃ V,V=E k k:=⟨_,rfl⟩;rw [← hV] at a0 hn;clear s0 hO hg0 hck hV;go_wp2;go_roundw
          case rel=>exact⟨k+1,om1,by go_num,s1⟩
          case measure=>simp [intOf];omega
         ·have s1:=hO.congr (fun i j _ _=>Pr.nD_skip E k hn i j);obtain⟨V,hV⟩: ∃ V,V=E k k:=⟨_,rfl⟩;rw [← hV] at a0 hn;clear s0 hO hg0 hck hV;go_wp2;go_roundw
          case rel=>exact⟨k+1,om1,by go_num,s1⟩
          case measure=>simp [intOf];omega
        ·obtain rfl:k=6:=om1;have hZ:=hO.congr (fun i j hi hj=>HP.out i j hi);have rO:=CRow.keep r4 hO.below;have bO:=St.below_row (below_tr B4 hO.below) (Nat.le_refl w.heap.size) [.slice xo 6 xc, .slice (some ⟨L,0,none⟩) 6 lm].toArray;have FXz:=(((FX4.out.keep hO.below).row (g:=w.heap.size) om1 [.slice xo 6 xc, .slice (some ⟨L,0,none⟩) 6 lm].toArray).less (B':=w.heap.size) om1).and (((El.RwcAt.free' hZ).row (g:=w.heap.size) om1 [.slice xo 6 xc, .slice (some ⟨L,0,none⟩) 6 lm].toArray).less (B':=w.heap.size) om1);have rR:=CRow.row rO [.slice xo 6 xc, .slice (some ⟨L,0,none⟩) 6 lm];have HF:=hideC FXz;clear hO hZ FX4 FXz;cases T
         all_goals go_wp2_with (first
          |(refine St.wpList_store Pr.isRs rl1 _ _ rl1 _ [.slice none 0 0, .slice none 0 0] [.slice xo 6 xc, .slice (some ⟨L,0,none⟩) 6 lm] rl1 rl1 (by with_reducible exact rO) rfl rfl (one2s _ _ _ _ _ _) ?_)
          |fail)
         all_goals exact bodyPost_ret (results_2 Pr.isRs Tryz.results52 _ _ w.heap.size [.slice xo 6 xc, .slice (some ⟨L,0,none⟩) 6 lm] rfl rR rfl) rfl ⟨_,_,_,_,by rw [SJ.out];rfl,bO,HF.out⟩
end
section
open Go.RowKit Vc St Mt Dt Cn Mx El
attribute [local go_sem ↓] Go.wp_at_zero Go.wp_at_succ
namespace Mx
theorem hideD{p:Prop}(h:p):Hid p:=h
theorem results_tmp4{fn:Func}{t u v q:Tmp}(h:fn.results= #[.tmp t, .tmp u, .tmp v, .tmp q])(tmps:Array Value)(P:Program)(w:World):
 (results fn tmps).run P w= .ok (.tuple #[tmps.getD t undef,tmps.getD u undef,tmps.getD v undef,tmps.getD q undef]) w:=by
 simp [results,h]
theorem els_dst{t:TypeId}{B:Nat}{w0 w:World}{v:Value}{n:Nat}{X:Nat->Nat->Int}{P:Nat->Nat->Nat->Int}(h:Els t 2 B w0 w v n (StR X P)):
 ∃ lo cm,∃ (A pl:Nat->Option Addr) (C pc:Nat->Nat),v= .slice lo n cm/\Dst w lo n cm (fun k=> .slice (A k) 6 (C k)) (fun k=> .slice (pl k) 6 (pc k))/\ ∀ k,k<n->Sl w (A k) 6 (C k) (X k)/\Grid w (pl k) 6 (pc k) 6 (P k):=by
 rcases Nat.eq_zero_or_pos n with e|e
 · subst e;obtain⟨ao,ca,rfl,h1,h2⟩:=h.form;exact⟨ao,ca,fun _=>none,fun _=>none,fun _=>0,fun _=>0,rfl,⟨h1,h2,fun j hj=>by omega⟩,fun k hk=>by omega⟩
 · obtain⟨g,cap,S,rfl,h1,h2,_,_,h3,_⟩:=h.at e
   have key: ∀ k,k<n-> ∃ y:Option Addr×Nat×Option Addr×Nat,S k= [.slice y.1 6 y.2.1, .slice y.2.2.1 6 y.2.2.2]/\Sl w y.1 6 y.2.1 (X k)/\Grid w y.2.2.1 6 y.2.2.2 6 (P k):=fun k hk=>by
    obtain⟨a,c,l,m,e1,e2,e3⟩:=(h3 k hk).2.1;exact⟨(a,c,l,m),e1,e2,e3⟩
   refine⟨some ⟨g,0,none⟩,cap,fun k=>if h:k<n then(key k h).choose.1 else none,fun k=>if h:k<n then(key k h).choose.2.2.1 else none,fun k=>if h:k<n then(key k h).choose.2.1 else 0,fun k=>if h:k<n then(key k h).choose.2.2.2 else 0,rfl,⟨h1,h2,fun k hk=>⟨_,rfl, ?_⟩⟩,fun k hk=> ?_⟩
   · have e1:=(key k hk).choose_spec.1;simp only [dif_pos hk];refine⟨?_, ?_⟩
     · have:=(h3 k hk).2.2 0 _ (by rw [e1];rfl);rw [Addr.add_lit,Nat.zero_add];exact this
     · have:=(h3 k hk).2.2 1 _ (by rw [e1];rfl);rw [Addr.add_lit,Addr.add_lit,Nat.zero_add];exact this
   · simp only [dif_pos hk];exact(key k hk).choose_spec.2
def AllR(w w':World)(n:Nat)(c:Nat->Int)(R:Nat->Nat->Int)(X:Nat->Nat->Int)(P:Nat->Nat->Nat->Int)(vo:Option Addr)(vm:Nat)(no:Option Addr)(nc:Nat):Prop:=
 (∃ (A pl:Nat->Option Addr) (C pc:Nat->Nat),Dst w' vo n vm (fun k=> .slice (A k) 6 (C k)) (fun k=> .slice (pl k) 6 (pc k))/\ ∀ k,k<n->Sl w' (A k) 6 (C k) (jX n (shr n c R k) X)/\Grid w' (pl k) 6 (pc k) 6 (jP n (shr n c R k) X P))/\
   Sl w' no n nc (sh 1073741824 (mxw n c R) n)/\Below w.heap.size w w'
end Mx
theorem dall15_yes(lo ho ro:Option Addr)(n cm hc m rm:Nat)(A pl:Nat->Option Addr)(C pc:Nat->Nat)(X:Nat->Nat->Int)(P:Nat->Nat->Nat->Int)(c:Nat->Int)(Ar:Nat->Option Addr)(Lr Cr:Nat->Nat)(R:Nat->Nat->Int)(w:World)
 (hl:Dst w lo n cm (fun k=> .slice (A k) 6 (C k)) (fun k=> .slice (pl k) 6 (pc k))) (hX: ∀ k,k<n->Sl w (A k) 6 (C k) (X k)) (hP: ∀ k,k<n->Grid w (pl k) 6 (pc k) 6 (P k)) (hs:Sl w ho n hc c)
 (bX: ∀ k,B64 (X k)) (bP: ∀ k,B2 (P k)) (bc:B64 c) (hr:Sls w ro m rm Ar Lr Cr) (hrr: ∀ i,i<m->Sl w (Ar i) (Lr i) (Cr i) (R i)) (bR: ∀ i,B64 (R i))
 (hM: ∀ W,Below w.heap.size w W->Calls Tryz.prog 17 #[.slice lo n cm, .slice ho n hc] W fun e w'=>e= .returned (.bool true)/\Below W.heap.size W w') (hm:MayX n c m Lr R):
 Calls Tryz.prog 40 #[.slice lo n cm, .slice ho n hc, .slice ro m rm] w fun e w'=> ∃ vo vm no nc,e= .returned (.tuple #[.slice vo n vm, .slice no n nc, .bool (aO n c R X P), .int .i64 0])/\AllR w w' n c R X P vo vm no nc:=by
 have HD:=hideD (dmix14_any ho ro n hc m rm c Ar Lr Cr R w hs bc hr hrr bR);have HM:=hideD hM;have n1:=hm.ch.one;have n4:=hm.ch.four;have l1:=hl.le;have l2:=hl.cap;have l3:=hs.le;have l4:=hs.cap;have HSh:=hideD (fun W (k:Below w.heap.size w W) t (ht:t<n)=>dshares15_any ho ro n hc m rm c Ar Lr Cr R (t:Int) W (hs.keep k) bc (hr.keep k) (fun i hi=>(hrr i hi).keep k) bR om1 om1);have HJ:=hideD (fun W (k:Below w.heap.size w W) t (ht:t<n) so sc (h:Sl W so n sc (shr n c R t))=>djoin15_any lo so n cm sc A pl C pc X P (shr n c R t) W (hl.keep k) (fun k' hk=>(hX k' hk).keep k) (fun k' hk=>(hP k' hk).keep k) h bX bP (shr_b64 hm ht) om1 n4);have HX:=hideD hm;have HAO:Hid (aO n c R X P=anyb (fun t=>jO n (shr n c R t) X P) n):=rfl;obtain⟨ao,hao⟩: ∃ b,b=aO n c R X P:=⟨_,rfl⟩;rw [← hao] at HAO ⊢;obtain⟨JO,hJO⟩: ∃ f:Nat->Bool,f=fun t=>jO n (shr n c R t) X P:=⟨_,rfl⟩
 have HJ':Hid (∀ W,Below w.heap.size w W-> ∀ t,t<n-> ∀ so sc,Sl W so n sc (shr n c R t)->Calls Tryz.prog 52 #[.slice lo n cm, .slice so n sc] W fun e w'=> ∃ xo xc po pm,e= .returned (.tuple #[.agg #[.slice xo 6 xc, .slice po 6 pm], .bool (JO t)])/\JoinR W w' (jX n (shr n c R t) X) (jP n (shr n c R t) X P) xo xc po pm):=by
  rw [hJO];exact HJ.out
 rw [← hJO] at HAO;clear hao hJO HJ hl hX hP hs bX bP bc hr hrr bR hM hm;go_enter Tryz.func40,Tryz.ntmps40
 go_wp2_with fail
 refine(HD.out).mono ?_;rintro e w1 ⟨v,er,rfl,⟨q,_⟩|⟨_,rfl,ow⟩⟩
 ·exact absurd HX.out q
 obtain⟨no,nc,rfl,sn⟩:=ow.sl;have k1:=ow.below;have C1:=hideD (HM.out _ k1);clear HM HD ow;go_wp2_with fail
 refine(C1.out).mono ?_;rintro e w2 ⟨rfl,k2⟩;have HS2:=hideD (sn.keep k2);have B2:=below_tr k1 k2;clear C1 k1 k2 sn;go_wp2;go_loopw [12,13,14] (fun out an i ws=> ∃ k:Nat,k<=n/\i= .int .i64 (k:Int)/\an= .bool (anyb JO k)/\Els 60 2 w2.heap.size w2 ws out k (StR (fun t=>jX n (shr n c R t) X) (fun t=>jP n (shr n c R t) X P))) (fun _ _ i _=>n- (intOf i).toNat)
 case atStart=>exact⟨0,om1,rfl,rfl,Els.nil (Below.refl _ _) (Nat.le_refl _) _ _ _⟩
 case round=>
  rename World=>ws;obtain⟨k,hk,rfl,rfl,hL⟩:=hrel;have KB:=below_tr B2 hL.below;by_cases hkn:k<n
  ·have S1:Hid (anyb JO (k+1)=(anyb JO k||JO k)):=rfl;have C1:=hideD (HSh.out ws KB k hkn);have C2:=hideD (fun W (q:Below ws.heap.size ws W)=>HJ'.out W (below_tr KB q) k hkn);obtain⟨T,hT⟩: ∃ T,T=anyb JO k:=⟨_,rfl⟩;obtain⟨o,ho'⟩: ∃ T,T=JO k:=⟨_,rfl⟩;rw [← hT,← ho'] at S1;rw [← ho'] at C2;rw [← hT];have HL:=hideD hL;have kn:(k:Int)<n:=om1;clear hT ho' hL KB;go_wp2_with fail
   refine(C1.out).mono ?_;rintro e w3 ⟨v,er,rfl,⟨q,_⟩|⟨_,_,_,rfl,ow⟩⟩
   ·exact absurd ⟨HX.out,om1,om1⟩ q
   rw [Int.toNat_natCast] at ow;obtain⟨so,sc,rfl,ss⟩:=ow.sl;have k3:=ow.below;have HL3:=hideD (HL.out.keep k3);have C3:=hideD (C2.out w3 k3 so sc ss);clear C1 C2 ow ss HL;go_wp2_with fail
   refine(C3.out).mono ?_;rintro e w4 ⟨xo,xc,po,pm,rfl,hB,hF⟩;have HF:=hideD hF;clear C3 hF
   go_wp2_with (first
    |((with_reducible show wpList _ _ _ _ _ _);refine St.wpList_storeNew Pr.isRs rfl _ _ rl1 _ [.slice none 0 0, .slice none 0 0] [.slice xo 6 xc, .slice po 6 pm] rl1 rl1 rfl rfl (one2s _ _ _ _ _ _) ?_)
    |fail)
   intro w5 r5 k5;have HL5:=hideD (HL3.out.keep (below_tr hB k5));have HR:=hideD (fun W' (q:El.Rest _ w5 W')=>(⟨_,_,_,_,rfl,HL3.out.free (HF.out.keep k5) q⟩:StR (fun t=>jX n (shr n c R t) X) (fun t=>jP n (shr n c R t) X P) k [.slice xo 6 xc, .slice po 6 pm] W'));clear HL3 HF hB k5
   go_wp2_with (first
    |((with_reducible show wpList _ _ _ _ _ _);refine St.wpList_load Pr.isRs rl1 _ rl1 _ _ rl1 (by with_reducible exact r5) rfl ?_)
    |(at_builtin;refine El.push rl1 (.tmp 52) (.tmp 54) 26 60 2 48 (.agg #[.slice none 0 0, .slice none 0 0]) rl1 Tryz.underlying26 infoS2 rfl (by decide) (by decide) w2.heap.size w2 _ k _ rl1 HL5.out om1 [.slice xo 6 xc, .slice po 6 pm] rfl (one2s _ _ _ _ _ _) HR.out rl1 ?_)
    |fail)
   intro v' w' hL';cases T
   all_goals go_wp2
   all_goals go_roundw
   all_goals first
    |(simp [intOf];omega)
    |exact⟨k+1,om1,by go_num,by rw [S1.out];first|rfl|simp,hL'⟩
  ·obtain rfl:n=k:=om1;obtain⟨vo,vm,A',pl',C',pc',rfl,hD,hE⟩:=els_dst hL;have HR:=hideD (⟨⟨A',pl',C',pc',hD,hE⟩,HS2.out.keep hL.below,KB⟩:AllR w ws n c R X P vo vm no nc);rw [← HAO.out];clear hD hE hL KB HS2;go_wp2;refine bodyPost_ret (results_tmp4 rfl _ _ _) rfl ?_;exact⟨_,_,_,_,rfl,HR.out⟩
end
end Go.Proofs.YtcefcokpjbebhaaGreatDoor
