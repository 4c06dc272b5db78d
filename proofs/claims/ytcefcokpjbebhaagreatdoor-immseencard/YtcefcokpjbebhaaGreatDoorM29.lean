/-
  The document's answer of layer 14 (radomeref14): a whole number by shares.
-/
import Derived.Test.YtcefcokpjbebhaaGreatDoorM26
import Derived.Test.YtcefcokpjbebhaaGreatDoorRegM
import Derived.Test.YtcefcokpjbebhaaGreatDoorM28
import Derived.Test.YtcefcokpjbebhaaGreatDoorM9
set_option linter.unusedSimpArgs false
set_option linter.unusedVariables false
set_option maxHeartbeats 8000000
set_option maxRecDepth 20000
namespace Go.Proofs.YtcefcokpjbebhaaGreatDoor
section
open Go.RowKit Dec Nv Vc St Ld Nu
attribute [local go_sem ↓] Go.wp_at_zero Go.wp_at_succ
namespace Cn
theorem hide{p:Prop}(h:p):Hid p:=h
theorem XV{a:Nat->Int}{M:Int}: ∀ {n:Nat},(∀ k,k<n->0<=a k/\a k<=M)->0<=tot a n/\tot a n<=M*n
 |0,_=>by show(0:Int)<=0/\(0:Int)<=M*0;omega
 |n+1,h=>by
  have h1:=XV (n:=n) (fun k hk=>h k om1)
  have h2:=h n om1
  show 0<=tot a n+a n/\tot a n+a n<=M*((n:Int)+1)
  rw [Int.mul_add,Int.mul_one];omega
theorem XW{a:Nat->Int}: ∀ {n k:Nat},(∀ j,j<n->0<=a j)->k<=n->tot a k<=tot a n
 |0,k,_,h=>by(obtain rfl:k=0:=by omega);exact Int.le_refl _
 |n+1,k,h0,h=>by
  by_cases e:k=n+1
  · rw [e];exact Int.le_refl _
  · have h1:=XW (n:=n) (k:=k) (fun j hj=>h0 j om1) om1
    have h2:=h0 n om1
    show tot a k<=tot a n+a n;omega
theorem XX{z:Int}(h:z.natAbs<10^100):(bZ z.natAbs).length<=900000:=by
 have:=bH h;omega
theorem Wi{n:Nat}{o c:Nat->Int}(hc: ∀ i,i<n->0<=c i){t:Nat}(ht:t<n):0<=bst (give n o c t).2 n/\(bst (give n o c t).2 n).toNat<n:=by
 obtain⟨h1,h2,_⟩:=pq (o:=o) hc t om1;rcases vJ (give n o c t).2 n with⟨b1,b2⟩|⟨b1,b2,_,_⟩
 · exfalso
   have all:tot (got n o c t) n=n:=by
    rw [iC (b:=fun _=>1) (fun k hk=> ?_),jc];simp;unfold got;rw [if_pos];rcases h2 k hk with⟨e,_⟩|⟨e,_⟩
    · have:=hc k hk;have:=b2 k hk;omega
    · exact e
   omega
 · exact⟨b1,b2⟩
theorem aap{n:Nat}{o c:Nat->Int}{M S:Int}(hc: ∀ i,i<n->0<=c i/\c i<=S)(ho: ∀ i,i<n->0<=o i/\o i<=M)(hS:0<=S){t:Nat}(ht:t<=n){i:Nat}(hi:i<n):
 0<=(give n o c t).1 i/\(give n o c t).1 i<=M+1/\ -1<=(give n o c t).2 i/\(give n o c t).2 i<=S:=by
 have h1:=hc i hi;have h2:=ho i hi;rcases(pq (o:=o) (fun i hi=>(hc i hi).1) t ht).2.1 i hi with⟨e1,e2⟩|⟨e1,e2⟩<;>rw [e1,e2]<;>omega
theorem TN{n:Nat}{o c:Nat->Int}{t b:Nat}(hb:bst (give n o c t).2 n=(b:Int)):
 (fun k=>if k=b then(give n o c t).1 b+1 else(give n o c t).1 k)=(give n o c (t+1)).1/\(fun k=>if k=b then(-1:Int) else(give n o c t).2 k)=(give n o c (t+1)).2:=by
 have u:give n o c (t+1)=if bst (give n o c t).2 n<0 then give n o c t else
  (fun i=>if i=(bst (give n o c t).2 n).toNat then(give n o c t).1 i+1 else(give n o c t).1 i,fun i=>if i=(bst (give n o c t).2 n).toNat then-1 else(give n o c t).2 i):=rfl
 rw [u,if_neg om1,hb,Int.toNat_natCast];refine⟨funext fun k=> ?_,rfl⟩;by_cases e:k=b
 · subst e;rw [if_pos rfl];show _=if k=k then _ else _;rw [if_pos rfl]
 · rw [if_neg e];show _=if k=b then _ else _;rw [if_neg e]
theorem TP{C:Nat->Int}{k:Nat}(h1:0<=C k)(h2:bst C k<0\/C (bst C k).toNat<C k):bst C (k+1)=(k:Int):=if_pos ⟨h1,h2⟩
theorem XY{C:Nat->Int}{k:Nat}(h: ¬(0<=C k/\(bst C k<0\/C (bst C k).toNat<C k))):bst C (k+1)=bst C k:=if_neg h
theorem bst_lt{C:Nat->Int}{k:Nat}(h:0<=bst C k):(bst C k).toNat<k:=by
 rcases vJ C k with⟨e,_⟩|⟨_,e,_⟩
 · omega
 · exact e
theorem bst_lo(C:Nat->Int)(k:Nat): -1<=bst C k/\bst C k<k:=by
 rcases vJ C k with⟨e,_⟩|⟨e1,e,_⟩<;>omega
theorem FV{w:World}{B B':Nat}{e:TypeId}{s:Nat}{v:Value}{n:Nat}{xs:List Value}(h:w.ownsRow B e s v n xs)(hb:B'<=B):w.ownsRow B' e s v n xs:=
 ⟨h.1,h.2.imp id (fun⟨g,cap,cur,h1,h2,h3⟩=>⟨g,cap,cur,h1,Nat.le_trans hb h2,h3⟩)⟩
theorem uj(z:Int):(z<0/\z.sign= -1)\/(z=0/\z.sign=0)\/(0<z/\z.sign=1):=by
 rcases Int.lt_trichotomy z 0 with h|h|h
 · exact Or.inl ⟨h,Int.sign_eq_neg_one_of_neg h⟩
 · exact Or.inr (Or.inl ⟨h,by rw [h];rfl⟩)
 · exact Or.inr (Or.inr ⟨h,Int.sign_eq_one_of_pos h⟩)
end Cn
open Cn
theorem BX(m:Int)(g n cap:Nat)(a:Nat->Int)(w:World)(hl:Nu.At w g n cap a)(hn:n<=4)(hm0:0<=m)(hm1:m<=1073741824)(ha: ∀ k,k<n->0<=a k/\a k<=4611686018427387904)(hS:0<tot a n):
 Calls Tryz.prog 142 #[.int .i64 m, .slice (some ⟨g,0,none⟩) n cap] w fun e w'=> ∃ v,e= .returned v/\Own w.heap.size w w' v n (sh m a n):=by
 have HL:=hide hl;have l1:=hl.le;have l2:=hl.cap
 have HT:Hid (∀ k,k<=n->0<=tot a k/\tot a k<=18446744073709551616):=fun k hk=>by
  have h:=XV (a:=a) (M:=4611686018427387904) (n:=k) (fun j hj=>ha j om1);omega
 have HA:=hide ha;have HS0:=hide hS;clear hl ha hS;go_enter Tryz.func142,Tryz.ntmps142
 go_wp2_with (first
  |(refine St.aF isNum rfl _ _ rl1 _ [.bool false, .slice none 0 0] [.bool false, .slice none 0 0] rl1 rl1 rfl rfl (abj _ _ _ _) ?_;intro w1 n1 k1)
  |fail)
 have v1:Var w1 w.heap.size (tot a 0):=⟨none,0,0,n1,aan w1⟩;clear n1;go_loopw [6] (fun i wr=> ∃ k:Nat,k<=n/\i= .int .i64 (k:Int)/\Var wr w.heap.size (tot a k)/\Below w.heap.size w wr) (fun i _=>n- (intOf i).toNat)
 case atStart=>exact⟨0,om1,rfl,v1,k1⟩
 case round=>
  rename World=>wr;obtain⟨k,hk,rfl,vr,Br⟩:=hrel;by_cases h:k<n
  ·obtain⟨sp,sl,sc,cr,ci⟩:=vr;obtain⟨p,l,c,c0,c1,ei⟩:=(HL.out.keep Br).num k h;have bt:=HT.out k hk;have ba:=HA.out k h;have HD:=hide (fun W (h1:bY W (.agg #[.bool (decide (tot a k<0)), .slice sp sl sc]) (tot a k)) (h2:bY W (.agg #[.bool (decide (a k<0)), .slice p l c]) (a k))=>add_any _ _ (tot a k) (a k) W (AV om1) (AV om1) h1 h2);have HU:Hid (tot a (k+1)=tot a k+a k):=rfl;obtain⟨s0,hs0⟩: ∃ q,q=decide (tot a k<0):=⟨_,rfl⟩;obtain⟨s1,hs1⟩: ∃ q,q=decide (a k<0):=⟨_,rfl⟩;obtain⟨Tk,hTk⟩: ∃ q,q=tot a k:=⟨_,rfl⟩;obtain⟨ak,hak⟩: ∃ q,q=a k:=⟨_,rfl⟩;rw [← hs0] at cr ci HD;rw [← hs1] at c0 ei HD;rw [← hTk] at ci HD HU;rw [← hak] at ei HD HU;have HS:Hid (∀ V,Below wr.heap.size wr V->(ai V w.heap.size 190 [.bool s0, .slice sp sl sc]/\V.cell? ⟨g,k*2,none⟩=some (.bool s1)/\V.cell? ⟨g,k*2+1,none⟩=some (.slice p l c))):=fun V b=>⟨ai.keep cr b,ah b c0,ah b c1⟩;have D0:=Vc.az wr;have kn:(k:Int)<n:=om1;clear hs0 hs1 hTk hak c0 c1 bt ba;go_upto_region 5 with fail
   refine Ru.aS [6] (fun w'=>ai w' w.heap.size 190 [.bool s0, .slice sp sl sc]/\w'.cell? ⟨g,k*2,none⟩=some (.bool s1)/\w'.cell? ⟨g,k*2+1,none⟩=some (.slice p l c)) (by kernel_rfl) (HS.out _ D0) (fun hHeld=> ?_);refine Ru.tk 0 (.agg [.bool s0, .slice sp sl sc].toArray) rfl (Ru.fF isNum (by kernel_rfl) _ rl1 w.heap.size _ rl1 (fun w h=>h.1) rfl) hHeld ?_;refine Ru.tk3 1 (.slice (some ⟨g,0,none⟩) n cap) hHeld ?_;refine Ru.tk3 2 (.int .i64 (k:Int)) hHeld ?_;refine Ru.tk3 3 (.pointer (some ⟨g,k*2,none⟩)) hHeld ?_;refine Ru.tk 4 (.agg #[.bool s1, .slice p l c]) rfl (Nu.oJ (by kernel_rfl) _ rl1 g (k*2) _ _ rl1 (fun w h=>⟨h.2.1,h.2.2⟩)) hHeld ?_;refine Ru.rd 5 (fun K hK=> ?_);go_simp;refine(HD.out _ (ci.below D0) (ei.below D0)).mono ?_;rintro e w2 ⟨v,rfl,iv,k2⟩;have D2:=ae D0 k2;obtain⟨q1,q2,q3,rfl⟩:=iv.form;go_wp2_with fail
   refine Ru.hd hK (HS.out _ D2) (fun hHeld=> ?_);clear hK K;refine Ru.rd2 6 (fun K hK=> ?_);have c2:=(HS.out _ D2).1;refine Ru.kK isNum (by kernel_rfl) _ _ rl1 w.heap.size _ [.bool (decide (Tk+ak<0)), .slice q1 q2 q3] rl1 rl1 c2 rfl rfl (abj _ _ _ _) ?_;have v3:=JS c2 iv;have B3:=St.aJ (ae Br D2) (g:=w.heap.size) (Nat.le_refl _) [.bool (decide (Tk+ak<0)), .slice q1 q2 q3].toArray;refine hK.out _ _ ?_;clear hK K;try simp only [Act.put,List.getElem_toArray,List.getElem_cons_zero,List.getElem_cons_succ,List.setIfInBounds_toArray,List.set_cons_zero,List.set_cons_succ]
   refine wpAny_done (by kernel_rfl) ?_ _;go_wp2;go_roundw
   case rel=>exact⟨k+1,om1,by go_num,by rw [HU.out];exact v3,B3⟩
   case measure=>simp [intOf];omega
  ·obtain rfl:n=k:=om1;have bS:=HT.out n (Nat.le_refl _);have hSp:=HS0.out;have hnp:=Yy hSp;have HR:=hide vr;have HBr:=hide Br;obtain⟨Sn,hSn⟩: ∃ q,q=tot a n:=⟨_,rfl⟩;rw [← hSn] at HR bS hSp;have HSn:=hide hSn;have HQ:Hid (∀ k,qt m a n k=m*a k/Sn/\rt m a n k=m*a k%Sn):=fun k=>by rw [hSn];exact⟨rfl,rfl⟩
   clear hSn vr Br h;go_wp2;go_loopw [7,8,9,10] (fun vx vy lv i wl=> ∃ k:Nat,k<=n/\i= .int .i64 (k:Int)/\lv= .int .i64 (m- tot (qt m a n) k)/\Nu.Two wr.heap.size wr wl vx k (qt m a n) vy k (rt m a n)) (fun _ _ _ i _=>n- (intOf i).toNat)
   case atStart=>exact⟨0,om1,rfl,by show Value.int .i64 m= .int .i64 (m- 0);rw [Int.sub_zero],⟨Own.nil (Below.refl _ _) (Nat.le_refl _) _,Nls.nil (Below.refl _ _) (Nat.le_refl _) _,fun g e=>(by cases e)⟩⟩
   case round=>
    rename World=>wl;obtain⟨k,hk,rfl,rfl,TT⟩:=hrel;by_cases h:k<n
    ·have kl:=TT.x.below;obtain⟨sp,sl,sc,cr,ci⟩:=HR.out.keep kl;obtain⟨p,l,c,c0,c1,ei⟩:=(HL.out.keep (ae HBr.out kl)).num k h;have ba:=HA.out k h;have hq:=HQ.out k;have hU:tot (qt m a n) (k+1)=tot (qt m a n) k+qt m a n k:=rfl;have hlo:=qF (a:=qt m a n) (n:=k) (fun j hj=>Ey hm0 (fun i hi=>(HA.out i hi).1) HS0.out om1)
     have hup:tot (qt m a n) (k+1)<=m:=by
      have h1:=(Ew (m:=m) HS0.out).1;have h2:tot (qt m a n) (k+1)<=tot (qt m a n) n:=XW (fun j hj=>Ey hm0 (fun i hi=>(HA.out i hi).1) HS0.out hj) om1;unfold lf at h1;omega
     have hqn:=Ey hm0 (fun i hi=>(HA.out i hi).1) HS0.out h;obtain⟨ak,hak⟩: ∃ q,q=a k:=⟨_,rfl⟩;obtain⟨s0,hs0⟩: ∃ q,q=decide (Sn<0):=⟨_,rfl⟩;obtain⟨s1,hs1⟩: ∃ q,q=decide (a k<0):=⟨_,rfl⟩;rw [← hs0] at cr ci;rw [← hs1] at c0 ei;rw [← hak] at ei ba hq;have hmk0:0<=m*ak:=Int.mul_nonneg hm0 ba.1;have hmk1:m*ak<=1073741824*4611686018427387904:=Int.mul_le_mul hm1 ba.2 ba.1 om1;have HOf:=hide (fun W=>fJ m W om1 om1);have HMu:=hide (fun W va (h1:bY W va m) (h2:bY W (.agg #[.bool s1, .slice p l c]) ak)=>mul_any va _ m ak W (AV om1) (AV om1) h1 h2);have HDi:=hide (fun W va (h1:bY W va (m*ak)) (h2:bY W (.agg #[.bool s0, .slice sp sl sc]) Sn)=>aao va _ (m*ak) Sn W (XX om1) om1 (XX om1) h1 h2);obtain⟨q,hqq⟩: ∃ q,q=qt m a n k:=⟨_,rfl⟩;obtain⟨r,hrr⟩: ∃ q,q=rt m a n k:=⟨_,rfl⟩;rw [← hqq] at hq hU hqn;rw [← hrr] at hq;rw [← hq.1,← hq.2] at HDi;obtain⟨tk,htk⟩: ∃ q,q=tot (qt m a n) k:=⟨_,rfl⟩;rw [← htk] at hU hlo ⊢;have HQQ:=hide hqq;have HRR:=hide hrr;have HUU:=hide hU;have hup':tk+q<=m:=by rw [← hU];exact hup
     have HS:Hid (∀ V,Below wl.heap.size wl V->(ai V w.heap.size 190 [.bool s0, .slice sp sl sc]/\V.cell? ⟨g,k*2,none⟩=some (.bool s1)/\V.cell? ⟨g,k*2+1,none⟩=some (.slice p l c))):=fun V b=>⟨ai.keep cr b,ah b c0,ah b c1⟩;have lgA:w.heap.size<wl.heap.size:=ai.lt cr;have lgl:g<wl.heap.size:=World.block_lt_of_cell? wl _ c0;have kn:(k:Int)<n:=om1;have HCI:=hide ci;have HEI:=hide ei;clear hqq hrr hs0 hs1 hak htk hq hU hup c0 c1 cr ci ei hmk0 hmk1;go_upto_region 12 with fail
     go_cut [11,12] (fun p1 p2 wx=> ∃ g1 g2:Nat,p1= .pointer (some ⟨g1,0,none⟩)/\p2= .pointer (some ⟨g2,0,none⟩)/\Var wx g1 q/\Var wx g2 r/\wl.heap.size<=g2/\Below wl.heap.size wl wx)
     case first=>
      have D:=Vc.az wl;refine Ru.aS [15] (fun w'=>ai w' w.heap.size 190 [.bool s0, .slice sp sl sc]/\w'.cell? ⟨g,k*2,none⟩=some (.bool s1)/\w'.cell? ⟨g,k*2+1,none⟩=some (.slice p l c)) (by kernel_rfl) (HS.out _ D) (fun hHeld=> ?_);refine Ru.tk3 0 (.int .i64 m) hHeld ?_;refine Ru.tk3 2 (.slice (some ⟨g,0,none⟩) n cap) hHeld ?_;refine Ru.tk3 3 (.int .i64 (k:Int)) hHeld ?_;refine Ru.tk3 4 (.pointer (some ⟨g,k*2,none⟩)) hHeld ?_;refine Ru.tk 5 (.agg #[.bool s1, .slice p l c]) rfl (Nu.oJ (by kernel_rfl) _ rl1 g (k*2) _ _ rl1 (fun w h=>⟨h.2.1,h.2.2⟩)) hHeld ?_;refine Ru.tk 7 (.agg [.bool s0, .slice sp sl sc].toArray) rfl (Ru.fF isNum (by kernel_rfl) _ rl1 w.heap.size _ rl1 (fun w h=>h.1) rfl) hHeld ?_;refine Ru.rs [1,12,13] ?_
      repeat' (first
       |((with_reducible show Ru.dC _ _ _ _ _ _ _ _ _ _ _);first
        |refine Ru.sp ?_ ?_
        |(refine Ru.co1 (i:=1) (fun K hK=> ?_);go_simp;refine(HOf.out _).mono ?_;rintro e x ⟨v,rfl,i1,kk⟩;replace D:=ae D kk;(try replace a12:=ai.keep a12 kk);(try replace a13:=ai.keep a13 kk);go_wp2_with fail;refine Ru.hd hK (HS.out _ D) (fun hHeld=> ?_);clear hK K;first|refine Ru.rz [6,12,13] ?_|refine Ru.rz [6,12] ?_|refine Ru.rz [6,13] ?_|refine Ru.rz [6] ?_)
        |(refine Ru.co1 (i:=6) (fun K hK=> ?_);go_simp;refine(HMu.out _ _ i1 (HEI.out.below D)).mono ?_;rintro e x ⟨v,rfl,i6,kk⟩;replace D:=ae D kk;(try replace a12:=ai.keep a12 kk);(try replace a13:=ai.keep a13 kk);go_wp2_with fail;refine Ru.hd hK (HS.out _ D) (fun hHeld=> ?_);clear hK K;clear i1;first|refine Ru.rz [8,12,13] ?_|refine Ru.rz [8,12] ?_|refine Ru.rz [8,13] ?_|refine Ru.rz [8] ?_)
        |(refine Ru.co1 (i:=8) (fun K hK=> ?_);go_simp;refine(HDi.out _ _ i6 (HCI.out.below D)).mono ?_;rintro e x ⟨u,v,rfl,iq,ir,kk⟩;replace D:=ae D kk;(try replace a12:=ai.keep a12 kk);(try replace a13:=ai.keep a13 kk);go_wp2_with fail;refine Ru.hd hK (HS.out _ D) (fun hHeld=> ?_);clear hK K;clear i6;refine Ru.tk3 9 (.tuple #[u,v]) hHeld ?_;refine Ru.tk3 10 u hHeld ?_;refine Ru.tk3 11 v hHeld ?_;first|refine Ru.rz [12,13] ?_|refine Ru.rz [12] ?_|refine Ru.rz [13] ?_|skip)
        |(refine Ru.co1 (i:=12) (fun K hK=> ?_);go_simp;obtain⟨g12,x,hg,hx,a12,l12,kk⟩:=made D 190 [.bool false, .slice none 0 0];(first|rw [← hx]|rw [show(wl.alloc (.cells [.bool false, .slice none 0 0].toArray 190)).drew=x from hx.symm]);(try rw [← hg]);(try rw [show wl.heap.size=g12 from hg.symm]);(try have hne:g12≠g13:=by have:=ai.lt a13;omega);clear hg hx;replace D:=ae D kk;(try replace i1:=i1.below kk);(try replace i6:=i6.below kk);(try replace iq:=iq.below kk);(try replace ir:=ir.below kk);(try replace a13:=ai.keep a13 kk);refine Ru.hd hK (HS.out _ D) (fun hHeld=> ?_);clear hK K;first|(have q':=iq;clear q';first|refine Ru.rz [13] ?_|skip)|(have q':=i6;clear q';first|refine Ru.rz [8,13] ?_|refine Ru.rz [8] ?_)|(have q':=i1;clear q';first|refine Ru.rz [6,13] ?_|refine Ru.rz [6] ?_)|refine Ru.rz [1,13] ?_|refine Ru.rz [1] ?_)
        |(refine Ru.co1 (i:=13) (fun K hK=> ?_);go_simp;obtain⟨g13,x,hg,hx,a13,l13,kk⟩:=made D 190 [.bool false, .slice none 0 0];(first|rw [← hx]|rw [show(wl.alloc (.cells [.bool false, .slice none 0 0].toArray 190)).drew=x from hx.symm]);(try rw [← hg]);(try rw [show wl.heap.size=g13 from hg.symm]);(try have hne:g12≠g13:=by have:=ai.lt a12;omega);clear hg hx;replace D:=ae D kk;(try replace i1:=i1.below kk);(try replace i6:=i6.below kk);(try replace iq:=iq.below kk);(try replace ir:=ir.below kk);(try replace a12:=ai.keep a12 kk);refine Ru.hd hK (HS.out _ D) (fun hHeld=> ?_);clear hK K;first|(have q':=iq;clear q';first|refine Ru.rz [12] ?_|skip)|(have q':=i6;clear q';first|refine Ru.rz [8,12] ?_|refine Ru.rz [8] ?_)|(have q':=i1;clear q';first|refine Ru.rz [6,12] ?_|refine Ru.rz [6] ?_)|refine Ru.rz [1,12] ?_|refine Ru.rz [1] ?_))
       |as_aux_lemma=>(obtain⟨q1,q2,q3,e1⟩:=iq.form;obtain⟨q4,q5,q6,e2⟩:=ir.form;subst e1 e2;refine Ru.rd 14 (fun K hK=> ?_);refine Ru.kK isNum (by kernel_rfl) _ _ rl1 g12 _ [.bool (decide (q<0)), .slice q1 q2 q3] rl1 rl1 a12 rfl rfl (abj _ _ _ _) ?_;have h9:=HS.out _ D;have kb:But (· =g12) x (World.setRow x g12 [.bool (decide (q<0)), .slice q1 q2 q3].toArray):=⟨rfl,rfl,rfl,by simp,fun k hk hn=>setRow_other _ g12 k _ hn⟩;have vA:=JS a12 iq;have rB:=ai.aY a13 (fun e=>hne e.symm) [.bool (decide (q<0)), .slice q1 q2 q3].toArray;have iB2:=qY ir kb (fun b e=>by rw [e];exact FT a12);have BA:=St.aJ D (g:=g12) l12 [.bool (decide (q<0)), .slice q1 q2 q3].toArray;refine Ru.hd hK ⟨ai.aY h9.1 om1 _,kb.cell h9.2.1 (by show ¬g=g12;omega),kb.cell h9.2.2 (by show ¬g=g12;omega)⟩ (fun hHeld=> ?_);clear hK K;refine Ru.rd2 15 (fun K hK=> ?_);refine Ru.kK isNum (by kernel_rfl) _ _ rl1 g13 _ [.bool (decide (r<0)), .slice q4 q5 q6] rl1 rl1 rB rfl rfl (abj _ _ _ _) ?_;have vB:=JS rB iB2;have vA2:=Tq rB vA hne [.bool (decide (r<0)), .slice q4 q5 q6].toArray;have BB:=St.aJ BA (g:=g13) l13 [.bool (decide (r<0)), .slice q4 q5 q6].toArray;refine hK.out _ _ ?_;clear hK K;(try simp only [Act.put,Ru.zq1,Ru.zq2,Ru.zq3,Ru.zq4,Ru.zq5,Ru.zq6]);refine wpAny_done (by kernel_rfl) ?_ _;go_wp2_with fail;go_meet;exact⟨_,_,rfl,rfl,vA2,vB,l13,BB⟩))
     rename World=>wx;obtain⟨g1,g2,rfl,rfl,vq,vr2,lg2,kx⟩:=hcut;have T1:=TT.keep kx;have off:=TT.off lg2;clear TT HOf HMu HDi HS HCI HEI;obtain⟨qp,ql,qc,cq,iq⟩:=vq;obtain⟨rp,rl,rc,cr2,ir⟩:=vr2;obtain⟨dd,hdd,hRd⟩:=iq;obtain⟨ds,hds⟩: ∃ d,d=bZ q.natAbs:=⟨_,rfl⟩;rw [← hds] at hRd;have hsm:Small ds:=by rw [hds];exact eU _
     have hvl:(val ds:Int)=q:=by rw [hds,eH];omega
     have hll:ds.length<=20:=by rw [hds];exact bH (show q.natAbs<10^20 by omega)
     obtain⟨ao,b,off',cp,e1,hcp,hao,hcell⟩:=hRd.shape
     have cq1:wx.cell? ⟨g1,1,none⟩=some (.slice ao ds.length cp):=by
      have e:=ai.cell cq (k:=1) rfl rfl
      have e2:Value.slice qp ql qc=dd:=by
       injection hdd with hdd
       simpa using hdd
      rw [e2,e1] at e;exact e
     obtain⟨L,hL⟩: ∃ L,L=ds.length:=⟨_,rfl⟩;rw [← hL] at cq1 hcp hao hll;have HLn:=hide hL;have HV:=hide hvl;have HSM:=hide hsm;have HC:=hide hcell;have HAO:=hide hao;have HT1:=hide T1;have HOFF:=hide off;have HCR:=hide cr2;have HIR:=hide ir;clear hL hvl hsm hcell hao hdd hds hRd e1 T1 off cr2 ir cq;go_wp2;go_loopw [13,14] (fun v i w3=> ∃ j:Nat,j<=L/\i= .int .i64 ((j:Int)- 1)/\v= .int .i64 (val (ds.drop j):Int)/\wx=w3) (fun _ i _=>((intOf i)+1).toNat)
     case atStart=>exact⟨L,Nat.le_refl _,rfl,by rw [HLn.out,List.drop_length];rfl,rfl⟩
     case round=>
      obtain⟨j,hj,rfl,rfl,rfl⟩:=hrel;cases j with
      |succ j=>
       have e0:((j+1:Nat):Int)- 1=(j:Int):=om1;rw [e0];have hjl:j<ds.length:=by rw [← HLn.out];omega
       have hck:=(HC.out j hjl).2;have d1:=EF ds j hjl;have d2:=AO ds j;have d3:=HV.out;have hsj:=HSM.out j;obtain⟨A,hA⟩: ∃ A,val (ds.drop (j+1))=A:=⟨_,rfl⟩;obtain⟨Bv,hB⟩: ∃ A,val (ds.drop j)=A:=⟨_,rfl⟩;obtain⟨dg,hdg⟩: ∃ dg,ds.getD j 0=dg:=⟨_,rfl⟩;rw [hdg] at hck hsj d1;rw [hA] at d1 ⊢;rw [hB] at d1 d2;have HB:Hid (val (ds.drop j)=Bv):=hB;have D1:Hid (Bv=dg+10*A):=d1;have b1:10*A+dg<=1073741824:=om1
       obtain rfl:ao=some ⟨b,off',none⟩:=by
        rcases HAO.out with e|⟨_,e⟩
        ·exact e
        ·omega
       clear d1 d2 d3 hA hB hdg;go_wp2;go_roundw
       case rel=>exact⟨j,om1,rfl,by rw [HB.out,D1.out];go_num,by first|trivial|rfl⟩
       case measure=>simp [intOf]
      |zero=>
       have e0:((0:Nat):Int)- 1= -1:=om1;rw [e0,List.drop_zero,HV.out];have T1:=HT1.out;have off:=HOFF.out;have cr2:=HCR.out;have ir:=HIR.out;have lg:=ai.lt cr2;obtain⟨sr,hsr⟩: ∃ q,q=decide (r<0):=⟨_,rfl⟩;rw [← hsr] at cr2 ir;have HSR:=hide hsr;have HRr:=hide (show rt m a n k=r from HRR.out.symm);have HQr:=hide (show q=qt m a n k from HQQ.out);clear hsr HT1 HOFF HCR HIR;go_upto_region 18 with fail
       have D0:=Vc.az wx;have tw0:=T1.keep D0;have cz0:=ai.keep cr2 D0;have iz0:=ir.below D0;refine Ru.aS [] (fun w'=>ai w' g2 190 [.bool sr, .slice rp rl rc]) (by kernel_rfl) cz0 (fun hHeld=> ?_);refine Ru.tk1 0 u7 hHeld ?_;refine Ru.tk1 1 (.int .i64 q) hHeld ?_;refine Ru.tk1 4 u8 hHeld ?_;refine Ru.tk 5 (.agg [.bool sr, .slice rp rl rc].toArray) rfl (Ru.fF isNum (by kernel_rfl) _ rl1 g2 _ rl1 (fun w h=>h) rfl) hHeld ?_;refine Ru.rs [2,6] ?_;refine Ru.co (fun K hK=> ?_) ?_
       ·go_simp;have e_1:wx.drew.heap.size=wx.heap.size:=rfl;have k_1:=af (Below.refl _ wx.drew) (.cells [.int .i64 q].toArray 2);have of_1:Off u7 u8 (wx.heap.size):=by have h:=tw0.off (b:=wx.drew.heap.size) (Nat.le_refl _);rw [e_1] at h;exact h
        have b_1:ai (wx.drew.alloc (.cells [.int .i64 q].toArray 2)) (wx.heap.size) 2 [.int .i64 q]:=by have h:=aH wx.drew 2 [.int .i64 q];rw [e_1] at h;exact h
        have tw_1:=tw0.keep k_1;have cz_1:=ai.keep cz0 k_1;have iz_1:=iz0.below k_1;refine Ru.hd hK cz_1 (fun hHeld=> ?_);clear hK K;refine Ru.rs [3,6] ?_;refine Ru.co (fun K hK=> ?_) ?_
        ·refine Nu.qi rl1 (.tmp 65) (.tmp 67) rl1 tw_1 rl1 om1 (b:=wx.heap.size) (y:=q) rl1 b_1 HQr.out ?_;intro v1 w1 tw_2 kb_2 of_2 nn_2;have lz_2:=ai.lt cz_1;have cz_2:=aT cz_1 kb_2 off.x;have iz_2:=nn_2 _ _ iz_1;have oo_2:=of_2 _ lz_2 off;refine Ru.hd hK cz_2 (fun hHeld=> ?_);clear hK K;refine Ru.rd 6 (fun K hK=> ?_);go_simp;have e_3:w1.heap.size=w1.heap.size:=by simp
         have k_3:=af (Below.refl _ w1) (.cells [.bool sr, .slice rp rl rc].toArray 190);have of_3:Off v1 u8 (w1.heap.size):=by have h:=tw_2.off (b:=w1.heap.size) (Nat.le_refl _);rw [e_3] at h;exact h
         have b_3:ai (w1.alloc (.cells [.bool sr, .slice rp rl rc].toArray 190)) (w1.heap.size) 190 [.bool sr, .slice rp rl rc]:=by have h:=aH w1 190 [.bool sr, .slice rp rl rc];rw [e_3] at h;exact h
         have tw_3:=tw_2.keep k_3;have cz_3:=ai.keep cz_2 k_3;have iz_3:=iz_2.below k_3;refine Ru.hd hK cz_3 (fun hHeld=> ?_);clear hK K;refine Ru.rd 7 (fun K hK=> ?_);refine Nu.uA rl1 (.tmp 69) (.tmp 71) rl1 tw_3 rl1 om1 (b:=w1.heap.size) (p:=rp) (l:=rl) (c:=rc) rl1 (by rw [HRr.out,← HSR.out];exact b_3) (by rw [HRr.out,← HSR.out];exact iz_3) ?_;intro v2 w2 tw_4 kb_4 of_4 nn_4;have cz_4:=aT cz_3 kb_4 oo_2.y;refine Ru.hd hK cz_4 (fun hHeld=> ?_);clear hK K;refine Ru.tk1 8 v1 hHeld ?_;refine Ru.tk1 9 v2 hHeld ?_;refine Ru.bI (by kernel_rfl) ?_;have TF:=tw_4;go_wp2;go_roundw
         case rel=>exact⟨k+1,om1,by go_num,by rw [HUU.out];congr 1;omega,TF⟩
         case measure=>simp [intOf];omega
        refine Ru.co1 (fun K hK=> ?_);go_simp;have e_5:(wx.drew.alloc (.cells [.int .i64 q].toArray 2)).heap.size=wx.heap.size+1:=by simp
        have k_5:=af (Below.refl _ (wx.drew.alloc (.cells [.int .i64 q].toArray 2))) (.cells [.bool sr, .slice rp rl rc].toArray 190);have of_5:Off u7 u8 (wx.heap.size+1):=by have h:=tw_1.off (b:=(wx.drew.alloc (.cells [.int .i64 q].toArray 2)).heap.size) (Nat.le_refl _);rw [e_5] at h;exact h
        have b_5:ai ((wx.drew.alloc (.cells [.int .i64 q].toArray 2)).alloc (.cells [.bool sr, .slice rp rl rc].toArray 190)) (wx.heap.size+1) 190 [.bool sr, .slice rp rl rc]:=by have h:=aH (wx.drew.alloc (.cells [.int .i64 q].toArray 2)) 190 [.bool sr, .slice rp rl rc];rw [e_5] at h;exact h
        have b2_5:=ai.keep b_1 k_5;have tw_5:=tw_1.keep k_5;have cz_5:=ai.keep cz_1 k_5;have iz_5:=iz_1.below k_5;refine Ru.hd hK cz_5 (fun hHeld=> ?_);clear hK K;refine Ru.rd 3 (fun K hK=> ?_);refine Nu.qi rl1 (.tmp 65) (.tmp 67) rl1 tw_5 rl1 om1 (b:=wx.heap.size) (y:=q) rl1 b2_5 HQr.out ?_;intro v1 w1 tw_6 kb_6 of_6 nn_6;have lz_6:=ai.lt cz_5;have cz_6:=aT cz_5 kb_6 off.x;have iz_6:=nn_6 _ _ iz_5;have oo_6:=of_6 _ lz_6 off;have b6_6:=aT b_5 kb_6 of_5.x;refine Ru.hd hK cz_6 (fun hHeld=> ?_);clear hK K;refine Ru.rd 7 (fun K hK=> ?_);refine Nu.uA rl1 (.tmp 69) (.tmp 71) rl1 tw_6 rl1 om1 (b:=wx.heap.size+1) (p:=rp) (l:=rl) (c:=rc) rl1 (by rw [HRr.out,← HSR.out];exact b6_6) (by rw [HRr.out,← HSR.out];exact iz_6) ?_;intro v2 w2 tw_7 kb_7 of_7 nn_7;have cz_7:=aT cz_6 kb_7 oo_6.y;refine Ru.hd hK cz_7 (fun hHeld=> ?_);clear hK K;refine Ru.tk1 8 v1 hHeld ?_;refine Ru.tk1 9 v2 hHeld ?_;refine Ru.bI (by kernel_rfl) ?_;have TF:=tw_7;go_wp2;go_roundw
        case rel=>exact⟨k+1,om1,by go_num,by rw [HUU.out];congr 1;omega,TF⟩
        case measure=>simp [intOf];omega
       refine Ru.co1 (fun K hK=> ?_);go_simp;have e_8:wx.drew.heap.size=wx.heap.size:=rfl;have k_8:=af (Below.refl _ wx.drew) (.cells [.bool sr, .slice rp rl rc].toArray 190);have of_8:Off u7 u8 (wx.heap.size):=by have h:=tw0.off (b:=wx.drew.heap.size) (Nat.le_refl _);rw [e_8] at h;exact h
       have b_8:ai (wx.drew.alloc (.cells [.bool sr, .slice rp rl rc].toArray 190)) (wx.heap.size) 190 [.bool sr, .slice rp rl rc]:=by have h:=aH wx.drew 190 [.bool sr, .slice rp rl rc];rw [e_8] at h;exact h
       have tw_8:=tw0.keep k_8;have cz_8:=ai.keep cz0 k_8;have iz_8:=iz0.below k_8;refine Ru.hd hK cz_8 (fun hHeld=> ?_);clear hK K;refine Ru.rd 2 (fun K hK=> ?_);go_simp;have e_9:(wx.drew.alloc (.cells [.bool sr, .slice rp rl rc].toArray 190)).heap.size=wx.heap.size+1:=by simp
       have k_9:=af (Below.refl _ (wx.drew.alloc (.cells [.bool sr, .slice rp rl rc].toArray 190))) (.cells [.int .i64 q].toArray 2);have of_9:Off u7 u8 (wx.heap.size+1):=by have h:=tw_8.off (b:=(wx.drew.alloc (.cells [.bool sr, .slice rp rl rc].toArray 190)).heap.size) (Nat.le_refl _);rw [e_9] at h;exact h
       have b_9:ai ((wx.drew.alloc (.cells [.bool sr, .slice rp rl rc].toArray 190)).alloc (.cells [.int .i64 q].toArray 2)) (wx.heap.size+1) 2 [.int .i64 q]:=by have h:=aH (wx.drew.alloc (.cells [.bool sr, .slice rp rl rc].toArray 190)) 2 [.int .i64 q];rw [e_9] at h;exact h
       have b6_9:=ai.keep b_8 k_9;have tw_9:=tw_8.keep k_9;have cz_9:=ai.keep cz_8 k_9;have iz_9:=iz_8.below k_9;refine Ru.hd hK cz_9 (fun hHeld=> ?_);clear hK K;refine Ru.rd 3 (fun K hK=> ?_);refine Nu.qi rl1 (.tmp 65) (.tmp 67) rl1 tw_9 rl1 om1 (b:=wx.heap.size+1) (y:=q) rl1 b_9 HQr.out ?_;intro v1 w1 tw_10 kb_10 of_10 nn_10;have lz_10:=ai.lt cz_9;have cz_10:=aT cz_9 kb_10 off.x;have iz_10:=nn_10 _ _ iz_9;have oo_10:=of_10 _ lz_10 off;have b6_10:=aT b6_9 kb_10 of_8.x;refine Ru.hd hK cz_10 (fun hHeld=> ?_);clear hK K;refine Ru.rd 7 (fun K hK=> ?_);refine Nu.uA rl1 (.tmp 69) (.tmp 71) rl1 tw_10 rl1 om1 (b:=wx.heap.size) (p:=rp) (l:=rl) (c:=rc) rl1 (by rw [HRr.out,← HSR.out];exact b6_10) (by rw [HRr.out,← HSR.out];exact iz_10) ?_;intro v2 w2 tw_11 kb_11 of_11 nn_11;have cz_11:=aT cz_10 kb_11 oo_10.y;refine Ru.hd hK cz_11 (fun hHeld=> ?_);clear hK K;refine Ru.tk1 8 v1 hHeld ?_;refine Ru.tk1 9 v2 hHeld ?_;refine Ru.bI (by kernel_rfl) ?_;have TF:=tw_11;go_wp2;go_roundw
       case rel=>exact⟨k+1,om1,by go_num,by rw [HUU.out];congr 1;omega,TF⟩
       case measure=>simp [intOf];omega
    ·obtain rfl:n=k:=om1;have hlf:=Ew (m:=m) HS0.out;have HRI:Hid (∀ i,i<n->0<=rt m a n i/\rt m a n i<=18446744073709551616):=fun i hi=>by have h1:=Ag (m:=m) HS0.out i;have h2:=(HT.out n (Nat.le_refl _)).2;omega
     have HQI:Hid (∀ i,i<n->0<=qt m a n i/\qt m a n i<=1073741824):=fun i hi=>by
      have h0:=fun j hj=>Ey (m:=m) (a:=a) (n:=n) hm0 (fun i hi=>(HA.out i hi).1) HS0.out (i:=j) hj;have h1:=h0 i hi;have h2:=iP (a:=qt m a n) (n:=n) h0 hi;have h3:=hlf.1;unfold lf at h3;omega
     have HSH:Hid (sh m a n=(give n (qt m a n) (rt m a n) (lf m a n).toNat).1):=rfl;have eL:m- tot (qt m a n) n=lf m a n:=rfl;rw [eL];obtain⟨F,hF⟩: ∃ F,F=lf m a n:=⟨_,rfl⟩;rw [← hF] at hlf HSH ⊢;obtain⟨q,hq⟩: ∃ q,q=qt m a n:=⟨_,rfl⟩;obtain⟨r,hr⟩: ∃ q,q=rt m a n:=⟨_,rfl⟩;rw [← hq] at TT HQI HSH;rw [← hr] at TT HRI HSH;clear eL hF hq hr HQ h;obtain⟨gx,cx,rfl,_,_⟩:=TT.x.row.form hnp;obtain⟨gy,cy,rfl,_,_⟩:=TT.y.at hnp;have HTT:=hide TT;clear TT;go_wp2;go_loopw [9] (fun lv wq=> ∃ t:Nat,(t:Int)<=F/\lv= .int .i64 (F- (t:Int))/\Nu.Two wr.heap.size wr wq (.slice (some ⟨gx,0,none⟩) n cx) n (give n q r t).1 (.slice (some ⟨gy,0,none⟩) n cy) n (give n q r t).2) (fun lv _=>(intOf lv).toNat)
     case atStart=>exact⟨0,om1,by show Value.int .i64 F= .int .i64 (F- 0);rw [Int.sub_zero],HTT.out⟩
     case round=>
      rename World=>wq;obtain⟨t,ht,rfl,T2⟩:=hrel;by_cases h:(t:Int)<F
      ·have hFt:0<F- (t:Int):=om1;obtain⟨gy_,cy_,ey_,hat,_⟩:=T2.y.at hnp;cases ey_
       have lcy:=hat.le;have lcy2:=hat.cap;have hbs:=Wi (o:=q) (fun i hi=>(HRI.out i hi).1) (t:=t) om1;have HIN:Hid (∀ i,i<n->_):=fun i hi=>aap HRI.out HQI.out om1 (t:=t) om1 hi;have HNX:Hid (∀ b:Nat,_->_):=fun b hb=>TN (n:=n) (o:=q) (c:=r) (t:=t) (b:=b) hb;obtain⟨O,hO⟩: ∃ O,O=(give n q r t).1:=⟨_,rfl⟩;obtain⟨C,hC⟩: ∃ O,O=(give n q r t).2:=⟨_,rfl⟩;rw [← hO] at T2 HIN HNX;rw [← hC] at T2 HIN HNX hat hbs;clear hO hC;have HT2:=hide T2;have HAT:=hide hat;clear T2 hat;go_wp2;go_loopw [15,16] (fun b i w3=> ∃ k:Nat,k<=n/\i= .int .i64 (k:Int)/\b= .int .i64 (bst C k)/\Below wq.heap.size wq w3) (fun _ i _=>n- (intOf i).toNat)
       case atStart=>exact⟨0,om1,rfl,rfl,Below.refl _ _⟩
       case round=>
        rename World=>w3;obtain⟨k,hk,rfl,rfl,B3⟩:=hrel;by_cases hkn:k<n
        ·obtain⟨p,l,c,c0,c1,ei⟩:=(HAT.out.keep B3).num k hkn;have kn:(k:Int)<n:=om1;have bC:=HIN.out k hkn;have hbl:=bst_lo C k;obtain⟨s1,hs1⟩: ∃ q,q=decide (C k<0):=⟨_,rfl⟩;rw [← hs1] at c0 ei;have HSg:=hide (fun W (h1:bY W (.agg #[.bool s1, .slice p l c]) (C k))=>yP _ (C k) W (Nat.le_trans (AV om1) om1) h1);by_cases hc0:0<=C k
         ·obtain⟨sg,hsg⟩: ∃ q,q=(C k).sign:=⟨_,rfl⟩;have hsg0:0<=sg:=by rcases uj (C k) with h|h|h<;>omega
          rw [← hsg] at HSg;by_cases hb0:bst C k<0
          ·have HB:=hide (TP hc0 (Or.inl hb0));have HS:Hid (∀ V,Below w3.heap.size w3 V->(V.cell? ⟨gy,k*2,none⟩=some (.bool s1)/\V.cell? ⟨gy,k*2+1,none⟩=some (.slice p l c))):=fun V b=>⟨ah b c0,ah b c1⟩;obtain⟨B,hB⟩: ∃ q,q=bst C k:=⟨_,rfl⟩;rw [← hB] at hb0 hbl ⊢;clear c0 c1 hs1 hsg hB hc0 bC;go_upto_region 25 with fail
           have D0:=Vc.az w3;refine Ru.aS [] (fun w'=>w'.cell? ⟨gy,k*2,none⟩=some (.bool s1)/\w'.cell? ⟨gy,k*2+1,none⟩=some (.slice p l c)) (by kernel_rfl) (HS.out _ D0) (fun hHeld=> ?_);refine Ru.tk2 0 (.slice (some ⟨gy,0,none⟩) n cy) hHeld ?_;refine Ru.tk2 1 (.int .i64 (k:Int)) hHeld ?_;refine Ru.tk2 2 (.pointer (some ⟨gy,k*2,none⟩)) hHeld ?_;refine Ru.tk 3 (.agg #[.bool s1, .slice p l c]) rfl (Nu.oJ (by kernel_rfl) _ rl1 gy (k*2) _ _ rl1 (fun w h=>⟨h.1,h.2⟩)) hHeld ?_;refine Ru.rd 4 (fun K hK=> ?_);go_simp;refine(HSg.out _ (ei.below D0)).mono ?_;rintro e w5 ⟨rfl,k5⟩;have D5:=ae D0 k5;go_wp2_with fail
           refine Ru.hd hK (HS.out _ D5) (fun hHeld=> ?_);clear hK K;refine Ru.tk2 5 (.bool true) hHeld ?_;refine Ru.tk2 6 (.bool true) hHeld ?_;refine Ru.tk2 7 (.int .i64 B) hHeld ?_;refine Ru.tk2 8 (.bool true) hHeld ?_;refine Ru.tk2 9 (.bool true) hHeld ?_;refine Ru.tk 10 undef rfl (Or.inr ⟨by kernel_rfl,rfl⟩) hHeld ?_;refine Ru.tk 11 undef rfl (Or.inr ⟨by kernel_rfl,rfl⟩) hHeld ?_;refine Ru.tk 12 undef rfl (Or.inr ⟨by kernel_rfl,rfl⟩) hHeld ?_;refine Ru.tk 13 undef rfl (Or.inr ⟨by kernel_rfl,rfl⟩) hHeld ?_;refine Ru.tk 14 undef rfl (Or.inr ⟨by kernel_rfl,rfl⟩) hHeld ?_;refine Ru.tk 15 undef rfl (Or.inr ⟨by kernel_rfl,rfl⟩) hHeld ?_;refine Ru.tk 16 undef rfl (Or.inr ⟨by kernel_rfl,rfl⟩) hHeld ?_;refine Ru.tk 17 undef rfl (Or.inr ⟨by kernel_rfl,rfl⟩) hHeld ?_;refine Ru.tk 18 undef rfl (Or.inr ⟨by kernel_rfl,rfl⟩) hHeld ?_;refine Ru.tk 19 undef rfl (Or.inr ⟨by kernel_rfl,rfl⟩) hHeld ?_;refine Ru.tk2 20 (.bool true) hHeld ?_;refine Ru.tk2 21 (.bool true) hHeld ?_;refine Ru.bI (by kernel_rfl) ?_;have DD:=ae B3 D5;clear B3;go_wp2;go_roundw
           case rel=>exact⟨k+1,om1,by go_num,by rw [HB.out],DD⟩
           case measure=>simp [intOf];omega
          ·have hlt:=bst_lt (C:=C) (k:=k) om1;obtain⟨B,hB⟩: ∃ q,q=bst C k:=⟨_,rfl⟩;obtain⟨bb,hbb⟩: ∃ b:Nat,B=(b:Int):=⟨B.toNat,om1⟩;have hB2:(bst C k).toNat=bb:=om1;rw [hB2] at hlt;obtain⟨p2,l2,c2,d0,d1,ei2⟩:=(HAT.out.keep B3).num bb om1;have bC2:=HIN.out bb om1;obtain⟨s2,hs2⟩: ∃ q,q=decide (C bb<0):=⟨_,rfl⟩;rw [← hs2] at d0 ei2;have HCm:=hide (fun W (h1:bY W (.agg #[.bool s1, .slice p l c]) (C k)) (h2:bY W (.agg #[.bool s2, .slice p2 l2 c2]) (C bb))=>uI _ _ (C k) (C bb) W (AV om1) (AV om1) h1 h2);have HS:Hid (∀ V,Below w3.heap.size w3 V->(V.cell? ⟨gy,k*2,none⟩=some (.bool s1)/\V.cell? ⟨gy,k*2+1,none⟩=some (.slice p l c)/\V.cell? ⟨gy,bb*2,none⟩=some (.bool s2)/\V.cell? ⟨gy,bb*2+1,none⟩=some (.slice p2 l2 c2))):=fun V b=>⟨ah b c0,ah b c1,ah b d0,ah b d1⟩;obtain⟨cm,hcm⟩: ∃ q,q=(C k- C bb).sign:=⟨_,rfl⟩;rw [← hcm] at HCm;by_cases hg:C bb<C k
           ·have HB:Hid (bst C (k+1)=(k:Int)):=TP hc0 (Or.inr (by rw [hB2];exact hg));have hcm1:cm=1:=by rcases uj (C k- C bb) with h|h|h<;>omega
            rw [← hB] at hb0 hbl ⊢;have kbb:B<n:=om1;clear c0 c1 d0 d1 hs1 hs2 hsg hc0 bC bC2 hcm hg hB2 hB hlt;subst hcm1;subst hbb;go_upto_region 25 with fail
            have D0:=Vc.az w3;refine Ru.aS [] (fun w'=>w'.cell? ⟨gy,k*2,none⟩=some (.bool s1)/\w'.cell? ⟨gy,k*2+1,none⟩=some (.slice p l c)/\w'.cell? ⟨gy,bb*2,none⟩=some (.bool s2)/\w'.cell? ⟨gy,bb*2+1,none⟩=some (.slice p2 l2 c2)) (by kernel_rfl) (HS.out _ D0) (fun hHeld=> ?_);refine Ru.tk4 0 (.slice (some ⟨gy,0,none⟩) n cy) hHeld ?_;refine Ru.tk4 1 (.int .i64 (k:Int)) hHeld ?_;refine Ru.tk4 2 (.pointer (some ⟨gy,k*2,none⟩)) hHeld ?_;refine Ru.tk 3 (.agg #[.bool s1, .slice p l c]) rfl (Nu.oJ (by kernel_rfl) _ rl1 gy (k*2) _ _ rl1 (fun w h=>⟨h.1,h.2.1⟩)) hHeld ?_;refine Ru.rd 4 (fun K hK=> ?_);go_simp;refine(HSg.out _ (ei.below D0)).mono ?_;rintro e w5 ⟨rfl,k5⟩;have D5:=ae D0 k5;go_wp2_with fail
            refine Ru.hd hK (HS.out _ D5) (fun hHeld=> ?_);clear hK K;refine Ru.tk4 5 (.bool true) hHeld ?_;refine Ru.tk4 6 (.bool true) hHeld ?_;refine Ru.tk4 7 (.int .i64 (bb:Int)) hHeld ?_;refine Ru.tk4 8 (.bool false) hHeld ?_;refine Ru.tk4 9 (.bool false) hHeld ?_;refine Ru.tk4 10 (.slice (some ⟨gy,0,none⟩) n cy) hHeld ?_;refine Ru.tk4 11 (.int .i64 (k:Int)) hHeld ?_;refine Ru.tk4 12 (.pointer (some ⟨gy,k*2,none⟩)) hHeld ?_;refine Ru.tk 13 (.agg #[.bool s1, .slice p l c]) rfl (Nu.oJ (by kernel_rfl) _ rl1 gy (k*2) _ _ rl1 (fun w h=>⟨h.1,h.2.1⟩)) hHeld ?_;refine Ru.tk4 14 (.slice (some ⟨gy,0,none⟩) n cy) hHeld ?_;refine Ru.tk4 15 (.int .i64 (bb:Int)) hHeld ?_;refine Ru.tk4 16 (.pointer (some ⟨gy,bb*2,none⟩)) hHeld ?_;refine Ru.tk 17 (.agg #[.bool s2, .slice p2 l2 c2]) rfl (Nu.oJ (by kernel_rfl) _ rl1 gy (bb*2) _ _ rl1 (fun w h=>⟨h.2.2.1,h.2.2.2⟩)) hHeld ?_;refine Ru.rd 18 (fun K hK=> ?_);go_simp;refine(HCm.out _ (ei.below D5) (ei2.below D5)).mono ?_;rintro e w6 ⟨rfl,k6⟩;have D6:=ae D5 k6;go_wp2_with fail
            refine Ru.hd hK (HS.out _ D6) (fun hHeld=> ?_);clear hK K;refine Ru.tk4 19 (.bool true) hHeld ?_;refine Ru.tk4 20 (.bool true) hHeld ?_;refine Ru.tk4 21 (.bool true) hHeld ?_;refine Ru.bI (by kernel_rfl) ?_;have DD:=ae B3 D6;clear B3;go_wp2;go_roundw
            case rel=>exact⟨k+1,om1,by go_num,by rw [HB.out],DD⟩
            case measure=>simp [intOf];omega
           ·have HB:Hid (bst C (k+1)=B):=by rw [hB];exact XY (fun q=>by rw [hB2] at q;omega)
            have hcm1:cm<=0:=by rcases uj (C k- C bb) with h|h|h<;>omega
            rw [← hB] at hb0 hbl ⊢;have kbb:B<n:=om1;clear c0 c1 d0 d1 hs1 hs2 hsg hc0 bC bC2 hcm hg hB2 hB hlt;subst hbb;go_upto_region 25 with fail
            have D0:=Vc.az w3;refine Ru.aS [] (fun w'=>w'.cell? ⟨gy,k*2,none⟩=some (.bool s1)/\w'.cell? ⟨gy,k*2+1,none⟩=some (.slice p l c)/\w'.cell? ⟨gy,bb*2,none⟩=some (.bool s2)/\w'.cell? ⟨gy,bb*2+1,none⟩=some (.slice p2 l2 c2)) (by kernel_rfl) (HS.out _ D0) (fun hHeld=> ?_);refine Ru.tk4 0 (.slice (some ⟨gy,0,none⟩) n cy) hHeld ?_;refine Ru.tk4 1 (.int .i64 (k:Int)) hHeld ?_;refine Ru.tk4 2 (.pointer (some ⟨gy,k*2,none⟩)) hHeld ?_;refine Ru.tk 3 (.agg #[.bool s1, .slice p l c]) rfl (Nu.oJ (by kernel_rfl) _ rl1 gy (k*2) _ _ rl1 (fun w h=>⟨h.1,h.2.1⟩)) hHeld ?_;refine Ru.rd 4 (fun K hK=> ?_);go_simp;refine(HSg.out _ (ei.below D0)).mono ?_;rintro e w5 ⟨rfl,k5⟩;have D5:=ae D0 k5;go_wp2_with fail
            refine Ru.hd hK (HS.out _ D5) (fun hHeld=> ?_);clear hK K;refine Ru.tk4 5 (.bool true) hHeld ?_;refine Ru.tk4 6 (.bool true) hHeld ?_;refine Ru.tk4 7 (.int .i64 (bb:Int)) hHeld ?_;refine Ru.tk4 8 (.bool false) hHeld ?_;refine Ru.tk4 9 (.bool false) hHeld ?_;refine Ru.tk4 10 (.slice (some ⟨gy,0,none⟩) n cy) hHeld ?_;refine Ru.tk4 11 (.int .i64 (k:Int)) hHeld ?_;refine Ru.tk4 12 (.pointer (some ⟨gy,k*2,none⟩)) hHeld ?_;refine Ru.tk 13 (.agg #[.bool s1, .slice p l c]) rfl (Nu.oJ (by kernel_rfl) _ rl1 gy (k*2) _ _ rl1 (fun w h=>⟨h.1,h.2.1⟩)) hHeld ?_;refine Ru.tk4 14 (.slice (some ⟨gy,0,none⟩) n cy) hHeld ?_;refine Ru.tk4 15 (.int .i64 (bb:Int)) hHeld ?_;refine Ru.tk4 16 (.pointer (some ⟨gy,bb*2,none⟩)) hHeld ?_;refine Ru.tk 17 (.agg #[.bool s2, .slice p2 l2 c2]) rfl (Nu.oJ (by kernel_rfl) _ rl1 gy (bb*2) _ _ rl1 (fun w h=>⟨h.2.2.1,h.2.2.2⟩)) hHeld ?_;refine Ru.rd 18 (fun K hK=> ?_);go_simp;refine(HCm.out _ (ei.below D5) (ei2.below D5)).mono ?_;rintro e w6 ⟨rfl,k6⟩;have D6:=ae D5 k6;go_wp2_with fail
            refine Ru.hd hK (HS.out _ D6) (fun hHeld=> ?_);clear hK K;refine Ru.tk4 19 (.bool false) hHeld ?_;refine Ru.tk4 20 (.bool false) hHeld ?_;refine Ru.tk4 21 (.bool false) hHeld ?_;refine Ru.bI (by kernel_rfl) ?_;have DD:=ae B3 D6;clear B3;go_wp2;go_roundw
            case rel=>exact⟨k+1,om1,by go_num,by rw [HB.out],DD⟩
            case measure=>simp [intOf];omega
         ·have HB:=hide (XY (C:=C) (k:=k) (fun q=>hc0 q.1));have hsg:(C k).sign= -1:=by rcases uj (C k) with h|h|h<;>omega
          rw [hsg] at HSg;have HS:Hid (∀ V,Below w3.heap.size w3 V->(V.cell? ⟨gy,k*2,none⟩=some (.bool s1)/\V.cell? ⟨gy,k*2+1,none⟩=some (.slice p l c))):=fun V b=>⟨ah b c0,ah b c1⟩;obtain⟨B,hB⟩: ∃ q,q=bst C k:=⟨_,rfl⟩;rw [← hB] at hbl HB ⊢;clear c0 c1 hs1 hsg hB hc0 bC;go_upto_region 25 with fail
          have D0:=Vc.az w3;refine Ru.aS [] (fun w'=>w'.cell? ⟨gy,k*2,none⟩=some (.bool s1)/\w'.cell? ⟨gy,k*2+1,none⟩=some (.slice p l c)) (by kernel_rfl) (HS.out _ D0) (fun hHeld=> ?_);refine Ru.tk2 0 (.slice (some ⟨gy,0,none⟩) n cy) hHeld ?_;refine Ru.tk2 1 (.int .i64 (k:Int)) hHeld ?_;refine Ru.tk2 2 (.pointer (some ⟨gy,k*2,none⟩)) hHeld ?_;refine Ru.tk 3 (.agg #[.bool s1, .slice p l c]) rfl (Nu.oJ (by kernel_rfl) _ rl1 gy (k*2) _ _ rl1 (fun w h=>⟨h.1,h.2⟩)) hHeld ?_;refine Ru.rd 4 (fun K hK=> ?_);go_simp;refine(HSg.out _ (ei.below D0)).mono ?_;rintro e w5 ⟨rfl,k5⟩;have D5:=ae D0 k5;go_wp2_with fail
          refine Ru.hd hK (HS.out _ D5) (fun hHeld=> ?_);clear hK K;refine Ru.tk2 5 (.bool false) hHeld ?_;refine Ru.tk2 6 (.bool false) hHeld ?_;refine Ru.tk 7 undef rfl (Or.inr ⟨by kernel_rfl,rfl⟩) hHeld ?_;refine Ru.tk 8 undef rfl (Or.inr ⟨by kernel_rfl,rfl⟩) hHeld ?_;refine Ru.tk 9 undef rfl (Or.inr ⟨by kernel_rfl,rfl⟩) hHeld ?_;refine Ru.tk 10 undef rfl (Or.inr ⟨by kernel_rfl,rfl⟩) hHeld ?_;refine Ru.tk 11 undef rfl (Or.inr ⟨by kernel_rfl,rfl⟩) hHeld ?_;refine Ru.tk 12 undef rfl (Or.inr ⟨by kernel_rfl,rfl⟩) hHeld ?_;refine Ru.tk 13 undef rfl (Or.inr ⟨by kernel_rfl,rfl⟩) hHeld ?_;refine Ru.tk 14 undef rfl (Or.inr ⟨by kernel_rfl,rfl⟩) hHeld ?_;refine Ru.tk 15 undef rfl (Or.inr ⟨by kernel_rfl,rfl⟩) hHeld ?_;refine Ru.tk 16 undef rfl (Or.inr ⟨by kernel_rfl,rfl⟩) hHeld ?_;refine Ru.tk 17 undef rfl (Or.inr ⟨by kernel_rfl,rfl⟩) hHeld ?_;refine Ru.tk 18 undef rfl (Or.inr ⟨by kernel_rfl,rfl⟩) hHeld ?_;refine Ru.tk 19 undef rfl (Or.inr ⟨by kernel_rfl,rfl⟩) hHeld ?_;refine Ru.tk 20 undef rfl (Or.inr ⟨by kernel_rfl,rfl⟩) hHeld ?_;refine Ru.tk2 21 (.bool false) hHeld ?_;refine Ru.bI (by kernel_rfl) ?_;have DD:=ae B3 D5;clear B3;go_wp2;go_roundw
          case rel=>exact⟨k+1,om1,by go_num,by rw [HB.out],DD⟩
          case measure=>simp [intOf];omega
        ·obtain rfl:n=k:=om1;obtain⟨bb,hbb⟩: ∃ b:Nat,bst C n=(b:Int):=⟨(bst C n).toNat,om1⟩;have hbn:bb<n:=om1;have e12:=HNX.out bb hbb;have bO:=HIN.out bb hbn;have T3:=HT2.out.keep B3;have hcx:=T3.x.cell (j:=bb) hbn;have hfx:=T3.x.free bb;rw [hbb];obtain⟨ob,hob⟩: ∃ q,q=O bb:=⟨_,rfl⟩;rw [← hob] at hcx bO e12;have T4:=T3.IW bb (ob+1);have HOm:=hide (fun W=>fJ (-1) W om1 om1);have HT4:=hide T4;have HE12:=hide e12;have lx:=T3.x.row.1;have hcxl:=T3.x.sl;obtain⟨_,_,exx,slx⟩:=hcxl;cases exx
         have slx1:=slx.le;have slx2:=slx.cap;have kbn:(bb:Int)<n:=om1;clear T3 T4 e12 hbb hob hbs B3 slx lx;go_wp2_with fail
         refine(HOm.out _).mono ?_;rintro e w4 ⟨v,rfl,iv,k4⟩;have T5:=HT4.out.keep k4;obtain⟨q1,q2,q3,rfl⟩:=iv.form;have th:=T5.y.there hbn;have T6:=T5.sety hbn iv;have HT6:=hide (T6.congr HE12.out.1 HE12.out.2);clear T5 T6;go_wp2_with (refine Nu.FU rfl _ _ rl1 gy (bb*2) _ _ _ _ rl1 rl1 th ?_)
         go_roundw
         case rel=>exact⟨t+1,om1,by go_num,HT6.out⟩
         case measure=>simp [intOf];omega
      ·have eF:F- (t:Int)=0:=om1;have et:F.toNat=t:=om1;rw [et] at HSH;rw [eF];have ow:Own w.heap.size w wq _ n (sh m a n):=⟨by rw [HSH.out];exact FV T2.x.row HBr.out.size,HBr.out.trans (T2.x.below.mono HBr.out.size),Nat.le_trans HBr.out.size T2.x.base⟩;go_wp2;go_ret;exact⟨_,rfl,ow⟩
end
section
open Go.RowKit Dec Nv Vc St Ld Nu Cn
attribute [local go_sem ↓] Go.wp_at_zero Go.wp_at_succ
theorem aaq(n:Nat)(w:World)(h1:1<=n)(h4:n<=4):
 Calls Tryz.prog 69 #[.int .i64 (n:Int)] w fun e w'=> ∃ v,e= .returned v/\Own w.heap.size w w' v n (sh 1073741824 (fun _=>1) n):=by
 have HOf:=hide (fun W=>fJ 1 W om1 om1);go_enter Tryz.func69,Tryz.ntmps69
 go_wp2;go_loopw [3,4] (fun v i wr=> ∃ k:Nat,k<=n/\i= .int .i64 (k:Int)/\Nls w.heap.size w wr v k (fun _=>1)) (fun _ i _=>n- (intOf i).toNat)
 case atStart=>exact⟨0,om1,rfl,Nls.nil (Below.refl _ _) (Nat.le_refl _) _⟩
 case round=>
  rename World=>wr;obtain⟨k,hk,rfl,hN⟩:=hrel;by_cases h:k<n
  · have HN:=hide hN;clear hN;have kn:(k:Int)<n:=om1;go_wp2_with fail
    refine(HOf.out _).mono ?_;rintro e w1 ⟨v,rfl,iv,k1⟩;obtain⟨q1,q2,q3,rfl⟩:=iv.form;have nr:=HN.out.keep k1
    go_wp2_with (first
     |(refine Nu.qZ rfl _ _ rl1 w.heap.size w _ k (fun _=>1) rl1 nr om1 _ q1 q2 q3 rl1 iv rl1 ?_;intro v' w2 n2)
     |fail)
    go_roundw
    case rel=>exact⟨k+1,om1,by go_num,n2⟩
    case measure=>simp [intOf];omega
  · obtain rfl:n=k:=om1;obtain⟨g,cap,rfl,hat,_⟩:=hN.at om1;have HSh:=hide (BX 1073741824 g n cap (fun _=>1) wr hat h4 om1 om1 (fun k _=>by omega) (by rw [jc];omega));have HB:=hide hN.below;have HL:=hide (show w.heap.size<=wr.heap.size from hN.base);clear hN hat;go_wp2_with fail
    refine(HSh.out).mono ?_;rintro e w2 ⟨v,rfl,ow⟩;have ow2:Own w.heap.size w w2 v n (sh 1073741824 (fun _=>1) n):=⟨FV ow.row HL.out,HB.out.trans (ow.below.mono HL.out),Nat.le_trans HL.out ow.base⟩;clear ow;go_wp2;go_ret;exact⟨_,rfl,ow2⟩
theorem oz(ao:Option Addr)(n ca:Nat)(z:Nat->Int)(fl:Int)(w:World)(hs:Sl w ao n ca z)(hz:B64 z)(b:Bool)(hb:b=true↔Ch n z fl)(f0: -9223372036854775808<=fl)(f1:fl<=9223372036854775807):
 Calls Tryz.prog 27 #[.slice ao n ca, .int .i64 fl] w fun e w'=>e= .returned (.bool b)/\Below w.heap.size w w':=by
 obtain⟨x,hao,hc⟩:=hs.get;have l1:=hs.le;have l2:=hs.cap;have HZ:=hide hz;have HB:=hide hb;have HC:=hide hc;have no: ¬Ch n z fl->b=false:=fun h=>by cases b<;>simp_all
 have NO:=hide no;clear hz hb hc no hs;by_cases hH:1<=n/\n<=4/\0<=fl/\fl<=67108864
 ·obtain⟨hn1,hn4,hf0,hf1⟩:=hH;obtain rfl:=hao om1;have e1: ¬(n:Int)<1:=om1;have e2: ¬(4:Int)<n:=om1;go_enter Tryz.func27,Tryz.ntmps27
  go_wp2;go_loopw [5,6] (fun lv i wr=> ∃ k:Nat,k<=n/\i= .int .i64 (k:Int)/\lv= .int .i64 (1073741824- tot z k)/\0<=1073741824- tot z k/\0<=tot z k/\(∀ j,j<k->fl<=z j)/\w=wr) (fun _ i _=>n- (intOf i).toNat)
  case atStart=>exact⟨0,om1,rfl,rfl,by show(0:Int)<=1073741824- 0;omega,Int.le_refl _,fun j hj=>by omega,rfl⟩
  case round=>
   obtain⟨k,hk,rfl,rfl,hl0,ht0,hfl,rfl⟩:=hrel;by_cases h:k<n
   ·have ck:=HC.out k h;have bk:=HZ.out k;have HU:Hid (tot z (k+1)=tot z k+z k):=rfl;have HF:=hide hfl;have kn:(k:Int)<n:=om1;obtain⟨zk,hzk⟩: ∃ q,q=z k:=⟨_,rfl⟩;obtain⟨tk,htk⟩: ∃ q,q=tot z k:=⟨_,rfl⟩;rw [← hzk] at ck bk HU;rw [← htk] at hl0 ht0 HU ⊢;have HZK:=hide hzk;clear hzk htk hfl;by_cases c1:zk<fl
    ·obtain rfl:b=false:=NO.out (fun q=>by have:=q.each k h;rw [← HZK.out] at this;omega);go_wp2;go_ret;exact⟨rfl,Below.refl _ _⟩
    ·by_cases c2:1073741824- tk<zk
     ·obtain rfl:b=false:=NO.out (fun q=>by have:=q.le (k:=k+1) h;rw [HU.out] at this;omega);go_wp2;go_ret;exact⟨rfl,Below.refl _ _⟩
     ·go_wp2;go_roundw
      case rel=>
       refine⟨k+1,om1,by go_num,by rw [HU.out];congr 1;omega,by rw [HU.out];omega,by rw [HU.out];omega,fun j hj=> ?_,by first|trivial|rfl⟩;by_cases e:j=k
       ·rw [e,← HZK.out];omega
       ·exact HF.out j om1
      case measure=>simp [intOf];omega
   ·obtain rfl:n=k:=om1;have HF:=hide hfl
    have hd:b=decide (1073741824- tot z n=0):=by
     by_cases e:tot z n=1073741824
     ·rw [HB.out.2 ⟨hn1,hn4,hf0,hf1,hfl,e⟩];exact(decide_eq_true om1).symm
     ·rw [NO.out (fun q=>e q.sum)];exact(decide_eq_false om1).symm
    have HD:=hide hd;obtain⟨tk,htk⟩: ∃ q,q=tot z n:=⟨_,rfl⟩;rw [← htk] at hl0 ht0 HD ⊢;clear htk hfl hd;by_cases e:1073741824- tk=0
    ·obtain rfl:b=true:=by rw [HD.out];exact decide_eq_true e
     rw [e];go_wp2;go_ret;exact⟨rfl,Below.refl _ _⟩
    ·obtain rfl:b=false:=by rw [HD.out];exact decide_eq_false e
     have e':(1073741824- tk==0)=false:=by simp [e]
     have e'': ¬tk=1073741824:=om1;have e3: ¬(1073741824:Int)=tk:=om1;go_wp2;go_ret;exact⟨rfl,Below.refl _ _⟩
 ·obtain rfl:b=false:=NO.out (fun q=>hH ⟨q.one,q.four,q.lo,q.hi⟩);clear hao HC HZ HB NO;rcases(by omega:n=0\/4<n\/(1<=n/\n<=4/\fl<0)\/(1<=n/\n<=4/\0<=fl/\67108864<fl)) with h|h|⟨h1,h2,h3⟩|⟨h1,h2,h3,h4⟩
  ·subst h;go_enter Tryz.func27,Tryz.ntmps27
   go_wp2;go_ret;exact⟨rfl,Below.refl _ _⟩
  ·have e1: ¬(n:Int)<1:=om1;have e2:(4:Int)<n:=om1;go_enter Tryz.func27,Tryz.ntmps27
   go_wp2;go_ret;exact⟨rfl,Below.refl _ _⟩
  ·have e1: ¬(n:Int)<1:=om1;have e2: ¬(4:Int)<n:=om1;go_enter Tryz.func27,Tryz.ntmps27
   go_wp2;go_ret;exact⟨rfl,Below.refl _ _⟩
  ·have e1: ¬(n:Int)<1:=om1;have e2: ¬(4:Int)<n:=om1;go_enter Tryz.func27,Tryz.ntmps27
   go_wp2;go_ret;exact⟨rfl,Below.refl _ _⟩
def OfR(w w':World)(n:Nat)(z:Nat->Int)(fl:Int)(v:Value)(er:Int):Prop:=
 (¬Ah n z fl/\v= .slice none 0 0/\er=1/\Below w.heap.size w w')\/(Ah n z fl/\tot z n=0/\v= .slice none 0 0/\er=11/\Below w.heap.size w w')\/
 (Ah n z fl/\0<tot z n/\er=0/\Own w.heap.size w w' v n (fun k=>sh (1073741824- fl*n) z n k+fl))
theorem TQ(ao:Option Addr)(n ca:Nat)(z:Nat->Int)(fl:Int)(w:World)(hs:Sl w ao n ca z)(hz:B64 z)(f0: -9223372036854775808<=fl)(f1:fl<=9223372036854775807):
 Calls Tryz.prog 134 #[.slice ao n ca, .int .i64 fl] w fun e w'=> ∃ v er,e= .returned (.tuple #[v, .int .i64 er])/\OfR w w' n z fl v er:=by
 obtain⟨x,hao,hc⟩:=hs.get;have l1:=hs.le;have l2:=hs.cap;have HZ:=hide hz;have HC:=hide hc;clear hz hc hs;by_cases hH:1<=n/\n<=4/\0<=fl/\fl<=67108864
 ·obtain⟨hn1,hn4,hf0,hf1⟩:=hH;obtain rfl:=hao om1;have e1: ¬(n:Int)<1:=om1;have e2: ¬(4:Int)<n:=om1;go_enter Tryz.func134,Tryz.ntmps134
  go_wp2;go_loopw [6,7,8] (fun v sv i wr=> ∃ k:Nat,k<=n/\i= .int .i64 (k:Int)/\sv= .bool (decide (0<tot z k))/\Nls w.heap.size w wr v k z/\(∀ j,j<k->0<=z j/\z j<=4611686018427387903)) (fun _ _ i _=>n- (intOf i).toNat)
  case atStart=>exact⟨0,om1,rfl,rfl,Nls.nil (Below.refl _ _) (Nat.le_refl _) _,fun j hj=>by omega⟩
  case round=>
   rename World=>wr;obtain⟨k,hk,rfl,rfl,hN,hfl⟩:=hrel;by_cases h:k<n
   ·have ck:=ah hN.below (HC.out k h);have bk:=HZ.out k;have ht0:=qF (a:=z) (n:=k) (fun j hj=>(hfl j hj).1);have HU:Hid (tot z (k+1)=tot z k+z k):=rfl;have HF:=hide hfl;have HN:=hide hN;have kn:(k:Int)<n:=om1;obtain⟨zk,hzk⟩: ∃ q,q=z k:=⟨_,rfl⟩;obtain⟨tk,htk⟩: ∃ q,q=tot z k:=⟨_,rfl⟩;rw [← hzk] at ck bk HU;rw [← htk] at ht0 HU ⊢;have HZK:=hide hzk;clear hzk htk hfl hN;by_cases c1:zk<0
    ·have hno: ¬Ah n z fl:=fun q=>by have:=q.each k h;rw [← HZK.out] at this;omega
     have HNO:=hide hno;clear hno;go_wp2;go_ret2;exact⟨_,_,rfl,Or.inl ⟨HNO.out,rfl,rfl,HN.out.below⟩⟩
    ·by_cases c2:4611686018427387903<zk
     ·have hno: ¬Ah n z fl:=fun q=>by have:=q.each k h;rw [← HZK.out] at this;omega
      have HNO:=hide hno;clear hno;go_wp2;go_ret2;exact⟨_,_,rfl,Or.inl ⟨HNO.out,rfl,rfl,HN.out.below⟩⟩
     ·have HOf:=hide (fun W=>fJ zk W om1 om1)
      have HFN:Hid (∀ j,j<k+1->0<=z j/\z j<=4611686018427387903):=fun j hj=>by
       by_cases e:j=k
       ·rw [e,← HZK.out];omega
       ·exact HF.out j om1
      obtain⟨sb,hsb⟩: ∃ q,q=decide (0<tk):=⟨_,rfl⟩;rw [← hsb];by_cases c3:0<tk
      ·rw [decide_eq_true c3] at hsb;subst hsb;go_wp2_with fail
       refine(HOf.out _).mono ?_;rintro e w1 ⟨v,rfl,iv,k1⟩;obtain⟨q1,q2,q3,rfl⟩:=iv.form;have nr:=HN.out.keep k1
       go_wp2_with (first
        |(refine Nu.qZ rfl _ _ rl1 w.heap.size w _ k z rl1 nr om1 _ q1 q2 q3 (by rw [HZK.out]) (by rw [← HZK.out];exact iv) rl1 ?_;intro v' w2 n2)
        |fail)
       go_roundw
       case rel=>exact⟨k+1,om1,by go_num,by rw [HU.out,decide_eq_true (show 0<tk+zk by omega)],n2,HFN.out⟩
       case measure=>simp [intOf];omega
      ·rw [decide_eq_false c3] at hsb;subst hsb;have HSN:Hid (decide (0<tot z (k+1))=decide (0<zk)):=by show decide (0<tot z (k+1))=decide (0<zk);rw [HU.out,show tk+zk=zk by omega]
       go_wp2_with fail
       refine(HOf.out _).mono ?_;rintro e w1 ⟨v,rfl,iv,k1⟩;obtain⟨q1,q2,q3,rfl⟩:=iv.form;have nr:=HN.out.keep k1
       go_wp2_with (first
        |(refine Nu.qZ rfl _ _ rl1 w.heap.size w _ k z rl1 nr om1 _ q1 q2 q3 (by rw [HZK.out]) (by rw [← HZK.out];exact iv) rl1 ?_;intro v' w2 n2)
        |fail)
       go_roundw
       case rel=>exact⟨k+1,om1,by go_num,by rw [HSN.out],n2,HFN.out⟩
       case measure=>simp [intOf];omega
   ·obtain rfl:n=k:=om1;have hmay:Ah n z fl:=⟨hn1,hn4,hf0,hf1,hfl⟩;have ht0:=qF (a:=z) (n:=n) (fun j hj=>(hfl j hj).1);by_cases c3:0<tot z n
    ·rw [decide_eq_true c3];obtain⟨g,cap,rfl,hat,_⟩:=hN.at om1;have hm4:=KT hf0 hf1 hn4;have HSh:=hide (BX (1073741824- fl*n) g n cap z wr hat hn4 om1 om1 (fun k hk=>by have:=hfl k hk;omega) c3)
     have hsn: ∀ j,j<n->0<=sh (1073741824- fl*n) z n j/\sh (1073741824- fl*n) z n j<=1073741824:=fun j hj=>by
      have a1:=UW (m:=1073741824- fl*n) om1 (fun i hi=>(hfl i hi).1) c3 hj;have a2:=sh_le (m:=1073741824- fl*n) om1 (fun i hi=>(hfl i hi).1) c3 hj;omega
     have HSN:=hide hsn;have HMAY:=hide hmay;have HT:=hide c3;have HB:=hide hN.below;have HL:=hide (show w.heap.size<=wr.heap.size from hN.base);obtain⟨P,hP⟩: ∃ q,q=fl*(n:Int):=⟨_,rfl⟩;obtain⟨s,hs⟩: ∃ q,q=sh (1073741824- fl*n) z n:=⟨_,rfl⟩;rw [← hs] at HSh HSN;rw [← hP] at HSh hm4;have HSS:=hide hs;have hPw:fl*(n:Int)=P:=hP.symm;clear hN hat hfl hmay hsn c3 hs hP;go_wp2_with fail
     refine(HSh.out).mono ?_;rintro e w2 ⟨v,rfl,ow⟩;obtain⟨gx,cx,rfl,_,_⟩:=ow.row.form om1;have owl:=ow.sl;obtain⟨_,_,exx,slx⟩:=owl;cases exx
     have slx1:=slx.le;have slx2:=slx.cap;have HO:=hide ow;clear ow slx;go_wp2;go_loopw [10] (fun i w3=> ∃ k:Nat,k<=n/\i= .int .i64 (k:Int)/\Own wr.heap.size wr w3 (.slice (some ⟨gx,0,none⟩) n cx) n (fun j=>if j<k then s j+fl else s j)) (fun i _=>n- (intOf i).toNat)
     case atStart=>exact⟨0,om1,rfl,HO.out.congr (fun k hk=>by rw [if_neg om1])⟩
     case round=>
      rename World=>w3;obtain⟨k,hk,rfl,o3⟩:=hrel;by_cases h:k<n
      ·have ck:=o3.cell (j:=k) h;simp only [if_neg (Nat.lt_irrefl k)] at ck;have fk:=o3.free k;have bk:=HSN.out k h;have kn:(k:Int)<n:=om1;obtain⟨sk,hsk⟩: ∃ q,q=s k:=⟨_,rfl⟩;rw [← hsk] at ck bk;have o4:=o3.set k (sk+fl)
       have HO4:=hide (o4.congr (z':=fun j=>if j<k+1 then s j+fl else s j) (fun j hj=>by
        show(if j=k then sk+fl else if j<k then s j+fl else s j)=if j<k+1 then s j+fl else s j
        by_cases e:j=k
        ·rw [if_pos e,if_pos om1,e,hsk]
        ·rw [if_neg e];by_cases e2:j<k
         ·rw [if_pos e2,if_pos om1]
         ·rw [if_neg e2,if_neg om1]))
       clear o3 o4 hsk;go_wp2;go_roundw
       case rel=>exact⟨k+1,om1,by go_num,HO4.out⟩
       case measure=>simp [intOf];omega
      ·obtain rfl:n=k:=om1;have o5:Own w.heap.size w w3 (.slice (some ⟨gx,0,none⟩) n cx) n (fun k=>s k+fl):=⟨(FV (o3.congr (z':=fun k=>s k+fl) (fun j hj=>by rw [if_pos hj])).row HL.out),HB.out.trans (o3.below.mono HL.out),Nat.le_trans HL.out o3.base⟩;have HO5:=hide o5;clear o3 o5;go_wp2;go_ret2;refine⟨_,_,rfl,Or.inr (Or.inr ⟨HMAY.out,HT.out,rfl, ?_⟩)⟩;rw [← HSS.out];exact HO5.out
    ·have HMAY:=hide hmay;have HT0:Hid (tot z n=0):=by show tot z n=0;omega
     have HNB:=hide hN.below;rw [decide_eq_false c3];clear hmay hfl hN c3 ht0;go_wp2;go_ret2;exact⟨_,_,rfl,Or.inr (Or.inl ⟨HMAY.out,HT0.out,rfl,rfl,HNB.out⟩)⟩
 ·have hno: ¬Ah n z fl:=fun q=>hH ⟨q.one,q.four,q.lo,q.hi⟩;have HNO:=hide hno;clear hao HC HZ hno;rcases(by omega:n=0\/4<n\/(1<=n/\n<=4/\fl<0)\/(1<=n/\n<=4/\0<=fl/\67108864<fl)) with h|h|⟨h1,h2,h3⟩|⟨h1,h2,h3,h4⟩
  ·subst h;clear hH;go_enter Tryz.func134,Tryz.ntmps134
   go_wp2;go_ret2;exact⟨_,_,rfl,Or.inl ⟨HNO.out,rfl,rfl,Below.refl _ _⟩⟩
  ·have e1: ¬(n:Int)<1:=om1;have e2:(4:Int)<n:=om1;clear hH;go_enter Tryz.func134,Tryz.ntmps134
   go_wp2;go_ret2;exact⟨_,_,rfl,Or.inl ⟨HNO.out,rfl,rfl,Below.refl _ _⟩⟩
  ·have e1: ¬(n:Int)<1:=om1;have e2: ¬(4:Int)<n:=om1;clear hH;go_enter Tryz.func134,Tryz.ntmps134
   go_wp2;go_ret2;exact⟨_,_,rfl,Or.inl ⟨HNO.out,rfl,rfl,Below.refl _ _⟩⟩
  ·have e1: ¬(n:Int)<1:=om1;have e2: ¬(4:Int)<n:=om1;clear hH;go_enter Tryz.func134,Tryz.ntmps134
   go_wp2;go_ret2;exact⟨_,_,rfl,Or.inl ⟨HNO.out,rfl,rfl,Below.refl _ _⟩⟩
end
section
open Go.RowKit Vc Cn Mt
attribute [local go_sem ↓] Go.wp_at_zero Go.wp_at_succ
namespace Mx
theorem uy{p:Prop}(h:p):Hid p:=h
structure Dst(w:World)(lo:Option Addr)(n cm:Nat)(U V:Nat->Value):Prop where
 le:n<=cm
 cap:cm<=9223372036854775807
 at': ∀ k,k<n-> ∃ x,lo=some x/\w.cell? (x.add (k*2))=some (U k)/\w.cell? ((x.add (k*2)).add 1)=some (V k)
theorem Dst.get{w:World}{lo:Option Addr}{n cm:Nat}{U V:Nat->Value}(h:Dst w lo n cm U V): ∃ x,(0<n->lo=some x)/\ ∀ k,k<n->w.cell? (x.add (k*2))=some (U k)/\w.cell? ((x.add (k*2)).add 1)=some (V k):=by
 cases lo with
 |none=>exact⟨⟨0,0,none⟩,fun h0=>(by obtain⟨x,hx,_⟩:=h.at' 0 h0;cases hx),fun k hk=>(by obtain⟨x,hx,_⟩:=h.at' k hk;cases hx)⟩
 |some x=>exact⟨x,fun _=>rfl,fun k hk=>by obtain⟨y,hy,hc⟩:=h.at' k hk;cases hy;exact hc⟩
theorem Dst.keep{w w':World}{lo:Option Addr}{n cm:Nat}{U V:Nat->Value}(h:Dst w lo n cm U V)(b:Below w.heap.size w w'):Dst w' lo n cm U V:=
 ⟨h.le,h.cap,fun k hk=>by obtain⟨x,hx,h0,h1⟩:=h.at' k hk;exact⟨x,hx,ah b h0,ah b h1⟩⟩
theorem uk(a:Addr):a.add 0=a:=by
 unfold Addr.add;split<;>simp_all
theorem isD:Tryz.prog.underlying 60=some (.struct (Tryz.prog.fieldsOf 60)):=by kernel_rfl
theorem sizeD:(Tryz.prog.info? 60).map (·.size)=some 2:=by kernel_rfl
theorem rH(w:World)(x:Addr)(u v:Value)(h0:w.cell? x=some u)(h1:w.cell? (x.add 1)=some v):(Instr.loadAt 60 (.pointer (some x))).run Tryz.prog w= .ok (.agg #[u,v]) w:=by
 have hl:(loadCells x [u,v].length).run Tryz.prog w= .ok [u,v].toArray w:=run_loadCells_list (P:=Tryz.prog) w x [u,v] (fun j y hv=>by
  match j,hv with
  |0,hv=>rw [uk];simp at hv;subst hv;exact h0
  |1,hv=>simp at hv;subst hv;exact h1)
 have hv:(loadVar 60 x).run Tryz.prog w= .ok (.agg #[u,v]) w:=by
  cases hq:Tryz.prog.info? 60 with
  |none=>have:=sizeD;rw [hq] at this;cases this
  |some i=>
   have hs:i.size=2:=by have:=sizeD;rw [hq] at this;simpa using this
   have hagg:(isAgg 60).run Tryz.prog w= .ok true w:=by
    unfold isAgg;rw [Sem.run_bind,run_underlying isD w];simp
   simp [loadVar,Sem.run_bind,hagg,sizeOf,typeInfo,hq,hs];simp at hl;simp [hl]
 simp only [Instr.loadAt,Instr.sureAddr,Sem.run_bind,Sem.run_pure,Result.andThen_ok,hv]
theorem oC{P:Program}{ops:Array Oper}{rest:List Oper}{o:Oper}{a:Act}{w:World}{Q:Exit->Act->World->Prop}(hgd:o.guard=none)(t:TypeId)(y:Operand)(ho:o.op= .load t y)
 (x:Addr) (u:Value) (hy:a.eval y= .pointer (some x)) (hr:(Instr.loadAt t (.pointer (some x))).run P w= .ok u w)
 (h:wpList P ops Q rest (a.put o.dst u) w):wpList P ops Q (o::rest) a w:=by
 refine wpList_plain hgd fun _ hK=> ?_;unfold Oper.wp execOp;simp only [ho,hy,Sem.run_bind,Sem.run_pure,hr,Result.andThen_ok];exact hK _ _ h
end Mx
open Mx
theorem OJ(lo ho:Option Addr)(n cm m hc:Nat)(U V:Nat->Value)(c:Nat->Int)(g:Nat->Bool)(b:Bool)(w:World)(hl:Dst w lo n cm U V)(hs:Sl w ho m hc c)(bc:B64 c)
 (hg: ∀ W,Below w.heap.size w W-> ∀ k,k<n->Calls Tryz.prog 25 #[.agg #[U k,V k]] W fun e w'=>e= .returned (.bool (g k))/\Below W.heap.size W w')
 (hb:b=true↔n=m/\Ch m c 0/\ ∀ k,k<n->g k=true):
 Calls Tryz.prog 17 #[.slice lo n cm, .slice ho m hc] w fun e w'=>e= .returned (.bool b)/\Below w.heap.size w w':=by
 have HCk:=uy (fun W (k:Below w.heap.size w W) (b:Bool) (hb:b=true↔Ch m c 0)=>oz ho m hc c 0 W (hs.keep k) bc b hb om1 om1);have l1:=hl.le;have l2:=hl.cap;have l3:=hs.le;have l4:=hs.cap;obtain⟨x,hlo,hcl⟩:=hl.get;have HLO:=uy hlo;have HCL:=uy hcl;have HG:=uy hg;have HB:=uy hb;have no: ∀ q:Prop,(b=true->q)-> ¬q->b=false:=fun q h1 h2=>by cases b<;>simp_all
 have NO:=uy no;clear hl hs hlo hcl hg hb no bc;by_cases e:n=m
 ·subst e;by_cases h:Ch n c 0
  ·have D:=uy (HCk.out w (Below.refl _ _) true ⟨fun _=>h,fun _=>rfl⟩);have hn1:=h.one;have HH:=uy h;obtain rfl:=HLO.out om1;clear HCk h;go_enter Tryz.func17,Tryz.ntmps17
   go_wp2_with fail
   refine(D.out).mono ?_;rintro e w1 ⟨rfl,k1⟩;have HK1:=uy k1;clear k1 D;go_wp2;go_loopw [5] (fun i wr=> ∃ k:Nat,k<=n/\i= .int .i64 (k:Int)/\(∀ j,j<k->g j=true)/\Below w.heap.size w wr) (fun i _=>n- (intOf i).toNat)
   case atStart=>exact⟨0,om1,rfl,fun j hj=>by omega,HK1.out⟩
   case round=>
    rename World=>wr;obtain⟨k,hk,rfl,hj,kb⟩:=hrel;by_cases hkn:k<n
    ·obtain⟨c0,c1⟩:=HCL.out k hkn;have c0:=ah kb c0;have c1:=ah kb c1;have HC:=uy (HG.out wr kb k hkn);have HJ:=uy hj;have HKB:=uy kb;have HC0:=uy c0;have HC1:=uy c1;have kn:(k:Int)<n:=om1;obtain⟨u,hu⟩: ∃ q,q=U k:=⟨_,rfl⟩;obtain⟨v,hv⟩: ∃ q,q=V k:=⟨_,rfl⟩;obtain⟨gk,hgk⟩: ∃ q,q=g k:=⟨_,rfl⟩;rw [← hu,← hv,← hgk] at HC;rw [← hu] at HC0;rw [← hv] at HC1;have HGK:=uy hgk;clear hu hv hgk hj kb c0 c1
     go_wp2_with (first
      |(refine oC rfl 60 _ rl1 (x.add (k*2)) (.agg #[u,v]) rl1 (rH _ _ u v HC0.out HC1.out) ?_)
      |fail)
     refine(HC.out).mono ?_;rintro e w2 ⟨rfl,k2⟩;have KB:=ae HKB.out k2;clear k2;cases gk
     ·have hbf:b=false:=NO.out _ HB.out.1 fun q=>by have:=q.2.2 k hkn;rw [← HGK.out] at this;cases this
      subst hbf;go_wp2;go_ret;exact⟨rfl,KB⟩
     ·go_wp2;go_roundw
      case rel=>exact⟨k+1,om1,by go_num,fun j hj=>by
       by_cases e:j=k
       ·rw [e,← HGK.out]
       ·exact HJ.out j om1,KB⟩
      case measure=>simp [intOf];omega
    ·obtain rfl:n=k:=om1;have hbt:b=true:=HB.out.2 ⟨by first|rfl|trivial,HH.out,hj⟩;subst hbt;go_wp2;go_ret;exact⟨rfl,kb⟩
  ·have D:=uy (HCk.out w (Below.refl _ _) false ⟨fun q=>(by cases q),fun q=>absurd q h⟩);have hbf:b=false:=NO.out _ HB.out.1 fun q=>h q.2.1;subst hbf;clear HCk h;go_enter Tryz.func17,Tryz.ntmps17
   go_wp2_with fail
   refine(D.out).mono ?_;rintro e w1 ⟨rfl,k1⟩;go_wp2;go_ret;exact⟨rfl,k1⟩
 ·have hbf:b=false:=NO.out _ HB.out.1 fun q=>e q.1;subst hbf;have e': ¬(n:Int)=m:=om1;clear HCk e;go_enter Tryz.func17,Tryz.ntmps17
  go_wp2;go_ret;exact⟨rfl,Below.refl _ _⟩
end
section
open Go.RowKit Dec Nv Vc St Ld Nu Cn
attribute [local go_sem ↓] Go.wp_at_zero Go.wp_at_succ
namespace Nu
end Nu
end
section
open Go.RowKit Vc Cn Mx
attribute [local go_sem ↓] Go.wp_at_zero Go.wp_at_succ
namespace Mx
end Mx
end
section
open Go.RowKit Vc St Mt Dt Cn Mx El
attribute [local go_sem ↓] Go.wp_at_zero Go.wp_at_succ
namespace Mx
theorem XZ:(Tryz.prog.info? 60).map (fun i=>(i.zero,i.size,i.bytes))=some (some (.agg #[.slice none 0 0, .slice none 0 0]),2,48):=by kernel_rfl
end Mx
end
section
open Go.RowKit Vc St Mt Dt Cn Mx El
attribute [local go_sem ↓] Go.wp_at_zero Go.wp_at_succ
namespace Mx
theorem oD{fn:Func}{t u v q:Tmp}(h:fn.results= #[.tmp t, .tmp u, .tmp v, .tmp q])(tmps:Array Value)(P:Program)(w:World):
 (results fn tmps).run P w= .ok (.tuple #[tmps.getD t undef,tmps.getD u undef,tmps.getD v undef,tmps.getD q undef]) w:=by
 simp [results,h]
theorem aar{t:TypeId}{B:Nat}{w0 w:World}{v:Value}{n:Nat}{X:Nat->Nat->Int}{P:Nat->Nat->Nat->Int}(h:Els t 2 B w0 w v n (StR X P)):
 ∃ lo cm,∃ (A pl:Nat->Option Addr) (C pc:Nat->Nat),v= .slice lo n cm/\Dst w lo n cm (fun k=> .slice (A k) 6 (C k)) (fun k=> .slice (pl k) 6 (pc k))/\ ∀ k,k<n->Sl w (A k) 6 (C k) (X k)/\Grid w (pl k) 6 (pc k) 6 (P k):=by
 rcases Nat.eq_zero_or_pos n with e|e
 · subst e;obtain⟨ao,ca,rfl,h1,h2⟩:=h.form;exact⟨ao,ca,fun _=>none,fun _=>none,fun _=>0,fun _=>0,rfl,⟨h1,h2,fun j hj=>by omega⟩,fun k hk=>by omega⟩
 · obtain⟨g,cap,S,rfl,h1,h2,_,_,h3,_⟩:=h.at e
   have key: ∀ k,k<n-> ∃ y:Option Addr×Nat×Option Addr×Nat,S k= [.slice y.1 6 y.2.1, .slice y.2.2.1 6 y.2.2.2]/\Sl w y.1 6 y.2.1 (X k)/\Grid w y.2.2.1 6 y.2.2.2 6 (P k):=fun k hk=>by
    obtain⟨a,c,l,m,e1,e2,e3⟩:=(h3 k hk).2.1;exact⟨(a,c,l,m),e1,e2,e3⟩
   refine⟨some ⟨g,0,none⟩,cap,fun k=>if h:k<n then(key k h).choose.1 else none,fun k=>if h:k<n then(key k h).choose.2.2.1 else none,fun k=>if h:k<n then(key k h).choose.2.1 else 0,fun k=>if h:k<n then(key k h).choose.2.2.2 else 0,rfl,⟨h1,h2,fun k hk=>⟨_,rfl, ?_⟩⟩,fun k hk=> ?_⟩
   · have e1:=(key k hk).choose_spec.1;simp only [dif_pos hk];refine⟨?_, ?_⟩
     · have:=(h3 k hk).2.2 0 _ (by rw [e1];rfl);rw [Addr.add_lit,Nat.zero_add];exact this
     · have:=(h3 k hk).2.2 1 _ (by rw [e1];rfl);rw [Addr.add_lit,Addr.add_lit,Nat.zero_add];exact this
   · simp only [dif_pos hk];exact(key k hk).choose_spec.2
end Mx
end
end Go.Proofs.YtcefcokpjbebhaaGreatDoor
