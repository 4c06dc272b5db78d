/-
  The document's answer of layer 6 (radomeref06): times, Exp.
-/
import Derived.Test.YtcefcokpjbebhaaGreatDoorLgV
import Derived.Test.YtcefcokpjbebhaaGreatDoorM28
set_option linter.unusedSimpArgs false
set_option linter.unusedVariables false
set_option maxHeartbeats 2000000
set_option maxRecDepth 20000
namespace Go.Proofs.YtcefcokpjbebhaaGreatDoor
section
open Go.RowKit Dec
attribute [local go_sem ↓] Go.wp_at_zero Go.wp_at_succ
theorem Hid.mkR{p:Prop}(h:p):Hid p:=h
theorem MQ(a b:Int)(p:Nat)(w:World)(ha0: -9223372036854775808<=a)(ha1:a<=9223372036854775807)(hb0: -9223372036854775808<=b)(hb1:b<=9223372036854775807)(hp:p<=62):
 Calls Tryz.prog 96 #[.slice (some ⟨w.heap.size,0,none⟩) 1 1, .slice (some ⟨w.heap.size+1,0,none⟩) 1 1, .int .i64 p] ((w.alloc (.cells #[.int .i64 a] 2)).alloc (.cells #[.int .i64 b] 2)) fun e w'=>
  e= .returned (.tuple #[.int .i64 (Qn.clamp (Qn.rne (a*b) (2^p))), .bool (Qn.great (Qn.rne (a*b) (2^p)))])/\Below w.heap.size w w':=by
 have hA:((w.alloc (.cells #[.int .i64 a] 2)).alloc (.cells #[.int .i64 b] 2)).heap[w.heap.size]?=some (.cells #[.int .i64 a] 2 (0,0)):=by
  rw [Below.heap_alloc _ _ _ (by simp)];exact heap_alloc_new w _
 have hB:((w.alloc (.cells #[.int .i64 a] 2)).alloc (.cells #[.int .i64 b] 2)).heap[w.heap.size+1]?=some (.cells #[.int .i64 b] 2 (0,0)):=by
  have h:=heap_alloc_new (w.alloc (.cells #[.int .i64 a] 2)) (.cells #[.int .i64 b] 2);rwa [show(w.alloc (.cells #[.int .i64 a] 2)).heap.size=w.heap.size+1 by simp] at h
 have h:=Lp (some ⟨w.heap.size,0,none⟩) (some ⟨w.heap.size+1,0,none⟩) ⟨w.heap.size,0,none⟩ ⟨w.heap.size+1,0,none⟩ 1 1 1 (fun _=>a) (fun _=>b) p
  ((w.alloc (.cells #[.int .i64 a] 2)).alloc (.cells #[.int .i64 b] 2)) om1 (fun _=>rfl) (fun _=>rfl)
  (fun k hk=>by obtain rfl:k=0:=om1
                exact(cell_of_row _ _ 0 _ _ (0,0) hA).trans rfl)
  (fun k hk=>by obtain rfl:k=0:=om1
                exact(cell_of_row _ _ 0 _ _ (0,0) hB).trans rfl)
  (fun _=>⟨ha0,ha1⟩) (fun _=>⟨hb0,hb1⟩) hp
 have e1:Dt.dk (fun _=>a) (fun _=>b) 1=a*b:=by show 0+a*b=_;omega
 rw [e1] at h;refine h.mono ?_;rintro e w1 ⟨rfl,k1⟩;exact⟨rfl,ae (af (af (Below.refl _ _) _) _) k1⟩
theorem yf(a b:Int)(w:World)(ha0: -9223372036854775808<=a)(ha1:a<=9223372036854775807)(hb0: -9223372036854775808<=b)(hb1:b<=9223372036854775807):
 Calls Tryz.prog 218 #[.int .i64 a, .int .i64 b] w fun e w'=>e= .returned (.int .i64 (Gw.tim a b))/\Below w.heap.size w w':=by
 go_enter Tryz.func218,Tryz.ntmps218
 go_wp2_with fail
 refine(MQ a b 50 w ha0 ha1 hb0 hb1 om1).mono ?_;rintro e w1 ⟨rfl,k1⟩;go_wp2;go_ret;exact⟨rfl,k1⟩
namespace Gw
def jh(w:World)(g:Nat)(z:Int):Prop:= ∃ a L c,gQ w g (.bool (decide (z<0))) (.slice a L c)/\bY w (.agg #[.bool (decide (z<0)), .slice a L c]) z
theorem jh.keep{w w':World}{g:Nat}{z:Int}(h:jh w g z)(hb:Below w.heap.size w w'):jh w' g z:=by
 obtain⟨a,L,c,h1,h2⟩:=h;exact⟨a,L,c,h1.keep hb,h2.below hb⟩
theorem Iw{w:World}{v:Value}{z:Int}(h:bY w v z): ∃ a L c,v= .agg #[.bool (decide (z<0)), .slice a L c]/\jh (w.alloc (.cells #[.bool (decide (z<0)), .slice a L c] 190)) w.heap.size z:=by
 obtain⟨a,L,c,rfl⟩:=h.form;exact⟨a,L,c,rfl,a,L,c,dD w _ _,h.below (af (Below.refl _ _) _)⟩
theorem jh.lt{w:World}{g:Nat}{z:Int}(h:jh w g z):g<w.heap.size:=by
 obtain⟨a,L,c,h1,h2⟩:=h;exact h1.lt
theorem jh.other{w:World}{g g':Nat}{z:Int}(h:jh w g z)(hne:g≠g'){p:Bool}{ao:Option Addr}{n c:Nat}(hr:gQ w g' (.bool p) (.slice ao n c))(u0 u1:Value):jh ((w.setCell ⟨g',0,none⟩ u0).setCell ⟨g',1,none⟩ u1) g z:=by
 obtain⟨a,L,c,h1,h2⟩:=h;exact⟨a,L,c,h1.ig hne u0 u1,h2.jC hr u0 u1⟩
theorem jh.set{w:World}{g:Nat}{z':Int}{a:Option Addr}{L c:Nat}(h:bY w (.agg #[.bool (decide (z'<0)), .slice a L c]) z'){p:Bool}{ao:Option Addr}{n cc:Nat}(hr:gQ w g (.bool p) (.slice ao n cc)):
 jh ((w.setCell ⟨g,0,none⟩ (.bool (decide (z'<0)))).setCell ⟨g,1,none⟩ (.slice a L c)) g z':=⟨a,L,c,hr.set2 _ _,h.jC hr _ _⟩
theorem jh.row{w:World}{g:Nat}{z:Int}(h:jh w g z): ∃ a L c,w.cell? ⟨g,0,none⟩=some (.bool (decide (z<0)))/\w.cell? ⟨g,1,none⟩=some (.slice a L c)/\w.frozen? ⟨g,0,none⟩=false/\w.frozen? ⟨g,1,none⟩=false/\bY w (.agg #[.bool (decide (z<0)), .slice a L c]) z/\gQ w g (.bool (decide (z<0))) (.slice a L c):=by
 obtain⟨a,L,c,h1,h2⟩:=h;exact⟨a,L,c,h1.c0,h1.c1,h1.free 0,h1.free 1,h2,h1⟩
theorem qA{n:Int}(h0: -1000000000000000000000000000000<=n)(h1:n<=1000000000000000000000000000000):(bZ n.natAbs).length<=800000:=by
 have:=bH (show n.natAbs<10^31 by omega);omega
end Gw
end
section
open Go.RowKit Dec Gw
attribute [local go_sem ↓] Go.wp_at_zero Go.wp_at_succ
namespace Gw
theorem MR(w:World):bY w (.agg #[.bool (decide ((0:Int)<0)), .slice none 0 0]) 0:=⟨.slice none 0 0,rfl,Or.inl ⟨rfl,rfl⟩⟩
theorem gu{w:World}{g g' j:Nat}{v:Value}(h:w.cell? ⟨g,j,none⟩=some v)(hne: ¬g=g')(u0 u1:Value):((w.setCell ⟨g',0,none⟩ u0).setCell ⟨g',1,none⟩ u1).cell? ⟨g,j,none⟩=some v:=by
 have hn: ∀ i j:Nat,(⟨g',i,none⟩:Addr)≠⟨g,j,none⟩:=fun i j e=>hne (Addr.mk.inj e).1.symm;rw [World.cell?_setCell_other _ _ _ _ (hn 1 j),World.cell?_setCell_other _ _ _ _ (hn 0 j)];exact h
theorem end2{B:Nat}{w w5:World}{z1 z2:Int}{a1 a2:Option Addr}{L1 c1 L2 c2:Nat}(hB:Below B w w5)
 (i1:bY w5 (.agg #[.bool (decide (z1<0)), .slice a1 L1 c1]) z1) (i2:bY w5 (.agg #[.bool (decide (z2<0)), .slice a2 L2 c2]) z2) (hs:B<=w5.heap.size):
 jh ((w5.alloc (.cells #[.bool (decide (z1<0)), .slice a1 L1 c1] 190)).alloc (.cells #[.bool (decide (z2<0)), .slice a2 L2 c2] 190)) w5.heap.size z1/\
 jh ((w5.alloc (.cells #[.bool (decide (z1<0)), .slice a1 L1 c1] 190)).alloc (.cells #[.bool (decide (z2<0)), .slice a2 L2 c2] 190)) (w5.heap.size+1) z2/\
 Below B w ((w5.alloc (.cells #[.bool (decide (z1<0)), .slice a1 L1 c1] 190)).alloc (.cells #[.bool (decide (z2<0)), .slice a2 L2 c2] 190)):=
 ⟨⟨a1,L1,c1,(dD w5 _ _).alloc _,(i1.alloc _).alloc _⟩,⟨a2,L2,c2,jI (w5.alloc _) (by simp) _ _,(i2.alloc _).alloc _⟩,hB.trans ((af (af (Below.refl _ _) _) _).mono hs)⟩
theorem end1{B g:Nat}{w w5:World}{z1 z2:Int}{a1 a2:Option Addr}{L1 c1 L2 c2:Nat}(hB:Below B w w5){p:Bool}{ao:Option Addr}{n cc:Nat}(r:gQ w5 g (.bool p) (.slice ao n cc))(hg:B<=g)
 (i1:bY w5 (.agg #[.bool (decide (z1<0)), .slice a1 L1 c1]) z1) (i2:bY w5 (.agg #[.bool (decide (z2<0)), .slice a2 L2 c2]) z2) (hs:B<=w5.heap.size):
 jh (((w5.setCell ⟨g,0,none⟩ (.bool (decide (z1<0)))).setCell ⟨g,1,none⟩ (.slice a1 L1 c1)).alloc (.cells #[.bool (decide (z2<0)), .slice a2 L2 c2] 190)) g z1/\
 jh (((w5.setCell ⟨g,0,none⟩ (.bool (decide (z1<0)))).setCell ⟨g,1,none⟩ (.slice a1 L1 c1)).alloc (.cells #[.bool (decide (z2<0)), .slice a2 L2 c2] 190)) w5.heap.size z2/\
 Below B w (((w5.setCell ⟨g,0,none⟩ (.bool (decide (z1<0)))).setCell ⟨g,1,none⟩ (.slice a1 L1 c1)).alloc (.cells #[.bool (decide (z2<0)), .slice a2 L2 c2] 190)):=
 ⟨⟨a1,L1,c1,(r.set2 _ _).alloc _,(i1.jC r _ _).alloc _⟩,⟨a2,L2,c2,AL w5 g _ _ _ _,(i2.jC r _ _).alloc _⟩,(aV hB hg _ _).trans ((af (Below.refl _ _) _).mono (by simpa using hs))⟩
theorem abk{B g g':Nat}{w w5:World}{z1 z2:Int}{a1 a2:Option Addr}{L1 c1 L2 c2:Nat}(hB:Below B w w5){p p':Bool}{ao ao':Option Addr}{n cc n' cc':Nat}(r:gQ w5 g (.bool p) (.slice ao n cc))(r':gQ w5 g' (.bool p') (.slice ao' n' cc'))(hg:B<=g)(hg':B<=g')(hne:g≠g')
 (i1:bY w5 (.agg #[.bool (decide (z1<0)), .slice a1 L1 c1]) z1) (i2:bY w5 (.agg #[.bool (decide (z2<0)), .slice a2 L2 c2]) z2):
 jh ((((w5.setCell ⟨g,0,none⟩ (.bool (decide (z1<0)))).setCell ⟨g,1,none⟩ (.slice a1 L1 c1)).setCell ⟨g',0,none⟩ (.bool (decide (z2<0)))).setCell ⟨g',1,none⟩ (.slice a2 L2 c2)) g z1/\
 jh ((((w5.setCell ⟨g,0,none⟩ (.bool (decide (z1<0)))).setCell ⟨g,1,none⟩ (.slice a1 L1 c1)).setCell ⟨g',0,none⟩ (.bool (decide (z2<0)))).setCell ⟨g',1,none⟩ (.slice a2 L2 c2)) g' z2/\
 Below B w ((((w5.setCell ⟨g,0,none⟩ (.bool (decide (z1<0)))).setCell ⟨g,1,none⟩ (.slice a1 L1 c1)).setCell ⟨g',0,none⟩ (.bool (decide (z2<0)))).setCell ⟨g',1,none⟩ (.slice a2 L2 c2)):=
 have r2:=r'.ig (Ne.symm hne) (.bool (decide (z1<0))) (.slice a1 L1 c1)
 ⟨jh.other ⟨a1,L1,c1,r.set2 _ _,i1.jC r _ _⟩ hne r2 _ _,⟨a2,L2,c2,r2.set2 _ _,(i2.jC r _ _).jC r2 _ _⟩,aV (aV hB hg _ _) hg' _ _⟩
end Gw
theorem Wn(x:Int)(w:World)(h0:x<=0)(h1: -9223372036854775808<=x):
 Calls Tryz.prog 133 #[.int .i64 x] w fun e w'=>e= .returned (.int .i64 (Gw.ex x))/\Below w.heap.size w w':=by
 by_cases hx:x< -47185920
 · go_enter Tryz.func133,Tryz.ntmps133
   go_wp2;go_ret;exact⟨by unfold Gw.ex;rw [if_pos hx];rfl,Below.refl _ _⟩
 · have hY:(-x)*((2^30:Nat):Int)= -x*1073741824:=by rw [show((2^30:Nat):Int)=1073741824 from rfl]
   obtain⟨Y,hYe⟩: ∃ Y,Y= -x*1073741824:=⟨_,rfl⟩;have hY0:0<=Y:=om1;have hY1:Y<=50665496807930880:=om1;have hK:Y/780414346020670=hv x:=by rw [hYe];rfl
   have hR:Y%780414346020670=rs x:=by rw [hYe];rfl
   have bK:=Nw h0 (show-47185920<=x by omega);have bR:=Jb x;have hEx:Gw.ex x=Qn.rne (ps (rs x) 21) (2^(20+(hv x).toNat)):=by unfold Gw.ex;rw [if_neg hx]
   have bE:=ex_bd h0 (show-47185920<=x by omega);obtain⟨K,hKe⟩: ∃ K:Nat,K=(hv x).toNat:=⟨_,rfl⟩;obtain⟨R,hRe⟩: ∃ R,R=rs x:=⟨_,rfl⟩;have hKe':hv x=(K:Int):=om1;rw [hKe'] at hK bK;rw [← hRe] at hR bR hEx;rw [← hKe] at hEx;obtain⟨E,hE⟩: ∃ E,E=Gw.ex x:=⟨_,rfl⟩;rw [← hE] at hEx bE ⊢;have HE:=Hid.mkR hEx;have HY:=Hid.mkR hY;have HYe:=Hid.mkR hYe;have HK:=Hid.mkR hK;have HR:=Hid.mkR hR;clear hE hEx hKe hKe' hRe hY hYe hK hR;have OFx:=Hid.mkR (fun W=>fJ (-x) W om1 om1);have T30:=Hid.mkR (fun W=>two_any 30 W om1);have MU:=Hid.mkR (fun va vb W=>mul_any va vb (-x) ((2^30:Nat):Int) W (by have:=qA (n:= -x) om1 om1;omega) (by have:=qA (n:=((2^30:Nat):Int)) (by decide) (by decide);omega));rw [HY.out,← HYe.out] at MU;have OFL:=Hid.mkR (fun W=>fJ 780414346020670 W om1 om1);have DV:=Hid.mkR (fun va vb W=>div_pos va vb Y 780414346020670 W hY0 (by have:=qA (n:=Y) om1 om1;omega) om1 (by have:=qA (n:=780414346020670) om1 om1;omega));rw [HK.out,HR.out] at DV;have SM:=Hid.mkR (fun v z W (z0: -9223372036854775807<=z) (z1:z<=9223372036854775807)=>AP v z W z0 z1);clear HY HYe HK HR hY0 hY1;go_enter Tryz.func133,Tryz.ntmps133
   go_wp2_with fail
   refine(OFx.out _).mono ?_;rintro e w1 ⟨v1,rfl,i1,k1⟩;go_wp2_with fail
   refine(T30.out _).mono ?_;rintro e w2 ⟨v2,rfl,i2,k2⟩;go_wp2_with fail
   refine(MU.out _ _ _ (i1.below k2) i2).mono ?_;rintro e w3 ⟨v3,rfl,i3,k3⟩;obtain⟨a3,L3,c3,rfl,n3⟩:=Iw i3;have K3:=af (ae (ae k1 k2) k3) (Obj.cells #[.bool (decide (Y<0)), .slice a3 L3 c3] 190);clear k1 k2 k3 i1 i2 i3 OFx T30 MU;go_upto_region 4 with fail
   obtain⟨a,L,c,x0,x1,f0,f1,ix,rx⟩:=n3.row;clear n3 f0 f1 rx;generalize w3.alloc (Obj.cells #[.bool (decide (Y<0)), .slice a3 L3 c3] 190)=W at*;generalize w3.heap.size=g at*;go_cut [4,5] (fun p q wx=> ∃ gk gr:Nat,p= .pointer (some ⟨gk,0,none⟩)/\q= .pointer (some ⟨gr,0,none⟩)/\jh wx gk (K:Int)/\jh wx gr R/\w.heap.size<=gk/\w.heap.size<=gr/\Below w.heap.size w wx)
   case first=>
    have hgl:g<W.heap.size:=World.block_lt_of_cell? W _ x0;have ng1: ¬g=W.heap.size:=om1;have ng2: ¬g=W.heap.size+1:=om1
    go_region_held3 (fun w'=>w'.cell? ⟨g,0,none⟩=some (.bool (decide (Y<0)))/\w'.cell? ⟨g,1,none⟩=some (.slice a L c)) (first
     |with_reducible exact⟨x0,x1⟩
     |with_reducible exact⟨jg x0,jg x1⟩
     |with_reducible exact⟨(dh _ x0),(dh _ x1)⟩
     |with_reducible exact⟨jg (dh _ x0),jg (dh _ x1)⟩
     |with_reducible exact⟨(dh _ (dh _ x0)),(dh _ (dh _ x1))⟩
     |with_reducible exact⟨jg (dh _ (dh _ x0)),jg (dh _ (dh _ x1))⟩
     |with_reducible exact⟨y0,y1⟩
     |with_reducible exact⟨(dh _ y0),(dh _ y1)⟩
     |with_reducible exact⟨(dh _ (dh _ y0)),(dh _ (dh _ y1))⟩
     |with_reducible exact⟨u0,u1⟩
     |with_reducible exact⟨(dh _ u0),(dh _ u1)⟩
     |with_reducible exact⟨(dh _ (dh _ u0)),(dh _ (dh _ u1))⟩
     |with_reducible exact⟨gu u0 (by assumption) _ _,gu u1 (by assumption) _ _⟩
     |with_reducible exact⟨dh _ (gu u0 (by assumption) _ _),dh _ (gu u1 (by assumption) _ _)⟩
     |with_reducible exact⟨gu (gu u0 (by assumption) _ _) (by assumption) _ _,gu (gu u1 (by assumption) _ _) (by assumption) _ _⟩
     |with_reducible exact⟨gu (dh _ u0) (by assumption) _ _,gu (dh _ u1) (by assumption) _ _⟩
     |with_reducible exact⟨dh _ (gu (dh _ u0) (by assumption) _ _),dh _ (gu (dh _ u1) (by assumption) _ _)⟩
     |with_reducible exact⟨gu (gu (dh _ u0) (by assumption) _ _) (by assumption) _ _,gu (gu (dh _ u1) (by assumption) _ _) (by assumption) _ _⟩)
     (first
       |(go_at_call 99;refine(OFL.out _).mono ?_;rintro e w4 ⟨v4,rfl,i4,k4⟩
         have kX:Below W.heap.size W w4:=by first|exact ae (Below.refl _ _).drew k4|exact ae (af (Below.refl _ _) _).drew k4|exact ae (af (af (Below.refl _ _) _) _).drew k4
         have y0:=ah kX x0;have y1:=ah kX x1;have iy:=ix.below kX;have z4:=kX.size;have ng3: ¬g=w4.heap.size:=om1;have ng4: ¬g=w4.heap.size+1:=om1;try(have r1:gQ w4 W.heap.size (.bool false) (.slice none 0 0):=by first|exact(dD W _ _).drew.keep k4|exact((dD W _ _).alloc _).drew.keep k4)
         try(have r2:gQ w4 (W.heap.size+1) (.bool false) (.slice none 0 0):=(jI (W.alloc _) (by simp) _ _).drew.keep k4))
       |(go_at_call 217;refine(DV.out _ _ _ (iy.below ?_) (i4.below ?_)).mono ?_
         · first|exact Below.refl _ _|exact af (Below.refl _ _) _|exact af (af (Below.refl _ _) _) _
         · first|exact Below.refl _ _|exact af (Below.refl _ _) _|exact af (af (Below.refl _ _) _) _
         rintro e w5 ⟨v5,v6,rfl,i5,i6,k5⟩;have kY:Below w4.heap.size w4 w5:=by first|exact k5|exact ae (af (Below.refl _ _) _) k5|exact ae (af (af (Below.refl _ _) _) _) k5
         obtain⟨a5,L5,c5,e5⟩:=i5.form;subst e5;obtain⟨a6,L6,c6,e6⟩:=i6.form;subst e6;have z5:=kY.size;have ng5: ¬g=w5.heap.size:=om1;have ng6: ¬g=w5.heap.size+1:=om1;have u0:=ah kY y0;have u1:=ah kY y1;try(have r1':=r1.keep kY;have q0:=r1'.c0;have q1:=r1'.c1;have q2:=r1'.free 0;have q3:=r1'.free 1;have q4:=fun o=>(r1'.alloc o).c0;have q5:=fun o=>(r1'.alloc o).c1;have q6:=fun o=>(r1'.alloc o).free 0;have q7:=fun o=>(r1'.alloc o).free 1;have rl:=r1.lt;have rn: ¬W.heap.size=w4.heap.size:=om1;have rn': ¬w4.heap.size=W.heap.size:=om1;have rl':=r1'.lt;have rn5: ¬W.heap.size=w5.heap.size:=om1;have rn6: ¬w5.heap.size=W.heap.size:=om1)
         try(have r2':=r2.keep kY;have q20:=r2'.c0;have q21:=r2'.c1;have q22:=r2'.free 0;have q23:=r2'.free 1)
         try(have s1:gQ w5 w4.heap.size (.bool false) (.slice none 0 0):=(by first|exact(dD w4 _ _).keep k5|exact((dD w4 _ _).alloc _).keep k5);have q10:=s1.c0;have q11:=s1.c1;have q12:=s1.free 0;have q13:=s1.free 1;have q14:=fun o=>(s1.alloc o).c0;have q15:=fun o=>(s1.alloc o).c1;have q16:=fun o=>(s1.alloc o).free 0;have q17:=fun o=>(s1.alloc o).free 1;have sl:=s1.lt;have sn5: ¬w4.heap.size=w5.heap.size:=om1;have sn6: ¬w5.heap.size=w4.heap.size:=om1)
         try(have s2:gQ w5 (w4.heap.size+1) (.bool false) (.slice none 0 0):=(jI (w4.alloc _) (by simp) _ _).keep k5;have q30:=s2.c0;have q31:=s2.c1;have q32:=s2.free 0;have q33:=s2.free 1)))
    all_goals go_wp2_with fail
    all_goals go_meet
    all_goals have z3:=K3.size
    all_goals have K5:Below w.heap.size w w5:=(K3.trans (kX.mono z3)).trans (kY.mono om1)
    all_goals refine⟨_,_,rfl,rfl, ?_⟩
    all_goals first
     |(have h:=end2 K5 i5 i6 om1;with_reducible exact⟨h.1,h.2.1,om1,om1,h.2.2⟩)
     |(have h:=end2 K5 i6 i5 om1;with_reducible exact⟨h.2.1,h.1,om1,om1,h.2.2⟩)
     |(have h:=end1 K5 r1' om1 i5 i6 om1;with_reducible exact⟨h.1,h.2.1,om1,om1,h.2.2⟩)
     |(have h:=end1 K5 r1' om1 i6 i5 om1;with_reducible exact⟨h.2.1,h.1,om1,om1,h.2.2⟩)
     |(have h:=end1 K5 s1 om1 i5 i6 om1;with_reducible exact⟨h.1,h.2.1,om1,om1,h.2.2⟩)
     |(have h:=end1 K5 s1 om1 i6 i5 om1;with_reducible exact⟨h.2.1,h.1,om1,om1,h.2.2⟩)
     |(have h:=abk K5 r1' s1 om1 om1 om1 i5 i6;with_reducible exact⟨h.1,h.2.1,om1,om1,h.2.2⟩)
     |(have h:=abk K5 s1 r1' om1 om1 om1 i5 i6;with_reducible exact⟨h.1,h.2.1,om1,om1,h.2.2⟩)
     |(have h:=abk K5 r1' r2' om1 om1 om1 i5 i6;with_reducible exact⟨h.1,h.2.1,om1,om1,h.2.2⟩)
     |(have h:=abk K5 r2' r1' om1 om1 om1 i5 i6;with_reducible exact⟨h.1,h.2.1,om1,om1,h.2.2⟩)
     |(have h:=abk K5 s1 s2 om1 om1 om1 i5 i6;with_reducible exact⟨h.1,h.2.1,om1,om1,h.2.2⟩)
     |(have h:=abk K5 s2 s1 om1 om1 om1 i5 i6;with_reducible exact⟨h.1,h.2.1,om1,om1,h.2.2⟩)
   case rest=>
    obtain⟨gk,gr,rfl,rfl,nk,nr,hk,hr,KW⟩:=hcut;clear x0 x1 ix K3 DV OFL;obtain⟨a7,L7,c7,x0,x1,_,_,ir,_⟩:=nr.row;go_wp2_with fail
    refine(SM.out _ R _ om1 om1 ir).mono ?_;rintro e w6 ⟨rfl,k6⟩;have nk6:=nk.keep k6;have K6:=ae KW k6;have kl:=nk6.lt;clear nk nr x0 x1 ir KW k6;have HTd:=Hid.mkR (fun j=>YC (r:=R) om1 om1 j);have HPs:=Hid.mkR (fun j=>UZ (r:=R) om1 om1 j);go_wp2;go_loopw [8,9] (fun t n wr=> ∃ j:Nat,j<=21/\n= .int .i64 (j:Int)/\t= .int .i64 (td R j)/\jh wr w6.heap.size (ps R j)/\jh wr gk (K:Int)/\Below w.heap.size w wr) (fun _ n _=>21- (intOf n).toNat)
    case atStart=>exact⟨0,om1,rfl,rfl,⟨none,0,0,dD w6 _ _,MR _⟩,nk6.keep (af (Below.refl _ _) _),af K6 _⟩
    case round=>
     obtain⟨j,hj,rfl,rfl,nS,nK,hB⟩:=hrel;obtain⟨a,L,c,x0,x1,f0,f1,is,rs⟩:=nS.row;have hs6:w.heap.size<=w6.heap.size:=K6.size;have hne:gk≠w6.heap.size:=om1;by_cases hjk:j<=20
     · have bt:=HTd.out j;have bs:=HPs.out j;have OFt:=Hid.mkR (fun W=>fJ (td R j) W om1 om1);have AD:=Hid.mkR (fun va vb W=>add_any va vb (ps R j) (td R j) W (by have:=qA (n:=ps R j) om1 om1;omega) (by have:=qA (n:=td R j) om1 om1;omega));have SB:=Hid.mkR (fun va vb W=>xH va vb (ps R j) (td R j) W (by have:=qA (n:=ps R j) om1 om1;omega) (by have:=qA (n:=td R j) om1 om1;omega));have TI:=Hid.mkR (fun W=>yf (td R j) R W om1 om1 om1 om1);have bq:=(yh (b:=R) bt.1 bt.2 om1 om1 om1).2;have hT:(tim (td R j) R).tdiv ((j:Int)+1)=td R (j+1):=rfl;by_cases he:j%2=0
       · have hm:(j:Int).tmod 2=0:=by rw [Int.tmod_eq_emod_of_nonneg om1];omega
         rw [mf R j he] at AD;obtain⟨T,hT'⟩: ∃ T,T=td R j:=⟨_,rfl⟩;obtain⟨T2,hT2⟩: ∃ T,T=td R (j+1):=⟨_,rfl⟩;obtain⟨q,hq⟩: ∃ q,q=tim (td R j) R:=⟨_,rfl⟩;have bt2:=HTd.out (j+1);rw [← hT2] at bt2;rw [← hT2,← hq] at hT;rw [← hq] at bq TI;rw [← hT'] at OFt TI bt AD ⊢;have HT2:=Hid.mkR hT2;clear hT' hT2 hq SB HTd;go_wp2
         go_region_with (first
          |(go_at_call 99;refine(OFt.out _).mono ?_;rintro e w8 ⟨v8,rfl,i8,k8⟩;have y0:=ah k8 x0;have y1:=ah k8 x1)
          |(go_at_call 98;refine(AD.out _ _ _ (is.below (ae (Below.refl _ _).drew k8)) i8).mono ?_;rintro e w9 ⟨v9,rfl,i9,k9⟩;obtain⟨a9,L9,c9,e9⟩:=i9.form;subst e9;have r9:=(rs.drew.keep k8).keep k9;have g0:=r9.c0;have g1:=r9.c1;have g2:=r9.free 0;have g3:=r9.free 1))
         all_goals go_wp2_with fail
         all_goals refine(TI.out _).mono ?_
         all_goals rintro e w10 ⟨rfl,k10⟩
         all_goals go_wp2
         all_goals go_roundw
         case rel=>exact⟨j+1,om1,by go_num,by rw [HT2.out],(jh.set i9 r9).keep k10,(((nK.keep (Below.refl _ _).drew).keep (ae k8 k9)).other hne r9 _ _).keep k10,ae (aV (ae (ae hB.drew k8) k9) hs6 _ _) k10⟩
         case measure=>simp [intOf];omega
         case rel=>exact⟨j+1,om1,by go_num,by rw [HT2.out],(jh.set i9 r9).keep k10,(((nK.keep (Below.refl _ _).drew).keep (ae k8 k9)).other hne r9 _ _).keep k10,ae (aV (ae (ae hB.drew k8) k9) hs6 _ _) k10⟩
         case measure=>simp [intOf];omega
       · have hm:(j:Int).tmod 2=1:=by rw [Int.tmod_eq_emod_of_nonneg om1];omega
         rw [qG R j he] at SB;obtain⟨T,hT'⟩: ∃ T,T=td R j:=⟨_,rfl⟩;obtain⟨T2,hT2⟩: ∃ T,T=td R (j+1):=⟨_,rfl⟩;obtain⟨q,hq⟩: ∃ q,q=tim (td R j) R:=⟨_,rfl⟩;have bt2:=HTd.out (j+1);rw [← hT2] at bt2;rw [← hT2,← hq] at hT;rw [← hq] at bq TI;rw [← hT'] at OFt TI bt SB ⊢;have HT2:=Hid.mkR hT2;clear hT' hT2 hq AD HTd;go_wp2
         go_region_with (first
          |(go_at_call 99;refine(OFt.out _).mono ?_;rintro e w8 ⟨v8,rfl,i8,k8⟩;have y0:=ah k8 x0;have y1:=ah k8 x1)
          |(go_at_call 132;refine(SB.out _ _ _ (is.below (ae (Below.refl _ _).drew k8)) i8).mono ?_;rintro e w9 ⟨v9,rfl,i9,k9⟩;obtain⟨a9,L9,c9,e9⟩:=i9.form;subst e9;have r9:=(rs.drew.keep k8).keep k9;have g0:=r9.c0;have g1:=r9.c1;have g2:=r9.free 0;have g3:=r9.free 1))
         all_goals go_wp2_with fail
         all_goals refine(TI.out _).mono ?_
         all_goals rintro e w10 ⟨rfl,k10⟩
         all_goals go_wp2
         all_goals go_roundw
         case rel=>exact⟨j+1,om1,by go_num,by rw [HT2.out],(jh.set i9 r9).keep k10,(((nK.keep (Below.refl _ _).drew).keep (ae k8 k9)).other hne r9 _ _).keep k10,ae (aV (ae (ae hB.drew k8) k9) hs6 _ _) k10⟩
         case measure=>simp [intOf];omega
         case rel=>exact⟨j+1,om1,by go_num,by rw [HT2.out],(jh.set i9 r9).keep k10,(((nK.keep (Below.refl _ _).drew).keep (ae k8 k9)).other hne r9 _ _).keep k10,ae (aV (ae (ae hB.drew k8) k9) hs6 _ _) k10⟩
         case measure=>simp [intOf];omega
     · obtain rfl:j=21:=om1;have bs:=HPs.out 21;obtain⟨D,hD⟩: ∃ D:Nat,D=20+K:=⟨_,rfl⟩;have hKd:20+(K:Int)=(D:Int):=om1;have hD2:D<=100:=om1;rw [← hD] at HE;clear hD;have TW:Hid (∀ (n:Int) (W:World),n=(D:Int)->Calls Tryz.prog 193 #[.int .i64 n] W fun e w'=> ∃ v,e= .returned v/\bY w' v ((2^D:Nat):Int)/\Below W.heap.size W w'):=Hid.mkR (fun n W hn=>by rw [hn];exact two_any D W om1);have RN:=Hid.mkR (fun va vb W=>Iu va vb (ps R 21) (2^D) W (Nat.two_pow_pos _) (qA (n:=ps R 21) om1 om1) (by have:=EL D;omega));have hE2:Tn.rne (ps R 21) ((2^D:Nat):Int)=E:=by rw [HE.out];show Qn.rne _ _=_;congr 1
       rw [hE2] at RN;obtain⟨Sv,hSv⟩: ∃ s,s=ps R 21:=⟨_,rfl⟩;rw [← hSv] at RN is x0 rs;clear hE2 HE HPs HTd hSv bs nS;obtain⟨b,M,d,v0,v1,_,_,ik,rk⟩:=nK.row;go_wp2
       go_region_held3 (fun w'=>w'.cell? ⟨w6.heap.size,0,none⟩=some (.bool (decide (Sv<0)))/\w'.cell? ⟨w6.heap.size,1,none⟩=some (.slice a L c)/\w'.cell? ⟨gk,0,none⟩=some (.bool (decide ((K:Int)<0)))/\w'.cell? ⟨gk,1,none⟩=some (.slice b M d))
        (first
          |with_reducible exact⟨x0,x1,v0,v1⟩
          |with_reducible exact⟨jg x0,jg x1,jg v0,jg v1⟩
          |with_reducible exact⟨p0,p1,p2,p3⟩
          |with_reducible exact⟨q0,q1,q2,q3⟩
          |with_reducible exact⟨t0,t1,t2,t3⟩
          |with_reducible exact⟨u0,u1,u2,u3⟩)
        (first
          |(go_at_call_of 107 (Value.slice b M d);refine(SM.out _ (K:Int) _ om1 om1 (ik.below (Below.refl _ _).drew)).mono ?_;rintro e w8 ⟨rfl,k8⟩;have p0:=ah k8 x0;have p1:=ah k8 x1;have p2:=ah k8 v0;have p3:=ah k8 v1;have i8:=is.below (ae (Below.refl _ _).drew k8))
          |(go_at_call 193;refine(TW.out _ _ ?_).mono ?_;(first|exact hKd|(simp only [wrap64,IntKind.wrap_i64];omega));rintro e w9 ⟨v9,rfl,i9,k9⟩;have q0:=ah k9 p0;have q1:=ah k9 p1;have q2:=ah k9 p2;have q3:=ah k9 p3;have j9:=i8.below k9)
          |(go_at_call 192;refine(RN.out _ _ _ j9 i9).mono ?_;rintro e w10 ⟨v10,rfl,i10,k10⟩;have t0:=ah k10 q0;have t1:=ah k10 q1;have t2:=ah k10 q2;have t3:=ah k10 q3)
          |(go_at_call 107;refine(SM.out _ E _ om1 om1 i10).mono ?_;rintro e w11 ⟨rfl,k11⟩;have u0:=ah k11 t0;have u1:=ah k11 t1;have u2:=ah k11 t2;have u3:=ah k11 t3))
       all_goals go_wp2
       all_goals go_ret
       all_goals exact⟨rfl,ae (ae (ae (ae hB.drew k8) k9) k10) k11⟩
end
section
open Go.RowKit Dec Gw
attribute [local go_sem ↓] Go.wp_at_zero Go.wp_at_succ
namespace Gw
theorem loops{x d:Int}(h0:1<=x)(h:Dn x d): ∃ J I:Nat,J<=11/\I<=50/\d=(J:Int)- (I:Int)/\
 (∀ j,j<=J->(2251799813685248<=x/2^j↔j<J))/\(∀ i,i<=I->(x/2^J*2^i<1125899906842624↔i<I))/\x/2^J*2^I=mo x d/\(∀ j,0<=x/2^j/\x/2^j<=x)/\(∀ i,0<=x/2^J*2^i):=by
 have hd:=h;obtain⟨d0,d1,_,_⟩:=hd;have hx: ∀ j:Nat,0<=x/2^j/\x/2^j<=x:=fun j=>⟨Int.ediv_nonneg om1 (Int.pow_nonneg om1),Int.ediv_le_self _ om1⟩;rcases Int.lt_or_le d 0 with k|k
 · refine⟨0,(-d).toNat,om1,om1,om1, ?_, ?_, ?_,hx, ?_⟩
   · intro j hj;obtain rfl:j=0:=om1;have:=(PN h 0 om1).2 om1;rw [Int.pow_zero,Int.mul_one] at this;rw [Int.pow_zero,Int.ediv_one];omega
   · intro i hi;rw [Int.pow_zero,Int.ediv_one,PN h i om1];omega
   · rw [Int.pow_zero,Int.ediv_one];unfold mo;rw [if_pos k]
   · intro i;exact Int.mul_nonneg (hx 0).1 (Int.pow_nonneg om1)
 · refine⟨d.toNat,0,om1,om1,om1, ?_, ?_, ?_,hx, ?_⟩
   · intro j hj;rw [YG h j om1];omega
   · intro i hi;obtain rfl:i=0:=om1;have:=(U4 h).1;unfold mo at this;rw [if_neg om1] at this;rw [Int.pow_zero,Int.mul_one];omega
   · rw [Int.pow_zero,Int.mul_one];unfold mo;rw [if_neg om1]
   · intro i;exact Int.mul_nonneg (hx d.toNat).1 (Int.pow_nonneg om1)
end Gw
theorem Wp(x:Int)(b:Nat)(w:World)(h0:1<=x)(h1:x<=4611686018427387903)(hb:b<=62):
 Calls Tryz.prog 214 #[.int .i64 x, .int .i64 b] w fun e w'=>e= .returned (.int .i64 (Gw.lgb x (Gw.dn x) b))/\Below w.heap.size w w':=by
 have hd:=Zm h0 h1;obtain⟨J,I,hJ,hI,hJI,H1,H2,H3,B1,B2⟩:=loops h0 hd;have bm:=U4 hd;have bl:=lg_bd bm.1 bm.2 (e:=dn x- (b:Int)+50) om1 om1;have hv:Gw.lgb x (Gw.dn x) b=lg (mo x (dn x)) (dn x- (b:Int)+50):=rfl;rw [hv];obtain⟨m,hm⟩: ∃ m,m=mo x (dn x):=⟨_,rfl⟩;obtain⟨e,he⟩: ∃ e,e=dn x- (b:Int)+50:=⟨_,rfl⟩;have he2:e=50- (b:Int)+(J:Int)- (I:Int):=om1;rw [← hm] at bm bl H3 ⊢;rw [← he] at bl ⊢;have be: -100<=e/\e<=100:=om1;obtain⟨V,hV⟩: ∃ V,V=lg m e:=⟨_,rfl⟩;rw [← hV] at bl ⊢;have HV:=Hid.mkR hV;have HHJI:=Hid.mkR hJI;clear hV hv hd hm he hJI;have HH1:=Hid.mkR H1;have HH2:=Hid.mkR H2;have HH3:=Hid.mkR H3;have HB1:=Hid.mkR B1;have HB2:=Hid.mkR B2;have HE2:=Hid.mkR he2;clear H1 H2 H3 B1 B2 he2;go_enter Tryz.func214,Tryz.ntmps214
 go_wp2;go_loopw [5,6] (fun p q wr=> ∃ j:Nat,j<=J/\p= .int .i64 (x/2^j)/\q= .int .i64 (50- (b:Int)+(j:Int))/\wr=w) (fun p q _=>J- (intOf q- 50+(b:Int)).toNat)
 case atStart=>exact⟨0,om1,by rw [Int.pow_zero,Int.ediv_one],by simp,rfl⟩
 case round=>
  obtain⟨j,hj,rfl,rfl,rfl⟩:=hrel;have g1:=HH1.out j hj;have b1:=HB1.out j;by_cases hjk:j<J
  ·have hn:x/2^j/2=x/2^(j+1):=(Lg.MN x j).symm;obtain⟨p,hp⟩: ∃ p,p=x/2^j:=⟨_,rfl⟩;rw [← hp] at g1 b1 hn ⊢;have c1:2251799813685248<=p:=g1.2 hjk;have HN:=Hid.mkR hn;clear hp g1 hn;go_wp2;all_goals go_roundw
   case rel=>exact⟨j+1,om1,by rw [← HN.out],by go_num,trivial⟩
   case measure=>simp [intOf];omega
  ·obtain rfl:j=J:=om1;have c1: ¬2251799813685248<=x/2^j:=fun c=>absurd (g1.1 c) om1;obtain⟨p,hp⟩: ∃ p,p=x/2^j:=⟨_,rfl⟩;rw [← hp] at b1 c1 ⊢;rw [← hp] at HH2 HH3 HB2;have hp1:p<2251799813685248:=om1;clear hp g1 HH1 HB1 c1;go_wp2;go_loopw [5,6] (fun p' q ws=> ∃ i:Nat,i<=I/\p'= .int .i64 (p*2^i)/\q= .int .i64 (50- (b:Int)+(j:Int)- (i:Int))/\ws=wr) (fun p q _=>I- (50- (b:Int)+(j:Int)- intOf q).toNat)
   case atStart=>exact⟨0,om1,by rw [Int.pow_zero,Int.mul_one],by simp,rfl⟩
   case round=>
    obtain⟨i,hi,rfl,rfl,rfl⟩:=hrel;have g2:=HH2.out i hi;have b2:=HB2.out i;by_cases hik:i<I
    ·have hn:2*(p*2^i)=p*2^(i+1):=by rw [Int.pow_succ,Int.mul_comm 2,Int.mul_assoc]
     obtain⟨r,hr⟩: ∃ r,r=p*2^i:=⟨_,rfl⟩;rw [← hr] at g2 b2 hn ⊢;have c1:r<1125899906842624:=g2.2 hik;have HN:=Hid.mkR hn;clear hr g2 hn;go_wp2;all_goals go_roundw
     case rel=>exact⟨i+1,om1,by rw [← HN.out],by go_num,trivial⟩
     case measure=>simp [intOf];omega
    ·obtain rfl:i=I:=om1;rw [HH3.out,← HE2.out];clear g2 b2 HH2 HB2 HE2 HH3 HHJI;have bs:=PL bm.1 bm.2;have bq:=YE bm.1 bm.2;have HD:=Hid.mkR (fun W=>y8 (m- 1125899906842624) (m+1125899906842624) 50 W om1 om1 om1 om1 om1 om1);rw [XC bm.1 bm.2] at HD;obtain⟨gr,hgr⟩: ∃ g,g=Qn.great (Qn.rne (((m- 1125899906842624).natAbs:Int)*2^50) ((m+1125899906842624).natAbs:Int)):=⟨_,rfl⟩;rw [← hgr] at HD;have HQ:=Hid.mkR (fun W=>yf (s0 m) (s0 m) W om1 om1 om1 om1);have HU:=Hid.mkR (fun n=>U3 bm.1 bm.2 n);have HLs:=Hid.mkR (fun n=>PM bm.1 bm.2 n);have hu0:us m 0=s0 m:=rfl;have HUs:Hid (∀ n,us m (n+1)=tim (us m n) (tim (s0 m) (s0 m))):=Hid.mkR (fun n=>rfl);obtain⟨q,hq⟩: ∃ q,q=tim (s0 m) (s0 m):=⟨_,rfl⟩;obtain⟨s,hs⟩: ∃ s,s=s0 m:=⟨_,rfl⟩;rw [← hq] at bq HQ HUs;rw [← hs] at bs HD HQ hu0;have HU0:=Hid.mkR hu0;clear hq hs hu0 hgr;go_wp2_with fail
     refine(HD.out _).mono ?_;rintro e1 w1 ⟨rfl,rfl⟩;go_wp2_with fail
     refine(HQ.out _).mono ?_;rintro e2 w2 ⟨rfl,k2⟩;clear HD HQ;go_wp2;go_loopw [7,11] (fun u n wt=> ∃ j:Nat,j<=20/\n= .int .i64 (j:Int)/\u= .int .i64 (us m j)/\jh wt w2.heap.size (ls m j)/\Below w1.heap.size w1 wt) (fun _ n _=>20- (intOf n).toNat)
     case atStart=>exact⟨0,om1,rfl,by rw [HU0.out],⟨none,0,0,dD w2 _ _,MR _⟩,af k2 _⟩
     case round=>
      obtain⟨j,hj,rfl,rfl,nS,hB⟩:=hrel;obtain⟨a,L,c,x0,x1,f0,f1,is,rs⟩:=nS.row;have hs6:w1.heap.size<=w2.heap.size:=k2.size;have bu:=HU.out j;have bl':=HLs.out j;by_cases hjk:j<20
      ·have bt:=Ai (2*j+1) bu.1 bu.2;have HS:=Jd m j;have HN:=HUs.out j;have TI:=Hid.mkR (fun W=>yf (us m j) q W om1 om1 om1 om1);rw [← HN] at TI;obtain⟨u,hu⟩: ∃ u,u=us m j:=⟨_,rfl⟩;obtain⟨u',hu'⟩: ∃ u,u=us m (j+1):=⟨_,rfl⟩;obtain⟨S,hS⟩: ∃ a,a=ls m j:=⟨_,rfl⟩;rw [← hu] at bu bt HS TI;rw [← hu'] at TI;rw [← hS] at bl' HS is x0 rs;rw [← hu];have e1:(2*(j:Int)+1)=((2*j+1:Nat):Int):=om1;rw [← e1] at bt HS;obtain⟨t,ht⟩: ∃ t,u.tdiv (2*(j:Int)+1)=t:=⟨_,rfl⟩;rw [ht] at bt HS;have OFt:=Hid.mkR (fun W=>fJ t W om1 om1);have AD:=Hid.mkR (fun va vb W=>add_any va vb S t W (by have:=qA (n:=S) om1 om1;omega) (by have:=qA (n:=t) om1 om1;omega));rw [← HS] at AD;have HU':=Hid.mkR hu';obtain⟨k,hk⟩: ∃ k,2*(j:Int)+1=k:=⟨_,rfl⟩;have hk1:1<=k:=om1;have hk2:k<=100:=om1;have hk3:(k==0)=false:=by simp;omega
       have hk4: ¬k=0:=om1;rw [hk] at ht;have hw1:IntKind.i64.wrap (2*(j:Int))=2*(j:Int):=by rw [IntKind.wrap_i64];omega
       have hw2:IntKind.i64.wrap k=k:=by rw [IntKind.wrap_i64];omega
       have hw3:IntKind.i64.wrap t=t:=by rw [IntKind.wrap_i64];omega
       clear e1 HN hu hu' hS HS nS;go_wp2
       go_region_with (first
        |(go_at_call 99;refine(OFt.out _).mono ?_;rintro e w8 ⟨v8,rfl,i8,k8⟩;have y0:=ah k8 x0;have y1:=ah k8 x1)
        |(go_at_call 98;refine(AD.out _ _ _ (is.below (ae (Below.refl _ _).drew k8)) i8).mono ?_;rintro e w9 ⟨v9,rfl,i9,k9⟩;obtain⟨a9,L9,c9,e9⟩:=i9.form;subst e9;have r9:=(rs.drew.keep k8).keep k9;have g0:=r9.c0;have g1:=r9.c1;have g2:=r9.free 0;have g3:=r9.free 1))
       all_goals go_wp2_with fail
       all_goals refine(TI.out _).mono ?_
       all_goals rintro e w10 ⟨rfl,k10⟩
       all_goals go_wp2
       all_goals go_roundw
       case rel=>exact⟨j+1,om1,by go_num,by rw [HU'.out],(jh.set i9 r9).keep k10,ae (aV (ae (ae hB.drew k8) k9) hs6 _ _) k10⟩
       case measure=>simp [intOf];omega
       case rel=>exact⟨j+1,om1,by go_num,by rw [HU'.out],(jh.set i9 r9).keep k10,ae (aV (ae (ae hB.drew k8) k9) hs6 _ _) k10⟩
       case measure=>simp [intOf];omega
      ·obtain rfl:j=20:=om1;have bi:=YF bm.1 bm.2 be.1 be.2;have hV2:=HV.out;unfold lg at hV2;obtain⟨S,hS⟩: ∃ a,a=ls m 20:=⟨_,rfl⟩;rw [← hS] at bl' is x0 rs hV2 bi;have hS2:2*S=S+S:=om1;rw [hS2] at hV2 bi;obtain⟨A,hA⟩: ∃ A,A=S+S+e*780414346020670:=⟨_,rfl⟩;have AD1:=Hid.mkR (fun va vb W=>add_any va vb S S W (by have:=qA (n:=S) om1 om1;omega) (by have:=qA (n:=S) om1 om1;omega));have OFe:=Hid.mkR (fun W=>fJ e W om1 om1);have OFL:=Hid.mkR (fun W=>fJ 780414346020670 W om1 om1);have MU:=Hid.mkR (fun va vb W=>mul_any va vb e 780414346020670 W (by have:=qA (n:=e) om1 om1;omega) (by have:=qA (n:=780414346020670) om1 om1;omega));have AD2:=Hid.mkR (fun va vb W=>add_any va vb (S+S) (e*780414346020670) W (by have:=qA (n:=S+S) om1 om1;omega) (by have:=qA (n:=e*780414346020670) om1 om1;omega));rw [← hA] at AD2 bi hV2;have T30:=Hid.mkR (fun W=>two_any 30 W om1);have RN:=Hid.mkR (fun va vb W=>Iu va vb A (2^30) W (by decide) (qA (n:=A) om1 om1) (by have:=EL 30;omega));have hE2:Tn.rne A ((2^30:Nat):Int)=V:=hV2.symm;rw [hE2] at RN;have SM:=Hid.mkR (fun v W=>AP v V W om1 om1);clear hE2 hV2 HV hA hS hS2 nS bi bl' bu HU HLs HUs HU0;go_wp2_with fail
       refine(AD1.out _ _ _ is is).mono ?_;rintro e3 w3 ⟨v3,rfl,i3,k3⟩;go_wp2_with fail
       refine(OFe.out _).mono ?_;rintro e4 w4 ⟨v4,rfl,i4,k4⟩;go_wp2_with fail
       refine(OFL.out _).mono ?_;rintro e5 w5 ⟨v5,rfl,i5,k5⟩;go_wp2_with fail
       refine(MU.out _ _ _ (i4.below k5) i5).mono ?_;rintro e6 w6 ⟨v6,rfl,i6,k6⟩;go_wp2_with fail
       refine(AD2.out _ _ _ (((i3.below k4).below k5).below k6) i6).mono ?_;rintro e7 w7 ⟨v7,rfl,i7,k7⟩;obtain⟨a7,L7,c7,rfl,n7⟩:=Iw i7;have K7:=af (ae (ae (ae (ae (ae hB k3) k4) k5) k6) k7) (Obj.cells #[.bool (decide (A<0)), .slice a7 L7 c7] 190);obtain⟨a',L',c',y0,y1,_,_,iA,_⟩:=n7.row;clear i3 i4 i5 i6 i7 n7 k3 k4 k5 k6 k7 AD1 AD2 OFe OFL MU x0 x1 f0 f1 is rs;go_wp2;generalize w7.alloc (Obj.cells #[.bool (decide (A<0)), .slice a7 L7 c7] 190)=W at*;generalize w7.heap.size=g at*
       go_region_with (first
        |(go_at_call 193;refine(T30.out _).mono ?_;rintro e w8 ⟨v8,rfl,i8,k8⟩;have z0:=ah k8 y0;have z1:=ah k8 y1;have iB:=iA.below (ae (Below.refl _ _).drew k8))
        |(go_at_call 192;refine(RN.out _ _ _ iB i8).mono ?_;rintro e w9 ⟨v9,rfl,i9,k9⟩)
        |(go_at_call 107;refine(SM.out _ _ i9).mono ?_;rintro e w10 ⟨rfl,k10⟩))
       all_goals go_wp2
       all_goals go_ret
       all_goals exact⟨rfl,ae (ae (ae K7.drew k8) k9) k10⟩
end
end Go.Proofs.YtcefcokpjbebhaaGreatDoor
