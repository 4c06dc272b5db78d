/-
  Div of the document's answer (radomeref01), of a number that is not below 0: the quotient and the rest, digit by digit.
-/
import Derived.Test.YtcefcokpjbebhaaGreatDoorRefG
import Derived.Test.YtcefcokpjbebhaaGreatDoorM4
set_option linter.unusedSimpArgs false
set_option linter.unusedVariables false
set_option maxHeartbeats 2000000
namespace Go.Proofs.YtcefcokpjbebhaaGreatDoor
section
open Go.RowKit Dec
attribute [local go_sem ↓] Go.wp_at_zero Go.wp_at_succ
namespace Dec
def JV(w:World)(p:Addr):Nat:=match w.cell? p with|some (.int _ z)=>z.toNat|_=>0
end Dec
theorem JW{p:Prop}(h:p:=by
 obtain⟨ql1,r1,hin,hown2,hrd3,hfr3,hsz3⟩:=hrel;have hql:Hid (ql1.length=n):=hin.1.trans Hx.out;have kB:wr.cell? ⟨w.heap.size+1,1,none⟩=some (.slice bo m cb):=(hown2.below.cell (p:=⟨w.heap.size+1,1,none⟩) (show w.heap.size+1<w.heap.size+1+1+1+1 by omega)).trans (by go_simp);have hbw:Below w.heap.size w wr:=(af (af (af (af (Below.refl _ w) _) _) _) _).trans (hown2.below.mono om1);have hbr2:=hbr.below hbw (Nat.le_refl _);have hr10:r1<10*b:=by have:=hin.2.2.2.1;omega
 have hlr1:(bZ r1).length<=1000000:=by
  have h1:=bg (Nat.le_of_lt hr10);have h2:=Es 10 b;have h3:(bZ 10).length<=2:=bH om1;omega
 have hlb:(bZ b).length<=1000000:=om1;by_cases hr:r1<b
 ·go_wp2_with fail
  refine(yN _ _ r1 b _ hlr1 hlb hrd3 hbr2).mono ?_;rintro e w3 ⟨rfl,hb3⟩;rw [decide_eq_true hr];go_wp2;go_roundw
  case rel=>exact⟨j,ql1,r1,om1,by go_num,PH hin hr,hown2.keep hb3,hrd3.below hb3 (Nat.le_refl _),hfr3,Nat.le_trans hsz3 hb3.size⟩
  case measure=>simp [intOf]
 ·go_wp2_with fail
  refine(yN _ _ r1 b _ hlr1 hlb hrd3 hbr2).mono ?_;rintro e w3 ⟨rfl,hb3⟩;rw [decide_eq_false hr];have kB3:w3.cell? ⟨w.heap.size+1,1,none⟩=some (.slice bo m cb):=ah hb3 kB;go_wp2_with fail
  refine(OI _ _ r1 b _ hlr1 om1 (hrd3.below hb3 (Nat.le_refl _)) (hbr2.below hb3 (Nat.le_refl _))).mono ?_;rintro e w4 ⟨v4,rfl,hrd4,hfr4,hb4⟩;have hb34:=ae hb3 hb4;have hown4:=hown2.keep hb34;have gq:w4.cell? ⟨w.heap.size+1+1+1+1,j,none⟩=some (.int .i64 ((ql1.getD j 0:Nat):Int)):=hown4.at hql.out hj;have fq:w4.frozen? ⟨w.heap.size+1+1+1+1,j,none⟩=false:=hown4.free hql.out _;have gq0:wr.cell? ⟨w.heap.size+1+1+1+1,j,none⟩=some (.int .i64 ((ql1.getD j 0:Nat):Int)):=hown2.at hql.out hj;have hd1:=Ac hin (Nat.le_of_not_lt hr);have hstep:=Ns (hxl j hj) hin (Nat.le_of_not_lt hr);obtain⟨c,hc⟩: ∃ c,ql1.getD j 0=c:=⟨_,rfl⟩;rw [hc] at gq gq0 hd1 hstep;clear hc hown2 hrd3 kB kB3;go_wp2;go_roundw
  case rel=>exact⟨_,_,hstep,hown4.store hql.out (Nat.le_refl _) j _ (c+1) om1,hrd4.setOther (hfr4.mono (Nat.le_trans hsz3 hb3.size)) _ (by show w.heap.size+1+1+1+1<_;omega),hfr4.mono (Nat.le_trans hsz3 hb3.size),by have:=hb34.size;simp [World.setCell];omega⟩
  case measure=>
   have e1:JV wr ⟨w.heap.size+1+1+1+1,j,none⟩=c:=by unfold JV;rw [gq0];simp
   have e2:JV (w4.setCell ⟨w.heap.size+1+1+1+1,j,none⟩ (.int .i64 ((c:Int)+1))) ⟨w.heap.size+1+1+1+1,j,none⟩=c+1:=by
    unfold JV;rw [World.cell?_setCell_same w4 _ _ gq];simp
   rw [e1,e2];omega):p:=h
theorem JY{p:Prop}(h:p:=by
 have h2:=hO0.row.2;rw [List.length_replicate] at h2;rcases h2 with⟨h,_⟩|⟨g,cap,cur,hv,_,hg,_⟩
 ·cases h
 ·cases hv
  rcases Nat.lt_or_ge (w.heap.size+1+1+1+1) w0.heap.size with k|k
  ·omega
  ·rw [Array.getElem?_eq_none k] at hg;cases hg):p:=h
set_option maxRecDepth 100000 in
theorem Tz(q:Bool)(ao bo:Option Addr)(ba oa ca m cb n b:Nat)(x:List Nat)(w:World)(hn:n<=900000)(hx:x.length=n)(hsx:Small x)(hb0:0<b)(hbl:(bZ b).length<=900000)
 (hao:ao=some ⟨ba,oa,none⟩\/(ao=none/\n=0)) (hca: ∀ t,t<n->ba<w.heap.size/\w.cell? ⟨ba,oa+t,none⟩=some (.int .i64 ((x.getD t 0:Nat):Int))) (hbr:Rd w (.slice bo m cb) (bZ b)):
 Calls Tryz.prog 217 #[.agg #[.bool false, .slice ao n ca], .agg #[.bool q, .slice bo m cb]] w fun e w'=> ∃ d r,e= .returned (.tuple #[.agg #[.bool (q && decide (0<val x/b)),d], .agg #[.bool false,r]])/\Rd w' d (bZ (val x/b))/\Rd w' r (bZ (val x%b))/\Below w.heap.size w w':=by
 obtain⟨Y,hY⟩: ∃ Y,Y=val x/b:=⟨_,rfl⟩;obtain⟨Z,hZ⟩: ∃ Z,Z=val x%b:=⟨_,rfl⟩;rw [← hY,← hZ];have HY:Hid (Y=val x/b):=hY;have HZ:Hid (Z=val x%b):=hZ;clear hY hZ;have Hx:Hid (x.length=n):=hx;have hst:CY x b n (List.replicate n 0) 0:=by rw [← hx];exact uF x b hb0
 have hxl: ∀ k,k<n->k<x.length:=fun k h=>by omega
 clear hx;obtain⟨i0,hi,hz0,hz1,hz2⟩:=info_parts Dec.Tryz.xE;have Hao:=Hid.mk' hao;clear hao;go_enter Tryz.func217,Tryz.ntmps217
 go_wp2_with (at_make;refine wpList_make_full _ rfl _ _ 188 rfl (w.heap.size+1+1+1+1) 3 i0 (.int .i64 0) 1 Tryz.underlying188 hi hz0 hz1 _ _ _ _ n rfl rfl om1 om1 (by rw [hz2];omega) (by unfold maxLen;omega) (by simp) ?_)
 intro w0 hown0 hgrow0;have hO0:Own (w.heap.size+1+1+1+1) ((((w.alloc (.cells #[.bool false, .slice ao n ca] 190)).alloc (.cells #[.bool q, .slice bo m cb] 190)).alloc (.cells #[.bool false, .slice none 0 0] 190)).alloc (.cells #[.bool false, .slice none 0 0] 190)) w0 (.slice (some ⟨w.heap.size+1+1+1+1,0,none⟩) n n) (List.replicate n 0):=iR hown0 hgrow0 (by simp)
 have hs0:w.heap.size+1+1+1+1+1<=w0.heap.size:=by
  exact JY
 clear hown0 hgrow0;have kA0:w0.cell? ⟨w.heap.size,1,none⟩=some (.slice ao n ca):=(hO0.below.cell (p:=⟨w.heap.size,1,none⟩) (show w.heap.size<w.heap.size+1+1+1+1 by omega)).trans (by go_simp);go_wp2;go_loopw [6,8] (fun rest i wr=> ∃ (k:Nat) (ql:List Nat) (r:Nat),k<=n/\i= .int .i64 ((k:Int)- 1)/\CY x b k ql r/\Own (w.heap.size+1+1+1+1) ((((w.alloc (.cells #[.bool false, .slice ao n ca] 190)).alloc (.cells #[.bool q, .slice bo m cb] 190)).alloc (.cells #[.bool false, .slice none 0 0] 190)).alloc (.cells #[.bool false, .slice none 0 0] 190)) wr (.slice (some ⟨w.heap.size+1+1+1+1,0,none⟩) n n) ql/\Rd wr rest (bZ r)/\From (w.heap.size+1+1+1+1+1) rest/\w.heap.size+1+1+1+1+1<=wr.heap.size) (fun _ i _=>((intOf i)+1).toNat)
 case atStart=>exact⟨n,_,0,Nat.le_refl _,rfl,hst,hO0,Or.inl ⟨rfl,rfl⟩,yZ _,hs0⟩
 case round=>
  obtain⟨k,ql,r,hk,rfl,hdiv,hown,hrd,hfr,hsz⟩:=hrel;have kA:wr.cell? ⟨w.heap.size,1,none⟩=some (.slice ao n ca):=(hown.below.cell (p:=⟨w.heap.size,1,none⟩) (show w.heap.size<w.heap.size+1+1+1+1 by omega)).trans (by go_simp);cases k with
  |zero=>
   have e0:((0:Nat):Int)- 1= -1:=om1;rw [e0];obtain⟨es,ev,er⟩:=Ad hdiv;have hql:ql.length<=4000000:=by have:=hdiv.1;rw [Hx.out] at this;omega
   have hrdq:=hown.rd;have hbel:=hown.below;have ES:=Hid.mk' es;have EV:=Hid.mk' ev;have ER:=Hid.mk' er
   have hs4:(bZ Y).length<=4000000:=by
    rw [HY.out];refine Nat.le_trans (bg (Nat.div_le_self _ _)) ?_;have:=bH (oN hsx);rw [Hx.out] at this;omega
   have hs5:(bZ r).length<=4000000:=by have:=bg (Nat.le_of_lt hdiv.2.2.2.1);omega
   have j0:wr.cell? ⟨w.heap.size,0,none⟩=some (.bool false):=(hown.below.cell (p:=⟨w.heap.size,0,none⟩) (show w.heap.size<w.heap.size+1+1+1+1 by omega)).trans (by go_simp);have j1:wr.cell? ⟨w.heap.size+1,0,none⟩=some (.bool q):=(hown.below.cell (p:=⟨w.heap.size+1,0,none⟩) (show w.heap.size+1<w.heap.size+1+1+1+1 by omega)).trans (by go_simp);clear hown hdiv kA es ev er;have jB:Below w.heap.size w wr:=(af (af (af (af (Below.refl _ w) _) _) _) _).trans (hbel.mono om1)
   have k2:gQ wr (w.heap.size+1+1) (.bool false) (.slice none 0 0):=by
    unfold gQ;rw [hbel.block _ om1];exact(jI ((w.alloc _).alloc _) (by simp) _ _).alloc _
   have k3:gQ wr (w.heap.size+1+1+1) (.bool false) (.slice none 0 0):=by
    unfold gQ;rw [hbel.block _ om1];exact jI (((w.alloc _).alloc _).alloc _) (by simp) _ _
   have ne1:w.heap.size≠wr.heap.size:=om1;have ne2:w.heap.size+1≠wr.heap.size:=om1;go_upto_region 10 with fail
   go_cut [9] (fun p9 wx=> ∃ (g:Nat) (a1:Option Addr) (c1:Nat),p9= .pointer (some ⟨g,0,none⟩)/\wr.heap.size<=g/\gQ wx g (.bool (q && decide (0<Y))) (.slice a1 (bZ Y).length c1)/\Rd wx (.slice a1 (bZ Y).length c1) (bZ Y)/\Below wr.heap.size wr wx)
   case first=>
    go_region_held3 (fun w'=>w'.cell? ⟨w.heap.size,0,none⟩=some (.bool false)/\w'.cell? ⟨w.heap.size+1,0,none⟩=some (.bool q)) (first|exact⟨j0,j1⟩|exact⟨ah hb2 j0,ah hb2 j1⟩|exact⟨ah (af hb2 _) j0,ah (af hb2 _) j1⟩|exact⟨ah (af (Below.refl _ _) _) j0,ah (af (Below.refl _ _) _) j1⟩|exact⟨ah hb2 (ah (af (Below.refl _ _) _) j0),ah hb2 (ah (af (Below.refl _ _) _) j1)⟩|exact⟨aW (aW (ah hb2 (ah (af (Below.refl _ _) _) j0)) ne1 _) ne1 _,aW (aW (ah hb2 (ah (af (Below.refl _ _) _) j1)) ne2 _) ne2 _⟩|go_keep)
     (first
      |(go_at_call 260;refine(sQ _ _ _ ES.out hql (by first|exact hrdq|exact hrdq.below (Below.refl _ _).drew (Nat.le_refl _)|exact hrdq.below (af (Below.refl _ _) _) (Nat.le_refl _)|exact hrdq.below (af (Below.refl _ _) _).drew (Nat.le_refl _))).mono ?_;rintro e w1 ⟨v1,rfl,hrd1,rfl⟩;rw [EV.out,← HY.out] at hrd1;obtain⟨a1,c1,hv1⟩:=hrd1.lt;subst hv1)
      |(go_at_call 185;refine(kS _ _ Y _ hs4 (by first|exact hrd1|exact hrd1.below (af (Below.refl _ _) _) (Nat.le_refl _))).mono ?_;rintro e w2 ⟨rfl,hb2⟩;(try(have q9:gQ w2 wr.heap.size (.bool false) (.slice none 0 0):=(by first|exact(dD wr _ _).keep hb2|exact(dD wr _ _).drew.keep hb2|exact(dD wr.drew _ _).keep hb2);have r0:=q9.c0;have r1:=q9.c1;have f0:=q9.free 0;have f1:=q9.free 1))))
    all_goals go_wp2_with fail
    all_goals go_meet
    all_goals
     first
      |exact⟨w2.heap.size,a1,c1,rfl,hb2.size,dD w2 _ _,(hrd1.below hb2 (Nat.le_refl _)).below (af (Below.refl _ _) _) (Nat.le_refl _),af (ae (Below.refl _ _).drew hb2) _⟩
      |exact⟨wr.heap.size,a1,c1,rfl,Nat.le_refl _,q9.set2 _ _,(hrd1.below hb2 (Nat.le_refl _)).jC q9 _ _,aV (ae (af (Below.refl _ _) _).drew hb2) (Nat.le_refl _) _ _⟩
      |exact⟨wr.heap.size,a1,c1,rfl,Nat.le_refl _,q9.set2 _ _,((hrd1.below (af (Below.refl _ _) _) (Nat.le_refl _)).below hb2 (Nat.le_refl _)).jC q9 _ _,aV (ae (af (Below.refl _ _) _).drew hb2) (Nat.le_refl _) _ _⟩
      |trace_state
   case rest=>
    obtain⟨g,a1,c1,rfl,hg,hrow,hrdY,hbx⟩:=hcut;have j0':=ah hbx j0;go_wp2_with fail
    refine(kS false _ r _ hs5 (hrd.below hbx (Nat.le_refl _))).mono ?_;rintro e w3 ⟨rfl,hb3⟩;have j0'':=ah hb3 j0';obtain⟨a2,c2,hv2⟩:=hrd.lt;subst hv2;have hbx3:Below wr.heap.size wr (w3.alloc (.cells #[.bool false, .slice a2 (bZ r).length c2] 190)):=af (ae hbx hb3) _;have jA:(w3.alloc (.cells #[.bool false, .slice a2 (bZ r).length c2] 190)).cell? ⟨w.heap.size,0,none⟩=some (.bool false):=ah hbx3 j0;have hrow3:gQ (w3.alloc (.cells #[.bool false, .slice a2 (bZ r).length c2] 190)) g (.bool (q && decide (0<Y))) (.slice a1 (bZ Y).length c1):=(hrow.keep hb3).alloc _;have k23:=k2.keep hbx3;have k33:=k3.keep hbx3;have m0:=hrow3.c0;have m1:=hrow3.c1;have m2:=k23.c0;have m3:=k23.c1;have m4:=k33.c0;have m5:=k33.c1;have l2:=k23.free 0;have l3:=k23.free 1;have l4:=k33.free 0;have l5:=k33.free 1;have hrow10:gQ (w3.alloc (.cells #[.bool false, .slice a2 (bZ r).length c2] 190)) w3.heap.size (.bool false) (.slice a2 (bZ r).length c2):=dD w3 _ _;have n0:=hrow10.c0;have n1:=hrow10.c1;have s3:wr.heap.size<=w3.heap.size:=Nat.le_trans hbx.size hb3.size;have d2:g≠w.heap.size+1+1:=om1;have d3:g≠w.heap.size+1+1+1:=om1;have d4:w3.heap.size≠w.heap.size+1+1:=om1;have d5:w3.heap.size≠w.heap.size+1+1+1:=om1;have hrY:=(hrdY.below hb3 (Nat.le_refl _)).below (af (Below.refl _ w3) (.cells #[.bool false, .slice a2 (bZ r).length c2] 190)) (Nat.le_refl _);have hrR:=hrd.below hbx3 (Nat.le_refl _);go_wp2;obtain⟨h10,hh⟩: ∃ h,h=w3.heap.size:=⟨_,rfl⟩;rw [← hh] at n0 n1 d4 d5 s3 hrow10;generalize w3.alloc (.cells #[.bool false, .slice a2 (bZ r).length c2] 190)=W4 at*;rw [← hh];clear hb3 hh hrow hrdY j0'' jA hrd;have HrY:=Hid.mk' hrY;have HrR:=Hid.mk' hrR;have Hk2:=Hid.mk' k23;have Hk3:=Hid.mk' k33;have HjB:=Hid.mk' (ae jB hbx3);clear hrow3 k23 k33 hrow10 hbx3 hrY hrR hs5 hs4 hrdq ES EV hO0 hbel jB k2 k3;go_region
    all_goals go_wp2
    all_goals
     have e2:=Hk2.out.set2 (.bool (q && decide (0<Y))) (.slice a1 (bZ Y).length c1);have e3:=((Hk3.out.other (p:=⟨w.heap.size+1+1,0,none⟩) (.bool (q && decide (0<Y))) (by simp)).other (p:=⟨w.heap.size+1+1,1,none⟩) (.slice a1 (bZ Y).length c1) (by simp));have e4:=e3.set2 (.bool false) (.slice a2 (bZ r).length c2);have e5:=((e2.other (p:=⟨w.heap.size+1+1+1,0,none⟩) (.bool false) (by simp)).other (p:=⟨w.heap.size+1+1+1,1,none⟩) (.slice a2 (bZ r).length c2) (by simp));have t0:=e5.c0;have t1:=e5.c1;have t2:=e4.c0;have t3:=e4.c1;have hER:r=Z:=by rw [ER.out,HZ.out]
     subst hER
    all_goals refine bodyPost_ret (v:= .tuple #[.agg #[.bool (q && decide (0<Y)), .slice a1 (bZ Y).length c1], .agg #[.bool false, .slice a2 (bZ r).length c2]]) ?_ rfl ⟨_,_,rfl,((HrY.out.jC Hk2.out _ _).jC e3 _ _),((HrR.out.jC Hk2.out _ _).jC e3 _ _),(aV (aV HjB.out om1 _ _) om1 _ _).drew⟩
    all_goals
     clear e2 e3 e4 e5 HrY HrR HjB Hk2 Hk3 m0 m1 m2 m3 m4 m5 l2 l3 l4 l5 n0 n1;revert t0 t1 t2 t3;generalize (((W4.setCell ⟨w.heap.size+1+1,0,none⟩ (.bool (q && decide (0<Y)))).setCell ⟨w.heap.size+1+1,1,none⟩ (.slice a1 (bZ Y).length c1)).setCell ⟨w.heap.size+1+1+1,0,none⟩ (.bool false)).setCell ⟨w.heap.size+1+1+1,1,none⟩ (.slice a2 (bZ r).length c2)=W5;intro t0 t1 t2 t3;simp [results,Tryz.results217,go_sem,t0,t1,t2,t3]
  |succ j=>
   have e0:((j+1:Nat):Int)- 1=(j:Int):=om1;rw [e0];have hj:j<n:=om1
   obtain rfl:ao=some ⟨ba,oa,none⟩:=by
    rcases Hao.out with h|⟨_,h⟩
    ·exact h
    ·omega
   have ga:wr.cell? ⟨ba,oa+j,none⟩=some (.int .i64 ((x.getD j 0:Nat):Int)):=by
    have h1:=hca j hj;exact(hown.below.cell (p:=⟨ba,oa+j,none⟩) (show ba<w.heap.size+1+1+1+1 by omega)).trans (((af (af (af (af (Below.refl _ w) _) _) _) _).cell (p:=⟨ba,oa+j,none⟩) h1.1).trans h1.2)
   have hdj:x.getD j 0<10:=hsx j;obtain⟨dg,hdg⟩: ∃ dg,x.getD j 0=dg:=⟨_,rfl⟩;have hin0:=uG hsx (hxl j hj) hdiv;rw [hdg] at ga hdj hin0;clear hdg;go_wp2_with (at_builtin;refine ru rl1 (.tmp 28) (.tmp 29) rl1 _ dg rl1 _ (bZ r) rl1 rl1 hrd ?_ ?_)
   ·have:=bg (Nat.le_of_lt hdiv.2.2.2.1);omega
   ·intro v1 w1 hrd1 hfr1 hb1;obtain⟨fs,fv⟩:=Ae dg r hdj;have hlr:=bg (Nat.le_of_lt hdiv.2.2.2.1);have hown1:=hown.keep hb1;have hsz1:=Nat.le_trans hsz hb1.size;go_wp2_with fail
    refine(wZ _ _ _ fs (by simp;omega) hrd1).mono ?_;rintro e w2 ⟨v2,rfl,hrd2,rfl,hfr2⟩;rw [fv] at hrd2;have hfr2':=(hfr2 _ hfr1).mono hsz;clear hown hrd hfr hrd1 hfr1 kA ga hfr2 hdiv;go_wp2;go_loopw [6] (fun rest ws=> ∃ (ql:List Nat) (r:Nat),Gm x b j ql r/\Own (w.heap.size+1+1+1+1) ((((w.alloc (.cells #[.bool false, .slice (some ⟨ba,oa,none⟩) n ca] 190)).alloc (.cells #[.bool q, .slice bo m cb] 190)).alloc (.cells #[.bool false, .slice none 0 0] 190)).alloc (.cells #[.bool false, .slice none 0 0] 190)) ws (.slice (some ⟨w.heap.size+1+1+1+1,0,none⟩) n n) ql/\Rd ws rest (bZ r)/\From (w.heap.size+1+1+1+1+1) rest/\w.heap.size+1+1+1+1+1<=ws.heap.size) (fun _ ws=>10- JV ws ⟨w.heap.size+1+1+1+1,j,none⟩)
    case atStart=>exact⟨_,_,hin0,hown1,hrd2,hfr2',hsz1⟩
    case round=>
     exact JW
theorem div_pos(va vb:Value)(x y:Int)(w:World)(hx0:0<=x)(hx:(bZ x.natAbs).length<=900000)(hy0:y≠0)(hy:(bZ y.natAbs).length<=900000)(ha:bY w va x)(hb:bY w vb y):
 Calls Tryz.prog 217 #[va,vb] w fun e w'=> ∃ u v,e= .returned (.tuple #[u,v])/\bY w' u (x/y)/\bY w' v (x%y)/\Below w.heap.size w w':=by
 obtain⟨da,rfl,hda⟩:=ha;obtain⟨db,rfl,hdb⟩:=hb;obtain⟨ao,ba,oa,ca,rfl,_,hao,hca⟩:=hda.shape;obtain⟨bo,cb,rfl⟩:=hdb.lt;rw [decide_eq_false (show ¬x<0 by omega)];refine(Tz (decide (y<0)) ao bo ba oa ca _ cb _ y.natAbs (bZ x.natAbs) w hx rfl (eU _) om1 hy hao hca hdb).mono ?_;rintro e w' ⟨d,r,rfl,hd,hr,hw⟩;rw [eH] at hd hr ⊢;obtain⟨X,rfl⟩:=Int.eq_ofNat_of_zero_le hx0;simp only [Int.natAbs_natCast] at hd hr ⊢;rcases Int.natAbs_eq y with h|h
 · obtain⟨Y0,hY0⟩: ∃ Y0,Y0=y.natAbs:=⟨_,rfl⟩;rw [← hY0] at h hd hr ⊢;subst h;have ed:((X:Int)/(Y0:Int))=((X/Y0:Nat):Int):=(Int.natCast_ediv X Y0).symm;have em:((X:Int)%(Y0:Int))=((X%Y0:Nat):Int):=(Int.natCast_emod X Y0).symm;rw [ed,em];refine⟨_,_,rfl,⟨d, ?_,by rw [Int.natAbs_natCast];exact hd⟩,⟨r, ?_,by rw [Int.natAbs_natCast];exact hr⟩,hw⟩
   · rw [decide_eq_false (show ¬(Y0:Int)<0 by omega),decide_eq_false (Int.not_lt.2 (Int.natCast_nonneg (X/Y0)))];rfl
   · rw [decide_eq_false (Int.not_lt.2 (Int.natCast_nonneg (X%Y0)))]
 · obtain⟨Y0,hY0⟩: ∃ Y0,Y0=y.natAbs:=⟨_,rfl⟩;rw [← hY0] at h hd hr ⊢;subst h;have ed:((X:Int)/(-(Y0:Int)))= -((X/Y0:Nat):Int):=by rw [Int.ediv_neg,Int.natCast_ediv]
   have em:((X:Int)%(-(Y0:Int)))=((X%Y0:Nat):Int):=by rw [Int.emod_neg,Int.natCast_emod]
   rw [ed,em];refine⟨_,_,rfl,⟨d, ?_,by rw [Int.natAbs_neg,Int.natAbs_natCast];exact hd⟩,⟨r, ?_,by rw [Int.natAbs_natCast];exact hr⟩,hw⟩
   · have e1:decide (-(Y0:Int)<0)=true:=decide_eq_true om1;have e2:decide (0<X/Y0)=decide (-((X/Y0:Nat):Int)<0):=by rw [decide_eq_decide];generalize X/Y0=k;omega
     rw [e1,e2,Bool.true_and]
   · rw [decide_eq_false (Int.not_lt.2 (Int.natCast_nonneg (X%Y0)))]
end
section
open Go.RowKit Dec
attribute [local go_sem ↓] Go.wp_at_zero Go.wp_at_succ
theorem TB{p:Prop}(h:p:=by
 revert t0 t1 t2 t3;generalize (((wc.setCell ⟨w.heap.size+1+1,0,none⟩ (.bool s8)).setCell ⟨w.heap.size+1+1,1,none⟩ (.slice a8 L8 c8)).setCell ⟨w.heap.size+1+1+1,0,none⟩ (.bool false)).setCell ⟨w.heap.size+1+1+1,1,none⟩ (.slice a5 L5 c5)=W5;intro t0 t1 t2 t3
 simp [results,Tryz.results217,go_sem,t0,t1,t2,t3]):p:=h
theorem TC{p:Prop}(h:p:=by
 revert t0 t1 t2 t3;generalize (((W4.setCell ⟨w.heap.size+1+1,0,none⟩ (.bool s9)).setCell ⟨w.heap.size+1+1,1,none⟩ (.slice a9 L9 c9)).setCell ⟨w.heap.size+1+1+1,0,none⟩ (.bool false)).setCell ⟨w.heap.size+1+1+1,1,none⟩ (.slice a2 0 c2)=W5;intro t0 t1 t2 t3
 simp [results,Tryz.results217,go_sem,t0,t1,t2,t3]):p:=h
theorem TE{p:Prop}(h:p:=by
 have e3:=Hk3.out.ig (g0:=w.heap.size+1+1) om1 (.bool s8) (.slice a8 L8 c8);have e4:=e3.set2 (.bool false) (.slice a5 L5 c5);have e5:=e2.ig (g0:=w.heap.size+1+1+1) om1 (.bool false) (.slice a5 L5 c5);have t0:=e5.c0;have t1:=e5.c1;have t2:=e4.c0
 have t3:=e4.c1):p:=h
theorem TJ{p:Prop}(h:p:=by
 have e3:=Hk3.out.ig (g0:=w.heap.size+1+1) om1 (.bool s9) (.slice a9 L9 c9);have e4:=e3.set2 (.bool false) (.slice a2 0 c2);have e5:=e2.ig (g0:=w.heap.size+1+1+1) om1 (.bool false) (.slice a2 0 c2);have t0:=e5.c0;have t1:=e5.c1;have t2:=e4.c0
 have t3:=e4.c1):p:=h
set_option maxRecDepth 100000 in
theorem We(ao bo:Option Addr)(ba oa ca m cb n b:Nat)(x:List Nat)(w:World)(Y Z:Nat)(hY:Y=val x/b)(hZ:Z=val x%b)(hn:n<=900000)(hx:x.length=n)(hsx:Small x)(hb0:0<b)(hbl:(bZ b).length<=900000)
 (hao:ao=some ⟨ba,oa,none⟩\/(ao=none/\n=0)) (hca: ∀ t,t<n->ba<w.heap.size/\w.cell? ⟨ba,oa+t,none⟩=some (.int .i64 ((x.getD t 0:Nat):Int))) (hbr:Rd w (.slice bo m cb) (bZ b)):
 Calls Tryz.prog 217 #[.agg #[.bool true, .slice ao n ca], .agg #[.bool true, .slice bo m cb]] w fun e w'=> ∃ u v,e= .returned (.tuple #[u,v])/\bY w' u (if Z=0 then(Y:Int) else(Y:Int)+1)/\bY w' v (if Z=0 then 0 else(b:Int)- (Z:Int))/\Below w.heap.size w w':=by
 have HY:Hid (Y=val x/b):=hY;have HZ:Hid (Z=val x%b):=hZ;clear hY hZ;obtain⟨U,hU⟩: ∃ U:Int,U=(if Z=0 then(Y:Int) else(Y:Int)+1):=⟨_,rfl⟩;obtain⟨V,hV⟩: ∃ V:Int,V=(if Z=0 then 0 else(b:Int)- (Z:Int)):=⟨_,rfl⟩;rw [← hU,← hV];have HU:=Hid.mk' hU;have HV:=Hid.mk' hV;clear hU hV;have Hx:Hid (x.length=n):=hx;have hst:CY x b n (List.replicate n 0) 0:=by rw [← hx];exact uF x b hb0
 have hxl: ∀ k,k<n->k<x.length:=fun k h=>by omega
 clear hx;obtain⟨i0,hi,hz0,hz1,hz2⟩:=info_parts Dec.Tryz.xE;have Hao:=Hid.mk' hao;clear hao;go_enter Tryz.func217,Tryz.ntmps217
 go_wp2_with (at_make;refine wpList_make_full _ rfl _ _ 188 rfl (w.heap.size+1+1+1+1) 3 i0 (.int .i64 0) 1 Tryz.underlying188 hi hz0 hz1 _ _ _ _ n rfl rfl om1 om1 (by rw [hz2];omega) (by unfold maxLen;omega) (by simp) ?_)
 intro w0 hown0 hgrow0;have hO0:Own (w.heap.size+1+1+1+1) ((((w.alloc (.cells #[.bool true, .slice ao n ca] 190)).alloc (.cells #[.bool true, .slice bo m cb] 190)).alloc (.cells #[.bool false, .slice none 0 0] 190)).alloc (.cells #[.bool false, .slice none 0 0] 190)) w0 (.slice (some ⟨w.heap.size+1+1+1+1,0,none⟩) n n) (List.replicate n 0):=iR hown0 hgrow0 (by simp)
 have hs0:w.heap.size+1+1+1+1+1<=w0.heap.size:=by
  exact JY
 clear hown0 hgrow0;have kA0:w0.cell? ⟨w.heap.size,1,none⟩=some (.slice ao n ca):=(hO0.below.cell (p:=⟨w.heap.size,1,none⟩) (show w.heap.size<w.heap.size+1+1+1+1 by omega)).trans (by go_simp);go_wp2;go_loopw [6,8] (fun rest i wr=> ∃ (k:Nat) (ql:List Nat) (r:Nat),k<=n/\i= .int .i64 ((k:Int)- 1)/\CY x b k ql r/\Own (w.heap.size+1+1+1+1) ((((w.alloc (.cells #[.bool true, .slice ao n ca] 190)).alloc (.cells #[.bool true, .slice bo m cb] 190)).alloc (.cells #[.bool false, .slice none 0 0] 190)).alloc (.cells #[.bool false, .slice none 0 0] 190)) wr (.slice (some ⟨w.heap.size+1+1+1+1,0,none⟩) n n) ql/\Rd wr rest (bZ r)/\From (w.heap.size+1+1+1+1+1) rest/\w.heap.size+1+1+1+1+1<=wr.heap.size) (fun _ i _=>((intOf i)+1).toNat)
 case atStart=>exact⟨n,_,0,Nat.le_refl _,rfl,hst,hO0,Or.inl ⟨rfl,rfl⟩,yZ _,hs0⟩
 case round=>
  obtain⟨k,ql,r,hk,rfl,hdiv,hown,hrd,hfr,hsz⟩:=hrel;have kA:wr.cell? ⟨w.heap.size,1,none⟩=some (.slice ao n ca):=(hown.below.cell (p:=⟨w.heap.size,1,none⟩) (show w.heap.size<w.heap.size+1+1+1+1 by omega)).trans (by go_simp);cases k with
  |zero=>
   have e0:((0:Nat):Int)- 1= -1:=om1;rw [e0];obtain⟨es,ev,er⟩:=Ad hdiv;have hql:ql.length<=4000000:=by have:=hdiv.1;rw [Hx.out] at this;omega
   have hrdq:=hown.rd;have hbel:=hown.below;have ES:=Hid.mk' es;have EV:=Hid.mk' ev;have ER:=Hid.mk' er
   have hs4:(bZ Y).length<=4000000:=by
    rw [HY.out];refine Nat.le_trans (bg (Nat.div_le_self _ _)) ?_;have:=bH (oN hsx);rw [Hx.out] at this;omega
   have hlY:(bZ ((Y:Int)).natAbs).length<=1000000:=by
    have h1:(bZ Y).length<=900000:=by
     rw [HY.out];refine Nat.le_trans (bg (Nat.div_le_self _ _)) ?_;have:=bH (oN hsx);rw [Hx.out] at this;omega
    rw [Int.natAbs_natCast];omega
   have hs5:(bZ r).length<=4000000:=by have:=bg (Nat.le_of_lt hdiv.2.2.2.1);omega
   have j0:wr.cell? ⟨w.heap.size,0,none⟩=some (.bool true):=(hown.below.cell (p:=⟨w.heap.size,0,none⟩) (show w.heap.size<w.heap.size+1+1+1+1 by omega)).trans (by go_simp);have j1:wr.cell? ⟨w.heap.size+1,0,none⟩=some (.bool true):=(hown.below.cell (p:=⟨w.heap.size+1,0,none⟩) (show w.heap.size+1<w.heap.size+1+1+1+1 by omega)).trans (by go_simp);have j2:wr.cell? ⟨w.heap.size+1,1,none⟩=some (.slice bo m cb):=(hown.below.cell (p:=⟨w.heap.size+1,1,none⟩) (show w.heap.size+1<w.heap.size+1+1+1+1 by omega)).trans (by go_simp);have hrb:=hdiv.2.2.2.1;clear hown hdiv kA es ev er;have jB:Below w.heap.size w wr:=(af (af (af (af (Below.refl _ w) _) _) _) _).trans (hbel.mono om1)
   have k2:gQ wr (w.heap.size+1+1) (.bool false) (.slice none 0 0):=by
    unfold gQ;rw [hbel.block _ om1];exact(jI ((w.alloc _).alloc _) (by simp) _ _).alloc _
   have k3:gQ wr (w.heap.size+1+1+1) (.bool false) (.slice none 0 0):=by
    unfold gQ;rw [hbel.block _ om1];exact jI (((w.alloc _).alloc _).alloc _) (by simp) _ _
   have ne1:w.heap.size≠wr.heap.size:=om1;have ne2:w.heap.size+1≠wr.heap.size:=om1;go_upto_region 10 with fail
   go_cut [9] (fun p9 wx=> ∃ (g:Nat) (a1:Option Addr) (c1:Nat),p9= .pointer (some ⟨g,0,none⟩)/\wr.heap.size<=g/\gQ wx g (.bool false) (.slice a1 (bZ Y).length c1)/\Rd wx (.slice a1 (bZ Y).length c1) (bZ Y)/\Below wr.heap.size wr wx)
   case first=>
    go_region_held3 (fun w'=>w'.cell? ⟨w.heap.size,0,none⟩=some (.bool true)/\w'.cell? ⟨w.heap.size+1,0,none⟩=some (.bool true)) (first|exact⟨j0,j1⟩|exact⟨ah hb2 j0,ah hb2 j1⟩|exact⟨ah (af hb2 _) j0,ah (af hb2 _) j1⟩|exact⟨ah (af (Below.refl _ _) _) j0,ah (af (Below.refl _ _) _) j1⟩|exact⟨ah hb2 (ah (af (Below.refl _ _) _) j0),ah hb2 (ah (af (Below.refl _ _) _) j1)⟩|exact⟨aW (aW (ah hb2 (ah (af (Below.refl _ _) _) j0)) ne1 _) ne1 _,aW (aW (ah hb2 (ah (af (Below.refl _ _) _) j1)) ne2 _) ne2 _⟩|go_keep)
     (first
      |(go_at_call 260;refine(sQ _ _ _ ES.out hql (by first|exact hrdq|exact hrdq.below (Below.refl _ _).drew (Nat.le_refl _)|exact hrdq.below (af (Below.refl _ _) _) (Nat.le_refl _)|exact hrdq.below (af (Below.refl _ _) _).drew (Nat.le_refl _))).mono ?_;rintro e w1 ⟨v1,rfl,hrd1,rfl⟩;rw [EV.out,← HY.out] at hrd1;obtain⟨a1,c1,hv1⟩:=hrd1.lt;subst hv1)
      |(go_at_call 185;refine(kS _ _ Y _ hs4 (by first|exact hrd1|exact hrd1.below (af (Below.refl _ _) _) (Nat.le_refl _))).mono ?_;rintro e w2 ⟨rfl,hb2⟩;(try(have q9:gQ w2 wr.heap.size (.bool false) (.slice none 0 0):=(by first|exact(dD wr _ _).keep hb2|exact(dD wr _ _).drew.keep hb2|exact(dD wr.drew _ _).keep hb2);have r0:=q9.c0;have r1:=q9.c1;have f0:=q9.free 0;have f1:=q9.free 1))))
    all_goals go_wp2_with fail
    all_goals go_meet
    all_goals
     first
      |exact⟨w2.heap.size,a1,c1,rfl,hb2.size,dD w2 _ _,(hrd1.below hb2 (Nat.le_refl _)).below (af (Below.refl _ _) _) (Nat.le_refl _),af (ae (Below.refl _ _).drew hb2) _⟩
      |exact⟨wr.heap.size,a1,c1,rfl,Nat.le_refl _,q9.set2 _ _,(hrd1.below hb2 (Nat.le_refl _)).jC q9 _ _,aV (ae (af (Below.refl _ _) _).drew hb2) (Nat.le_refl _) _ _⟩
      |exact⟨wr.heap.size,a1,c1,rfl,Nat.le_refl _,q9.set2 _ _,((hrd1.below (af (Below.refl _ _) _) (Nat.le_refl _)).below hb2 (Nat.le_refl _)).jC q9 _ _,aV (ae (af (Below.refl _ _) _).drew hb2) (Nat.le_refl _) _ _⟩
   case rest=>
    obtain⟨g,a9,c9,rfl,hg,hrow,hrdY,hbx⟩:=hcut;obtain⟨L9,hL9⟩: ∃ L,L=(bZ Y).length:=⟨_,rfl⟩;rw [← hL9] at hrow hrdY;obtain⟨s9,hs9⟩: ∃ s,s=false:=⟨_,rfl⟩;rw [← hs9] at hrow
    have hnY:bY wc (.agg #[.bool s9, .slice a9 L9 c9]) ((Y:Int)):=by
     refine⟨_, ?_,by rw [Int.natAbs_natCast];exact hrdY⟩;rw [hs9];rw [decide_eq_false (Int.not_lt.2 (Int.natCast_nonneg Y))]
    clear hs9 hL9 hrdY;obtain⟨a2,c2,hv2⟩:=hrd.lt;subst hv2;obtain⟨L2,hL2⟩: ∃ L,L=(bZ r).length:=⟨_,rfl⟩;rw [← hL2] at hrd ⊢;have HL2:=Hid.mk' hL2;clear hL2;go_wp2_with fail
    refine(kS false _ r _ hs5 (hrd.below hbx (Nat.le_refl _))).mono ?_;rintro e w3 ⟨rfl,hb3⟩;have hbx3:Below wr.heap.size wr (w3.alloc (.cells #[.bool false, .slice a2 L2 c2] 190)):=af (ae hbx hb3) _;have jA0:=ah hbx3 j0;have jA1:=ah hbx3 j1;have jA2:=ah hbx3 j2;have hrow3:gQ (w3.alloc (.cells #[.bool false, .slice a2 L2 c2] 190)) g (.bool s9) (.slice a9 L9 c9):=(hrow.keep hb3).alloc _;have k23:=k2.keep hbx3;have k33:=k3.keep hbx3;have hrow10:gQ (w3.alloc (.cells #[.bool false, .slice a2 L2 c2] 190)) w3.heap.size (.bool false) (.slice a2 L2 c2):=dD w3 _ _;have s3:wr.heap.size<=w3.heap.size:=Nat.le_trans hbx.size hb3.size;have hnY3:=(hnY.below hb3).below (af (Below.refl _ w3) (.cells #[.bool false, .slice a2 L2 c2] 190));have hrR3:=hrd.below hbx3 (Nat.le_refl _);have hbr3:=hbr.below (ae jB hbx3) (Nat.le_refl _);have hjB3:=ae jB hbx3;have hgl:g<w3.heap.size:=Nat.lt_of_lt_of_le hrow.lt hb3.size;go_upto_region 12 with fail
    obtain⟨h10,hh⟩: ∃ h,h=w3.heap.size:=⟨_,rfl⟩;generalize w3.alloc (.cells #[.bool false, .slice a2 L2 c2] 190)=W4 at*;rw [← hh] at hrow10 s3 hgl ⊢;have d2:g≠w.heap.size+1+1:=om1;have d3:g≠w.heap.size+1+1+1:=om1;have d4:h10≠w.heap.size+1+1:=om1;have d5:h10≠w.heap.size+1+1+1:=om1;have d6:g≠h10:=om1;have hZr:r=Z:=by rw [ER.out,HZ.out]
    subst hZr;clear hb3 hh hrow hnY hrd j0 j1 j2 jB k2 k3 hbx hbx3 hs5 hs4 hrdq ES EV ER HY HZ hO0 hbel hst hfr;by_cases hr0:r=0
    ·have hL0:L2=0:=by rw [HL2.out,hr0];rfl
     have HN10':bY W4 (.agg #[.bool false, .slice a2 L2 c2]) V:=by
      rw [HV.out,if_pos hr0];refine⟨_,rfl, ?_⟩;rw [hr0] at hrR3;exact hrR3
     have HN9':bY W4 (.agg #[.bool s9, .slice a9 L9 c9]) U:=by rw [HU.out,if_pos hr0];exact hnY3
     clear HL2 hbr hbr3 hnY3 hrR3;subst hL0;go_wp2;have m0:=hrow3.c0;have m1:=hrow3.c1;have m2:=k23.c0;have m3:=k23.c1;have m4:=k33.c0;have m5:=k33.c1;have l2:=k23.free 0;have l3:=k23.free 1;have l4:=k33.free 0;have l5:=k33.free 1;have n0:=hrow10.c0;have n1:=hrow10.c1;have HN9:=Hid.mk' HN9';have HN10:=Hid.mk' HN10';have Hk2:=Hid.mk' k23;have Hk3:=Hid.mk' k33;have HjB:=Hid.mk' hjB3;clear hrow3 hrow10 k23 k33 hjB3 jA0 jA1 jA2;go_region
     all_goals go_wp2
     all_goals
      have e2:=Hk2.out.set2 (.bool s9) (.slice a9 L9 c9);exact TJ
     all_goals refine bodyPost_ret (v:= .tuple #[.agg #[.bool s9, .slice a9 L9 c9], .agg #[.bool false, .slice a2 0 c2]]) ?_ rfl ⟨_,_,rfl,(HN9.out.jC Hk2.out _ _).jC e3 _ _,(HN10.out.jC Hk2.out _ _).jC e3 _ _,(aV (aV HjB.out om1 _ _) om1 _ _).drew⟩
     all_goals
      clear e2 e3 e4 e5 HN9 HN10 HjB Hk2 Hk3 m0 m1 m2 m3 m4 m5 l2 l3 l4 l5 n0 n1;exact TC
    ·have hLp:0<L2:=by
      rw [HL2.out];rcases Nat.eq_zero_or_pos (bZ r).length with h|h
      ·exact absurd ((gI r).1 (List.length_eq_zero_iff.1 h)) hr0
      ·exact h
     have hlr1:(bZ r).length<=1000000:=by have:=bg (Nat.le_of_lt hrb);omega
     have hlb:(bZ b).length<=1000000:=om1;have hlbr:(bZ (b- r)).length<=4000000:=by have:=bg (Nat.sub_le b r);omega
     clear HL2;go_wp2_with fail
     refine(vN _ _ b r _ hlb (Nat.le_of_lt hrb) hbr3 hrR3).mono ?_;rintro e w5 ⟨v5,rfl,hrd5,hb5⟩;go_wp2_with fail
     refine(kS false _ (b- r) _ hlbr hrd5).mono ?_;rintro e w6 ⟨rfl,hb6⟩;obtain⟨a5,c5,hv5⟩:=hrd5.lt;subst hv5;obtain⟨L5,hL5⟩: ∃ L,L=(bZ (b- r)).length:=⟨_,rfl⟩;rw [← hL5] at hrd5 ⊢;clear hL5;have hb56:=ae hb5 hb6;have hn5:bY w6 (.agg #[.bool false, .slice a5 L5 c5]) (((b- r:Nat)):Int):=Gx (hrd5.below hb6 (Nat.le_refl _));have q10:=hrow10.keep hb56;have q9:=hrow3.keep hb56;have q2:=k23.keep hb56;have q3:=k33.keep hb56;have qB1:=ah hb56 jA1;have f0:=q10.c0;have f1:=q10.c1;have f2:=q10.free 0;have f3:=q10.free 1;have qB1':((w6.setCell ⟨h10,0,none⟩ (.bool false)).setCell ⟨h10,1,none⟩ (.slice a5 L5 c5)).cell? ⟨w.heap.size+1,0,none⟩=some (.bool true):=aW (aW qB1 (show w.heap.size+1≠h10 by omega) _) (show w.heap.size+1≠h10 by omega) _;go_upto_region 14 with fail
     have q10':=q10.set2 (.bool false) (.slice a5 L5 c5);have q9':=q9.ig d6 (.bool false) (.slice a5 L5 c5);have q2':=q2.ig (Ne.symm d4) (.bool false) (.slice a5 L5 c5);have q3':=q3.ig (Ne.symm d5) (.bool false) (.slice a5 L5 c5);have hn5':=hn5.jC q10 (.bool false) (.slice a5 L5 c5);have hnY6:=(hnY3.below hb56).jC q10 (.bool false) (.slice a5 L5 c5);have hB6:=aV (g:=h10) (ae hjB3 hb56) om1 (.bool false) (.slice a5 L5 c5);generalize (w6.setCell ⟨h10,0,none⟩ (.bool false)).setCell ⟨h10,1,none⟩ (.slice a5 L5 c5)=W7 at*;clear hb5 hb6 hb56 hn5 q10 q9 q2 q3 qB1 f0 f1 f2 f3 hrow3 k23 k33 hrow10 jA0 jA1 jA2 hnY3 hrR3 hbr3 hjB3 hrd5 hbr;have x0:=q9'.c0;have x1:=q9'.c1
     have l1:(bZ (1:Int).natAbs).length<=1000000:=by
      have:=bH (show(1:Int).natAbs<10^1 by decide);omega
     go_upto_region 15 with fail
     go_cut [9] (fun p9 wx=>p9= .pointer (some ⟨g,0,none⟩)/\ ∃ (s:Bool) (a:Option Addr) (L c:Nat),gQ wx g (.bool s) (.slice a L c)/\bY wx (.agg #[.bool s, .slice a L c]) ((Y:Int)+1)/\gQ wx h10 (.bool false) (.slice a5 L5 c5)/\bY wx (.agg #[.bool false, .slice a5 L5 c5]) ((b- r:Nat):Int)/\gQ wx (w.heap.size+1+1) (.bool false) (.slice none 0 0)/\gQ wx (w.heap.size+1+1+1) (.bool false) (.slice none 0 0)/\Below w.heap.size w wx)
     case first=>
      go_region_with
       (first
        |(go_at_call 99;refine(fJ 1 _ om1 om1).mono ?_;rintro e w8 ⟨v8,rfl,hn8,hb8⟩;have y0:=ah hb8 x0;have y1:=ah hb8 x1)
        |(go_at_call 98;refine(add_any _ _ ((Y:Int)) 1 _ hlY l1 (hnY6.below (ae (Below.refl _ _).drew hb8)) hn8).mono ?_;rintro e w9 ⟨v9,rfl,hn9,hb9⟩;obtain⟨a8,L8,c8,hv9⟩:=hn9.form;subst hv9;have r9:=(q9'.drew.keep hb8).keep hb9;have g0:=r9.c0;have g1:=r9.c1;have g2:=r9.free 0;have g3:=r9.free 1))
      all_goals go_wp2_with fail
      all_goals go_meet
      all_goals exact⟨rfl,_,_,_,_,r9.set2 _ _,hn9.jC r9 _ _,((q10'.drew.keep hb8).keep hb9).ig (Ne.symm d6) _ _,((hn5'.drew.below hb8).below hb9).jC r9 _ _,((q2'.drew.keep hb8).keep hb9).ig (Ne.symm d2) _ _,((q3'.drew.keep hb8).keep hb9).ig (Ne.symm d3) _ _,aV (ae (ae hB6.drew hb8) hb9) om1 _ _⟩
     case rest=>
      obtain⟨rfl,s8,a8,L8,c8,r9,hn9,r10,hn10,r2,r3,hB9⟩:=hcut
      have HN10':bY wc (.agg #[.bool false, .slice a5 L5 c5]) V:=by
       rw [HV.out,if_neg hr0];have e:((b- r:Nat):Int)=(b:Int)- (r:Int):=om1;rw [← e];exact hn10
      have HN9':bY wc (.agg #[.bool s8, .slice a8 L8 c8]) U:=by rw [HU.out,if_neg hr0];exact hn9
      clear hn9 hn10 q9' q10' q2' q3' hn5' hnY6 hB6 x0 x1;go_upto_region 17 with fail
      have m0:=r9.c0;have m1:=r9.c1;have m2:=r2.c0;have m3:=r2.c1;have m4:=r3.c0;have m5:=r3.c1;have l2:=r2.free 0;have l3:=r2.free 1;have l4:=r3.free 0;have l5:=r3.free 1;have n0:=r10.c0;have n1:=r10.c1;have HN9:=Hid.mk' HN9';have HN10:=Hid.mk' HN10';have Hk2:=Hid.mk' r2;have Hk3:=Hid.mk' r3;have HjB:=Hid.mk' hB9;clear r9 r10 r2 r3 hB9;go_region
      all_goals go_wp2
      all_goals
       have e2:=Hk2.out.set2 (.bool s8) (.slice a8 L8 c8);exact TE
      all_goals refine bodyPost_ret (v:= .tuple #[.agg #[.bool s8, .slice a8 L8 c8], .agg #[.bool false, .slice a5 L5 c5]]) ?_ rfl ⟨_,_,rfl,(HN9.out.jC Hk2.out _ _).jC e3 _ _,(HN10.out.jC Hk2.out _ _).jC e3 _ _,(aV (aV HjB.out om1 _ _) om1 _ _).drew⟩
      all_goals
       clear e2 e3 e4 e5 HN9 HN10 HjB Hk2 Hk3 m0 m1 m2 m3 m4 m5 l2 l3 l4 l5 n0 n1;exact TB
  |succ j=>
   have e0:((j+1:Nat):Int)- 1=(j:Int):=om1;rw [e0];have hj:j<n:=om1
   obtain rfl:ao=some ⟨ba,oa,none⟩:=by
    rcases Hao.out with h|⟨_,h⟩
    ·exact h
    ·omega
   have ga:wr.cell? ⟨ba,oa+j,none⟩=some (.int .i64 ((x.getD j 0:Nat):Int)):=by
    have h1:=hca j hj;exact(hown.below.cell (p:=⟨ba,oa+j,none⟩) (show ba<w.heap.size+1+1+1+1 by omega)).trans (((af (af (af (af (Below.refl _ w) _) _) _) _).cell (p:=⟨ba,oa+j,none⟩) h1.1).trans h1.2)
   have hdj:x.getD j 0<10:=hsx j;obtain⟨dg,hdg⟩: ∃ dg,x.getD j 0=dg:=⟨_,rfl⟩;have hin0:=uG hsx (hxl j hj) hdiv;rw [hdg] at ga hdj hin0;clear hdg;go_wp2_with (at_builtin;refine ru rl1 (.tmp 28) (.tmp 29) rl1 _ dg rl1 _ (bZ r) rl1 rl1 hrd ?_ ?_)
   ·have:=bg (Nat.le_of_lt hdiv.2.2.2.1);omega
   ·intro v1 w1 hrd1 hfr1 hb1;obtain⟨fs,fv⟩:=Ae dg r hdj;have hlr:=bg (Nat.le_of_lt hdiv.2.2.2.1);have hown1:=hown.keep hb1;have hsz1:=Nat.le_trans hsz hb1.size;go_wp2_with fail
    refine(wZ _ _ _ fs (by simp;omega) hrd1).mono ?_;rintro e w2 ⟨v2,rfl,hrd2,rfl,hfr2⟩;rw [fv] at hrd2;have hfr2':=(hfr2 _ hfr1).mono hsz;clear hown hrd hfr hrd1 hfr1 kA ga hfr2 hdiv;go_wp2;go_loopw [6] (fun rest ws=> ∃ (ql:List Nat) (r:Nat),Gm x b j ql r/\Own (w.heap.size+1+1+1+1) ((((w.alloc (.cells #[.bool true, .slice (some ⟨ba,oa,none⟩) n ca] 190)).alloc (.cells #[.bool true, .slice bo m cb] 190)).alloc (.cells #[.bool false, .slice none 0 0] 190)).alloc (.cells #[.bool false, .slice none 0 0] 190)) ws (.slice (some ⟨w.heap.size+1+1+1+1,0,none⟩) n n) ql/\Rd ws rest (bZ r)/\From (w.heap.size+1+1+1+1+1) rest/\w.heap.size+1+1+1+1+1<=ws.heap.size) (fun _ ws=>10- JV ws ⟨w.heap.size+1+1+1+1,j,none⟩)
    case atStart=>exact⟨_,_,hin0,hown1,hrd2,hfr2',hsz1⟩
    case round=>
     exact JW
end
section
open Go.RowKit Dec
attribute [local go_sem ↓] Go.wp_at_zero Go.wp_at_succ
set_option maxRecDepth 100000 in
theorem Wh(ao bo:Option Addr)(ba oa ca m cb n b:Nat)(x:List Nat)(w:World)(Y Z:Nat)(hY:Y=val x/b)(hZ:Z=val x%b)(hn:n<=900000)(hx:x.length=n)(hsx:Small x)(hb0:0<b)(hbl:(bZ b).length<=900000)
 (hao:ao=some ⟨ba,oa,none⟩\/(ao=none/\n=0)) (hca: ∀ t,t<n->ba<w.heap.size/\w.cell? ⟨ba,oa+t,none⟩=some (.int .i64 ((x.getD t 0:Nat):Int))) (hbr:Rd w (.slice bo m cb) (bZ b)):
 Calls Tryz.prog 217 #[.agg #[.bool true, .slice ao n ca], .agg #[.bool false, .slice bo m cb]] w fun e w'=> ∃ u v,e= .returned (.tuple #[u,v])/\bY w' u (if Z=0 then-(Y:Int) else-(Y:Int)- 1)/\bY w' v (if Z=0 then 0 else(b:Int)- (Z:Int))/\Below w.heap.size w w':=by
 have HY:Hid (Y=val x/b):=hY;have HZ:Hid (Z=val x%b):=hZ;clear hY hZ;obtain⟨U,hU⟩: ∃ U:Int,U=(if Z=0 then-(Y:Int) else-(Y:Int)- 1):=⟨_,rfl⟩;obtain⟨V,hV⟩: ∃ V:Int,V=(if Z=0 then 0 else(b:Int)- (Z:Int)):=⟨_,rfl⟩;rw [← hU,← hV];have HU:=Hid.mk' hU;have HV:=Hid.mk' hV;clear hU hV;have Hx:Hid (x.length=n):=hx;have hst:CY x b n (List.replicate n 0) 0:=by rw [← hx];exact uF x b hb0
 have hxl: ∀ k,k<n->k<x.length:=fun k h=>by omega
 clear hx;obtain⟨i0,hi,hz0,hz1,hz2⟩:=info_parts Dec.Tryz.xE;have Hao:=Hid.mk' hao;clear hao;go_enter Tryz.func217,Tryz.ntmps217
 go_wp2_with (at_make;refine wpList_make_full _ rfl _ _ 188 rfl (w.heap.size+1+1+1+1) 3 i0 (.int .i64 0) 1 Tryz.underlying188 hi hz0 hz1 _ _ _ _ n rfl rfl om1 om1 (by rw [hz2];omega) (by unfold maxLen;omega) (by simp) ?_)
 intro w0 hown0 hgrow0;have hO0:Own (w.heap.size+1+1+1+1) ((((w.alloc (.cells #[.bool true, .slice ao n ca] 190)).alloc (.cells #[.bool false, .slice bo m cb] 190)).alloc (.cells #[.bool false, .slice none 0 0] 190)).alloc (.cells #[.bool false, .slice none 0 0] 190)) w0 (.slice (some ⟨w.heap.size+1+1+1+1,0,none⟩) n n) (List.replicate n 0):=iR hown0 hgrow0 (by simp)
 have hs0:w.heap.size+1+1+1+1+1<=w0.heap.size:=by
  exact JY
 clear hown0 hgrow0;have kA0:w0.cell? ⟨w.heap.size,1,none⟩=some (.slice ao n ca):=(hO0.below.cell (p:=⟨w.heap.size,1,none⟩) (show w.heap.size<w.heap.size+1+1+1+1 by omega)).trans (by go_simp);go_wp2;go_loopw [6,8] (fun rest i wr=> ∃ (k:Nat) (ql:List Nat) (r:Nat),k<=n/\i= .int .i64 ((k:Int)- 1)/\CY x b k ql r/\Own (w.heap.size+1+1+1+1) ((((w.alloc (.cells #[.bool true, .slice ao n ca] 190)).alloc (.cells #[.bool false, .slice bo m cb] 190)).alloc (.cells #[.bool false, .slice none 0 0] 190)).alloc (.cells #[.bool false, .slice none 0 0] 190)) wr (.slice (some ⟨w.heap.size+1+1+1+1,0,none⟩) n n) ql/\Rd wr rest (bZ r)/\From (w.heap.size+1+1+1+1+1) rest/\w.heap.size+1+1+1+1+1<=wr.heap.size) (fun _ i _=>((intOf i)+1).toNat)
 case atStart=>exact⟨n,_,0,Nat.le_refl _,rfl,hst,hO0,Or.inl ⟨rfl,rfl⟩,yZ _,hs0⟩
 case round=>
  obtain⟨k,ql,r,hk,rfl,hdiv,hown,hrd,hfr,hsz⟩:=hrel;have kA:wr.cell? ⟨w.heap.size,1,none⟩=some (.slice ao n ca):=(hown.below.cell (p:=⟨w.heap.size,1,none⟩) (show w.heap.size<w.heap.size+1+1+1+1 by omega)).trans (by go_simp);cases k with
  |zero=>
   have e0:((0:Nat):Int)- 1= -1:=om1;rw [e0];obtain⟨es,ev,er⟩:=Ad hdiv;have hql:ql.length<=4000000:=by have:=hdiv.1;rw [Hx.out] at this;omega
   have hrdq:=hown.rd;have hbel:=hown.below;have ES:=Hid.mk' es;have EV:=Hid.mk' ev;have ER:=Hid.mk' er
   have hs4:(bZ Y).length<=4000000:=by
    rw [HY.out];refine Nat.le_trans (bg (Nat.div_le_self _ _)) ?_;have:=bH (oN hsx);rw [Hx.out] at this;omega
   have hlY:(bZ (-(Y:Int)).natAbs).length<=1000000:=by
    have h1:(bZ Y).length<=900000:=by
     rw [HY.out];refine Nat.le_trans (bg (Nat.div_le_self _ _)) ?_;have:=bH (oN hsx);rw [Hx.out] at this;omega
    rw [Int.natAbs_neg,Int.natAbs_natCast];omega
   have hs5:(bZ r).length<=4000000:=by have:=bg (Nat.le_of_lt hdiv.2.2.2.1);omega
   have j0:wr.cell? ⟨w.heap.size,0,none⟩=some (.bool true):=(hown.below.cell (p:=⟨w.heap.size,0,none⟩) (show w.heap.size<w.heap.size+1+1+1+1 by omega)).trans (by go_simp);have j1:wr.cell? ⟨w.heap.size+1,0,none⟩=some (.bool false):=(hown.below.cell (p:=⟨w.heap.size+1,0,none⟩) (show w.heap.size+1<w.heap.size+1+1+1+1 by omega)).trans (by go_simp);have j2:wr.cell? ⟨w.heap.size+1,1,none⟩=some (.slice bo m cb):=(hown.below.cell (p:=⟨w.heap.size+1,1,none⟩) (show w.heap.size+1<w.heap.size+1+1+1+1 by omega)).trans (by go_simp);have hrb:=hdiv.2.2.2.1;clear hown hdiv kA es ev er;have jB:Below w.heap.size w wr:=(af (af (af (af (Below.refl _ w) _) _) _) _).trans (hbel.mono om1)
   have k2:gQ wr (w.heap.size+1+1) (.bool false) (.slice none 0 0):=by
    unfold gQ;rw [hbel.block _ om1];exact(jI ((w.alloc _).alloc _) (by simp) _ _).alloc _
   have k3:gQ wr (w.heap.size+1+1+1) (.bool false) (.slice none 0 0):=by
    unfold gQ;rw [hbel.block _ om1];exact jI (((w.alloc _).alloc _).alloc _) (by simp) _ _
   have ne1:w.heap.size≠wr.heap.size:=om1;have ne2:w.heap.size+1≠wr.heap.size:=om1;go_upto_region 10 with fail
   go_cut [9] (fun p9 wx=> ∃ (g:Nat) (a1:Option Addr) (c1:Nat),p9= .pointer (some ⟨g,0,none⟩)/\wr.heap.size<=g/\gQ wx g (.bool (decide (0<Y))) (.slice a1 (bZ Y).length c1)/\Rd wx (.slice a1 (bZ Y).length c1) (bZ Y)/\Below wr.heap.size wr wx)
   case first=>
    go_region_held3 (fun w'=>w'.cell? ⟨w.heap.size,0,none⟩=some (.bool true)/\w'.cell? ⟨w.heap.size+1,0,none⟩=some (.bool false)) (first|exact⟨j0,j1⟩|exact⟨ah hb2 j0,ah hb2 j1⟩|exact⟨ah (af hb2 _) j0,ah (af hb2 _) j1⟩|exact⟨ah (af (Below.refl _ _) _) j0,ah (af (Below.refl _ _) _) j1⟩|exact⟨ah hb2 (ah (af (Below.refl _ _) _) j0),ah hb2 (ah (af (Below.refl _ _) _) j1)⟩|exact⟨aW (aW (ah hb2 (ah (af (Below.refl _ _) _) j0)) ne1 _) ne1 _,aW (aW (ah hb2 (ah (af (Below.refl _ _) _) j1)) ne2 _) ne2 _⟩|go_keep)
     (first
      |(go_at_call 260;refine(sQ _ _ _ ES.out hql (by first|exact hrdq|exact hrdq.below (Below.refl _ _).drew (Nat.le_refl _)|exact hrdq.below (af (Below.refl _ _) _) (Nat.le_refl _)|exact hrdq.below (af (Below.refl _ _) _).drew (Nat.le_refl _))).mono ?_;rintro e w1 ⟨v1,rfl,hrd1,rfl⟩;rw [EV.out,← HY.out] at hrd1;obtain⟨a1,c1,hv1⟩:=hrd1.lt;subst hv1)
      |(go_at_call 185;refine(kS _ _ Y _ hs4 (by first|exact hrd1|exact hrd1.below (af (Below.refl _ _) _) (Nat.le_refl _))).mono ?_;rintro e w2 ⟨rfl,hb2⟩;(try(have q9:gQ w2 wr.heap.size (.bool false) (.slice none 0 0):=(by first|exact(dD wr _ _).keep hb2|exact(dD wr _ _).drew.keep hb2|exact(dD wr.drew _ _).keep hb2);have r0:=q9.c0;have r1:=q9.c1;have f0:=q9.free 0;have f1:=q9.free 1))))
    all_goals go_wp2_with fail
    all_goals go_meet
    all_goals
     first
      |exact⟨w2.heap.size,a1,c1,rfl,hb2.size,dD w2 _ _,(hrd1.below hb2 (Nat.le_refl _)).below (af (Below.refl _ _) _) (Nat.le_refl _),af (ae (Below.refl _ _).drew hb2) _⟩
      |exact⟨wr.heap.size,a1,c1,rfl,Nat.le_refl _,q9.set2 _ _,(hrd1.below hb2 (Nat.le_refl _)).jC q9 _ _,aV (ae (af (Below.refl _ _) _).drew hb2) (Nat.le_refl _) _ _⟩
      |exact⟨wr.heap.size,a1,c1,rfl,Nat.le_refl _,q9.set2 _ _,((hrd1.below (af (Below.refl _ _) _) (Nat.le_refl _)).below hb2 (Nat.le_refl _)).jC q9 _ _,aV (ae (af (Below.refl _ _) _).drew hb2) (Nat.le_refl _) _ _⟩
   case rest=>
    obtain⟨g,a9,c9,rfl,hg,hrow,hrdY,hbx⟩:=hcut;obtain⟨L9,hL9⟩: ∃ L,L=(bZ Y).length:=⟨_,rfl⟩;rw [← hL9] at hrow hrdY;obtain⟨s9,hs9⟩: ∃ s,s=(decide (0<Y)):=⟨_,rfl⟩;rw [← hs9] at hrow
    have hnY:bY wc (.agg #[.bool s9, .slice a9 L9 c9]) (-(Y:Int)):=by
     refine⟨_, ?_,by rw [Int.natAbs_neg,Int.natAbs_natCast];exact hrdY⟩;rw [hs9];have e:decide (0<Y)=decide (-(Y:Int)<0):=by rw [decide_eq_decide];omega
     rw [e]
    clear hs9 hL9 hrdY;obtain⟨a2,c2,hv2⟩:=hrd.lt;subst hv2;obtain⟨L2,hL2⟩: ∃ L,L=(bZ r).length:=⟨_,rfl⟩;rw [← hL2] at hrd ⊢;have HL2:=Hid.mk' hL2;clear hL2;go_wp2_with fail
    refine(kS false _ r _ hs5 (hrd.below hbx (Nat.le_refl _))).mono ?_;rintro e w3 ⟨rfl,hb3⟩;have hbx3:Below wr.heap.size wr (w3.alloc (.cells #[.bool false, .slice a2 L2 c2] 190)):=af (ae hbx hb3) _;have jA0:=ah hbx3 j0;have jA1:=ah hbx3 j1;have jA2:=ah hbx3 j2;have hrow3:gQ (w3.alloc (.cells #[.bool false, .slice a2 L2 c2] 190)) g (.bool s9) (.slice a9 L9 c9):=(hrow.keep hb3).alloc _;have k23:=k2.keep hbx3;have k33:=k3.keep hbx3;have hrow10:gQ (w3.alloc (.cells #[.bool false, .slice a2 L2 c2] 190)) w3.heap.size (.bool false) (.slice a2 L2 c2):=dD w3 _ _;have s3:wr.heap.size<=w3.heap.size:=Nat.le_trans hbx.size hb3.size;have hnY3:=(hnY.below hb3).below (af (Below.refl _ w3) (.cells #[.bool false, .slice a2 L2 c2] 190));have hrR3:=hrd.below hbx3 (Nat.le_refl _);have hbr3:=hbr.below (ae jB hbx3) (Nat.le_refl _);have hjB3:=ae jB hbx3;have hgl:g<w3.heap.size:=Nat.lt_of_lt_of_le hrow.lt hb3.size;go_upto_region 12 with fail
    obtain⟨h10,hh⟩: ∃ h,h=w3.heap.size:=⟨_,rfl⟩;generalize w3.alloc (.cells #[.bool false, .slice a2 L2 c2] 190)=W4 at*;rw [← hh] at hrow10 s3 hgl ⊢;have d2:g≠w.heap.size+1+1:=om1;have d3:g≠w.heap.size+1+1+1:=om1;have d4:h10≠w.heap.size+1+1:=om1;have d5:h10≠w.heap.size+1+1+1:=om1;have d6:g≠h10:=om1;have hZr:r=Z:=by rw [ER.out,HZ.out]
    subst hZr;clear hb3 hh hrow hnY hrd j0 j1 j2 jB k2 k3 hbx hbx3 hs5 hs4 hrdq ES EV ER HY HZ hO0 hbel hst hfr;by_cases hr0:r=0
    ·have hL0:L2=0:=by rw [HL2.out,hr0];rfl
     have HN10':bY W4 (.agg #[.bool false, .slice a2 L2 c2]) V:=by
      rw [HV.out,if_pos hr0];refine⟨_,rfl, ?_⟩;rw [hr0] at hrR3;exact hrR3
     have HN9':bY W4 (.agg #[.bool s9, .slice a9 L9 c9]) U:=by rw [HU.out,if_pos hr0];exact hnY3
     clear HL2 hbr hbr3 hnY3 hrR3;subst hL0;go_wp2;have m0:=hrow3.c0;have m1:=hrow3.c1;have m2:=k23.c0;have m3:=k23.c1;have m4:=k33.c0;have m5:=k33.c1;have l2:=k23.free 0;have l3:=k23.free 1;have l4:=k33.free 0;have l5:=k33.free 1;have n0:=hrow10.c0;have n1:=hrow10.c1;have HN9:=Hid.mk' HN9';have HN10:=Hid.mk' HN10';have Hk2:=Hid.mk' k23;have Hk3:=Hid.mk' k33;have HjB:=Hid.mk' hjB3;clear hrow3 hrow10 k23 k33 hjB3 jA0 jA1 jA2;go_region
     all_goals go_wp2
     all_goals
      have e2:=Hk2.out.set2 (.bool s9) (.slice a9 L9 c9);exact TJ
     all_goals refine bodyPost_ret (v:= .tuple #[.agg #[.bool s9, .slice a9 L9 c9], .agg #[.bool false, .slice a2 0 c2]]) ?_ rfl ⟨_,_,rfl,(HN9.out.jC Hk2.out _ _).jC e3 _ _,(HN10.out.jC Hk2.out _ _).jC e3 _ _,(aV (aV HjB.out om1 _ _) om1 _ _).drew⟩
     all_goals
      clear e2 e3 e4 e5 HN9 HN10 HjB Hk2 Hk3 m0 m1 m2 m3 m4 m5 l2 l3 l4 l5 n0 n1;exact TC
    ·have hLp:0<L2:=by
      rw [HL2.out];rcases Nat.eq_zero_or_pos (bZ r).length with h|h
      ·exact absurd ((gI r).1 (List.length_eq_zero_iff.1 h)) hr0
      ·exact h
     have hlr1:(bZ r).length<=1000000:=by have:=bg (Nat.le_of_lt hrb);omega
     have hlb:(bZ b).length<=1000000:=om1;have hlbr:(bZ (b- r)).length<=4000000:=by have:=bg (Nat.sub_le b r);omega
     clear HL2;go_wp2_with fail
     refine(vN _ _ b r _ hlb (Nat.le_of_lt hrb) hbr3 hrR3).mono ?_;rintro e w5 ⟨v5,rfl,hrd5,hb5⟩;go_wp2_with fail
     refine(kS false _ (b- r) _ hlbr hrd5).mono ?_;rintro e w6 ⟨rfl,hb6⟩;obtain⟨a5,c5,hv5⟩:=hrd5.lt;subst hv5;obtain⟨L5,hL5⟩: ∃ L,L=(bZ (b- r)).length:=⟨_,rfl⟩;rw [← hL5] at hrd5 ⊢;clear hL5;have hb56:=ae hb5 hb6;have hn5:bY w6 (.agg #[.bool false, .slice a5 L5 c5]) (((b- r:Nat)):Int):=Gx (hrd5.below hb6 (Nat.le_refl _));have q10:=hrow10.keep hb56;have q9:=hrow3.keep hb56;have q2:=k23.keep hb56;have q3:=k33.keep hb56;have qB1:=ah hb56 jA1;have f0:=q10.c0;have f1:=q10.c1;have f2:=q10.free 0;have f3:=q10.free 1;have qB1':((w6.setCell ⟨h10,0,none⟩ (.bool false)).setCell ⟨h10,1,none⟩ (.slice a5 L5 c5)).cell? ⟨w.heap.size+1,0,none⟩=some (.bool false):=aW (aW qB1 (show w.heap.size+1≠h10 by omega) _) (show w.heap.size+1≠h10 by omega) _;go_upto_region 14 with fail
     have q10':=q10.set2 (.bool false) (.slice a5 L5 c5);have q9':=q9.ig d6 (.bool false) (.slice a5 L5 c5);have q2':=q2.ig (Ne.symm d4) (.bool false) (.slice a5 L5 c5);have q3':=q3.ig (Ne.symm d5) (.bool false) (.slice a5 L5 c5);have hn5':=hn5.jC q10 (.bool false) (.slice a5 L5 c5);have hnY6:=(hnY3.below hb56).jC q10 (.bool false) (.slice a5 L5 c5);have hB6:=aV (g:=h10) (ae hjB3 hb56) om1 (.bool false) (.slice a5 L5 c5);generalize (w6.setCell ⟨h10,0,none⟩ (.bool false)).setCell ⟨h10,1,none⟩ (.slice a5 L5 c5)=W7 at*;clear hb5 hb6 hb56 hn5 q10 q9 q2 q3 qB1 f0 f1 f2 f3 hrow3 k23 k33 hrow10 jA0 jA1 jA2 hnY3 hrR3 hbr3 hjB3 hrd5 hbr;have x0:=q9'.c0;have x1:=q9'.c1
     have l1:(bZ (1:Int).natAbs).length<=1000000:=by
      have:=bH (show(1:Int).natAbs<10^1 by decide);omega
     go_upto_region 16 with fail
     go_cut [9] (fun p9 wx=>p9= .pointer (some ⟨g,0,none⟩)/\ ∃ (s:Bool) (a:Option Addr) (L c:Nat),gQ wx g (.bool s) (.slice a L c)/\bY wx (.agg #[.bool s, .slice a L c]) (-(Y:Int)- 1)/\gQ wx h10 (.bool false) (.slice a5 L5 c5)/\bY wx (.agg #[.bool false, .slice a5 L5 c5]) ((b- r:Nat):Int)/\gQ wx (w.heap.size+1+1) (.bool false) (.slice none 0 0)/\gQ wx (w.heap.size+1+1+1) (.bool false) (.slice none 0 0)/\Below w.heap.size w wx)
     case first=>
      go_region_with
       (first
        |(go_at_call 99;refine(fJ 1 _ om1 om1).mono ?_;rintro e w8 ⟨v8,rfl,hn8,hb8⟩;have y0:=ah hb8 x0;have y1:=ah hb8 x1)
        |(go_at_call 132;refine(xH _ _ (-(Y:Int)) 1 _ hlY l1 (hnY6.below (ae (Below.refl _ _).drew hb8)) hn8).mono ?_;rintro e w9 ⟨v9,rfl,hn9,hb9⟩;obtain⟨a8,L8,c8,hv9⟩:=hn9.form;subst hv9;have r9:=(q9'.drew.keep hb8).keep hb9;have g0:=r9.c0;have g1:=r9.c1;have g2:=r9.free 0;have g3:=r9.free 1))
      all_goals go_wp2_with fail
      all_goals go_meet
      all_goals exact⟨rfl,_,_,_,_,r9.set2 _ _,hn9.jC r9 _ _,((q10'.drew.keep hb8).keep hb9).ig (Ne.symm d6) _ _,((hn5'.drew.below hb8).below hb9).jC r9 _ _,((q2'.drew.keep hb8).keep hb9).ig (Ne.symm d2) _ _,((q3'.drew.keep hb8).keep hb9).ig (Ne.symm d3) _ _,aV (ae (ae hB6.drew hb8) hb9) om1 _ _⟩
     case rest=>
      obtain⟨rfl,s8,a8,L8,c8,r9,hn9,r10,hn10,r2,r3,hB9⟩:=hcut
      have HN10':bY wc (.agg #[.bool false, .slice a5 L5 c5]) V:=by
       rw [HV.out,if_neg hr0];have e:((b- r:Nat):Int)=(b:Int)- (r:Int):=om1;rw [← e];exact hn10
      have HN9':bY wc (.agg #[.bool s8, .slice a8 L8 c8]) U:=by rw [HU.out,if_neg hr0];exact hn9
      clear hn9 hn10 q9' q10' q2' q3' hn5' hnY6 hB6 x0 x1;go_upto_region 17 with fail
      have m0:=r9.c0;have m1:=r9.c1;have m2:=r2.c0;have m3:=r2.c1;have m4:=r3.c0;have m5:=r3.c1;have l2:=r2.free 0;have l3:=r2.free 1;have l4:=r3.free 0;have l5:=r3.free 1;have n0:=r10.c0;have n1:=r10.c1;have HN9:=Hid.mk' HN9';have HN10:=Hid.mk' HN10';have Hk2:=Hid.mk' r2;have Hk3:=Hid.mk' r3;have HjB:=Hid.mk' hB9;clear r9 r10 r2 r3 hB9;go_region
      all_goals go_wp2
      all_goals
       have e2:=Hk2.out.set2 (.bool s8) (.slice a8 L8 c8);exact TE
      all_goals refine bodyPost_ret (v:= .tuple #[.agg #[.bool s8, .slice a8 L8 c8], .agg #[.bool false, .slice a5 L5 c5]]) ?_ rfl ⟨_,_,rfl,(HN9.out.jC Hk2.out _ _).jC e3 _ _,(HN10.out.jC Hk2.out _ _).jC e3 _ _,(aV (aV HjB.out om1 _ _) om1 _ _).drew⟩
      all_goals
       clear e2 e3 e4 e5 HN9 HN10 HjB Hk2 Hk3 m0 m1 m2 m3 m4 m5 l2 l3 l4 l5 n0 n1;exact TB
  |succ j=>
   have e0:((j+1:Nat):Int)- 1=(j:Int):=om1;rw [e0];have hj:j<n:=om1
   obtain rfl:ao=some ⟨ba,oa,none⟩:=by
    rcases Hao.out with h|⟨_,h⟩
    ·exact h
    ·omega
   have ga:wr.cell? ⟨ba,oa+j,none⟩=some (.int .i64 ((x.getD j 0:Nat):Int)):=by
    have h1:=hca j hj;exact(hown.below.cell (p:=⟨ba,oa+j,none⟩) (show ba<w.heap.size+1+1+1+1 by omega)).trans (((af (af (af (af (Below.refl _ w) _) _) _) _).cell (p:=⟨ba,oa+j,none⟩) h1.1).trans h1.2)
   have hdj:x.getD j 0<10:=hsx j;obtain⟨dg,hdg⟩: ∃ dg,x.getD j 0=dg:=⟨_,rfl⟩;have hin0:=uG hsx (hxl j hj) hdiv;rw [hdg] at ga hdj hin0;clear hdg;go_wp2_with (at_builtin;refine ru rl1 (.tmp 28) (.tmp 29) rl1 _ dg rl1 _ (bZ r) rl1 rl1 hrd ?_ ?_)
   ·have:=bg (Nat.le_of_lt hdiv.2.2.2.1);omega
   ·intro v1 w1 hrd1 hfr1 hb1;obtain⟨fs,fv⟩:=Ae dg r hdj;have hlr:=bg (Nat.le_of_lt hdiv.2.2.2.1);have hown1:=hown.keep hb1;have hsz1:=Nat.le_trans hsz hb1.size;go_wp2_with fail
    refine(wZ _ _ _ fs (by simp;omega) hrd1).mono ?_;rintro e w2 ⟨v2,rfl,hrd2,rfl,hfr2⟩;rw [fv] at hrd2;have hfr2':=(hfr2 _ hfr1).mono hsz;clear hown hrd hfr hrd1 hfr1 kA ga hfr2 hdiv;go_wp2;go_loopw [6] (fun rest ws=> ∃ (ql:List Nat) (r:Nat),Gm x b j ql r/\Own (w.heap.size+1+1+1+1) ((((w.alloc (.cells #[.bool true, .slice (some ⟨ba,oa,none⟩) n ca] 190)).alloc (.cells #[.bool false, .slice bo m cb] 190)).alloc (.cells #[.bool false, .slice none 0 0] 190)).alloc (.cells #[.bool false, .slice none 0 0] 190)) ws (.slice (some ⟨w.heap.size+1+1+1+1,0,none⟩) n n) ql/\Rd ws rest (bZ r)/\From (w.heap.size+1+1+1+1+1) rest/\w.heap.size+1+1+1+1+1<=ws.heap.size) (fun _ ws=>10- JV ws ⟨w.heap.size+1+1+1+1,j,none⟩)
    case atStart=>exact⟨_,_,hin0,hown1,hrd2,hfr2',hsz1⟩
    case round=>
     exact JW
end
section
open Go.RowKit Dec
namespace Dec
theorem TK(X b:Nat)(hb:0<b):(-(X:Int))/(b:Int)=(if X%b=0 then-((X/b:Nat):Int) else-((X/b:Nat):Int)- 1)/\(-(X:Int))%(b:Int)=(if X%b=0 then 0 else(b:Int)- ((X%b:Nat):Int)):=by
 have h:=Nat.div_add_mod X b;have hl:=Nat.mod_lt X hb;generalize X/b=q at*;generalize X%b=r at*;have e:(X:Int)=(b:Int)*(q:Int)+(r:Int):=by rw [← h];simp
 by_cases hr:r=0
 · rw [if_pos hr,if_pos hr];have:=(Int.ediv_emod_unique (a:= -(X:Int)) (b:=(b:Int)) (r:=0) (q:= -(q:Int)) om1).2 ⟨by rw [e,hr,Int.mul_neg];simp,om1,om1⟩;exact⟨this.1,this.2⟩
 · rw [if_neg hr,if_neg hr];have:=(Int.ediv_emod_unique (a:= -(X:Int)) (b:=(b:Int)) (r:=(b:Int)- (r:Int)) (q:= -(q:Int)- 1) om1).2 ⟨by rw [e,Int.mul_sub,Int.mul_neg];omega,om1,om1⟩;exact⟨this.1,this.2⟩
end Dec
theorem TL(va vb:Value)(x:Int)(D:Nat)(w:World)(hx:(bZ x.natAbs).length<=900000)(hD:0<D)(hd:(bZ D).length<=900000)(ha:bY w va x)(hb:bY w vb (D:Int)):
 Calls Tryz.prog 217 #[va,vb] w fun e w'=> ∃ u v,e= .returned (.tuple #[u,v])/\bY w' u (x/(D:Int))/\bY w' v (x%(D:Int))/\Below w.heap.size w w':=by
 by_cases hx0:0<=x
 · exact div_pos va vb x (D:Int) w hx0 hx om1 (by rw [qI];exact hd) ha hb
 · obtain⟨da,rfl,hda⟩:=ha;obtain⟨db,rfl,hdb⟩:=hb;rw [Int.natAbs_natCast] at hdb;obtain⟨ao,ba,oa,ca,rfl,_,hao,hca⟩:=hda.shape;obtain⟨bo,cb,rfl⟩:=hdb.lt;rw [decide_eq_true (show x<0 by omega),decide_eq_false (show ¬(D:Int)<0 by omega)];refine(Wh ao bo ba oa ca _ cb _ D (bZ x.natAbs) w _ _ rfl rfl hx rfl (eU _) hD hd hao hca hdb).mono ?_;rintro e w' ⟨u,v,rfl,hu,hv,hw⟩;rw [eH] at hu hv;obtain⟨h1,h2⟩:=TK x.natAbs D hD;have e1: -((x.natAbs:Nat):Int)=x:=om1;rw [e1] at h1 h2;rw [← h1] at hu;rw [← h2] at hv;exact⟨u,v,rfl,hu,hv,hw⟩
end
section
open Go.RowKit Dec
theorem aao(va vb:Value)(x y:Int)(w:World)(hx:(bZ x.natAbs).length<=900000)(hy0:y≠0)(hy:(bZ y.natAbs).length<=900000)(ha:bY w va x)(hb:bY w vb y):
 Calls Tryz.prog 217 #[va,vb] w fun e w'=> ∃ u v,e= .returned (.tuple #[u,v])/\bY w' u (x/y)/\bY w' v (x%y)/\Below w.heap.size w w':=by
 by_cases hx0:0<=x
 · exact div_pos va vb x y w hx0 hx hy0 hy ha hb
 · by_cases hyp:0<y
   · have e:y=((y.natAbs:Nat):Int):=om1;rw [e] at hb ⊢;exact TL va vb x y.natAbs w hx om1 hy ha hb
   · obtain⟨da,rfl,hda⟩:=ha;obtain⟨db,rfl,hdb⟩:=hb;obtain⟨ao,ba,oa,ca,rfl,_,hao,hca⟩:=hda.shape;obtain⟨bo,cb,rfl⟩:=hdb.lt;rw [decide_eq_true (show x<0 by omega),decide_eq_true (show y<0 by omega)];refine(We ao bo ba oa ca _ cb _ y.natAbs (bZ x.natAbs) w _ _ rfl rfl hx rfl (eU _) om1 hy hao hca hdb).mono ?_;rintro e w' ⟨u,v,rfl,hu,hv,hw⟩;rw [eH] at hu hv;obtain⟨h1,h2⟩:=TK x.natAbs y.natAbs om1;have e1: -((x.natAbs:Nat):Int)=x:=om1;have e2:((y.natAbs:Nat):Int)= -y:=om1;rw [e1] at h1 h2;rw [← h2,e2,Int.emod_neg] at hv
     have h3:x/y=if x.natAbs%y.natAbs=0 then((x.natAbs/y.natAbs:Nat):Int) else((x.natAbs/y.natAbs:Nat):Int)+1:=by
      rw [e2,Int.ediv_neg] at h1;by_cases c:x.natAbs%y.natAbs=0
      · rw [if_pos c] at h1 ⊢;generalize ((x.natAbs/y.natAbs:Nat):Int)=k at*;omega
      · rw [if_neg c] at h1 ⊢;generalize ((x.natAbs/y.natAbs:Nat):Int)=k at*;omega
     rw [← h3] at hu;exact⟨u,v,rfl,hu,hv,hw⟩
end
section
open Go.RowKit Dec
attribute [local go_sem ↓] Go.wp_at_zero Go.wp_at_succ
namespace Dec
theorem Ej{w:World}{v:Value}{n:Int}{d:Nat}(hd:0<d)(h:bY w v (n%(d:Int))):bY w v ((n%(d:Int)).toNat:Int):=by
 have:=Int.emod_nonneg n (show(d:Int)≠0 by omega);rw [Int.toNat_of_nonneg this];exact h
theorem len_q{n:Int}{d:Nat}(hd:0<d):(n/(d:Int)).natAbs<=n.natAbs:=by
 by_cases h:0<=n
 · have h1:=Int.ediv_nonneg h (show(0:Int)<=(d:Int) by omega);have h2:=Int.ediv_le_self (d:Int) h;omega
 · have h1:n/(d:Int)<0:=Int.ediv_neg_of_neg_of_pos om1 om1
   have h2:n<=n/(d:Int):=by
    rw [Int.le_ediv_iff_mul_le om1];have h3:n*(d:Int)<=n*1:=Int.mul_le_mul_of_nonpos_left om1 om1;omega
   omega
end Dec
theorem TM{p:Prop}(h:p:=by
 clear e5 m0 m1 m2 m3 m4 m5 y0 y1 q0 q1 q2 q3;revert u0 u1;generalize (w9.setCell ⟨w.heap.size+1+1,0,none⟩ (.bool s8)).setCell ⟨w.heap.size+1+1,1,none⟩ (.slice a9 L9 c9)=W5;intro u0 u1
 simp [results,Tryz.results192,go_sem,u0,u1]):p:=h
set_option maxRecDepth 100000 in
theorem Iu(va vb:Value)(N:Int)(D:Nat)(w:World)(hD:0<D)(hn:(bZ N.natAbs).length<=800000)(hd:(bZ D).length<=800000)(ha:bY w va N)(hb:bY w vb (D:Int)):
 Calls Tryz.prog 192 #[va,vb] w fun e w'=> ∃ v,e= .returned v/\bY w' v (Tn.rne N (D:Int))/\Below w.heap.size w w':=by
 obtain⟨an,Ln,cn,hva⟩:=ha.form;obtain⟨sn,hsn⟩: ∃ s,s=decide (N<0):=⟨_,rfl⟩;rw [← hsn] at hva;subst hva;clear hsn;obtain⟨ad,Ld,cd,rfl⟩:=hb.NH;obtain⟨q,hq⟩: ∃ q:Int,q=N/(D:Int):=⟨_,rfl⟩;obtain⟨r,hr⟩: ∃ r:Nat,r=(N%(D:Int)).toNat:=⟨_,rfl⟩;have hlq:(bZ q.natAbs).length<=800000:=by rw [hq];exact Nat.le_trans (bg (len_q hD)) hn
 have hrD:r<D:=by
  have h1:=Int.emod_lt_of_pos N (show(0:Int)<(D:Int) by omega);have h2:=Int.emod_nonneg N (show(D:Int)≠0 by omega);omega
 have hlr:(bZ r).length<=800000:=Nat.le_trans (bg (Nat.le_of_lt hrD)) hd
 have hlrr:(bZ (r+r)).length<=800001:=by
  have h2:(bZ (r+r)).length<=(bZ r).length+1:=by
   refine bH ?_;have:=kP r;rw [Nat.pow_succ];omega
  omega
 have l2:(bZ (2:Int).natAbs).length<=900000:=by
  have:=bH (show(2:Int).natAbs<10^1 by decide);omega
 have l2':(bZ 2).length<=900000:=l2
 have l1:(bZ (1:Int).natAbs).length<=900000:=by
  have:=bH (show(1:Int).natAbs<10^1 by decide);omega
 have hrn:Tn.rne N (D:Int)=if 2*(r:Int)<(D:Int)\/2*(r:Int)=(D:Int)/\q%2=0 then q else q+1:=by
  have h2:=Int.emod_nonneg N (show(D:Int)≠0 by omega);have h3:(r:Int)=N%(D:Int):=by rw [hr];exact Int.toNat_of_nonneg h2
  rw [h3,hq];rfl
 obtain⟨zr,hzr⟩: ∃ zr:Int,zr=Tn.rne N (D:Int):=⟨_,rfl⟩;rw [← hzr];rw [hrn] at hzr;have HZr:=Hid.mk' hzr;clear hzr;have HQ:=Hid.mk' hq;have HR:=Hid.mk' hr;clear hrn;have hDiv:=TL (.agg #[.bool sn, .slice an Ln cn]) (.agg #[.bool false, .slice ad Ld cd]) N D;go_enter Tryz.func192,Tryz.ntmps192
 go_wp2_with fail
 refine(hDiv _ om1 hD om1 (ha.below (af (af (af (Below.refl _ _) _) _) _)) (hb.below (af (af (af (Below.refl _ _) _) _) _))).mono ?_;rintro e w1 ⟨u,v,rfl,hu,hv,hb1⟩;replace hv:=Ej hD hv;rw [← hq] at hu;rw [← hr] at hv;obtain⟨a1,L1,c1,hv1⟩:=hu.form;obtain⟨sq,hsq⟩: ∃ s,s=decide (q<0):=⟨_,rfl⟩;rw [← hsq] at hv1;subst hv1;clear hsq;obtain⟨a2,L2,c2,rfl⟩:=hv.NH;have hw1:Below w.heap.size w w1:=ae (af (af (af (Below.refl _ _) _) _) _) hb1;have s1:w.heap.size+1+1+1<=w1.heap.size:=by have:=hb1.size;simp at this;omega
 have kD:gQ w1 (w.heap.size+1) (.bool false) (.slice ad Ld cd):=((jI (w.alloc _) (by simp) _ _).alloc _).keep hb1;have kR:gQ w1 (w.heap.size+1+1) (.bool false) (.slice none 0 0):=(jI ((w.alloc _).alloc _) (by simp) _ _).keep hb1;clear hDiv hq hr;go_upto_region 2 with fail
 have hu2:=hu.below (af (af (Below.refl _ w1) (.cells #[.bool sq, .slice a1 L1 c1] 190)) (.cells #[.bool false, .slice a2 L2 c2] 190));have hv2:=hv.below (af (af (Below.refl _ w1) (.cells #[.bool sq, .slice a1 L1 c1] 190)) (.cells #[.bool false, .slice a2 L2 c2] 190));have hw2:=af (af hw1 (.cells #[.bool sq, .slice a1 L1 c1] 190)) (.cells #[.bool false, .slice a2 L2 c2] 190);have kD2:=(kD.alloc (.cells #[.bool sq, .slice a1 L1 c1] 190)).alloc (.cells #[.bool false, .slice a2 L2 c2] 190);have kR2:=(kR.alloc (.cells #[.bool sq, .slice a1 L1 c1] 190)).alloc (.cells #[.bool false, .slice a2 L2 c2] 190);have kQ2:=(dD w1 (.bool sq) (.slice a1 L1 c1)).alloc (.cells #[.bool false, .slice a2 L2 c2] 190);have kr2:=jI (w1.alloc (.cells #[.bool sq, .slice a1 L1 c1] 190)) (g:=w1.heap.size+1) (by simp) (.bool false) (.slice a2 L2 c2);obtain⟨g,hg⟩: ∃ g,g=w1.heap.size:=⟨_,rfl⟩;generalize (w1.alloc (.cells #[.bool sq, .slice a1 L1 c1] 190)).alloc (.cells #[.bool false, .slice a2 L2 c2] 190)=W2 at*;rw [← hg] at kQ2 kr2 s1 ⊢;clear hu hv hw1 kD kR hb1 hg;have hd2:=hb.below hw2;have x0:=kD2.c0;have x1:=kD2.c1;have y0:=kr2.c0;have y1:=kr2.c1;go_cut [7] (fun c wx=>c= .int .i64 (((r:Int)+(r:Int))- (D:Int)).sign/\Below W2.heap.size W2 wx)
 case first=>
  go_region_held3 (fun w'=>w'.cell? ⟨w.heap.size+1,0,none⟩=some (.bool false)/\w'.cell? ⟨w.heap.size+1,1,none⟩=some (.slice ad Ld cd)/\w'.cell? ⟨g+1,0,none⟩=some (.bool false)/\w'.cell? ⟨g+1,1,none⟩=some (.slice a2 L2 c2)) (first|exact⟨x0,x1,y0,y1⟩|exact⟨ah hb3 x0,ah hb3 x1,ah hb3 y0,ah hb3 y1⟩|exact⟨ah hb4 (ah hb3 x0),ah hb4 (ah hb3 x1),ah hb4 (ah hb3 y0),ah hb4 (ah hb3 y1)⟩|go_keep)
   (first
    |(go_at_call 98;refine(add_any _ _ (r:Int) (r:Int) _ (by rw [qI];omega) (by rw [qI];omega) (hv2.below (Below.refl _ _).drew) (hv2.below (Below.refl _ _).drew)).mono ?_;rintro e w3 ⟨v3,rfl,hn3,hb3⟩)
    |(go_at_call 184;refine(uI _ _ ((r:Int)+(r:Int)) (D:Int) _ (by have:=qI (r+r);rw [Int.natCast_add] at this;omega) (by rw [qI];omega) hn3 (hd2.below (ae (Below.refl _ _).drew hb3))).mono ?_;rintro e w4 ⟨rfl,hb4⟩))
  all_goals go_wp2_with fail
  all_goals go_meet
  all_goals exact⟨rfl,ae (ae (Below.refl _ _).drew hb3) hb4⟩
 case rest=>
  obtain⟨rfl,hbx⟩:=hcut;have hqc:=hu2.below hbx;have z0:=ah hbx kQ2.c0;have z1:=ah hbx kQ2.c1;have gl:g+1<wc.heap.size:=Nat.lt_of_lt_of_le kr2.lt hbx.size;have ng0:g≠wc.heap.size:=om1;have ng1:g≠wc.heap.size+1:=om1;go_upto_region 3 with fail
  go_cut [8,9] (fun p8 p9 wy=> ∃ (h:Nat) (a4:Option Addr) (L4 c4:Nat),p9= .pointer (some ⟨h,0,none⟩)/\gQ wy h (.bool false) (.slice a4 L4 c4)/\bY wy (.agg #[.bool false, .slice a4 L4 c4]) ((q%((2:Nat):Int)).toNat:Int)/\Below wc.heap.size wc wy)
  case first=>
   clear ha hb hn hd hlr hlrr l1 HQ HR s1 hu2 hv2 hw2 kD2 kR2 kQ2 kr2 hd2 x0 x1 y0 y1 hbx
   go_region_held3 (fun w'=>w'.cell? ⟨g,0,none⟩=some (.bool sq)/\w'.cell? ⟨g,1,none⟩=some (.slice a1 L1 c1)) (first|(refine⟨?_, ?_⟩<;>(repeat first|with_reducible exact z0|with_reducible exact z1|with_reducible refine dh _ ?_|with_reducible refine jg ?_|with_reducible refine ah hb6 ?_|with_reducible refine ah hb5 ?_|with_reducible refine aW ?_ ng0 _|with_reducible refine aW ?_ ng1 _|with_reducible refine aW ?_ ng5 _|with_reducible refine aW ?_ ng51 _)))
    (first
     |(go_at_call 99;refine(fJ 2 _ om1 om1).mono ?_;rintro e w5 ⟨v5,rfl,hn5,hb5⟩;replace hn5:bY w5 v5 ((2:Nat):Int):=hn5;have k5:Below wc.heap.size wc w5:=(by first|with_reducible exact ae (Below.refl _ _).drew hb5|with_reducible exact ae (af (Below.refl _ _) _).drew hb5|with_reducible exact ae (af (af (Below.refl _ _) _) _).drew hb5);have s5:wc.heap.size<=w5.heap.size:=k5.size;have ng5:g≠w5.heap.size:=om1;have ng51:g≠w5.heap.size+1:=om1;(try(have s5x:=hb5.size;simp at s5x));(try(have dAP:wc.heap.size≠w5.heap.size:=om1;have dPA:w5.heap.size≠wc.heap.size:=om1)))
     |(go_at_call 217;refine(TL _ _ q 2 _ om1 om1 l2' (by repeat first|with_reducible exact hqc|with_reducible refine bY.below ?_ hb5|with_reducible refine bY.drew ?_|with_reducible refine bY.alloc ?_ _) (by repeat first|with_reducible exact hn5|with_reducible refine bY.alloc ?_ _)).mono ?_;rintro e w6 ⟨v6,v7,rfl,hn6,hn7,hb6⟩;have k6:Below wc.heap.size wc w6:=(by first|with_reducible exact ae k5 hb6|with_reducible exact ae (af k5 _) hb6|with_reducible exact ae (af (af k5 _) _) hb6);replace hn7:=Ej (d:=2) om1 hn7;obtain⟨a6,L6,c6,hv6⟩:=hn6.form;obtain⟨s6,hs6⟩: ∃ s,s=decide (q/((2:Nat):Int)<0):=⟨_,rfl⟩;rw [← hs6] at hv6;clear hs6;obtain⟨a7,L7,c7,hv7⟩:=hn7.NH;subst hv6;subst hv7;(try(have A0:gQ w6 wc.heap.size (.bool false) (.slice none 0 0):=(by first|with_reducible exact((dD wc _ _).drew.keep hb5).keep hb6|with_reducible exact(((dD wc _ _).drew.keep hb5).alloc _).keep hb6|with_reducible exact(((dD wc _ _).alloc _).drew.keep hb5).keep hb6);have A0c:=A0.c0;have A0d:=A0.c1;have A0e:=A0.free 0;have A0f:=A0.free 1;have A0l:=A0.lt));(try(have A1:gQ w6 (wc.heap.size+1) (.bool false) (.slice none 0 0):=(by first|with_reducible exact((jI (wc.alloc _) (by simp) _ _).drew.keep hb5).keep hb6);have A1c:=A1.c0;have A1d:=A1.c1;have A1e:=A1.free 0;have A1f:=A1.free 1;have A1l:=A1.lt));(try(have P0:gQ w6 w5.heap.size (.bool false) (.slice none 0 0):=(by first|with_reducible exact(dD w5 _ _).keep hb6|with_reducible exact((dD w5 _ _).alloc _).keep hb6);have P0c:=P0.c0;have P0d:=P0.c1;have P0e:=P0.free 0;have P0f:=P0.free 1;have P0l:=P0.lt));(try(have P1:gQ w6 (w5.heap.size+1) (.bool false) (.slice none 0 0):=(by first|with_reducible exact(jI (w5.alloc _) (by simp) _ _).keep hb6);have P1c:=P1.c0;have P1d:=P1.c1;have P1e:=P1.free 0;have P1f:=P1.free 1;have P1l:=P1.lt))))
   all_goals go_wp2_with fail
   all_goals go_meet
   all_goals refine⟨_,a7,L7,c7,rfl, ?_, ?_, ?_⟩
   all_goals first|(first|with_reducible exact jI (w6.alloc _) (by simp) _ _|with_reducible exact(dD w6 _ _).alloc _|with_reducible exact AL w6 _ _ _ _ _|with_reducible exact(A0.set2 _ _).alloc _|with_reducible exact(A1.set2 _ _).alloc _|with_reducible exact(P0.set2 _ _).alloc _|with_reducible exact(P1.set2 _ _).alloc _|with_reducible exact(P1.ig (Nat.succ_ne_self _) _ _).set2 _ _|with_reducible exact(P0.ig (Ne.symm (Nat.succ_ne_self _)) _ _).set2 _ _|with_reducible exact(P0.ig dPA _ _).set2 _ _|with_reducible exact(A0.ig dAP _ _).set2 _ _|with_reducible exact(A1.ig (Nat.succ_ne_self _) _ _).set2 _ _|with_reducible exact(A0.ig (Ne.symm (Nat.succ_ne_self _)) _ _).set2 _ _)|(first|with_reducible exact(hn7.alloc _).alloc _|with_reducible exact(hn7.jC A0 _ _).alloc _|with_reducible exact(hn7.jC A1 _ _).alloc _|with_reducible exact(hn7.jC P0 _ _).alloc _|with_reducible exact(hn7.jC P1 _ _).alloc _|with_reducible exact(hn7.jC P0 _ _).jC (P1.ig (Nat.succ_ne_self _) _ _) _ _|with_reducible exact(hn7.jC P1 _ _).jC (P0.ig (Ne.symm (Nat.succ_ne_self _)) _ _) _ _|with_reducible exact(hn7.jC A0 _ _).jC (P0.ig dPA _ _) _ _|with_reducible exact(hn7.jC P0 _ _).jC (A0.ig dAP _ _) _ _|with_reducible exact(hn7.jC A0 _ _).jC (A1.ig (Nat.succ_ne_self _) _ _) _ _|with_reducible exact(hn7.jC A1 _ _).jC (A0.ig (Ne.symm (Nat.succ_ne_self _)) _ _) _ _)|(first|with_reducible exact af (af k6 _) _|with_reducible exact af (aV k6 (Nat.le_refl _) _ _) _|with_reducible exact af (aV k6 (Nat.le_succ _) _ _) _|with_reducible exact af (aV k6 s5 _ _) _|with_reducible exact af (aV k6 (Nat.le_succ_of_le s5) _ _) _|with_reducible exact aV (aV k6 s5 _ _) (Nat.le_succ_of_le s5) _ _|with_reducible exact aV (aV k6 (Nat.le_succ_of_le s5) _ _) s5 _ _|with_reducible exact aV (aV k6 (Nat.le_refl _) _ _) s5 _ _|with_reducible exact aV (aV k6 s5 _ _) (Nat.le_refl _) _ _|with_reducible exact aV (aV k6 (Nat.le_refl _) _ _) (Nat.le_succ _) _ _|with_reducible exact aV (aV k6 (Nat.le_succ _) _ _) (Nat.le_refl _) _ _)
  case rest=>
   obtain⟨h,a4,L4,c4,rfl,hrow4,hn4,hby⟩:=hcut;have hbxy:=ae hbx hby
   have kQ3:=kQ2.keep hbxy;have kR3:=kR2.keep hbxy;have hq3:=hu2.below hbxy;have hw3:=ae hw2 hbxy;have m0:=kQ3.c0;have m1:=kQ3.c1;have m2:=kR3.c0;have m3:=kR3.c1;have m4:=kR3.free 0;have m5:=kR3.free 1;have m6:=hrow4.c0;have m7:=hrow4.c1;have gB:w.heap.size+1+1<g:=om1;clear ha hb hn hd HQ HR hu2 hv2 hw2 kD2 kR2 kQ2 kr2 hd2 x0 x1 y0 y1 hbx hby hqc z0 z1 gl ng0 ng1 hrow4;rcases Int.lt_trichotomy ((r:Int)+(r:Int)- (D:Int)) 0 with hs|hs|hs
   ·rw [Int.sign_eq_neg_one_of_neg hs];go_wp2;have e5:=kR3.set2 (.bool sq) (.slice a1 L1 c1);have u0:=e5.c0;have u1:=e5.c1;refine bodyPost_ret (v:= .agg #[.bool sq, .slice a1 L1 c1]) ?_ rfl ⟨_,rfl,by rw [HZr.out,if_pos (Or.inl om1)];exact hq3.jC kR3 _ _,aV hw3 om1 _ _⟩;clear e5 m0 m1 m2 m3 m4 m5;revert u0 u1;generalize (wc.setCell ⟨w.heap.size+1+1,0,none⟩ (.bool sq)).setCell ⟨w.heap.size+1+1,1,none⟩ (.slice a1 L1 c1)=W5;intro u0 u1;simp [results,Tryz.results192,go_sem,u0,u1]
   ·rw [hs,Int.sign_zero];by_cases hod:q%2=0
    ·rw [show(q%((2:Nat):Int)).toNat=0 by omega] at hn4;have hn40:bY wc (.agg #[.bool false, .slice a4 L4 c4]) 0:=hn4;go_wp2_with fail
     refine(yP _ 0 _ (by decide) hn40).mono ?_;rintro e w7 ⟨rfl,hb7⟩;rw [Int.sign_zero];have kQ7:=kQ3.keep hb7;have kR7:=kR3.keep hb7;have hq7:=hq3.below hb7;have hw7:=ae hw3 hb7;clear m0 m1 m2 m3 m4 m5 m6 m7;have m0:=kQ7.c0;have m1:=kQ7.c1;have m2:=kR7.c0;have m3:=kR7.c1;have m4:=kR7.free 0;have m5:=kR7.free 1;go_wp2;have e5:=kR7.set2 (.bool sq) (.slice a1 L1 c1);have u0:=e5.c0;have u1:=e5.c1;refine bodyPost_ret (v:= .agg #[.bool sq, .slice a1 L1 c1]) ?_ rfl ⟨_,rfl,by rw [HZr.out,if_pos (Or.inr ⟨om1,hod⟩)];exact hq7.jC kR7 _ _,aV hw7 om1 _ _⟩;clear e5 m0 m1 m2 m3 m4 m5;revert u0 u1;generalize (w7.setCell ⟨w.heap.size+1+1,0,none⟩ (.bool sq)).setCell ⟨w.heap.size+1+1,1,none⟩ (.slice a1 L1 c1)=W5;intro u0 u1;simp [results,Tryz.results192,go_sem,u0,u1]
    ·have hod1:q%2=1:=om1;rw [show(q%((2:Nat):Int)).toNat=1 by omega] at hn4;have hn41:bY wc (.agg #[.bool false, .slice a4 L4 c4]) 1:=hn4;go_wp2_with fail
     refine(yP _ 1 _ om1 hn41).mono ?_;rintro e w7 ⟨rfl,hb7⟩;rw [show(1:Int).sign=1 from rfl];have kQ7:=kQ3.keep hb7;have kR7:=kR3.keep hb7;have hq7:=hq3.below hb7;have hw7:=ae hw3 hb7;clear m0 m1 m2 m3 m4 m5 m6 m7;have m0:=kQ7.c0;have m1:=kQ7.c1;have m2:=kR7.c0;have m3:=kR7.c1;have m4:=kR7.free 0;have m5:=kR7.free 1;go_wp2
     go_region_with
      (first
       |(go_at_call 99;refine(fJ 1 _ om1 om1).mono ?_;rintro e w8 ⟨v8,rfl,hn8,hb8⟩;have y0:=ah hb8 m0;have y1:=ah hb8 m1)
       |(go_at_call 98;refine(add_any _ _ q 1 _ om1 om1 (hq7.below (ae (Below.refl _ _).drew hb8)) hn8).mono ?_;rintro e w9 ⟨v9,rfl,hn9,hb9⟩;have hn9':=hn9;obtain⟨a9,L9,c9,hv9⟩:=hn9'.form;obtain⟨s8,hs8⟩: ∃ s,s=decide (q+1<0):=⟨_,rfl⟩;rw [← hs8] at hv9;subst hv9;clear hs8;have kR9:=(kR7.drew.keep hb8).keep hb9;have q0:=kR9.c0;have q1:=kR9.c1;have q2:=kR9.free 0;have q3:=kR9.free 1))
     all_goals go_wp2
     all_goals
      have e5:=kR9.set2 (.bool s8) (.slice a9 L9 c9);have u0:=e5.c0;have u1:=e5.c1;refine bodyPost_ret (v:= .agg #[.bool s8, .slice a9 L9 c9]) ?_ rfl ⟨_,rfl,by rw [HZr.out,if_neg om1];exact hn9'.jC kR9 _ _,aV (ae (ae hw7.drew hb8) hb9) om1 _ _⟩;exact TM
   ·rw [Int.sign_eq_one_of_pos hs];go_wp2
    go_region_with
     (first
      |(go_at_call 99;refine(fJ 1 _ om1 om1).mono ?_;rintro e w8 ⟨v8,rfl,hn8,hb8⟩;have y0:=ah hb8 m0;have y1:=ah hb8 m1)
      |(go_at_call 98;refine(add_any _ _ q 1 _ om1 om1 (hq3.below (ae (Below.refl _ _).drew hb8)) hn8).mono ?_;rintro e w9 ⟨v9,rfl,hn9,hb9⟩;have hn9':=hn9;obtain⟨a9,L9,c9,hv9⟩:=hn9'.form;obtain⟨s8,hs8⟩: ∃ s,s=decide (q+1<0):=⟨_,rfl⟩;rw [← hs8] at hv9;subst hv9;clear hs8;have kR9:=(kR3.drew.keep hb8).keep hb9;have q0:=kR9.c0;have q1:=kR9.c1;have q2:=kR9.free 0;have q3:=kR9.free 1))
    all_goals go_wp2
    all_goals
     have e5:=kR9.set2 (.bool s8) (.slice a9 L9 c9);have u0:=e5.c0;have u1:=e5.c1;refine bodyPost_ret (v:= .agg #[.bool s8, .slice a9 L9 c9]) ?_ rfl ⟨_,rfl,by rw [HZr.out,if_neg om1];exact hn9'.jC kR9 _ _,aV (ae (ae hw3.drew hb8) hb9) om1 _ _⟩;exact TM
end
section
open Go.RowKit Dec
attribute [local go_sem ↓] Go.wp_at_zero Go.wp_at_succ
namespace Dec
def rn(n d:Nat):Nat:=if 2*(n%d)<d\/2*(n%d)=d/\n/d%2=0 then n/d else n/d+1
end Dec
end
section
open Go.RowKit
attribute [local go_sem ↓] Go.wp_at_zero Go.wp_at_succ
namespace Dec
end Dec
open Dec
end
section
open Go.RowKit Tg Dec
attribute [local go_sem ↓] Go.wp_at_zero Go.wp_at_succ
namespace Tg
end Tg
namespace Tg
end Tg
namespace Tg
end Tg
end
end Go.Proofs.YtcefcokpjbebhaaGreatDoor
