/-
  The document's answer of layer 9 (radomeref09): dot, less, rest.
-/
import Derived.Test.YtcefcokpjbebhaaGreatDoorM6
import Derived.Test.YtcefcokpjbebhaaGreatDoorM9
import Derived.Test.YtcefcokpjbebhaaGreatDoorM20
set_option linter.unusedSimpArgs false
set_option linter.unusedVariables false
set_option maxHeartbeats 2000000
set_option maxRecDepth 10000
namespace Go.Proofs.YtcefcokpjbebhaaGreatDoor
section
open Go.RowKit Vc Mt St Qn Dt Dec Ld
theorem xX(ao bo:Option Addr)(n ca cb:Nat)(za zb:Nat->Int)(q:Int)(b:Nat)(w:World)(hq:q=(b:Int))(hn:n<=64)(ha:Sl w ao n ca za)(hb:Sl w bo n cb zb)(ba:B64 za)(bb:B64 zb)(hp:b<=62):
 Calls Tryz.prog 213 #[.slice ao n ca, .slice bo n cb, .int .i64 q] w fun e w'=>e= .returned (.tuple #[.int .i64 (clamp (rne (dk za zb n) (2^b))), .bool (great (rne (dk za zb n) (2^b)))])/\Below w.heap.size w w':=by
 have HD:=Hid.mkV (Jn ao bo n ca cb za zb q b w hq hn ha hb ba bb hp);obtain⟨V,hV⟩: ∃ V,V=clamp (rne (dk za zb n) (2^b)):=⟨_,rfl⟩;obtain⟨g,hg⟩: ∃ V,V=great (rne (dk za zb n) (2^b)):=⟨_,rfl⟩;rw [← hV,← hg] at HD ⊢;clear hV hg ha hb ba bb hq;go_enter Tryz.func213,Tryz.ntmps213
 go_wp2_with fail
 refine HD.out.mono ?_;rintro e w1 ⟨rfl,k1⟩;go_wp2;go_ret2;exact⟨rfl,k1⟩
theorem MC(a b q:Int)(p:Nat)(w:World)(hq:q=(p:Int))(ha0: -9223372036854775808<=a)(ha1:a<=9223372036854775807)(hb0: -9223372036854775808<=b)(hb1:b<=9223372036854775807)(hp:p<=62):
 Calls Tryz.prog 213 #[.slice (some ⟨w.heap.size,0,none⟩) 1 1, .slice (some ⟨w.heap.size+1,0,none⟩) 1 1, .int .i64 q] ((w.alloc (.cells #[.int .i64 a] 2)).alloc (.cells #[.int .i64 b] 2)) fun e w'=>
  e= .returned (.tuple #[.int .i64 (clamp (rne (a*b) (2^p))), .bool (great (rne (a*b) (2^p)))])/\Below w.heap.size w w':=by
 have d1:((w.alloc (.cells #[.int .i64 a] 2)).alloc (.cells #[.int .i64 b] 2)).cell? ⟨w.heap.size,0,none⟩=some (.int .i64 a):=by go_simp
 have d2:((w.alloc (.cells #[.int .i64 a] 2)).alloc (.cells #[.int .i64 b] 2)).cell? ⟨w.heap.size+1,0,none⟩=some (.int .i64 b):=by go_simp
 have h:=xX (some ⟨w.heap.size,0,none⟩) (some ⟨w.heap.size+1,0,none⟩) 1 1 1 (fun _=>a) (fun _=>b) q p _ hq om1 (Sl.one d1) (Sl.one d2) (fun _=>⟨ha0,ha1⟩) (fun _=>⟨hb0,hb1⟩) hp;have e1:dk (fun _=>a) (fun _=>b) 1=a*b:=by show 0+a*b=_;omega
 rw [e1] at h;refine h.mono ?_;rintro e w1 ⟨rfl,k1⟩;exact⟨rfl,ae (af (af (Below.refl _ _) _) _) k1⟩
theorem wU(a b:Int)(w:World)(ha0: -9223372036854775808<=a)(ha1:a<=9223372036854775807)(hb0: -9223372036854775808<=b)(hb1:b<=9223372036854775807):
 Calls Tryz.prog 215 #[.int .i64 a, .int .i64 b] w fun e w'=>e= .returned (.tuple #[.int .i64 (clamp (a- b)), .bool (great (a- b))])/\Below w.heap.size w w':=by
 have HA:=Hid.mkV (fun W=>fJ a W ha0 ha1);have HB:=Hid.mkV (fun W=>fJ b W hb0 hb1);have HS:=Hid.mkV (fun va vb W=>xH va vb a b W (dX om1 om1) (dX om1 om1));have HD:=Hid.mkV (fun v W=>pF v (a- b) W (dX om1 om1));obtain⟨V,hV⟩: ∃ V,V=clamp (a- b):=⟨_,rfl⟩;obtain⟨g,hg⟩: ∃ V,V=great (a- b):=⟨_,rfl⟩;obtain⟨D,hD⟩: ∃ V,V=a- b:=⟨_,rfl⟩;rw [← hV,← hg] at HD ⊢;rw [← hD] at HD HS;clear hV hg hD;go_enter Tryz.func215,Tryz.ntmps215
 go_wp2_with fail
 refine(HA.out _).mono ?_;rintro e w1 ⟨va,rfl,i1,k1⟩;go_wp2_with fail
 refine(HB.out _).mono ?_;rintro e w2 ⟨vb,rfl,i2,k2⟩;go_wp2_with fail
 refine(HS.out _ _ _ (i1.below k2) i2).mono ?_;rintro e w3 ⟨vc,rfl,i3,k3⟩;go_wp2_with fail
 refine(HD.out _ _ i3).mono ?_;rintro e w4 ⟨rfl,k4⟩;go_wp2;go_ret2;exact⟨rfl,ae (ae (ae k1 k2) k3) k4⟩
namespace Ld
theorem isG:Is 124 2:=⟨by kernel_rfl,⟨_,Tryz.underlying124,rfl⟩⟩
abbrev qj(w:World)(g:Nat)(a b:Value):Prop:=ai w g 124 [a,b]
theorem qj.l{w:World}{g:Nat}{a b:Value}(h:qj w g a b):w.cell? ⟨g,0,none⟩=some a:=h.cell (k:=0) rfl rfl
theorem qj.d{w:World}{g:Nat}{a b:Value}(h:qj w g a b):w.cell? ⟨g,1,none⟩=some b:=h.cell (k:=1) rfl rfl
end Ld
theorem XL{p:Prop}(h:p:=by
 go_wp2
 go_region_held3 (fun w'=>w'.cell? (xr.add k)=some (.int .i64 X)) (first
  |with_reducible exact c7
  |with_reducible exact ah t2.x.below C6
  |with_reducible exact ah t1.x.below C6
  |with_reducible exact ah (t1.alloc _).x.below C6
  |with_reducible exact ah hTp.drew.x.below C6
  |with_reducible exact ah (hTp.alloc _).x.below C6
  |with_reducible exact ah (hTp.alloc _).drew.x.below C6
  |with_reducible exact ah ((hTp.alloc _).drew.alloc _).x.below C6
  |with_reducible exact ah ((hTp.alloc _).alloc _).x.below C6
  |with_reducible exact ah ((hTp.alloc _).alloc _).drew.x.below C6
  |go_keep)
  (first
    |(refine qi rl1 (.tmp 55) (.tmp 57) rl1 (B:=W.heap.size) (w0:=W) (vx:=u10) (vy:=u11) (nx:=k) (ny:=k) (zx:=r) (zy:=x) (by repeat(first|with_reducible exact hTp|with_reducible exact t1|with_reducible exact t2|with_reducible refine Two.alloc ?_ _|with_reducible refine Two.drew ?_)) rl1 om1 (y:=R) rl1 (by repeat(first|(with_reducible refine jY (B:=W.heap.size) (w0:=W) (vx:=u10) (nx:=k) (ny:=k) (zx:=r) (zy:=x) ?_ _ (by simp))|(with_reducible refine jY (B:=W.heap.size) (w0:=W) (vx:=v1) (nx:=k+1) (ny:=k) (zx:=r) (zy:=x) ?_ _ (by simp))|with_reducible exact hTp|with_reducible exact t1|with_reducible refine Two.alloc ?_ _|with_reducible refine Two.drew ?_|with_reducible refine mr.alloc ?_ _|with_reducible refine mr.drew ?_|with_reducible refine p1 _ _ ?_)) (by exact HR.out) ?_;intro v1 w1 t1 p1)
    |(refine uA rl1 (.tmp 59) (.tmp 64) rl1 (B:=W.heap.size) (w0:=W) (vx:=v1) (vy:=u11) (nx:=k+1) (ny:=k) (zx:=r) (zy:=x) (by repeat(first|with_reducible exact hTp|with_reducible exact t1|with_reducible exact t2|with_reducible refine Two.alloc ?_ _|with_reducible refine Two.drew ?_)) rl1 om1 (y:=X) rl1 (by repeat(first|(with_reducible refine jY (B:=W.heap.size) (w0:=W) (vx:=u10) (nx:=k) (ny:=k) (zx:=r) (zy:=x) ?_ _ (by simp))|(with_reducible refine jY (B:=W.heap.size) (w0:=W) (vx:=v1) (nx:=k+1) (ny:=k) (zx:=r) (zy:=x) ?_ _ (by simp))|with_reducible exact hTp|with_reducible exact t1|with_reducible refine Two.alloc ?_ _|with_reducible refine Two.drew ?_|with_reducible refine mr.alloc ?_ _|with_reducible refine mr.drew ?_|with_reducible refine p1 _ _ ?_)) (by exact HX.out) ?_;intro v2 w2 t2 p2))
 all_goals go_wp2
 all_goals go_roundw
 all_goals first
  |(simp [intOf];omega)
  |exact⟨k+1,om1,by go_num,by rw [HA.out];cases T<;>first|rfl|contradiction|(simp at*),t2⟩
  |trace_state):p:=h
theorem XM{p:Prop}(h:p:=by
 obtain⟨ax,cx,rfl,sx⟩:=hT.x.sl;obtain⟨ay,cy,rfl,sy⟩:=hT.y.sl;have hb:=hT.x.below;have hS:=Hid.mkV (HS.out ay ax cy cx _ sy sx);obtain⟨T,hTT⟩: ∃ T,T=dN q k:=⟨_,rfl⟩;rw [← hTT];have HTT:=Hid.mkV hTT;clear hTT HS HO;have z0:=hB;go_wp2_with fail
 refine hS.out.mono ?_;rintro e w3 ⟨rfl,k3⟩;go_wp2_with fail
 refine(HM.out _).mono ?_;rintro e w4 ⟨rfl,k4⟩;have b4:=ae (ae (ae hB hb) k3) k4
 cases T<;>cases SO<;>(go_wp2;go_ret2;exact⟨by rw [← HTT.out];rfl,b4⟩)):p:=h
theorem RU(i j n cl cd rl rc:Nat)(lo do' ro:Option Addr)(L:Nat->Nat->Int)(d x:Nat->Int)(m:Int)(w:World)(hL:Grid w lo i cl n L)(hd:Sl w do' i cd d)(hx:Sl w ro rl rc x)(hj:j<i)(hjr:j<=rl)(hin:i<=n)(hn:n<=6)(bL: ∀ a,B64 (L a))(bd:B64 d)(bx:B64 x)(m0: -9223372036854775808<=m)(m1:m<=9223372036854775807):
 Calls Tryz.prog 211 #[.agg #[.slice lo i cl, .slice do' i cd], .slice ro rl rc, .int .i64 m, .int .i64 (j:Int)] w fun e w'=>e= .returned (.tuple #[.int .i64 (gY m x (wv (L j) d) j), .bool (dN (wg (L j) d) j||kM m x (wv (L j) d) j)])/\Below w.heap.size w w':=by
 obtain⟨A,C,hs,hg⟩:=hL;obtain⟨xl,hlo,hlc⟩:=hs.get;obtain⟨xd,hdo,hdc⟩:=hd.get;obtain⟨xr,hro,hrc⟩:=hx.get;have l1:=hs.le;have l2:=hs.cap;have l3:=hd.le;have l4:=hd.cap;have l5:=hx.le;have l6:=hx.cap;have sj:=(hg j om1);obtain⟨xj,hjo,hjc⟩:=sj.get;have l7:=sj.le;have l8:=sj.cap;have HJC:=Hid.mkV hjc;have HJO:=Hid.mkV hjo;obtain rfl:=hlo om1;have CL:=hlc j om1;obtain⟨Cj,hCj⟩: ∃ c,c=C j:=⟨_,rfl⟩;obtain⟨Aj,hAj⟩: ∃ c,c=A j:=⟨_,rfl⟩;rw [← hCj] at CL l7 l8;rw [← hAj] at CL;rw [← hAj] at HJO;clear hCj hAj hjo;have HLC:=Hid.mkV hlc;have HDC:=Hid.mkV hdc;have HRC:=Hid.mkV hrc;have HLO:=Hid.mkV hlo;have HDO:=Hid.mkV hdo;have HRO:=Hid.mkV hro;have HO:=Hid.mkV (fun k W=>MC (L j k) (d k) 30 30 W rfl (bL j k).1 (bL j k).2 (bd k).1 (bd k).2 om1);have bW:B64 (wv (L j) d):=lS (VJ _ _);have HS:=Hid.mkV (fun(ao bo:Option Addr) (ca cb:Nat) W (H1:Sl W ao j ca x) (H2:Sl W bo j cb (wv (L j) d))=>xX ao bo j ca cb x (wv (L j) d) 30 30 W rfl om1 H1 H2 bx bW om1);have bS:=uP x (wv (L j) d) j;have HM:=Hid.mkV (fun W=>wU m (wL x (wv (L j) d) j) W m0 m1 om1 om1);have e1:clamp (rne (dk x (wv (L j) d) j) (2^30))=wL x (wv (L j) d) j:=rfl;have e2:great (rne (dk x (wv (L j) d) j) (2^30))=IV x (wv (L j) d) j:=rfl;have e3:clamp (m- wL x (wv (L j) d) j)=gY m x (wv (L j) d) j:=rfl;have e4:Hid (kM m x (wv (L j) d) j=(IV x (wv (L j) d) j||great (m- wL x (wv (L j) d) j))):=rfl;have e5:Hid (∀ k,clamp (rne (L j k*d k) (2^30))=wv (L j) d k/\great (rne (L j k*d k) (2^30))=wg (L j) d k):=fun k=>⟨rfl,rfl⟩;rw [e1,e2] at HS;rw [e3] at HM;obtain⟨r,hr⟩: ∃ r,r=wv (L j) d:=⟨_,rfl⟩;obtain⟨q,hq⟩: ∃ r,r=wg (L j) d:=⟨_,rfl⟩;rw [← hr] at HS HM e4 e5 ⊢;rw [← hq] at e5 ⊢;obtain⟨SV,hSV⟩: ∃ t,t=wL x r j:=⟨_,rfl⟩;obtain⟨SO,hSO⟩: ∃ t,t=IV x r j:=⟨_,rfl⟩;rw [← hSV] at HS HM e4;rw [← hSO] at HS e4;obtain⟨GO,hGO⟩: ∃ t,t=great (m- SV):=⟨_,rfl⟩;obtain⟨LV,hLV⟩: ∃ t,t=gY m x r j:=⟨_,rfl⟩;rw [← hGO,← hLV] at HM;rw [← hGO] at e4;rw [← hLV];rw [e4.out];have cG0:(w.alloc (.cells #[.slice (some xl) i cl, .slice do' i cd] 124)).cell? ⟨w.heap.size,0,none⟩=some (.slice (some xl) i cl):=by go_simp
 have cG1:(w.alloc (.cells #[.slice (some xl) i cl, .slice do' i cd] 124)).cell? ⟨w.heap.size,1,none⟩=some (.slice do' i cd):=by go_simp
 have hB:=af (Below.refl _ w) (.cells #[.slice (some xl) i cl, .slice do' i cd] 124);have hWs:(w.alloc (.cells #[.slice (some xl) i cl, .slice do' i cd] 124)).heap.size=w.heap.size+1:=by simp
 obtain⟨W,hW⟩: ∃ W,W=w.alloc (.cells #[.slice (some xl) i cl, .slice do' i cd] 124):=⟨_,rfl⟩;rw [← hW] at cG0 cG1 hB hWs;have HW:=Hid.mkV hW;clear hs hg hd hx bL bd bx hr hq hSV hSO hGO hLV e1 e2 e3 e4 hW bS bW hlo hdo hro hlc hdc hrc sj;go_enter Tryz.func211,Tryz.ntmps211
 go_wp2_with (first|(rw [← HW.out])|fail)
 go_loopw [10,11,12,13] (fun vx vy an ix wr=> ∃ k:Nat,k<=j/\ix= .int .i64 (k:Int)/\an= .bool (dN q k)/\Two W.heap.size W wr vx k r vy k x) (fun _ _ _ ix _=>j- (intOf ix).toNat)
 case atStart=>exact⟨0,om1,rfl,rfl,⟨Own.nil (Below.refl _ _) (Nat.le_refl _) _,Own.nil (Below.refl _ _) (Nat.le_refl _) _,fun g h=>by cases h⟩⟩
 case round=>
  rename World=>wo;obtain⟨k,hk,rfl,rfl,hT⟩:=hrel;by_cases h:k<j
  ·obtain rfl:=HDO.out om1;obtain rfl:=HRO.out om1;obtain rfl:=HJO.out om1;have c4:=ah (ae hB hT.x.below) (HJC.out k om1);have c5:=ah (ae hB hT.x.below) CL;have c1:=ah hT.x.below cG0;have c2:=ah hT.x.below cG1;have c3:=ah (ae hB hT.x.below) (HDC.out k om1);have C6:=ah hB (HRC.out k om1);have HOk:=HO.out k;rw [(e5.out k).1,(e5.out k).2] at HOk;have HOh:=Hid.mkV HOk;have HA:Hid (dN q (k+1)=(dN q k||q k)):=rfl;obtain⟨R,hR⟩: ∃ R,R=r k:=⟨_,rfl⟩;obtain⟨G,hG⟩: ∃ R,R=q k:=⟨_,rfl⟩;obtain⟨X,hX⟩: ∃ R,R=x k:=⟨_,rfl⟩;obtain⟨D,hD⟩: ∃ R,R=d k:=⟨_,rfl⟩;obtain⟨T,hTT⟩: ∃ T,T=dN q k:=⟨_,rfl⟩;rw [← hR,← hG,← hD] at HOh;rw [← hTT,← hG] at HA;rw [← hTT];rw [← hD] at c3;rw [← hX] at C6;obtain⟨P,hP⟩: ∃ R,R=L j k:=⟨_,rfl⟩;rw [← hP] at HOh c4;clear hP;have HR:=Hid.mkV hR;have HX:=Hid.mkV hX;have c6:=ah hT.x.below C6;have c2a:=fun(o:Obj)=>ah (af (Below.refl _ wo) o) c2;have c3a:=fun(o:Obj)=>ah (af (Below.refl _ wo) o) c3;have i0:(0:Int)<=(k:Int):=om1;have i1:(k:Int)<(rl:Int):=om1;have i2:(k:Int)<(i:Int):=om1;have i3:(k:Int)<(j:Int):=om1;have i4:(0:Int)<=(j:Int):=om1;have i5:decide ((j:Int)<(i:Int))=true:=decide_eq_true om1;have i6:(j:Int)<(i:Int):=om1;have i7:(k:Int)<(n:Int):=om1;clear hR hG hX hD hTT HOk HO HS HM HDC HRC HLC HLO HDO HRO e5;go_wp2_with fail
   refine(HOh.out _).mono ?_;rintro e wp ⟨rfl,kp⟩;have hTp:=hT.keep kp;have c7:=ah hTp.x.below C6;clear hT kp c1 c2 c3 c6 c2a c3a c4 c5;exact XL
  ·obtain rfl:k=j:=om1;exact XM
theorem RV(i j n cl cd rl rc:Nat)(lo do' ro:Option Addr)(L:Nat->Nat->Int)(d x:Nat->Int)(m:Int)(w:World)(hL:Grid w lo i cl n L)(hd:Sl w do' i cd d)(hx:Sl w ro rl rc x)(hj:j=i)(hjr:j<=rl)(hin:i<=n)(hn:n<=6)(bL: ∀ a,B64 (L a))(bd:B64 d)(bx:B64 x)(m0: -9223372036854775808<=m)(m1:m<=9223372036854775807):
 Calls Tryz.prog 211 #[.agg #[.slice lo i cl, .slice do' i cd], .slice ro rl rc, .int .i64 m, .int .i64 (j:Int)] w fun e w'=>e= .returned (.tuple #[.int .i64 (gY m x (wv x d) j), .bool (dN (wg x d) j||kM m x (wv x d) j)])/\Below w.heap.size w w':=by
 obtain⟨A,C,hs,hg⟩:=hL;obtain⟨xl,hlo,hlc⟩:=hs.get;obtain⟨xd,hdo,hdc⟩:=hd.get;obtain⟨xr,hro,hrc⟩:=hx.get;have l1:=hs.le;have l2:=hs.cap;have l3:=hd.le;have l4:=hd.cap;have l5:=hx.le;have l6:=hx.cap;subst hj;have HLC:=Hid.mkV hlc;have HDC:=Hid.mkV hdc;have HRC:=Hid.mkV hrc;have HLO:=Hid.mkV hlo;have HDO:=Hid.mkV hdo;have HRO:=Hid.mkV hro;have HO:=Hid.mkV (fun k W=>MC (x k) (d k) 30 30 W rfl (bx k).1 (bx k).2 (bd k).1 (bd k).2 om1);have bW:B64 (wv x d):=lS (VJ _ _);have HS:=Hid.mkV (fun(ao bo:Option Addr) (ca cb:Nat) W (H1:Sl W ao j ca x) (H2:Sl W bo j cb (wv x d))=>xX ao bo j ca cb x (wv x d) 30 30 W rfl om1 H1 H2 bx bW om1);have bS:=uP x (wv x d) j;have HM:=Hid.mkV (fun W=>wU m (wL x (wv x d) j) W m0 m1 om1 om1);have e1:clamp (rne (dk x (wv x d) j) (2^30))=wL x (wv x d) j:=rfl;have e2:great (rne (dk x (wv x d) j) (2^30))=IV x (wv x d) j:=rfl;have e3:clamp (m- wL x (wv x d) j)=gY m x (wv x d) j:=rfl;have e4:Hid (kM m x (wv x d) j=(IV x (wv x d) j||great (m- wL x (wv x d) j))):=rfl;have e5:Hid (∀ k,clamp (rne (x k*d k) (2^30))=wv x d k/\great (rne (x k*d k) (2^30))=wg x d k):=fun k=>⟨rfl,rfl⟩;rw [e1,e2] at HS;rw [e3] at HM;obtain⟨r,hr⟩: ∃ r,r=wv x d:=⟨_,rfl⟩;obtain⟨q,hq⟩: ∃ r,r=wg x d:=⟨_,rfl⟩;rw [← hr] at HS HM e4 e5 ⊢;rw [← hq] at e5 ⊢;obtain⟨SV,hSV⟩: ∃ t,t=wL x r j:=⟨_,rfl⟩;obtain⟨SO,hSO⟩: ∃ t,t=IV x r j:=⟨_,rfl⟩;rw [← hSV] at HS HM e4;rw [← hSO] at HS e4;obtain⟨GO,hGO⟩: ∃ t,t=great (m- SV):=⟨_,rfl⟩;obtain⟨LV,hLV⟩: ∃ t,t=gY m x r j:=⟨_,rfl⟩;rw [← hGO,← hLV] at HM;rw [← hGO] at e4;rw [← hLV];rw [e4.out];have cG0:(w.alloc (.cells #[.slice lo j cl, .slice do' j cd] 124)).cell? ⟨w.heap.size,0,none⟩=some (.slice lo j cl):=by go_simp
 have cG1:(w.alloc (.cells #[.slice lo j cl, .slice do' j cd] 124)).cell? ⟨w.heap.size,1,none⟩=some (.slice do' j cd):=by go_simp
 have hB:=af (Below.refl _ w) (.cells #[.slice lo j cl, .slice do' j cd] 124);have hWs:(w.alloc (.cells #[.slice lo j cl, .slice do' j cd] 124)).heap.size=w.heap.size+1:=by simp
 obtain⟨W,hW⟩: ∃ W,W=w.alloc (.cells #[.slice lo j cl, .slice do' j cd] 124):=⟨_,rfl⟩;rw [← hW] at cG0 cG1 hB hWs;have HW:=Hid.mkV hW;clear hs hg hd hx bL bd bx hr hq hSV hSO hGO hLV e1 e2 e3 e4 hW bS bW hlo hdo hro hlc hdc hrc;go_enter Tryz.func211,Tryz.ntmps211
 go_wp2_with (first|(rw [← HW.out])|fail)
 go_loopw [10,11,12,13] (fun vx vy an ix wr=> ∃ k:Nat,k<=j/\ix= .int .i64 (k:Int)/\an= .bool (dN q k)/\Two W.heap.size W wr vx k r vy k x) (fun _ _ _ ix _=>j- (intOf ix).toNat)
 case atStart=>exact⟨0,om1,rfl,rfl,⟨Own.nil (Below.refl _ _) (Nat.le_refl _) _,Own.nil (Below.refl _ _) (Nat.le_refl _) _,fun g h=>by cases h⟩⟩
 case round=>
  rename World=>wo;obtain⟨k,hk,rfl,rfl,hT⟩:=hrel;by_cases h:k<j
  ·obtain rfl:=HDO.out om1;obtain rfl:=HRO.out om1;have c1:=ah hT.x.below cG0;have c2:=ah hT.x.below cG1;have c3:=ah (ae hB hT.x.below) (HDC.out k om1);have C6:=ah hB (HRC.out k om1);have HOk:=HO.out k;rw [(e5.out k).1,(e5.out k).2] at HOk;have HOh:=Hid.mkV HOk;have HA:Hid (dN q (k+1)=(dN q k||q k)):=rfl;obtain⟨R,hR⟩: ∃ R,R=r k:=⟨_,rfl⟩;obtain⟨G,hG⟩: ∃ R,R=q k:=⟨_,rfl⟩;obtain⟨X,hX⟩: ∃ R,R=x k:=⟨_,rfl⟩;obtain⟨D,hD⟩: ∃ R,R=d k:=⟨_,rfl⟩;obtain⟨T,hTT⟩: ∃ T,T=dN q k:=⟨_,rfl⟩;rw [← hR,← hG,← hD] at HOh;rw [← hTT,← hG] at HA;rw [← hTT];rw [← hD] at c3;rw [← hX] at C6;rw [← hX] at HOh;have HR:=Hid.mkV hR;have HX:=Hid.mkV hX;have c6:=ah hT.x.below C6;have c2a:=fun(o:Obj)=>ah (af (Below.refl _ wo) o) c2;have c3a:=fun(o:Obj)=>ah (af (Below.refl _ wo) o) c3;have i0:(0:Int)<=(k:Int):=om1;have i1:(k:Int)<(rl:Int):=om1;have i2:(k:Int)<(j:Int):=om1;have i3:(k:Int)<(j:Int):=om1;have i4:(0:Int)<=(j:Int):=om1;have i5:decide ((j:Int)<(j:Int))=false:=decide_eq_false om1;clear hR hG hX hD hTT HOk HO HS HM HDC HRC HLC HLO HDO HRO e5;go_wp2_with fail
   refine(HOh.out _).mono ?_;rintro e wp ⟨rfl,kp⟩;have hTp:=hT.keep kp;have c7:=ah hTp.x.below C6;clear hT kp c1 c2 c3 c6 c2a c3a;exact XL
  ·obtain rfl:k=j:=om1;exact XM
end
section
open Go.RowKit Vc St Mt Dt Pr
attribute [local go_sem ↓] Go.wp_at_zero Go.wp_at_succ
namespace Ud
theorem qm:Is 67 5:=⟨by kernel_rfl,⟨_,Tryz.underlying67,rfl⟩⟩
end Ud
open Ud
theorem MF{p:Prop}(h:p:=by
 clear h0 h1 h2 h3 h4;go_enter Tryz.func123,Tryz.ntmps123
 go_wp2_with (first|(rw [← HW.out])|fail)
 refine(HI0.out _).mono ?_;rintro e w0 ⟨rfl,rfl⟩;go_wp2_with fail
 refine(HI1.out _).mono ?_;rintro e w1 ⟨rfl,rfl⟩;go_wp2_with fail
 refine(HI2.out _).mono ?_;rintro e w2 ⟨rfl,rfl⟩;go_wp2_with fail
 refine(HI3.out _).mono ?_;rintro e w3 ⟨rfl,rfl⟩;go_wp2_with fail
 refine(HI4.out _).mono ?_;rintro e w4 ⟨rfl,rfl⟩;go_wp2;go_ret
 exact⟨rfl,B0⟩):p:=h
theorem Ee(x y a b c:Int)(w:World):
 Calls Tryz.prog 123 #[.agg (pv x y a b c).toArray] w fun e w'=>e= .returned (.bool (decide (lT x y a b c)))/\Below w.heap.size w w':=by
 have m0:=aH w 67 (pv x y a b c);have B0:=af (Below.refl _ w) (.cells (pv x y a b c).toArray 67);obtain⟨W,hW⟩: ∃ W,W=w.alloc (.cells (pv x y a b c).toArray 67):=⟨_,rfl⟩;rw [← hW] at m0 B0;have HW:=hide hW;have c0:W.cell? ⟨w.heap.size,0,none⟩=some (.int .i64 x):=ai.cell m0 (k:=0) rfl rfl;have c1:W.cell? ⟨w.heap.size,1,none⟩=some (.int .i64 y):=ai.cell m0 (k:=1) rfl rfl;have c2:W.cell? ⟨w.heap.size,2,none⟩=some (.int .i64 a):=ai.cell m0 (k:=2) rfl rfl;have c3:W.cell? ⟨w.heap.size,3,none⟩=some (.int .i64 b):=ai.cell m0 (k:=3) rfl rfl;have c4:W.cell? ⟨w.heap.size,4,none⟩=some (.int .i64 c):=ai.cell m0 (k:=4) rfl rfl;clear hW m0;by_cases h0:InV x
 case neg=>
  have HI0:=hide (fun W=>dF x W);rw [decide_eq_false h0] at HI0;rw [decide_eq_false (show ¬lT x y a b c from fun q=>h0 q.1)];clear h0;go_enter Tryz.func123,Tryz.ntmps123
  go_wp2_with (first|(rw [← HW.out])|fail)
  refine(HI0.out _).mono ?_;rintro e w0 ⟨rfl,rfl⟩;go_wp2;go_ret;exact⟨rfl,B0⟩
 by_cases h1:InV y
 case neg=>
  have HI0:=hide (fun W=>dF x W);rw [decide_eq_true h0] at HI0;have HI1:=hide (fun W=>dF y W);rw [decide_eq_false h1] at HI1;rw [decide_eq_false (show ¬lT x y a b c from fun q=>h1 q.2.1)];clear h0 h1;go_enter Tryz.func123,Tryz.ntmps123
  go_wp2_with (first|(rw [← HW.out])|fail)
  refine(HI0.out _).mono ?_;rintro e w0 ⟨rfl,rfl⟩;go_wp2_with fail
  refine(HI1.out _).mono ?_;rintro e w1 ⟨rfl,rfl⟩;go_wp2;go_ret;exact⟨rfl,B0⟩
 by_cases h2:InV a
 case neg=>
  have HI0:=hide (fun W=>dF x W);rw [decide_eq_true h0] at HI0;have HI1:=hide (fun W=>dF y W);rw [decide_eq_true h1] at HI1;have HI2:=hide (fun W=>dF a W);rw [decide_eq_false h2] at HI2;rw [decide_eq_false (show ¬lT x y a b c from fun q=>h2 q.2.2.1)];clear h0 h1 h2;go_enter Tryz.func123,Tryz.ntmps123
  go_wp2_with (first|(rw [← HW.out])|fail)
  refine(HI0.out _).mono ?_;rintro e w0 ⟨rfl,rfl⟩;go_wp2_with fail
  refine(HI1.out _).mono ?_;rintro e w1 ⟨rfl,rfl⟩;go_wp2_with fail
  refine(HI2.out _).mono ?_;rintro e w2 ⟨rfl,rfl⟩;go_wp2;go_ret;exact⟨rfl,B0⟩
 by_cases h3:InV b
 case neg=>
  have HI0:=hide (fun W=>dF x W);rw [decide_eq_true h0] at HI0;have HI1:=hide (fun W=>dF y W);rw [decide_eq_true h1] at HI1;have HI2:=hide (fun W=>dF a W);rw [decide_eq_true h2] at HI2;have HI3:=hide (fun W=>dF b W);rw [decide_eq_false h3] at HI3;rw [decide_eq_false (show ¬lT x y a b c from fun q=>h3 q.2.2.2.1)];clear h0 h1 h2 h3;go_enter Tryz.func123,Tryz.ntmps123
  go_wp2_with (first|(rw [← HW.out])|fail)
  refine(HI0.out _).mono ?_;rintro e w0 ⟨rfl,rfl⟩;go_wp2_with fail
  refine(HI1.out _).mono ?_;rintro e w1 ⟨rfl,rfl⟩;go_wp2_with fail
  refine(HI2.out _).mono ?_;rintro e w2 ⟨rfl,rfl⟩;go_wp2_with fail
  refine(HI3.out _).mono ?_;rintro e w3 ⟨rfl,rfl⟩;go_wp2;go_ret;exact⟨rfl,B0⟩
 by_cases h4:InV c
 case neg=>
  have HI0:=hide (fun W=>dF x W);rw [decide_eq_true h0] at HI0;have HI1:=hide (fun W=>dF y W);rw [decide_eq_true h1] at HI1;have HI2:=hide (fun W=>dF a W);rw [decide_eq_true h2] at HI2;have HI3:=hide (fun W=>dF b W);rw [decide_eq_true h3] at HI3;have HI4:=hide (fun W=>dF c W);rw [decide_eq_false h4] at HI4;rw [decide_eq_false (show ¬lT x y a b c from fun q=>h4 q.2.2.2.2.1)];exact MF
 by_cases h5:0<=a
 case neg=>
  have HI0:=hide (fun W=>dF x W);rw [decide_eq_true h0] at HI0;have HI1:=hide (fun W=>dF y W);rw [decide_eq_true h1] at HI1;have HI2:=hide (fun W=>dF a W);rw [decide_eq_true h2] at HI2;have HI3:=hide (fun W=>dF b W);rw [decide_eq_true h3] at HI3;have HI4:=hide (fun W=>dF c W);rw [decide_eq_true h4] at HI4;rw [decide_eq_false (show ¬lT x y a b c from fun q=>h5 q.2.2.2.2.2.1)];have d5:decide (a>=0)=false:=decide_eq_false h5;exact MF
 by_cases h6:0<=b
 ·have HI0:=hide (fun W=>dF x W);rw [decide_eq_true h0] at HI0;have HI1:=hide (fun W=>dF y W);rw [decide_eq_true h1] at HI1;have HI2:=hide (fun W=>dF a W);rw [decide_eq_true h2] at HI2;have HI3:=hide (fun W=>dF b W);rw [decide_eq_true h3] at HI3;have HI4:=hide (fun W=>dF c W);rw [decide_eq_true h4] at HI4;rw [decide_eq_true (show lT x y a b c from⟨h0,h1,h2,h3,h4,h5,h6⟩)];have d5:decide (a>=0)=true:=decide_eq_true h5;have d6:decide (b>=0)=true:=decide_eq_true h6;exact MF
 ·have HI0:=hide (fun W=>dF x W);rw [decide_eq_true h0] at HI0;have HI1:=hide (fun W=>dF y W);rw [decide_eq_true h1] at HI1;have HI2:=hide (fun W=>dF a W);rw [decide_eq_true h2] at HI2;have HI3:=hide (fun W=>dF b W);rw [decide_eq_true h3] at HI3;have HI4:=hide (fun W=>dF c W);rw [decide_eq_true h4] at HI4;rw [decide_eq_false (show ¬lT x y a b c from fun q=>h6 q.2.2.2.2.2.2)];have d5:decide (a>=0)=true:=decide_eq_true h5;have d6:decide (b>=0)=false:=decide_eq_false h6;exact MF
theorem XN{p:Prop}(h:p:=by
 rw [← hy,← hq] at HC ⊢;clear hy hq a0 a1 b0 b1;go_enter Tryz.func124,Tryz.ntmps124
 go_wp2_with fail
 refine(HA.out _).mono ?_;rintro e w1 ⟨v1,rfl,i1,k1⟩;go_wp2_with fail
 refine(HB.out _).mono ?_;rintro e w2 ⟨v2,rfl,i2,k2⟩;have i1':=i1.below k2;go_wp2_with fail
 refine(HS.out _ _ _ i1' i2).mono ?_;rintro e w3 ⟨v3,rfl,i3,k3⟩;go_wp2_with fail
 refine(HC.out _ _ i3).mono ?_;rintro e w4 ⟨rfl,k4⟩;go_wp2;go_ret2
 exact⟨rfl,ae (ae (ae k1 k2) k3) k4⟩):p:=h
theorem wW(a b:Int)(w:World)(a0: -9223372036854775808<=a)(a1:a<=9223372036854775807)(b0: -9223372036854775808<=b)(b1:b<=9223372036854775807):
 Calls Tryz.prog 124 #[.int .i64 a, .int .i64 b, .bool false] w fun e w'=>e= .returned (.tuple #[.int .i64 (Qn.clamp (a+b)), .bool (Qn.great (a+b))])/\Below w.heap.size w w':=by
 have HA:=hide (fun W=>fJ a W a0 a1);have HB:=hide (fun W=>fJ b W b0 b1);have HS:=hide (fun va vb W=>add_any va vb a b W (dX om1 om1) (dX om1 om1));have HC:=hide (fun v W=>pF v (a+b) W (dX om1 om1));obtain⟨y,hy⟩: ∃ y,y=Qn.clamp (a+b):=⟨_,rfl⟩;obtain⟨q,hq⟩: ∃ q,q=Qn.great (a+b):=⟨_,rfl⟩;exact XN
theorem tZ(a b:Int)(w:World)(a0: -9223372036854775808<=a)(a1:a<=9223372036854775807)(b0: -9223372036854775808<=b)(b1:b<=9223372036854775807):
 Calls Tryz.prog 124 #[.int .i64 a, .int .i64 b, .bool true] w fun e w'=>e= .returned (.tuple #[.int .i64 (Qn.clamp (a- b)), .bool (Qn.great (a- b))])/\Below w.heap.size w w':=by
 have HA:=hide (fun W=>fJ a W a0 a1);have HB:=hide (fun W=>fJ b W b0 b1);have HS:=hide (fun va vb W=>xH va vb a b W (dX om1 om1) (dX om1 om1));have HC:=hide (fun v W=>pF v (a- b) W (dX om1 om1));obtain⟨y,hy⟩: ∃ y,y=Qn.clamp (a- b):=⟨_,rfl⟩;obtain⟨q,hq⟩: ∃ q,q=Qn.great (a- b):=⟨_,rfl⟩;exact XN
theorem BU(n m ca cb:Nat)(ao bo:Option Addr)(A M:Nat->Nat->Int)(w:World)(h1:1<=n)(h2:n<=6)(h3:1<=m)(h4:m<=6)(ga:Grid w ao n ca m A)(gb:Grid w bo m cb m M)(hA:B2 A)(hM:B2 M):
 Calls Tryz.prog 130 #[.slice ao n ca, .slice bo m cb] w fun e w'=> ∃ lo cm,e= .returned (.tuple #[.slice lo n cm, .bool (Dj n m A M||Dk n m A M)])/\Grid w' lo n cm n (arV m A M)/\Below w.heap.size w w':=by
 have H1:Hid (∀ W,Grid W ao n ca m A->Grid W bo m cb m M->Calls Tryz.prog 101 #[.slice ao n ca, .slice bo m cb] W fun e w'=> ∃ lo cm,e= .returned (.tuple #[.slice lo n cm, .bool (Dj n m A M)])/\Grid w' lo n cm m (arX m A M)/\Below W.heap.size W w'):=fun W a b=>LK n m m ca cb ao bo A M W h1 h2 h3 h4 h3 h4 a b hA hM;have H2:=hide (fun W (a:Grid W ao n ca m A)=>Bc n m ca ao A W h1 h2 h3 h4 a);have H3:Hid (∀ xo xc tp tc W,Grid W xo n xc m (arX m A M)->Grid W tp m tc n (fun i j=>A j i)->Calls Tryz.prog 101 #[.slice xo n xc, .slice tp m tc] W fun e w'=> ∃ lo cm,e= .returned (.tuple #[.slice lo n cm, .bool (Dk n m A M)])/\Grid w' lo n cm n (arV m A M)/\Below W.heap.size W w'):=fun xo xc tp tc W a b=>LK n m n xc tc xo tp (arX m A M) (fun i j=>A j i) W h1 h2 h3 h4 h1 h2 a b (Ic _) (fun i j=>hA j i);obtain⟨q1,hq1⟩: ∃ q,q=Dj n m A M:=⟨_,rfl⟩;obtain⟨q2,hq2⟩: ∃ q,q=Dk n m A M:=⟨_,rfl⟩;rw [← hq1] at H1 ⊢;rw [← hq2] at H3 ⊢;clear hq1 hq2;go_enter Tryz.func130,Tryz.ntmps130
 go_wp2_with fail
 refine(H1.out _ ga gb).mono ?_;rintro e w1 ⟨xo,xc,rfl,gx,k1⟩;have ga1:=ga.keep k1;go_wp2_with fail
 refine(H2.out _ ga1).mono ?_;rintro e w2 ⟨tp,tc,rfl,gt,k2⟩;have gx2:=gx.keep k2;go_wp2_with fail
 refine(H3.out _ _ _ _ _ gx2 gt).mono ?_;rintro e w3 ⟨lo,cm,rfl,gv,k3⟩;cases q1 with
 |true=>
  go_wp2;go_ret2;exact⟨lo,cm,rfl,gv,ae (ae k1 k2) k3⟩
 |false=>
  go_wp2;go_ret2;exact⟨lo,cm,rfl,gv,ae (ae k1 k2) k3⟩
end
section
open Go.RowKit Vc Mt St Qn Dt Ld
namespace Ld
theorem elS:Vg.El 23 27 24:=⟨Tryz.underlying23,⟨_,Ba,rfl⟩⟩
theorem elI:Vg.El 27 2 8:=⟨Tryz.underlying27,⟨_,iY,rfl⟩⟩
theorem jo{P:Nat->Prop}{w w':World}{row:Option Nat}(g:w.grownBy w' row)(h: ∀ b,row=some b->P b):But P w w':=
 ⟨g.os,g.tape,g.output,g.size,fun k hk hp=>g.block k hk (fun e=>hp (h k e.symm))⟩
structure CW(B:Nat)(w0 w:World)(o:Nat)(vL vD:Value)(i n:Nat)(L:Nat->Nat->Int)(d:Nat->Int):Prop where
 two: ∃ S,Vg.Two B w0 w 27 vL i (aB i S) 2 vD i (vals i d)/\ ∀ k,k<i-> ∃ a c,S k= .slice a n c/\Sl w a n c (L k)/\ ∀ x,a=some x->vL.ownBlock≠some x.block/\vD.ownBlock≠some x.block/\o<=x.block
 gl: ∀ q,vL.ownBlock=some q->o<=q
 gd: ∀ q,vD.ownBlock=some q->o<=q
 le:o<=w.heap.size
theorem CW.nil{B:Nat}{w0 w:World}{o n:Nat}(h:Below B w0 w)(hB:B<=w.heap.size)(ho:o<=w.heap.size)(L:Nat->Nat->Int)(d:Nat->Int):CW B w0 w o (.slice none 0 0) (.slice none 0 0) 0 n L d:=
 ⟨⟨fun _=>undef,Vg.Two.nil h hB _ _,fun k hk=>by omega⟩,fun q e=>(by cases e),fun q e=>(by cases e),ho⟩
theorem CW.keep{B:Nat}{w0 w w':World}{o i n:Nat}{vL vD:Value}{L:Nat->Nat->Int}{d:Nat->Int}(h:CW B w0 w o vL vD i n L d)(b:Below w.heap.size w w'):CW B w0 w' o vL vD i n L d:=by
 obtain⟨S,h1,h2⟩:=h.two;refine⟨⟨S,h1.keep b,fun k hk=> ?_⟩,h.gl,h.gd,Nat.le_trans h.le b.size⟩;obtain⟨a,c,e1,e2,e3⟩:=h2 k hk;exact⟨a,c,e1,e2.keep b,e3⟩
theorem CW.below{B:Nat}{w0 w:World}{o i n:Nat}{vL vD:Value}{L:Nat->Nat->Int}{d:Nat->Int}(h:CW B w0 w o vL vD i n L d):Below B w0 w:=by obtain⟨S,h1,_⟩:=h.two;exact h1.below
theorem oV{P:Nat->Prop}{a b:World}{B:Nat}{t:TypeId}{s:Nat}{v:Value}{n:Nat}{xs:List Value}(h:a.ownsRow B t s v n xs)(k:But P a b)(hx: ∀ g,v.ownBlock=some g-> ¬P g):b.ownsRow B t s v n xs:=by
 obtain⟨h1,h2⟩:=h;refine⟨h1, ?_⟩;rcases h2 with h2|⟨g,cap,cur,rfl,hb,hg,hn,hc,hs,ht⟩
 · exact Or.inl h2
 · refine Or.inr ⟨g,cap,cur,rfl,hb, ?_,hn,hc,hs,ht⟩
   have hlt:g<a.heap.size:=by
    rcases Nat.lt_or_ge g a.heap.size with q|q
    · exact q
    · rw [Array.getElem?_eq_none q] at hg;cases hg
   exact(k.block g hlt (hx g rfl)).trans hg
theorem CW.put{B:Nat}{w0 w w':World}{o i n g:Nat}{vL vD:Value}{L:Nat->Nat->Int}{d:Nat->Int}(h:CW B w0 w o vL vD i n L d)(hg:g<o)(hB:B<=g)(b:But (· =g) w w'):CW B w0 w' o vL vD i n L d:=by
 obtain⟨S,h1,h2⟩:=h.two;refine⟨⟨S,⟨oV h1.x b (fun q e e2=>by have:=h.gl q e;omega),oV h1.y b (fun q e e2=>by have:=h.gd q e;omega),h1.apart,b.below h1.below h1.base (fun k hk=>by rw [hk];exact hB),Nat.le_trans h1.base b.size⟩,fun k hk=> ?_⟩,h.gl,h.gd,Nat.le_trans h.le b.size⟩;obtain⟨a,c,e1,e2,e3⟩:=h2 k hk;exact⟨a,c,e1,lK e2 b (fun x hx=>by have:=(e3 x hx).2.2;omega),e3⟩
theorem RX{B:Nat}{w0 wo w2:World}{o i n:Nat}{vL vD v1 v2:Value}{L:Nat->Nat->Int}{d:Nat->Int}{S:Nat->Value}(hrows: ∀ k,k<i-> ∃ a c,S k= .slice a n c/\Sl wo a n c (L k)/\ ∀ x,a=some x->vL.ownBlock≠some x.block/\vD.ownBlock≠some x.block/\o<=x.block)
 (b:But (fun q=>vL.ownBlock=some q\/vD.ownBlock=some q) wo w2) {ra:Option Addr} {rc:Nat} (t2:Vg.Two B w0 w2 27 v1 (i+1) (aB i S++ [.slice ra n rc]) 2 v2 (i+1) (vals i d++ [.int .i64 (d i)]))
 (n1: ∀ q,q<wo.heap.size->vL.ownBlock≠some q->v1.ownBlock≠some q) (n2: ∀ q,q<wo.heap.size->vD.ownBlock≠some q->v2.ownBlock≠some q) (hn:0<n) (hr:Sl wo ra n rc (L i)) (hra: ∀ x,ra=some x->vL.ownBlock≠some x.block/\vD.ownBlock≠some x.block/\o<=x.block)
 (ho:o<=wo.heap.size) (gl: ∀ q,vL.ownBlock=some q->o<=q) (gd: ∀ q,vD.ownBlock=some q->o<=q):CW B w0 w2 o v1 v2 (i+1) n L d:=by
 rw [oQ,mY] at t2
 have key: ∀ {a:Option Addr} {c:Nat} {z:Nat->Int},Sl wo a n c z->(∀ x,a=some x->vL.ownBlock≠some x.block/\vD.ownBlock≠some x.block/\o<=x.block)->Sl w2 a n c z/\ ∀ x,a=some x->v1.ownBlock≠some x.block/\v2.ownBlock≠some x.block/\o<=x.block:=by
  intro a c z hs hx;refine⟨lK hs b (fun x e=>by have:=hx x e;rintro(q|q);exact this.1 q;exact this.2.1 q),fun x e=> ?_⟩;obtain⟨y,hy,hc⟩:=hs.at' 0 hn;rw [e] at hy;cases hy
  have hlt:=World.block_lt_of_cell? wo _ hc;rw [dL] at hlt;exact⟨n1 _ hlt (hx x e).1,n2 _ hlt (hx x e).2.1,(hx x e).2.2⟩
 have up: ∀ {v v':Value},(∀ q,v.ownBlock=some q->o<=q)->(∀ q,q<wo.heap.size->v.ownBlock≠some q->v'.ownBlock≠some q)-> ∀ q,v'.ownBlock=some q->o<=q:=fun h1 h2 q e=>by
  rcases Nat.lt_or_ge q o with c|c
  · exact absurd e (h2 q om1 (fun e2=>by have:=h1 q e2;omega))
  · exact c
 refine⟨⟨_,t2,fun k hk=> ?_⟩,up gl n1,up gd n2,Nat.le_trans ho b.size⟩;by_cases hki:k<i
 · obtain⟨a,c,e1,e2,e3⟩:=hrows k hki;obtain⟨e4,e5⟩:=key e2 e3;exact⟨a,c,by simp only [if_pos hki];exact e1,e4,e5⟩
 · obtain rfl:k=i:=om1;obtain⟨e4,e5⟩:=key hr hra;exact⟨ra,rc,by simp only [if_neg hki],e4,e5⟩
theorem CW.grid{B:Nat}{w0 w:World}{o i n:Nat}{vL vD:Value}{L:Nat->Nat->Int}{d:Nat->Int}(h:CW B w0 w o vL vD i n L d): ∃ lo cl do' cd,vL= .slice lo i cl/\vD= .slice do' i cd/\Grid w lo i cl n L/\Sl w do' i cd d:=by
 obtain⟨S,h1,h2⟩:=h.two;have hL:Lst B w0 w vL i n L:=⟨⟨S,h1.x,fun k hk=>by obtain⟨a,c,e1,e2,e3⟩:=h2 k hk;exact⟨a,c,e1,e2,fun x hx=>(e3 x hx).1⟩⟩,h1.below,h1.base⟩;have hD:Own B w0 w vD i d:=⟨h1.y,h1.below,h1.base⟩;obtain⟨lo,cl,rfl,hg⟩:=hL.grid;obtain⟨do',cd,rfl,hs⟩:=hD.sl;exact⟨lo,cl,do',cd,rfl,rfl,hg,hs⟩
theorem CW.apart{B:Nat}{w0 w:World}{o i n:Nat}{vL vD:Value}{L:Nat->Nat->Int}{d:Nat->Int}(h:CW B w0 w o vL vD i n L d){ra:Option Addr}(hf:vV w.heap.size ra): ∀ x,ra=some x->vL.ownBlock≠some x.block/\vD.ownBlock≠some x.block/\o<=x.block:=by
 intro x hx;have h3:=hf x hx;have h4:=h.le;obtain⟨S,h1,_⟩:=h.two;exact⟨fun e=>by have:=(h1.x.lt _ e).2;omega,fun e=>by have:=(h1.y.lt _ e).2;omega,om1⟩
theorem ui{w:World}{B:Nat}{t:TypeId}{s:Nat}{v:Value}{n:Nat}{xs:List Value}(h:w.ownsRow B t s v n xs): ∃ ao c,v= .slice ao n c:=by
 obtain⟨_,h2⟩:=h;rcases h2 with⟨rfl,rfl⟩|⟨g,cap,cur,rfl,_⟩
 · exact⟨_,_,rfl⟩
 · exact⟨_,_,rfl⟩
theorem gp(w:World)(g:Nat)(cs:Array Value):But (· =g) w (w.setRow g cs):=⟨rfl,rfl,rfl,by simp,fun k hk hn=>setRow_other w g k cs hn⟩
end Ld
end
end Go.Proofs.YtcefcokpjbebhaaGreatDoor
