/-
  Package like (layer 16): Weights; slices.Grow, slices.Concat of two; Best.
-/
import Derived.Lib.AppendZeros
import Derived.Test.YtcefcokpjbebhaaGreatDoorM41
set_option linter.unusedSimpArgs false
set_option linter.unusedVariables false
set_option maxHeartbeats 8000000
set_option maxRecDepth 20000
namespace Go.Proofs.YtcefcokpjbebhaaGreatDoor
section
open Go.RowKit Vc Cn St Qn Lk Gw
theorem OV:Ug:=by
 intro W lo co n cl m cc l c fl hl bl' hc bc hf0 hf1;by_cases hmay:n=m/\Ch m c 0/\ ∀ k,k<n-> -4611686018427387903<=l k/\l k<=4611686018427387903
 ·have HM:=df (Nj W lo co n cl m cc l c hl bl' hc bc true (fun _=>hmay) (fun q=>by cases q));obtain⟨rfl,hch,heach⟩:=hmay;have hmz:Qh n l c 0:=⟨hch,om1,om1,heach⟩;obtain⟨x,hao,hca⟩:=hl.get;obtain⟨y,hbo,hcb⟩:=hc.get;have l1:=hl.le;have l2:=hl.cap;have l3:=hc.le;have l4:=hc.cap;have n0:=hch.one;have n4:=hch.four;obtain rfl:=hao om1;obtain rfl:=hbo om1
  have HWe:Hid (∀ w,Below W.heap.size W w->Calls Tryz.prog 121 #[.slice (some x) n cl, .slice (some y) n cc] w fun e w'=> ∃ g:Nat,e= .returned (.tuple #[.slice (some ⟨g,0,none⟩) n n, .bool (wo l c n n)])/\ai w' g 2 (vals n (wz l c n))/\w.heap.size<=g/\Below w.heap.size w w'):=
   fun w b=>IJ x y n cl cc l c w hmz l1 l2 l3 l4 (fun k hk=>ah b (hca k hk)) (fun k hk=>ah b (hcb k hk))
  have HOf:Hid (∀ (w:World) (g:Nat),ai w g 2 (vals n (wz l c n))->Calls Tryz.prog 122 #[.slice (some ⟨g,0,none⟩) n n, .int .i64 fl] w fun e w'=> ∃ vo vn vc ev,e= .returned (.tuple #[.slice vo vn vc,ev])/\Below w.heap.size w w'/\Sl w' vo vn vc (oc fl (wz l c n) n)/\
   ((¬Ah n (wz l c n) fl/\vn=0/\ev=Cb 1)\/(Ah n (wz l c n) fl/\tot (wz l c n) n=0/\vn=0/\ev=Cb 11)\/(Ah n (wz l c n) fl/\0<tot (wz l c n) n/\vn=n/\ev= .nilIface))/\qh w vo):=
   fun w g r=>Yf w (some ⟨g,0,none⟩) n n (wz l c n) fl (iF r n4) (fun k=>by have:=Qi hmz k;omega) hf0 hf1
  have HP:=df (Xg hmz);have HMW:Hid (0<=fl/\fl<=67108864->Ah n (wz l c n) fl/\Qh n l c fl):=fun q=>⟨Xf (fl:=fl) ⟨hch,q.1,q.2,heach⟩,⟨hch,q.1,q.2,heach⟩⟩;have HNW:Hid (¬(0<=fl/\fl<=67108864)-> ¬Qh n l c fl):=fun q r=>q ⟨r.lo,r.hi⟩;obtain⟨Z,hZ⟩: ∃ Z,Z=wz l c n:=⟨_,rfl⟩;obtain⟨O,hO⟩: ∃ Z,Z=wo l c n n:=⟨_,rfl⟩;rw [← hZ] at HWe HOf HP HMW;rw [← hO] at HWe;rw [← hZ,← hO];clear hZ hO hmz hl bl' hc bc hca hcb hao hbo heach hch;go_enter Tryz.func58,Tryz.ntmps58
  go_wp2_with (first
   |(go_at_call 120;refine HM.out.mono ?_;rintro e w1 ⟨rfl,k1⟩;have K1:=df k1;clear k1)
   |(go_at_call 121;refine(HWe.out _ K1.out).mono ?_;rintro e w2 ⟨g,rfl,c2,hg,k2⟩;have C2:=df c2;have K2:=df (ae K1.out k2);clear c2 k2))
  refine(HOf.out _ _ C2.out).mono ?_;by_cases hf:0<=fl/\fl<=67108864
  ·rintro e w3 ⟨vo,vn,vc,ev,rfl,k3,s3,⟨q,_⟩|⟨_,q,_⟩|⟨q1,q2,q3,rfl⟩,nw⟩
   ·exact absurd (HMW.out hf).1 q
   ·have:=HP.out;omega
   ·obtain rfl:=q3.symm;have K3:=df (ae K2.out k3);have S3:=df s3;have NW:Hid (qh W vo):=fun x e=>Nat.le_trans K2.out.size (nw x e);clear k3 s3 q1 q2 nw;go_wp2;go_ret3;exact⟨_,_,_,_,_,rfl,K3.out,S3.out,Or.inr ⟨trivial,(HMW.out hf).2,rfl,rfl,rfl⟩,NW.out⟩
  ·rintro e w3 ⟨vo,vn,vc,ev,rfl,k3,s3,⟨_,rfl,rfl⟩|⟨q,_⟩|⟨q,_⟩,nw⟩
   ·have K3:=df (ae K2.out k3);clear k3 s3 nw;unfold Cb;go_wp2;go_ret3;exact⟨_,_,_,_,_,rfl,K3.out,Sl.none _ _,Or.inl ⟨fun r=>HNW.out hf r.2,rfl,rfl⟩,qh.nil _⟩
   ·exact absurd ⟨q.lo,q.hi⟩ hf
   ·exact absurd ⟨q.lo,q.hi⟩ hf
 ·have HM:=df (Nj W lo co n cl m cc l c hl bl' hc bc false (fun q=>by cases q) (fun _=>hmay));have HN:Hid (¬(n=m/\Qh n l c fl)):=fun q=>hmay ⟨q.1,by rw [← q.1];exact q.2.ch,q.2.each⟩;have l1:=hl.le;have l2:=hl.cap;have l3:=hc.le;have l4:=hc.cap;clear hmay hl bl' hc bc;go_enter Tryz.func58,Tryz.ntmps58
  go_wp2_with (go_at_call 120;refine HM.out.mono ?_;rintro e w1 ⟨rfl,k1⟩;have K1:=df k1;clear k1)
  go_ret3;exact⟨_,_,_,_,_,rfl,K1.out,Sl.none _ _,Or.inl ⟨HN.out,rfl,rfl⟩,qh.nil _⟩
end
section
open Go.RowKit Vc St Lk
namespace Lk
theorem FH{s:Int}(h: -4611686018427387903<=s/\s<=4611686018427387903):Qn.great (Qn.rne (s* -524288) (2^20))=false:=by
 have a:=Gw.Dz (n:=s* -524288) (d:=2^20) (A:=2305843009213693952) (by decide) om1;have b:=Gw.Dy (n:=s* -524288) (d:=2^20) (A:=2305843009213693952) (by decide) om1;exact Nh om1
theorem ofO_is(L:Nat->Nat->Int)(d v:Nat->Int):ofO L d v=((Ld.iT L v 2||Ld.DW (Ld.dQ L v 2) d 2)||Qn.great (ofF L d v+Ld.xP d 2)):=by
 unfold ofO;rw [show Qn.great (Qn.rne (ofS L d v* -524288) (2^20))=false from FH (aay _),Bool.or_false]
end Lk
theorem kof_by(V:Nat->Int)(z d:Nat->Int)(F:Int)(q:Bool)(s:Int)(w:World)(hF0: -4611686018427387903<=F/\F<=4611686018427387903)(hs0: -9223372036854775808<=s/\s<=9223372036854775807)
 (hF: ∀ W,Calls Tryz.prog 202 #[.agg (Up.dP V 2 z d).toArray] W fun e w'=>e= .returned (.tuple #[.int .i64 F, .bool q, .nilIface])/\Below W.heap.size W w')
 (hL: ∀ W,Calls Tryz.prog 203 #[.agg (Ld.fB 2 z d).toArray] W fun e w'=>e= .returned (.tuple #[.int .i64 s, .nilIface])/\Below W.heap.size W w'):
 Calls Tryz.prog 119 #[.agg (Up.dP V 2 z d).toArray] w fun e w'=>e= .returned (.tuple #[.int .i64 (Qn.clamp (Qn.rne (Qn.clamp (F+s)* -524288) (2^20))), .bool (q||Qn.great (F+s)), .nilIface])/\Below w.heap.size w w':=by
 have HF:=Ud.hide hF;have HL:=Ud.hide hL;have HA:=Ud.hide (fun W=>nT F s W om1 om1 om1 om1);have hc:=aay (F+s);have HM:=Ud.hide (fun W=>tJ (Qn.clamp (F+s)) (-524288) 20 W om1 om1 om1 om1 om1);obtain⟨A,hA⟩: ∃ A,A=Qn.clamp (F+s):=⟨_,rfl⟩;obtain⟨G,hG⟩: ∃ A,A=Qn.great (F+s):=⟨_,rfl⟩;rw [← hA,← hG] at HA;rw [← hA] at HM;rw [← hA,← hG];obtain⟨B,hB⟩: ∃ A',A'=Qn.clamp (Qn.rne (A* -524288) (2^20)):=⟨_,rfl⟩;obtain⟨B',hB'⟩: ∃ A',A'=Qn.great (Qn.rne (A* -524288) (2^20)):=⟨_,rfl⟩;rw [← hB,← hB'] at HM;rw [← hB];have g0:=aH w 163 (Up.dP V 2 z d);have B0:=af (Below.refl _ w) (.cells (Up.dP V 2 z d).toArray 163);obtain⟨W,hW⟩: ∃ W,W=w.alloc (.cells (Up.dP V 2 z d).toArray 163):=⟨_,rfl⟩;rw [← hW] at g0 B0;have HW:=Ud.hide hW;have HB0:=Ud.hide B0;have HS:Hid (∀ U,Below W.heap.size W U->Up.qj U w.heap.size V 2 z d):=fun U k=>ai.keep g0 k;clear hW hF hL g0 B0 hA hG hB hB' hc;cases q
 all_goals
  go_enter Tryz.func119,Tryz.ntmps119
  go_wp2_with (first
   |(rw [← HW.out])
   |((with_reducible show wpList _ _ _ _ _ _);refine Ud.iG Up.IX _ (by with_reducible rfl) w.heap.size _ rl1 (HS.out _ (Below.refl _ _)) (Up.dW _ _ _ _) (by kernel_rfl) ?_)
   |(go_at_call 202;refine(HF.out _).mono ?_;rintro e w1 ⟨rfl,k1⟩;have K1:=Ud.hide k1;clear k1)
   |((with_reducible show wpList _ _ _ _ _ _);refine St.dA Ld.isF (by kernel_rfl) _ (by with_reducible rfl) w.heap.size 2 _ rl1 (Up.qj.rf (HS.out _ K1.out)) (Ld.dM _ _ _) ?_)
   |(go_at_call 203;refine(HL.out _).mono ?_;rintro e w2 ⟨rfl,k2⟩;have K2:=Ud.hide (ae K1.out k2);clear k2)
   |(go_at_call 151;refine(HA.out _).mono ?_;rintro e w3 ⟨rfl,k3⟩;have K3:=Ud.hide (ae K2.out k3);clear k3)
   |(go_at_call 204;refine(HM.out _).mono ?_;rintro e w4 ⟨rfl,k4⟩;have K4:=Ud.hide (ae K3.out k4);clear k4)
   |fail)
  go_ret3;exact⟨rfl,ae HB0.out K4.out⟩
theorem k_of:KOf:=by
 intro W X P x y a b c hf
 have h:=kof_by (Ud.v2 (Ud.ox X x) (Ud.oy X y)) (Mt.mz 2 2 (Ud.fL P a b c)) (Ud.fD P a b c) _ _ (Ld.xP (Ud.fD P a b c) 2) W (Ld.Fv (Ld.dQ (Ud.fL P a b c) (Ud.v2 (Ud.ox X x) (Ud.oy X y)) 2) (Ud.fD P a b c) 2) (X7 _)
  (fun W=>aal X P x y a b c W hf) (fun W=>VW 2 _ _ W (Up.JR hf))
 rw [ofO_is];exact h
end
section
open Go.RowKit Vc Cn Mx St Im
attribute [local go_sem ↓] Go.wp_at_zero Go.wp_at_succ
namespace Im
theorem IL{fn:Func}{p u v x:Tmp}{t:TypeId}{n:Nat}(S:Is t n)(h:fn.results= #[.cell p t, .tmp u, .tmp v, .tmp x])(tmps:Array Value)(w:World)(b:Nat)(cs:List Value)(hp:tmps.getD p undef= .pointer (some ⟨b,0,none⟩))
 (hr:ai w b t cs) (hl:cs.length=n):(results fn tmps).run Tryz.prog w= .ok (.tuple #[.agg cs.toArray,tmps.getD u undef,tmps.getD v undef,tmps.getD x undef]) w:=by
 obtain⟨d,hu,hd⟩:=S.row;have hp':tmps[p]?.getD undef= .pointer (some ⟨b,0,none⟩):=by simpa using hp
 have hL:=run_loadVar_mid w b 0 t cs d hr.range hu hd (by rw [S.size,hl]);simp [results,h,hp',asAddr,hL]
abbrev sZ:List Value:=Pd.aB (fun _=>0) 0 0 (fun _=>0)
abbrev gZ:List Value:=Up.dP (fun _=>0) 0 (fun _=>0) (fun _=>0)
end Im
theorem Uu(X:Nat->Int)(zP:Nat->Int)(x y a b c v:Int)(w:World)
 (HO:Hid (∀ W,Calls Tryz.prog 79 #[.agg (Pd.aB X 6 6 zP).toArray, .agg (Ud.pv x y a b c).toArray] W fun e w'=>e= .returned (.tuple #[.agg gZ.toArray, .bool false, .iface 93 (.int .i64 v)])/\Below W.heap.size W w')):
 Calls Tryz.prog 57 #[.agg (Pd.aB X 6 6 zP).toArray, .agg (Ud.pv x y a b c).toArray] w fun e w'=>e= .returned (.tuple #[.agg sZ.toArray, .int .i64 0, .bool false, .iface 93 (.int .i64 v)])/\Below w.heap.size w w':=by
 have t0:=((aH w 55 (Pd.aB X 6 6 zP)).alloc (.cells (Ud.pv x y a b c).toArray 69)).alloc (.cells sZ.toArray 55);have m0:=(bU w (.cells (Pd.aB X 6 6 zP).toArray 55) 69 (Ud.pv x y a b c)).alloc (.cells sZ.toArray 55);have r0:=dH w (.cells (Pd.aB X 6 6 zP).toArray 55) (.cells (Ud.pv x y a b c).toArray 69) 55 sZ;have B0:Below w.heap.size w (((w.alloc (.cells (Pd.aB X 6 6 zP).toArray 55)).alloc (.cells (Ud.pv x y a b c).toArray 69)).alloc (.cells sZ.toArray 55)):=af (af (af (Below.refl _ _) _) _) _;obtain⟨W,hW⟩: ∃ W,W=((w.alloc (.cells (Pd.aB X 6 6 zP).toArray 55)).alloc (.cells (Ud.pv x y a b c).toArray 69)).alloc (.cells sZ.toArray 55):=⟨_,rfl⟩;rw [← hW] at t0 m0 r0 B0;have HW:=bT hW;clear hW;go_enter Tryz.func57,Tryz.ntmps57
 go_wp2_with (first
  |(rw [Pd.zeroS];erw [← HW.out];refine St.aI Pd.isS rl1 _ rl1 _ _ rl1 (by with_reducible exact t0) (Pd.aA _ _ _ _) ?_)
  |(refine St.aI Up.Ph rl1 _ rl1 _ _ rl1 (by with_reducible exact m0) rfl ?_)
  |fail)
 refine(HO.out _).mono ?_;rintro e w1 ⟨rfl,k1⟩;have r1:=ai.keep r0 k1;have B1:=ae B0 k1;clear t0 m0 r0 B0 k1 HW HO
 go_wp2_with (first
  |(rw [Up.wY];refine St.aF Up.IX rfl _ _ rl1 _ _ _ rl1 rl1 (Up.dW _ _ _ _) (Up.dW _ _ _ _) (Up.kL _ _ _ _) ?_;intro w2 n2 k2;have r2:=ai.keep r1 k2;have B2:=ae B1 k2;clear k2 r1 B1)
  |((with_reducible show wpList _ _ _ _ _ _);refine Pd.FP (by with_reducible rfl) rl1 ?_)
  |(refine St.aU Pd.isS rfl _ _ rl1 _ _ _ rl1 rl1 (by with_reducible exact r2) (Pd.aA _ _ _ _) (Pd.aA _ _ _ _) (Pd.cZ _ _ _ _) ?_)
  |fail)
 exact bodyPost_ret (IL Pd.isS Tryz.results57 _ _ (w.heap.size+1+1) _ rfl (ai.row r2 _) (Pd.aA _ _ _ _)) rfl ⟨rfl,St.aJ B2 om1 _⟩
theorem OW(X:Nat->Int)(P:Nat->Nat->Int)(x y a b c:Int)(w:World)(hm:Pr.oK X P)(hp: ¬Ud.lT x y a b c):
 Calls Tryz.prog 57 #[.agg (Pd.aB X 6 6 (Mt.mz 6 6 P)).toArray, .agg (Ud.pv x y a b c).toArray] w fun e w'=>e= .returned (.tuple #[.agg sZ.toArray, .int .i64 0, .bool false, .iface 93 (.int .i64 1)])/\Below w.heap.size w w':=
 Uu X _ x y a b c 1 w (bT fun W=>Ti X 6 6 (Mt.mz 6 6 P) x y a b c W (fun W=>jy X P true W ⟨fun _=>hm,fun _=>rfl⟩) hp)
theorem Uw(X:Nat->Int)(P:Nat->Nat->Int)(x y a b c:Int)(w:World)(hm:Pr.oK X P)(hp:Ud.lT x y a b c)(bX:B64 X)(bP:Mt.B2 P)(hf: ¬ ∀ i,i<2->Ld.fine (Ud.oM P a b c) i):
 Calls Tryz.prog 57 #[.agg (Pd.aB X 6 6 (Mt.mz 6 6 P)).toArray, .agg (Ud.pv x y a b c).toArray] w fun e w'=>e= .returned (.tuple #[.agg sZ.toArray, .int .i64 0, .bool false, .iface 93 (.int .i64 8)])/\Below w.heap.size w w':=
 Uu X _ x y a b c 8 w (bT fun W=>V8 X P x y a b c W hm hp bX bP hf)
theorem aaV(X Y V:Nat->Int)(zP zN zL d:Nat->Int)(x y a b c l:Int)(o1 o2 o3:Bool)(w:World)
 (HO:Hid (∀ W,Calls Tryz.prog 79 #[.agg (Pd.aB X 6 6 zP).toArray, .agg (Ud.pv x y a b c).toArray] W fun e w'=>e= .returned (.tuple #[.agg (Up.dP V 2 zL d).toArray, .bool o1, .nilIface])/\Below W.heap.size W w'))
 (HL:Hid (∀ W,Calls Tryz.prog 119 #[.agg (Up.dP V 2 zL d).toArray] W fun e w'=>e= .returned (.tuple #[.int .i64 l, .bool o2, .nilIface])/\Below W.heap.size W w'))
 (HX:Hid (∀ W,Calls Tryz.prog 32 #[.agg (Pd.aB X 6 6 zP).toArray, .agg (Ud.pv x y a b c).toArray] W fun e w'=>e= .returned (.tuple #[.agg (Pd.aB Y 6 6 zN).toArray, .bool o3, .nilIface])/\Below W.heap.size W w')):
 Calls Tryz.prog 57 #[.agg (Pd.aB X 6 6 zP).toArray, .agg (Ud.pv x y a b c).toArray] w fun e w'=>e= .returned (.tuple #[.agg (Pd.aB Y 6 6 zN).toArray, .int .i64 l, .bool (o1||o2||o3), .nilIface])/\Below w.heap.size w w':=by
 have t0:=((aH w 55 (Pd.aB X 6 6 zP)).alloc (.cells (Ud.pv x y a b c).toArray 69)).alloc (.cells sZ.toArray 55);have m0:=(bU w (.cells (Pd.aB X 6 6 zP).toArray 55) 69 (Ud.pv x y a b c)).alloc (.cells sZ.toArray 55);have r0:=dH w (.cells (Pd.aB X 6 6 zP).toArray 55) (.cells (Ud.pv x y a b c).toArray 69) 55 sZ;have B0:Below w.heap.size w (((w.alloc (.cells (Pd.aB X 6 6 zP).toArray 55)).alloc (.cells (Ud.pv x y a b c).toArray 69)).alloc (.cells sZ.toArray 55)):=af (af (af (Below.refl _ _) _) _) _;obtain⟨W,hW⟩: ∃ W,W=((w.alloc (.cells (Pd.aB X 6 6 zP).toArray 55)).alloc (.cells (Ud.pv x y a b c).toArray 69)).alloc (.cells sZ.toArray 55):=⟨_,rfl⟩;rw [← hW] at t0 m0 r0 B0;have HW:=bT hW;clear hW;go_enter Tryz.func57,Tryz.ntmps57
 go_wp2_with (first
  |(rw [Pd.zeroS];erw [← HW.out];refine St.aI Pd.isS rl1 _ rl1 _ _ rl1 (by with_reducible exact t0) (Pd.aA _ _ _ _) ?_)
  |(refine St.aI Up.Ph rl1 _ rl1 _ _ rl1 (by with_reducible exact m0) rfl ?_)
  |fail)
 refine(HO.out _).mono ?_;rintro e w1 ⟨rfl,k1⟩;have t1:=ai.keep t0 k1;have m1:=ai.keep m0 k1;have r1:=ai.keep r0 k1;have B1:=ae B0 k1;clear t0 m0 r0 B0 k1 HW HO
 go_wp2_with (first
  |(rw [Up.wY];refine St.aF Up.IX rfl _ _ rl1 _ _ _ rl1 rl1 (Up.dW _ _ _ _) (Up.dW _ _ _ _) (Up.kL _ _ _ _) ?_;intro w2 n2 k2;have t2:=ai.keep t1 k2;have m2:=ai.keep m1 k2;have r2:=ai.keep r1 k2;have B2:=ae B1 k2;clear k2 t1 m1 r1 B1)
  |(refine St.aI Up.IX rl1 _ rl1 _ _ rl1 (by with_reducible exact n2) (Up.dW _ _ _ _) ?_)
  |fail)
 refine(HL.out _).mono ?_;rintro e w3 ⟨rfl,k3⟩;have t3:=ai.keep t2 k3;have m3:=ai.keep m2 k3;have r3:=ai.keep r2 k3;have B3:=ae B2 k3;clear t2 m2 r2 n2 B2 k3 HL
 go_wp2_with (first
  |(refine St.aI Pd.isS rl1 _ rl1 _ _ rl1 (by with_reducible exact t3) (Pd.aA _ _ _ _) ?_)
  |(refine St.aI Up.Ph rl1 _ rl1 _ _ rl1 (by with_reducible exact m3) rfl ?_)
  |fail)
 refine(HX.out _).mono ?_;rintro e w4 ⟨rfl,k4⟩;have r4:=ai.keep r3 k4;have B4:=ae B3 k4;clear t3 m3 r3 B3 k4 HX;cases o1<;>cases o2
 all_goals
  go_wp2_with (first
   |(rw [Pd.zeroS];refine St.aF Pd.isS rfl _ _ rl1 _ _ _ rl1 rl1 (Pd.aA _ _ _ _) (Pd.aA _ _ _ _) (Pd.cZ _ _ _ _) ?_;intro w6 u6 k6;have r6:=ai.keep r4 k6;have B6:=ae B4 k6;clear k6 r4 B4)
   |(refine St.aI Pd.isS rl1 _ rl1 _ _ rl1 (by with_reducible exact u6) (Pd.aA _ _ _ _) ?_)
   |(refine St.aU Pd.isS rfl _ _ rl1 _ _ _ rl1 rl1 (by with_reducible exact r6) (Pd.aA _ _ _ _) (Pd.aA _ _ _ _) (Pd.cZ _ _ _ _) ?_)
   |fail)
  exact bodyPost_ret (IL Pd.isS Tryz.results57 _ _ (w.heap.size+1+1) _ rfl (ai.row r6 _) (Pd.aA _ _ _ _)) rfl ⟨by simp,St.aJ B6 om1 _⟩
theorem WQ(X:Nat->Int)(P:Nat->Nat->Int)(x y a b c:Int)(w:World)(hm:Pr.oK X P)(hp:Ud.lT x y a b c)(bX:B64 X)(bP:Mt.B2 P)(hf: ∀ i,i<2->Ld.fine (Ud.oM P a b c) i):
 Calls Tryz.prog 57 #[.agg (Pd.aB X 6 6 (Mt.mz 6 6 P)).toArray, .agg (Ud.pv x y a b c).toArray] w fun e w'=>e= .returned (.tuple #[.agg (Pd.aB (Ud.xN X P x y a b c) 6 6 (Mt.mz 6 6 (Ud.zN P a b c))).toArray, .int .i64 (Lk.ofN (Ud.fL P a b c) (Ud.fD P a b c) (Ud.v2 (Ud.ox X x) (Ud.oy X y))), .bool (Ud.og X P x y a b c||Lk.ofO (Ud.fL P a b c) (Ud.fD P a b c) (Ud.v2 (Ud.ox X x) (Ud.oy X y))||Ud.nO X P x y a b c), .nilIface])/\Below w.heap.size w w':=
 aaV X _ _ _ _ _ _ x y a b c _ _ _ _ w (bT fun W=>Tm X P x y a b c W hm hp bX bP hf) (bT fun W=>k_of W X P x y a b c hf) (bT fun W=>V9 X P x y a b c W (fun W=>Tm X P x y a b c W hm hp bX bP hf) hp hf bX bP)
end
section
open Go.RowKit Vc Cn Mx St Mt Im
attribute [local go_sem ↓] Go.wp_at_zero Go.wp_at_succ
namespace El
theorem Ux{w:World}{g s n:Nat}{t:TypeId}{S:Nat->List Value}(h:ai w g t (eu S n))(hS: ∀ k,k<n->(S k).length=s):nG w g t s n S:=
 ⟨⟨_,h,by rw [List.size_toArray,lG hS]⟩,fun k hk=>⟨hS k hk,fun j v hv=>by
   have hj:j<s:=by
    rcases Nat.lt_or_ge j s with q|q
    · exact q
    · rw [List.getElem?_eq_none (by rw [hS k hk];exact q)] at hv;cases hv
   exact h.cell (k:=k*s+j) (by rw [oU hS hk hj];exact hv) rfl⟩⟩
end El
theorem Ym{p:Prop}(h:p:=by
 go_wp2_with (first
  |(refine St.aU F9 rfl _ _ rl1 _ _ [.slice none 0 0, .slice none 0 0] rl1 rl1 (by with_reducible exact r1) rfl rfl (Yj _ _ _ _ _ _) ?_)
  |fail)
 exact bodyPost_ret (dJ F9 Tryz.results21 _ _ (W.heap.size+1+1+1) _ rfl (ai.row r1 _) rfl) rfl (HX.out _ (St.aJ B1 om1 _))):p:=h
theorem Uy{p:Prop}(h:p:=by
 go_wp2_with (first
  |(rw [Pd.zeroS];refine St.aF Pd.isS rfl _ _ rl1 _ _ _ rl1 rl1 (Pd.aA _ _ _ _) (Pd.aA _ _ _ _) (Pd.cZ _ _ _ _) ?_;intro w7 u7 k7;obtain⟨B1,_,_,_,r1⟩:=HL.out _ (b6.then k7);clear b6 k7 u7)
  |(refine St.aU F9 rfl _ _ rl1 _ _ [.slice none 0 0, .slice none 0 0] rl1 rl1 (by with_reducible exact r1) rfl rfl (Yj _ _ _ _ _ _) ?_)
  |fail)
 exact bodyPost_ret (dJ F9 Tryz.results21 _ _ (W.heap.size+1+1+1) _ rfl (ai.row r1 _) rfl) rfl (HX.out _ (St.aJ B1 om1 _))):p:=h
theorem WR(Q:Ending->World->Prop)(W:World)(mo ro lo ho:Option Addr)(cn mc rq rc n cm sm hcp:Nat)(fl:Int)(K V N:Nat->Int)(A:Nat->Option Addr)(L C:Nat->Nat)(R X:Nat->Nat->Int)(r q:Nat->Int)(z:Nat->Nat->Int)(F:Nat->Nat->Nat->Int)(ch:Nat->Int)(x y a b c:Int)
 (hCk: ∀ w,Below W.heap.size W w->Calls Tryz.prog 12 #[.agg [.slice mo cn mc, .slice ro rq rc, .int .i64 fl].toArray] w fun e w'=>Below w.heap.size w w'/\((¬qw cn rq K V N L R fl/\e= .returned (FX 1))\/(qw cn rq K V N L R fl/\e= .returned .nilIface)))
 (t:Bool) (hb:t=true↔n=cn/\uC n sm ch X r q F)
 (hMy: ∀ w,Below W.heap.size W w->Calls Tryz.prog 34 #[.agg [.slice lo n cm, .slice ho sm hcp].toArray, .int .i64 (cn:Int)] w fun e w'=>e= .returned (.bool t)/\Below w.heap.size w w')
 (l1:cn<=mc) (l2:mc<=9223372036854775807) (hf0: -9223372036854775808<=fl) (hf1:fl<=9223372036854775807) (hl:Pst W lo n cm X r q z) (hz: ∀ k,k<n->r k=6->q k=6->z k=mz 6 6 (F k)) (bX: ∀ k,B64 (X k)) (bF: ∀ k,B2 (F k)) (hs:Sl W ho sm hcp ch) (bs:B64 ch)
 (q1: ∀ w',Below W.heap.size W w'-> ¬((qw cn rq K V N L R fl/\n=cn/\uC n sm ch X r q F)/\Ud.lT x y a b c)->Q (.returned (.tuple #[.agg #[.slice none 0 0, .slice none 0 0], .bool false, .iface 93 (.int .i64 1)])) w')
 (q8: ∀ w',Below W.heap.size W w'->((qw cn rq K V N L R fl/\n=cn/\uC n sm ch X r q F)/\Ud.lT x y a b c)->(¬ ∀ k,k<n->sF F a b c k)->Q (.returned (.tuple #[.agg #[.slice none 0 0, .slice none 0 0], .bool false, .iface 93 (.int .i64 8)])) w')
 (qy: ∀ w' (g:Nat) (vo:Option Addr) (vc:Nat),Below W.heap.size W w'->((qw cn rq K V N L R fl/\n=cn/\uC n sm ch X r q F)/\Ud.lT x y a b c)->(∀ k,k<n->sF F a b c k)->Pst w' (some ⟨g,0,none⟩) n n (sX X F x y a b c) (fun _=>6) (fun _=>6) (fun k=>mz 6 6 (sP F a b c k))->Sl w' vo n vc (sC n ch fl X F x y a b c)->qh W (some ⟨g,0,none⟩)->qh W vo->
  Q (.returned (.tuple #[.agg #[.slice (some ⟨g,0,none⟩) n n, .slice vo n vc], .bool (sO n ch X F x y a b c), .nilIface])) w'):
 Calls Tryz.prog 21 #[.agg #[.slice mo cn mc, .slice ro rq rc, .int .i64 fl], .agg #[.slice lo n cm, .slice ho sm hcp], .agg (Ud.pv x y a b c).toArray] W Q:=by
 have t0:=(((aH W 41 [.slice mo cn mc, .slice ro rq rc, .int .i64 fl]).alloc (.cells [.slice lo n cm, .slice ho sm hcp].toArray 34)).alloc (.cells (Ud.pv x y a b c).toArray 69)).alloc (.cells [.slice none 0 0, .slice none 0 0].toArray 34);have m0:=((bU W (.cells [.slice mo cn mc, .slice ro rq rc, .int .i64 fl].toArray 41) 34 [.slice lo n cm, .slice ho sm hcp]).alloc (.cells (Ud.pv x y a b c).toArray 69)).alloc (.cells [.slice none 0 0, .slice none 0 0].toArray 34);have p0:=(dH W (.cells [.slice mo cn mc, .slice ro rq rc, .int .i64 fl].toArray 41) (.cells [.slice lo n cm, .slice ho sm hcp].toArray 34) 69 (Ud.pv x y a b c)).alloc (.cells [.slice none 0 0, .slice none 0 0].toArray 34);have r0:=qN W (.cells [.slice mo cn mc, .slice ro rq rc, .int .i64 fl].toArray 41) (.cells [.slice lo n cm, .slice ho sm hcp].toArray 34) (.cells (Ud.pv x y a b c).toArray 69) 34 [.slice none 0 0, .slice none 0 0];have B0:Below W.heap.size W ((((W.alloc (.cells [.slice mo cn mc, .slice ro rq rc, .int .i64 fl].toArray 41)).alloc (.cells [.slice lo n cm, .slice ho sm hcp].toArray 34)).alloc (.cells (Ud.pv x y a b c).toArray 69)).alloc (.cells [.slice none 0 0, .slice none 0 0].toArray 34)):=af (af (af (af (Below.refl _ _) _) _) _) _;obtain⟨w0,hw0⟩: ∃ w0,w0=(((W.alloc (.cells [.slice mo cn mc, .slice ro rq rc, .int .i64 fl].toArray 41)).alloc (.cells [.slice lo n cm, .slice ho sm hcp].toArray 34)).alloc (.cells (Ud.pv x y a b c).toArray 69)).alloc (.cells [.slice none 0 0, .slice none 0 0].toArray 34):=⟨_,rfl⟩;rw [← hw0] at t0 m0 p0 r0 B0;have HW:=Im.bT hw0;have HCk:=Im.bT hCk;have HMy:=Im.bT hMy;have HB:=Im.bT hb;have HI:=Im.bT (show Pst W lo n cm X r q z/\(∀ k,k<n->r k=6->q k=6->z k=mz 6 6 (F k))/\(∀ k,B64 (X k))/\(∀ k,B2 (F k))/\Sl W ho sm hcp ch/\B64 ch/\ -9223372036854775808<=fl/\fl<=9223372036854775807 from⟨hl,hz,bX,bF,hs,bs,hf0,hf1⟩);have H1:=Im.bT q1;have H8:=Im.bT q8;have HYS:=Im.bT qy;clear hw0 hCk hMy hb hl hz bX bF hs bs hf0 hf1 q1 q8 qy;go_enter Tryz.func21,Tryz.ntmps21
 go_wp2_with (first
  |(rw [← HW.out])
  |((with_reducible show wpList _ _ _ _ _ _);refine St.aI isCo rl1 _ rl1 _ _ rl1 (by with_reducible exact t0) rfl ?_)
  |fail)
 refine(HCk.out _ B0).mono ?_;rintro e w1 ⟨k1,⟨hn,rfl⟩|⟨hy,rfl⟩⟩
 ·have HX:Hid (∀ w',Below W.heap.size W w'->Q _ w'):=fun w' k=>H1.out w' k (fun e=>hn e.1.1);have r1:=ai.keep r0 k1;have B1:=ae B0 k1;rw [xq];clear hn t0 m0 p0 r0 B0 k1 HW HCk HMy HI HB H1 H8 HYS;exact Ym
 ·have HY:=Im.bT hy;have t1:=ai.keep t0 k1;have m1:=ai.keep m0 k1;have p1:=ai.keep p0 k1;have r1:=ai.keep r0 k1;have B1:=ae B0 k1;have d1:w1.cell? ⟨W.heap.size,0,none⟩=some (.slice mo cn mc):=ai.cell t1 (k:=0) rfl rfl;clear hy t0 m0 p0 r0 B0 k1 HW HCk
  go_wp2_with (first
   |((with_reducible show wpList _ _ _ _ _ _);refine St.aI F9 rl1 _ rl1 _ _ rl1 (by with_reducible exact m1) rfl ?_)
   |fail)
  refine(HMy.out _ B1).mono ?_;rintro e w2 ⟨rfl,k2⟩;have t2:=ai.keep t1 k2;have m2:=ai.keep m1 k2;have p2:=ai.keep p1 k2;have r2:=ai.keep r1 k2;have B2:=ae B1 k2;clear t1 m1 p1 r1 B1 k2 d1 HMy;cases t with
  |false=>
   have HX:Hid (∀ w',Below W.heap.size W w'->Q _ w'):=fun w' k=>H1.out w' k (fun e=>by have:=HB.out.2 e.1.2;cases this);have r1:=r2;have B1:=B2;clear t2 m2 p2 r2 B2 HI HY HB H1 H8 HYS;exact Ym
  |true=>
   obtain⟨hcn,hJ⟩:=HB.out.1 rfl;subst hcn;obtain⟨hl,hz,bX,bF,hs,bs,hf0,hf1⟩:=HI.out;obtain rfl:n=sm:=hJ.1;have n1:=HY.out.one;have n4:=HY.out.four;have HFit:=Im.bT (show qw n rq K V N L R fl/\n=n/\uC n n ch X r q F from⟨HY.out,rfl,hJ⟩);obtain⟨gl,hlo,hlr⟩:=hl.get;obtain rfl:=hlo om1;have l3:=hl.le;have l4:=hl.cap
   have HSt:Hid (∀ k,k<n-> ∃ (Yk:Nat->Int) (yr yc:Int) (zN:Nat->Int) (lk:Int) (gk:Bool) (ef:Value),(∀ U,Calls Tryz.prog 57 #[.agg (Pd.aB (X k) 6 6 (mz 6 6 (F k))).toArray, .agg (Ud.pv x y a b c).toArray] U fun e w'=>e= .returned (.tuple #[.agg (Pd.aB Yk yr yc zN).toArray, .int .i64 lk, .bool gk,ef])/\Below U.heap.size U w')/\
    ((Ud.lT x y a b c/\sF F a b c k/\ef= .nilIface/\gk=sG X F x y a b c k/\lk=sL X F x y a b c k/\Pd.aB Yk yr yc zN=Pd.aB (sX X F x y a b c k) 6 6 (mz 6 6 (sP F a b c k)))\/(¬Ud.lT x y a b c/\ef= .iface 93 (.int .i64 1))\/(Ud.lT x y a b c/\ ¬sF F a b c k/\ef= .iface 93 (.int .i64 8)))):=fun k hk=>by
    have hV:=(hJ.2.2 k hk).2.2;by_cases hp:Ud.lT x y a b c
    ·by_cases hF:sF F a b c k
     ·exact⟨_,_,_,_,_,_,_,fun U=>WQ (X k) (F k) x y a b c U hV hp (bX k) (bF k) hF,Or.inl ⟨hp,hF,rfl,rfl,rfl,rfl⟩⟩
     ·exact⟨_,_,_,_,_,_,_,fun U=>Uw (X k) (F k) x y a b c U hV hp (bX k) (bF k) hF,Or.inr (Or.inr ⟨hp,hF,rfl⟩)⟩
    ·exact⟨_,_,_,_,_,_,_,fun U=>OW (X k) (F k) x y a b c U hV hp,Or.inr (Or.inl ⟨hp,rfl⟩)⟩
   have HLR:Hid (∀ k,k<n->W.rangeAt gl (k*44) (Pd.aB (X k) 6 6 (mz 6 6 (F k)))):=fun k hk=>by
    have h:=hlr k hk;obtain⟨e1,e2,_⟩:=hJ.2.2 k hk;rw [hz k hk e1 e2,e1,e2] at h;exact h
   have HWt:=Im.bT (fun(U:World) (lo:Option Addr) (cl:Nat) (kU:Below W.heap.size W U) (h:Sl U lo n cl (sL X F x y a b c))=>OV U lo ho n cl n hcp (sL X F x y a b c) ch fl h (sL_b X F x y a b c) (hs.keep kU) bs hf0 hf1);have HML:=Im.bT (X8 (show Ch n ch 0 from hJ.2.1) HY.out.lo HY.out.hi X F x y a b c);have hmkS:=Us n n4;have hmkI:=J8 n n4;have c0:w2.cell? ⟨W.heap.size+1,0,none⟩=some (.slice (some ⟨gl,0,none⟩) n cm):=ai.cell m2 (k:=0) rfl rfl;have HC0:Hid (∀ U,Below w2.heap.size w2 U->U.cell? ⟨W.heap.size+1,0,none⟩=some (.slice (some ⟨gl,0,none⟩) n cm)):=fun U k=>ai.cell (ai.keep m2 k) (k:=0) rfl rfl;clear hJ hl hz bX bF hs bs hf0 hf1 hlo hlr HI HB HY;go_upto_region 3 with fail
   go_cut [9,10,11] (fun a b o wx=> ∃ g1 g2:Nat,a= .slice (some ⟨g1,0,none⟩) n n/\b= .slice (some ⟨g2,0,none⟩) n n/\o= .bool false/\ai wx g1 55 (El.eu (fun _=>sZ) n)/\ai wx g2 2 (vals n (fun _=>0))/\g1≠g2/\w2.heap.size<=g1/\w2.heap.size<=g2/\Below w2.heap.size w2 wx)
   case first=>
    refine Ru.aS [] (fun w'=>w'.cell? ⟨W.heap.size+1,0,none⟩=some (.slice (some ⟨gl,0,none⟩) n cm)) (by kernel_rfl) (HC0.out _ (Vc.az _)) (fun hHeld=> ?_);refine Ru.tk1 0 (.pointer (some ⟨W.heap.size+1,0,none⟩)) hHeld ?_;refine Ru.tk1 1 (.slice (some ⟨gl,0,none⟩) n cm) hHeld ?_;refine Ru.tk1 2 (.int .i64 (n:Int)) hHeld ?_;refine Ru.tk1 4 (.pointer (some ⟨W.heap.size+1,0,none⟩)) hHeld ?_;refine Ru.tk1 5 (.slice (some ⟨gl,0,none⟩) n cm) hHeld ?_;refine Ru.tk1 6 (.int .i64 (n:Int)) hHeld ?_;have D_:=Vc.az w2;refine Ru.rs [3,7] ?_
    repeat' (first
     |((with_reducible show Ru.dC _ _ _ _ _ _ _ _ _ _ _);first
      |refine Ru.sp ?_ ?_
      |(refine Ru.co1 (i:=3) (fun K hK=> ?_);go_simp;obtain⟨g1,x_,hg,hx,n1_,l1_,k_⟩:=made D_ 55 (El.eu (fun _=>sZ) n);(first|rw [← hx]|rw [show(w2.alloc (.cells (El.eu (fun _=>sZ) n).toArray 55)).drew=x_ from hx.symm]);(try rw [← hg]);(try rw [show w2.heap.size=g1 from hg.symm]);(try have ne_:g1≠g2:=(by have:=ai.lt n2_;omega));(try replace n2_:=ai.keep n2_ k_);clear hg hx;replace D_:=ae D_ k_;refine Ru.hd hK (HC0.out _ D_) (fun hHeld=> ?_);clear hK K;refine Ru.tk1 8 (.slice (some ⟨g1,0,none⟩) n n) hHeld ?_;(first|refine Ru.rz [7] ?_|skip))
      |(refine Ru.co1 (i:=7) (fun K hK=> ?_);go_simp;obtain⟨g2,x_,hg,hx,n2_,l2_,k_⟩:=made D_ 2 (vals n (fun _=>0));(first|rw [← hx]|rw [show(w2.alloc (.cells (vals n (fun _=>0)).toArray 2)).drew=x_ from hx.symm]);(try rw [← hg]);(try rw [show w2.heap.size=g2 from hg.symm]);(try have ne_:g1≠g2:=(by have:=ai.lt n1_;omega));(try replace n1_:=ai.keep n1_ k_);clear hg hx;replace D_:=ae D_ k_;refine Ru.hd hK (HC0.out _ D_) (fun hHeld=> ?_);clear hK K;(first|refine Ru.rz [3] ?_|skip)))
     |as_aux_lemma=>(refine Ru.tk1 9 (.slice (some ⟨g2,0,none⟩) n n) hHeld ?_;refine Ru.tk1 10 (.bool false) hHeld ?_;refine Ru.bI (by kernel_rfl) ?_;go_wp2_with fail;go_meet;exact⟨g1,g2,rfl,rfl,rfl,n1_,n2_,ne_,l1_,l2_,D_⟩))
   rename World=>w3;obtain⟨g1,g2,rfl,rfl,rfl,e3,n3,hne,hg1,hg2,k3⟩:=hcut;have E3:=El.Ux e3 (fun _ _=>Pd.aA _ _ _ _);have t3:=ai.keep t2 k3;have m3:=ai.keep m2 k3;have p3:=ai.keep p2 k3;have r3:=ai.keep r2 k3;have B3:=ae B2 k3;have hr2:=ai.lt r2;have HL:Hid (∀ U,Ld.But (fun q=>q=g1\/q=g2) w3 U->Below W.heap.size W U/\ai U W.heap.size 41 [.slice mo n mc, .slice ro rq rc, .int .i64 fl]/\ai U (W.heap.size+1) 34 [.slice (some ⟨gl,0,none⟩) n cm, .slice ho n hcp]/\ai U (W.heap.size+1+1) 69 (Ud.pv x y a b c)/\ai U (W.heap.size+1+1+1) 34 [.slice none 0 0, .slice none 0 0]):=fun U k=>⟨k.below B3 B3.size (fun q e=>by omega),Ld.aT t3 k om1,Ld.aT m3 k om1,Ld.aT p3 k om1,Ld.aT r3 k om1⟩;have HG1:Hid (W.heap.size+1+1+1<g1):=(show W.heap.size+1+1+1<g1 by omega);have c3:w3.cell? ⟨W.heap.size+1,0,none⟩=some (.slice (some ⟨gl,0,none⟩) n cm):=ai.cell m3 (k:=0) rfl rfl;obtain⟨G,hG⟩: ∃ q,q=sG X F x y a b c:=⟨_,rfl⟩;obtain⟨Lg,hLg⟩: ∃ q,q=sL X F x y a b c:=⟨_,rfl⟩;obtain⟨Y,hY⟩: ∃ q,q=sX X F x y a b c:=⟨_,rfl⟩;obtain⟨zP,hzP⟩: ∃ q,q=fun k=>mz 6 6 (sP F a b c k):=⟨_,rfl⟩;obtain⟨zJ,hzJ⟩: ∃ q,q=fun k=>mz 6 6 (F k):=⟨_,rfl⟩
   have HSt:Hid (∀ k,k<n-> ∃ (Yk:Nat->Int) (yr yc:Int) (zN:Nat->Int) (lk:Int) (gk:Bool) (ef:Value),(∀ U,Calls Tryz.prog 57 #[.agg (Pd.aB (X k) 6 6 (zJ k)).toArray, .agg (Ud.pv x y a b c).toArray] U fun e w'=>e= .returned (.tuple #[.agg (Pd.aB Yk yr yc zN).toArray, .int .i64 lk, .bool gk,ef])/\Below U.heap.size U w')/\
    ((Ud.lT x y a b c/\sF F a b c k/\ef= .nilIface/\gk=G k/\lk=Lg k/\Pd.aB Yk yr yc zN=Pd.aB (Y k) 6 6 (zP k))\/(¬Ud.lT x y a b c/\ef= .iface 93 (.int .i64 1))\/(Ud.lT x y a b c/\ ¬sF F a b c k/\ef= .iface 93 (.int .i64 8)))):=by rw [hzJ,hG,hLg,hY,hzP];exact HSt
   have HLR:Hid (∀ k,k<n->W.rangeAt gl (k*44) (Pd.aB (X k) 6 6 (zJ k))):=by rw [hzJ];exact HLR
   have HEq:=Im.bT (show _/\_/\_/\_ from⟨hG,hLg,hY,hzP⟩);have HAny:Hid (∀ k,dN G (k+1)=(dN G k||G k)):=fun _=>rfl;clear t2 m2 p2 r2 B2 k3 e3 t3 m3 p3 r3 B3 hr2 hG hLg hY hzP hzJ hmkS hmkI c0 HC0 hg1 hg2;go_wp2_with fail
   go_loopw [11,45] (fun o i wr=> ∃ (k:Nat) (S:Nat->List Value) (zl:Nat->Int),k<=n/\(¬Ud.lT x y a b c->k=0)/\i= .int .i64 (k:Int)/\o= .bool (dN G k)/\(∀ j,j<k->sF F a b c j/\S j=Pd.aB (Y j) 6 6 (zP j)/\zl j=Lg j)/\El.nG wr g1 55 44 n S/\ai wr g2 2 (vals n zl)/\Ld.But (fun q=>q=g1\/q=g2) w3 wr) (fun _ i _=>n- (intOf i).toNat)
   case atStart=>exact⟨0,_,_,om1,fun _=>rfl,rfl,rfl,fun j hj=>by omega,E3,n3,Ld.But.refl _ _⟩
   case round=>
    rename World=>wr;obtain⟨k,S,zl,hk,hk0,rfl,rfl,hS1,eR,nR,bl⟩:=hrel;by_cases h:k<n
    ·obtain⟨Yk,yr,yc,zN,lk,gk,ef,hSk,hcs⟩:=HSt.out k h;obtain⟨BW,tW,mW,pW,rW⟩:=HL.out _ bl;have HSk:=Im.bT hSk;have HCS:=Im.bT hcs;have hq:wr.rangeAt gl (k*44) (Pd.aB (X k) 6 6 (zJ k)):=fun j v hv=>ah BW (HLR.out k h j v hv);have HRR:=Im.bT (show _/\_ from⟨hk0,hS1⟩);have kn:(k:Int)<n:=om1;have A1:=Im.bT (HAny.out k);obtain⟨Xk,hXk⟩: ∃ q,q=X k:=⟨_,rfl⟩;obtain⟨zk,hzk⟩: ∃ q,q=zJ k:=⟨_,rfl⟩;rw [← hXk,← hzk] at hq HSk;clear hSk hcs hXk hzk hk0 hS1 HSt HLR HAny
     go_wp2_with (first
      |((with_reducible show wpList _ _ _ _ _ _);refine St.dA Pd.isS rl1 _ rl1 _ _ _ rl1 (by with_reducible exact hq) (Pd.aA _ _ _ _) ?_)
      |(rw [Pd.zeroS];refine St.aF Pd.isS rfl _ _ rl1 _ _ _ rl1 rl1 (Pd.aA _ _ _ _) (Pd.aA _ _ _ _) (Pd.cZ _ _ _ _) ?_;intro w5 n5 k5;have p5:=ai.keep pW k5;clear hq)
      |((with_reducible show wpList _ _ _ _ _ _);refine St.aI Pd.isS rl1 _ rl1 _ _ rl1 (by with_reducible exact n5) (Pd.aA _ _ _ _) ?_)
      |((with_reducible show wpList _ _ _ _ _ _);refine St.aI Up.Ph rl1 _ rl1 _ _ rl1 (by with_reducible exact p5) rfl ?_)
      |fail)
     refine(HSk.out _).mono ?_;rintro e w6 ⟨rfl,k6⟩;have e6:=(eR.keep k5).keep k6;have n6:=ai.keep (ai.keep nR k5) k6;have b6:=(bl.then k5).then k6
     clear eR nR bl BW tW mW pW rW n5 p5 k5 k6 HSk;rcases HCS.out with⟨hT,hF,hef,hgk,hlk,hsv⟩|⟨hT,hef⟩|⟨hT,hF,hef⟩
     ·subst hef;rw [← hgk] at A1;have HSV:=Im.bT (show _/\_/\_ from⟨hF,hsv,hlk⟩);have HT:=Im.bT hT;clear hgk hsv hT hF hlk HCS;obtain⟨qn,hqn⟩: ∃ q,q=dN G k:=⟨_,rfl⟩;have A2:Hid (dN G (k+1)=(qn||gk)):=by show _=_;rw [A1.out,hqn]
      rw [← hqn];clear hqn A1;cases qn
      all_goals go_wp2_with (first
       |(rw [Pd.zeroS];refine St.aF Pd.isS rfl _ _ rl1 _ _ _ rl1 rl1 (Pd.aA _ _ _ _) (Pd.aA _ _ _ _) (Pd.cZ _ _ _ _) ?_;intro w7 u7 k7;have e7:=e6.keep k7;have n7:=ai.keep n6 k7;have b7:=b6.then k7;clear e6 n6 b6 k7)
       |((with_reducible show wpList _ _ _ _ _ _);refine St.aI Pd.isS rl1 _ rl1 _ _ rl1 (by with_reducible exact u7) (Pd.aA _ _ _ _) ?_)
       |((with_reducible show wpList _ _ _ _ _ _);refine El.mQ 55 rfl _ _ rl1 (Pd.aB Yk yr yc zN) rl1 rl1 (by with_reducible exact e7) h (Pd.aA _ _ _ _) IK (Pd.cZ _ _ _ _) ?_;intro w8 e8 k8;have n8:=Ld.aT n7 k8 (fun e=>hne e.symm);have d8:=n8.cell (dI (z:=zl) h) rfl;have f8:=n8.free k;have m9:=n8.set k (.int .i64 lk);rw [fG] at m9;have M9:=Im.bT m9;have B9:=Im.bT ((b7.trans (k8.mono fun q e=>Or.inl e)).set (p:=⟨g2,k,none⟩) (.int .i64 lk) (Or.inr rfl));have E9:=Im.bT (e8.but ((Ld.But.refl (· =g2) w8).set (p:=⟨g2,k,none⟩) (.int .i64 lk) rfl) hne);clear e7 n7 b7 k8 u7 n8 m9 e8)
       |fail)
      all_goals go_roundw
      all_goals first
       |(simp [intOf];omega)
       |exact⟨k+1,_,_,om1,fun e=>absurd HT.out e,by go_num,by rw [A2.out];first|rfl|simp,fun j hj=>(by
        by_cases e:j=k
        ·rw [if_pos e,if_pos e,e];exact HSV.out
        ·rw [if_neg e,if_neg e];exact HRR.out.2 j om1),E9.out,M9.out,B9.out⟩
     ·subst hef;have HX:Hid (∀ w',Below W.heap.size W w'->Q _ w'):=fun w' k=>H1.out w' k (fun e=>hT e.2);clear hT HCS e6 n6;exact Uy
     ·subst hef;have HX:Hid (∀ w',Below W.heap.size W w'->Q _ w'):=fun w' k'=>H8.out w' k' ⟨HFit.out,hT⟩ (fun e=>hF (e k h));clear hT hF HCS e6 n6;exact Uy
    ·obtain rfl:n=k:=om1;have hT:Ud.lT x y a b c:=Classical.byContradiction fun e=>by have:=hk0 e;omega
     have HFs:Hid (∀ j,j<n->sF F a b c j):=fun j hj=>(hS1 j hj).1;have HSS:Hid (∀ j,j<n->S j=Pd.aB (sX X F x y a b c j) 6 6 (mz 6 6 (sP F a b c j))):=fun j hj=>(hS1 j hj).2.1.trans (by rw [HEq.out.2.2.1,HEq.out.2.2.2]);obtain⟨BW,tW,mW,pW,rW⟩:=HL.out _ bl;have HW1:=Im.bT (HWt.out wr (some ⟨g2,0,none⟩) n BW ((iF nR n4).congr fun j hj=>by rw [(hS1 j hj).2.2,HEq.out.2.1]));have c1:wr.cell? ⟨W.heap.size+1,1,none⟩=some (.slice ho n hcp):=ai.cell mW (k:=1) rfl rfl;have c2:wr.cell? ⟨W.heap.size,2,none⟩=some (.int .i64 fl):=ai.cell tW (k:=2) rfl rfl;have HT:=Im.bT hT;clear hk0 hS1 tW mW pW nR bl hT HSt HLR HWt;go_wp2_with fail
     refine HW1.out.mono ?_;rintro e w7 ⟨vo,vn,vc,oW,ev,rfl,k7,sW,⟨hno,_⟩|⟨_,_,q1,q2,q3⟩,nw⟩
     ·exact absurd ⟨by trivial,HML.out⟩ hno
     obtain rfl:=q1.symm;subst q3;have r7:=ai.keep rW k7;have B7:=ae BW k7;have hrl:=ai.lt rW;have kU:=Ud.gp w7 (W.heap.size+1+1+1) ([.slice (some ⟨g1,0,none⟩) n n, .slice vo n vc]:List Value).toArray;have hG1:=HG1.out;have HP5:=Im.bT (zg (X:=sX X F x y a b c) (r:=fun _=>6) (c:=fun _=>6) (z:=fun j=>mz 6 6 (sP F a b c j)) ((eR.keep k7).but kU om1) n4 HSS.out);have HS5:=Im.bT (Ld.lK sW kU (fun x e=>by have:=nw x e;omega));have R5:=Im.bT (St.aJ B7 (g:=W.heap.size+1+1+1) om1 ([.slice (some ⟨g1,0,none⟩) n n, .slice vo n vc]:List Value).toArray);have HNW:Hid (qh W (some ⟨g1,0,none⟩)/\qh W vo):=⟨fun x e=>by cases e;show _<=g1;omega,fun x e=>Nat.le_trans BW.size (nw x e)⟩;have HO:Hid (sO n ch X F x y a b c=(dN G n||oW)):=by show _=_;rw [HEq.out.1,q2];rfl
     have HFin:=Im.bT (HYS.out _ g1 vo vc R5.out ⟨HFit.out,HT.out⟩ HFs.out HP5.out HS5.out HNW.out.1 HNW.out.2);rw [HO.out] at HFin;obtain⟨qa,hqa⟩: ∃ q,q=dN G n:=⟨_,rfl⟩;rw [← hqa] at HFin ⊢;clear kU hG1 hrl nw q2 BW B7 eR rW k7 sW hqa HO c1 c2 HW1;cases qa
     all_goals go_wp2_with (first
      |(refine St.aU F9 rfl _ _ rl1 _ _ [.slice (some ⟨g1,0,none⟩) n n, .slice vo n vc] rl1 rl1 (by with_reducible exact r7) rfl rfl (Yj _ _ _ _ _ _) ?_)
      |fail)
     all_goals exact bodyPost_ret (dJ F9 Tryz.results21 _ _ (W.heap.size+1+1+1) _ rfl (ai.row r7 _) rfl) rfl (by first|exact HFin.out|(have h:=HFin.out;simpa using h))
theorem aaW:ISeen:=by
 intro W c s x y a b g hc hs hpv;obtain⟨t,hb⟩:=uX (s.n=c.n/\s.May);have hCk:=fun w (k:Below W.heap.size W w)=>y9 w c (hc.keep k);have hMy:=fun w (k:Below W.heap.size W w)=>Nc t s c.n w (hs.keep k) hb;obtain⟨mo,cn,mc,K,V,N,ro,rq,rc,A,L,C,R,fl⟩:=c;obtain⟨lo,n,cm,ho,sm,hcp,X,r,q,z,F,ch⟩:=s;refine WR _ W mo ro lo ho cn mc rq rc n cm sm hcp fl K V N A L C R X r q z F ch x y a b g hCk t hb hMy hc.m.le hc.m.cap hc.b.f0 hc.b.f1 hs.st hs.six hs.x hs.f hs.c hs.b ?_ ?_ ?_
 · exact fun w' k hn=>⟨_,Or.inl ⟨hn,rfl,Cf k _ _ _⟩⟩
 · exact fun w' k hf hn=>⟨_,Or.inr (Or.inl ⟨hf,hn,rfl,Cf k _ _ _⟩)⟩
 · exact fun w' g1 vo vc k hf hy hp hc' h1 h2=>⟨_,Or.inr (Or.inr ⟨hf,hy,rfl,_,_,_,_,_,_,rfl,k,hp,hc',rfl,rfl,h1,h2⟩)⟩
end
section
theorem immPkg:Im.WE:=⟨y9,WN,WO,aaW,im_one,aaU⟩
end
end Go.Proofs.YtcefcokpjbebhaaGreatDoor
