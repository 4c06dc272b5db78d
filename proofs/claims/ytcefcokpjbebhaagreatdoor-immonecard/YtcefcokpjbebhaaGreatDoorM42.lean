/-
  Package like (layer 16): Weights; slices.Grow, slices.Concat of two; Best.
-/
import Derived.Test.YtcefcokpjbebhaaGreatDoorM39
import Derived.Test.YtcefcokpjbebhaaGreatDoorM35
import Derived.Lib.AppendZeros
import Derived.Test.YtcefcokpjbebhaaGreatDoorM25
import Derived.Test.YtcefcokpjbebhaaGreatDoorM16
import Derived.Test.YtcefcokpjbebhaaGreatDoorM41
import Derived.Deep.DeepCutAuto
set_option linter.unusedSimpArgs false
set_option linter.unusedVariables false
set_option maxHeartbeats 8000000
set_option maxRecDepth 20000
namespace Go.Proofs.YtcefcokpjbebhaaGreatDoor
section
open Go.RowKit Vc Cn St Qn Lk Gw
theorem k_weightsN:KWeightsN:=by
 intro W lo co n cl m cc l c fl hl bl' hc bc hf0 hf1;by_cases hmay:n=m/\Ch m c 0/\ ∀ k,k<n-> -4611686018427387903<=l k/\l k<=4611686018427387903
 ·have HM:=hideH (kmay_any W lo co n cl m cc l c hl bl' hc bc true (fun _=>hmay) (fun q=>by cases q));obtain⟨rfl,hch,heach⟩:=hmay;have hmz:MayL n l c 0:=⟨hch,by omega,by omega,heach⟩;obtain⟨x,hao,hca⟩:=hl.get;obtain⟨y,hbo,hcb⟩:=hc.get;have l1:=hl.le;have l2:=hl.cap;have l3:=hc.le;have l4:=hc.cap;have n0:=hch.one;have n4:=hch.four;obtain rfl:=hao (by omega);obtain rfl:=hbo (by omega)
  have HWe:Hid (∀ w,Below W.heap.size W w->Calls Tryz.prog 121 #[.slice (some x) n cl, .slice (some y) n cc] w fun e w'=> ∃ g:Nat,e= .returned (.tuple #[.slice (some ⟨g,0,none⟩) n n, .bool (wo l c n n)])/\CRow w' g 2 (vals n (wz l c n))/\w.heap.size<=g/\Below w.heap.size w w'):=
   fun w b=>kweighed_any x y n cl cc l c w hmz l1 l2 l3 l4 (fun k hk=>keep_cell b (hca k hk)) (fun k hk=>keep_cell b (hcb k hk))
  have HOf:Hid (∀ (w:World) (g:Nat),CRow w g 2 (vals n (wz l c n))->Calls Tryz.prog 122 #[.slice (some ⟨g,0,none⟩) n n, .int .i64 fl] w fun e w'=> ∃ vo vn vc ev,e= .returned (.tuple #[.slice vo vn vc,ev])/\Below w.heap.size w w'/\Sl w' vo vn vc (oc fl (wz l c n) n)/\
   ((¬MayW n (wz l c n) fl/\vn=0/\ev=errV 1)\/(MayW n (wz l c n) fl/\tot (wz l c n) n=0/\vn=0/\ev=errV 11)\/(MayW n (wz l c n) fl/\0<tot (wz l c n) n/\vn=n/\ev= .nilIface))/\NewL w vo):=
   fun w g r=>cn_ofN w (some ⟨g,0,none⟩) n n (wz l c n) fl (crow_sl r n4) (fun k=>by have:=wz_in hmz k;omega) hf0 hf1
  have HP:=hideH (wz_pos hmz);have HMW:Hid (0<=fl/\fl<=67108864->MayW n (wz l c n) fl/\MayL n l c fl):=fun q=>⟨wz_may (fl:=fl) ⟨hch,q.1,q.2,heach⟩,⟨hch,q.1,q.2,heach⟩⟩;have HNW:Hid (¬(0<=fl/\fl<=67108864)-> ¬MayL n l c fl):=fun q r=>q ⟨r.lo,r.hi⟩;obtain⟨Z,hZ⟩: ∃ Z,Z=wz l c n:=⟨_,rfl⟩;obtain⟨O,hO⟩: ∃ Z,Z=wo l c n n:=⟨_,rfl⟩;rw [← hZ] at HWe HOf HP HMW;rw [← hO] at HWe;rw [← hZ,← hO];clear hZ hO hmz hl bl' hc bc hca hcb hao hbo heach hch;go_enter Tryz.func58,Tryz.ntmps58
  go_wp2_with (first
   |(go_at_call 120;refine HM.out.mono ?_;rintro e w1 ⟨rfl,k1⟩;have K1:=hideH k1;clear k1)
   |(go_at_call 121;refine(HWe.out _ K1.out).mono ?_;rintro e w2 ⟨g,rfl,c2,hg,k2⟩;have C2:=hideH c2;have K2:=hideH (below_tr K1.out k2);clear c2 k2))
  refine(HOf.out _ _ C2.out).mono ?_;by_cases hf:0<=fl/\fl<=67108864
  ·rintro e w3 ⟨vo,vn,vc,ev,rfl,k3,s3,⟨q,_⟩|⟨_,q,_⟩|⟨q1,q2,q3,rfl⟩,nw⟩
   ·exact absurd (HMW.out hf).1 q
   ·have:=HP.out;omega
   ·obtain rfl:=q3.symm;have K3:=hideH (below_tr K2.out k3);have S3:=hideH s3;have NW:Hid (NewL W vo):=fun x e=>Nat.le_trans K2.out.size (nw x e);clear k3 s3 q1 q2 nw;go_wp2;go_ret3;exact⟨_,_,_,_,_,rfl,K3.out,S3.out,Or.inr ⟨trivial,(HMW.out hf).2,rfl,rfl,rfl⟩,NW.out⟩
  ·rintro e w3 ⟨vo,vn,vc,ev,rfl,k3,s3,⟨_,rfl,rfl⟩|⟨q,_⟩|⟨q,_⟩,nw⟩
   ·have K3:=hideH (below_tr K2.out k3);clear k3 s3 nw;unfold errV;go_wp2;go_ret3;exact⟨_,_,_,_,_,rfl,K3.out,Sl.none _ _,Or.inl ⟨fun r=>HNW.out hf r.2,rfl,rfl⟩,NewL.nil _⟩
   ·exact absurd ⟨q.lo,q.hi⟩ hf
   ·exact absurd ⟨q.lo,q.hi⟩ hf
 ·have HM:=hideH (kmay_any W lo co n cl m cc l c hl bl' hc bc false (fun q=>by cases q) (fun _=>hmay));have HN:Hid (¬(n=m/\MayL n l c fl)):=fun q=>hmay ⟨q.1,by rw [← q.1];exact q.2.ch,q.2.each⟩;have l1:=hl.le;have l2:=hl.cap;have l3:=hc.le;have l4:=hc.cap;clear hmay hl bl' hc bc;go_enter Tryz.func58,Tryz.ntmps58
  go_wp2_with (go_at_call 120;refine HM.out.mono ?_;rintro e w1 ⟨rfl,k1⟩;have K1:=hideH k1;clear k1)
  go_ret3;exact⟨_,_,_,_,_,rfl,K1.out,Sl.none _ _,Or.inl ⟨HN.out,rfl,rfl⟩,NewL.nil _⟩
end
section
open Go.RowKit Vc St Lk
namespace Lk
theorem half_no{s:Int}(h: -4611686018427387903<=s/\s<=4611686018427387903):Qn.great (Qn.rne (s* -524288) (2^20))=false:=by
 have a:=Gw.rne_ge (n:=s* -524288) (d:=2^20) (A:=2305843009213693952) (by decide) (by omega);have b:=Gw.rne_le (n:=s* -524288) (d:=2^20) (A:=2305843009213693952) (by decide) (by omega);exact great_no (by omega)
theorem ofO_is(L:Nat->Nat->Int)(d v:Nat->Int):ofO L d v=((Ld.downO L v 2||Ld.farO (Ld.downV L v 2) d 2)||Qn.great (ofF L d v+Ld.logS d 2)):=by
 unfold ofO;rw [show Qn.great (Qn.rne (ofS L d v* -524288) (2^20))=false from half_no (cl_in _),Bool.or_false]
end Lk
theorem kof_by(V:Nat->Int)(z d:Nat->Int)(F:Int)(q:Bool)(s:Int)(w:World)(hF0: -4611686018427387903<=F/\F<=4611686018427387903)(hs0: -9223372036854775808<=s/\s<=9223372036854775807)
 (hF: ∀ W,Calls Tryz.prog 202 #[.agg (Up.gvals V 2 z d).toArray] W fun e w'=>e= .returned (.tuple #[.int .i64 F, .bool q, .nilIface])/\Below W.heap.size W w')
 (hL: ∀ W,Calls Tryz.prog 203 #[.agg (Ld.fvals 2 z d).toArray] W fun e w'=>e= .returned (.tuple #[.int .i64 s, .nilIface])/\Below W.heap.size W w'):
 Calls Tryz.prog 119 #[.agg (Up.gvals V 2 z d).toArray] w fun e w'=>e= .returned (.tuple #[.int .i64 (Qn.clamp (Qn.rne (Qn.clamp (F+s)* -524288) (2^20))), .bool (q||Qn.great (F+s)), .nilIface])/\Below w.heap.size w w':=by
 have HF:=Ud.hide hF;have HL:=Ud.hide hL;have HA:=Ud.hide (fun W=>qadd_any F s W (by omega) (by omega) (by omega) (by omega));have hc:=cl_in (F+s);have HM:=Ud.hide (fun W=>qmul_any (Qn.clamp (F+s)) (-524288) 20 W (by omega) (by omega) (by omega) (by omega) (by omega));obtain⟨A,hA⟩: ∃ A,A=Qn.clamp (F+s):=⟨_,rfl⟩;obtain⟨G,hG⟩: ∃ A,A=Qn.great (F+s):=⟨_,rfl⟩;rw [← hA,← hG] at HA;rw [← hA] at HM;rw [← hA,← hG];obtain⟨B,hB⟩: ∃ A',A'=Qn.clamp (Qn.rne (A* -524288) (2^20)):=⟨_,rfl⟩;obtain⟨B',hB'⟩: ∃ A',A'=Qn.great (Qn.rne (A* -524288) (2^20)):=⟨_,rfl⟩;rw [← hB,← hB'] at HM;rw [← hB];have g0:=crow_new w 163 (Up.gvals V 2 z d);have B0:=below_al (Below.refl _ w) (.cells (Up.gvals V 2 z d).toArray 163);obtain⟨W,hW⟩: ∃ W,W=w.alloc (.cells (Up.gvals V 2 z d).toArray 163):=⟨_,rfl⟩;rw [← hW] at g0 B0;have HW:=Ud.hide hW;have HB0:=Ud.hide B0;have HS:Hid (∀ U,Below W.heap.size W U->Up.GRow U w.heap.size V 2 z d):=fun U k=>CRow.keep g0 k;clear hW hF hL g0 B0 hA hG hB hB' hc;cases q
 all_goals
  go_enter Tryz.func119,Tryz.ntmps119
  go_wp2_with (first
   |(rw [← HW.out])
   |((with_reducible show wpList _ _ _ _ _ _);refine Ud.loadC Up.isGp _ (by with_reducible rfl) w.heap.size _ (by rfl) (HS.out _ (Below.refl _ _)) (Up.gvals_len _ _ _ _) (by kernel_rfl) ?_)
   |(go_at_call 202;refine(HF.out _).mono ?_;rintro e w1 ⟨rfl,k1⟩;have K1:=Ud.hide k1;clear k1)
   |((with_reducible show wpList _ _ _ _ _ _);refine St.wpList_part Ld.isF (by kernel_rfl) _ (by with_reducible rfl) w.heap.size 2 _ (by rfl) (Up.GRow.rf (HS.out _ K1.out)) (Ld.fvals_len _ _ _) ?_)
   |(go_at_call 203;refine(HL.out _).mono ?_;rintro e w2 ⟨rfl,k2⟩;have K2:=Ud.hide (below_tr K1.out k2);clear k2)
   |(go_at_call 151;refine(HA.out _).mono ?_;rintro e w3 ⟨rfl,k3⟩;have K3:=Ud.hide (below_tr K2.out k3);clear k3)
   |(go_at_call 204;refine(HM.out _).mono ?_;rintro e w4 ⟨rfl,k4⟩;have K4:=Ud.hide (below_tr K3.out k4);clear k4)
   |fail)
  go_ret3;exact⟨rfl,below_tr HB0.out K4.out⟩
theorem k_of:KOf:=by
 intro W X P x y a b c hf
 have h:=kof_by (Ud.v2 (Ud.ox X x) (Ud.oy X y)) (Mt.mz 2 2 (Ud.fL P a b c)) (Ud.fD P a b c) _ _ (Ld.logS (Ud.fD P a b c) 2) W (Ld.farV_bd (Ld.downV (Ud.fL P a b c) (Ud.v2 (Ud.ox X x) (Ud.oy X y)) 2) (Ud.fD P a b c) 2) (log_in _)
  (fun W=>ufar_ok X P x y a b c W hf) (fun W=>llog_any 2 _ _ W (Up.may_gap hf))
 rw [ofO_is];exact h
end
section
open Go.RowKit Vc Cn Mx St Im
attribute [local go_sem ↓] Go.wp_at_zero Go.wp_at_succ
namespace Im
theorem results_4{fn:Func}{p u v x:Tmp}{t:TypeId}{n:Nat}(S:Is t n)(h:fn.results= #[.cell p t, .tmp u, .tmp v, .tmp x])(tmps:Array Value)(w:World)(b:Nat)(cs:List Value)(hp:tmps.getD p undef= .pointer (some ⟨b,0,none⟩))
 (hr:CRow w b t cs) (hl:cs.length=n):(results fn tmps).run Tryz.prog w= .ok (.tuple #[.agg cs.toArray,tmps.getD u undef,tmps.getD v undef,tmps.getD x undef]) w:=by
 obtain⟨d,hu,hd⟩:=S.row;have hp':tmps[p]?.getD undef= .pointer (some ⟨b,0,none⟩):=by simpa using hp
 have hL:=run_loadVar_mid w b 0 t cs d hr.range hu hd (by rw [S.size,hl]);simp [results,h,hp',asAddr,hL]
abbrev sZ:List Value:=Pd.svals (fun _=>0) 0 0 (fun _=>0)
abbrev gZ:List Value:=Up.gvals (fun _=>0) 0 (fun _=>0) (fun _=>0)
end Im
theorem iupd_no(X:Nat->Int)(zP:Nat->Int)(x y a b c v:Int)(w:World)
 (HO:Hid (∀ W,Calls Tryz.prog 79 #[.agg (Pd.svals X 6 6 zP).toArray, .agg (Ud.pv x y a b c).toArray] W fun e w'=>e= .returned (.tuple #[.agg gZ.toArray, .bool false, .iface 93 (.int .i64 v)])/\Below W.heap.size W w')):
 Calls Tryz.prog 57 #[.agg (Pd.svals X 6 6 zP).toArray, .agg (Ud.pv x y a b c).toArray] w fun e w'=>e= .returned (.tuple #[.agg sZ.toArray, .int .i64 0, .bool false, .iface 93 (.int .i64 v)])/\Below w.heap.size w w':=by
 have t0:=((crow_new w 55 (Pd.svals X 6 6 zP)).alloc (.cells (Ud.pv x y a b c).toArray 69)).alloc (.cells sZ.toArray 55);have m0:=(crow_new1 w (.cells (Pd.svals X 6 6 zP).toArray 55) 69 (Ud.pv x y a b c)).alloc (.cells sZ.toArray 55);have r0:=crow_new2 w (.cells (Pd.svals X 6 6 zP).toArray 55) (.cells (Ud.pv x y a b c).toArray 69) 55 sZ;have B0:Below w.heap.size w (((w.alloc (.cells (Pd.svals X 6 6 zP).toArray 55)).alloc (.cells (Ud.pv x y a b c).toArray 69)).alloc (.cells sZ.toArray 55)):=below_al (below_al (below_al (Below.refl _ _) _) _) _;obtain⟨W,hW⟩: ∃ W,W=((w.alloc (.cells (Pd.svals X 6 6 zP).toArray 55)).alloc (.cells (Ud.pv x y a b c).toArray 69)).alloc (.cells sZ.toArray 55):=⟨_,rfl⟩;rw [← hW] at t0 m0 r0 B0;have HW:=Im.hideE hW;clear hW;go_enter Tryz.func57,Tryz.ntmps57
 go_wp2_with (first
  |(rw [Pd.zeroS];erw [← HW.out];refine St.wpList_load Pd.isS (by rfl) _ (by rfl) _ _ (by rfl) (by with_reducible exact t0) (Pd.svals_len _ _ _ _) ?_)
  |(refine St.wpList_load Up.isSn (by rfl) _ (by rfl) _ _ (by rfl) (by with_reducible exact m0) rfl ?_)
  |fail)
 refine(HO.out _).mono ?_;rintro e w1 ⟨rfl,k1⟩;have r1:=CRow.keep r0 k1;have B1:=below_tr B0 k1;clear t0 m0 r0 B0 k1 HW HO
 go_wp2_with (first
  |(rw [Up.zeroGp];refine St.wpList_storeNew Up.isGp rfl _ _ (by rfl) _ _ _ (by rfl) (by rfl) (Up.gvals_len _ _ _ _) (Up.gvals_len _ _ _ _) (Up.one_gvals _ _ _ _) ?_;intro w2 n2 k2;have r2:=CRow.keep r1 k2;have B2:=below_tr B1 k2;clear k2 r1 B1)
  |((with_reducible show wpList _ _ _ _ _ _);refine Pd.buildS0 (by with_reducible rfl) (by rfl) ?_)
  |(refine St.wpList_store Pd.isS rfl _ _ (by rfl) _ _ _ (by rfl) (by rfl) (by with_reducible exact r2) (Pd.svals_len _ _ _ _) (Pd.svals_len _ _ _ _) (Pd.one_svals _ _ _ _) ?_)
  |fail)
 exact bodyPost_ret (results_4 Pd.isS Tryz.results57 _ _ (w.heap.size+1+1) _ rfl (CRow.row r2 _) (Pd.svals_len _ _ _ _)) rfl ⟨rfl,St.below_row B2 (by omega) _⟩
theorem iupd_place(X:Nat->Int)(P:Nat->Nat->Int)(x y a b c:Int)(w:World)(hm:Pr.MayV X P)(hp: ¬Ud.MayN x y a b c):
 Calls Tryz.prog 57 #[.agg (Pd.svals X 6 6 (Mt.mz 6 6 P)).toArray, .agg (Ud.pv x y a b c).toArray] w fun e w'=>e= .returned (.tuple #[.agg sZ.toArray, .int .i64 0, .bool false, .iface 93 (.int .i64 1)])/\Below w.heap.size w w':=
 iupd_no X _ x y a b c 1 w (Im.hideE fun W=>uof_place X 6 6 (Mt.mz 6 6 P) x y a b c W (fun W=>pcheck_six X P true W ⟨fun _=>hm,fun _=>rfl⟩) hp)
theorem iupd_none(X:Nat->Int)(P:Nat->Nat->Int)(x y a b c:Int)(w:World)(hm:Pr.MayV X P)(hp:Ud.MayN x y a b c)(bX:B64 X)(bP:Mt.B2 P)(hf: ¬ ∀ i,i<2->Ld.fine (Ud.oM P a b c) i):
 Calls Tryz.prog 57 #[.agg (Pd.svals X 6 6 (Mt.mz 6 6 P)).toArray, .agg (Ud.pv x y a b c).toArray] w fun e w'=>e= .returned (.tuple #[.agg sZ.toArray, .int .i64 0, .bool false, .iface 93 (.int .i64 8)])/\Below w.heap.size w w':=
 iupd_no X _ x y a b c 8 w (Im.hideE fun W=>uof_none X P x y a b c W hm hp bX bP hf)
theorem iupd_by(X Y V:Nat->Int)(zP zN zL d:Nat->Int)(x y a b c l:Int)(o1 o2 o3:Bool)(w:World)
 (HO:Hid (∀ W,Calls Tryz.prog 79 #[.agg (Pd.svals X 6 6 zP).toArray, .agg (Ud.pv x y a b c).toArray] W fun e w'=>e= .returned (.tuple #[.agg (Up.gvals V 2 zL d).toArray, .bool o1, .nilIface])/\Below W.heap.size W w'))
 (HL:Hid (∀ W,Calls Tryz.prog 119 #[.agg (Up.gvals V 2 zL d).toArray] W fun e w'=>e= .returned (.tuple #[.int .i64 l, .bool o2, .nilIface])/\Below W.heap.size W w'))
 (HX:Hid (∀ W,Calls Tryz.prog 32 #[.agg (Pd.svals X 6 6 zP).toArray, .agg (Ud.pv x y a b c).toArray] W fun e w'=>e= .returned (.tuple #[.agg (Pd.svals Y 6 6 zN).toArray, .bool o3, .nilIface])/\Below W.heap.size W w')):
 Calls Tryz.prog 57 #[.agg (Pd.svals X 6 6 zP).toArray, .agg (Ud.pv x y a b c).toArray] w fun e w'=>e= .returned (.tuple #[.agg (Pd.svals Y 6 6 zN).toArray, .int .i64 l, .bool (o1||o2||o3), .nilIface])/\Below w.heap.size w w':=by
 have t0:=((crow_new w 55 (Pd.svals X 6 6 zP)).alloc (.cells (Ud.pv x y a b c).toArray 69)).alloc (.cells sZ.toArray 55);have m0:=(crow_new1 w (.cells (Pd.svals X 6 6 zP).toArray 55) 69 (Ud.pv x y a b c)).alloc (.cells sZ.toArray 55);have r0:=crow_new2 w (.cells (Pd.svals X 6 6 zP).toArray 55) (.cells (Ud.pv x y a b c).toArray 69) 55 sZ;have B0:Below w.heap.size w (((w.alloc (.cells (Pd.svals X 6 6 zP).toArray 55)).alloc (.cells (Ud.pv x y a b c).toArray 69)).alloc (.cells sZ.toArray 55)):=below_al (below_al (below_al (Below.refl _ _) _) _) _;obtain⟨W,hW⟩: ∃ W,W=((w.alloc (.cells (Pd.svals X 6 6 zP).toArray 55)).alloc (.cells (Ud.pv x y a b c).toArray 69)).alloc (.cells sZ.toArray 55):=⟨_,rfl⟩;rw [← hW] at t0 m0 r0 B0;have HW:=Im.hideE hW;clear hW;go_enter Tryz.func57,Tryz.ntmps57
 go_wp2_with (first
  |(rw [Pd.zeroS];erw [← HW.out];refine St.wpList_load Pd.isS (by rfl) _ (by rfl) _ _ (by rfl) (by with_reducible exact t0) (Pd.svals_len _ _ _ _) ?_)
  |(refine St.wpList_load Up.isSn (by rfl) _ (by rfl) _ _ (by rfl) (by with_reducible exact m0) rfl ?_)
  |fail)
 refine(HO.out _).mono ?_;rintro e w1 ⟨rfl,k1⟩;have t1:=CRow.keep t0 k1;have m1:=CRow.keep m0 k1;have r1:=CRow.keep r0 k1;have B1:=below_tr B0 k1;clear t0 m0 r0 B0 k1 HW HO
 go_wp2_with (first
  |(rw [Up.zeroGp];refine St.wpList_storeNew Up.isGp rfl _ _ (by rfl) _ _ _ (by rfl) (by rfl) (Up.gvals_len _ _ _ _) (Up.gvals_len _ _ _ _) (Up.one_gvals _ _ _ _) ?_;intro w2 n2 k2;have t2:=CRow.keep t1 k2;have m2:=CRow.keep m1 k2;have r2:=CRow.keep r1 k2;have B2:=below_tr B1 k2;clear k2 t1 m1 r1 B1)
  |(refine St.wpList_load Up.isGp (by rfl) _ (by rfl) _ _ (by rfl) (by with_reducible exact n2) (Up.gvals_len _ _ _ _) ?_)
  |fail)
 refine(HL.out _).mono ?_;rintro e w3 ⟨rfl,k3⟩;have t3:=CRow.keep t2 k3;have m3:=CRow.keep m2 k3;have r3:=CRow.keep r2 k3;have B3:=below_tr B2 k3;clear t2 m2 r2 n2 B2 k3 HL
 go_wp2_with (first
  |(refine St.wpList_load Pd.isS (by rfl) _ (by rfl) _ _ (by rfl) (by with_reducible exact t3) (Pd.svals_len _ _ _ _) ?_)
  |(refine St.wpList_load Up.isSn (by rfl) _ (by rfl) _ _ (by rfl) (by with_reducible exact m3) rfl ?_)
  |fail)
 refine(HX.out _).mono ?_;rintro e w4 ⟨rfl,k4⟩;have r4:=CRow.keep r3 k4;have B4:=below_tr B3 k4;clear t3 m3 r3 B3 k4 HX;cases o1<;>cases o2
 all_goals
  go_wp2_with (first
   |(rw [Pd.zeroS];refine St.wpList_storeNew Pd.isS rfl _ _ (by rfl) _ _ _ (by rfl) (by rfl) (Pd.svals_len _ _ _ _) (Pd.svals_len _ _ _ _) (Pd.one_svals _ _ _ _) ?_;intro w6 u6 k6;have r6:=CRow.keep r4 k6;have B6:=below_tr B4 k6;clear k6 r4 B4)
   |(refine St.wpList_load Pd.isS (by rfl) _ (by rfl) _ _ (by rfl) (by with_reducible exact u6) (Pd.svals_len _ _ _ _) ?_)
   |(refine St.wpList_store Pd.isS rfl _ _ (by rfl) _ _ _ (by rfl) (by rfl) (by with_reducible exact r6) (Pd.svals_len _ _ _ _) (Pd.svals_len _ _ _ _) (Pd.one_svals _ _ _ _) ?_)
   |fail)
  exact bodyPost_ret (results_4 Pd.isS Tryz.results57 _ _ (w.heap.size+1+1) _ rfl (CRow.row r6 _) (Pd.svals_len _ _ _ _)) rfl ⟨by simp,St.below_row B6 (by omega) _⟩
theorem iupd_yes(X:Nat->Int)(P:Nat->Nat->Int)(x y a b c:Int)(w:World)(hm:Pr.MayV X P)(hp:Ud.MayN x y a b c)(bX:B64 X)(bP:Mt.B2 P)(hf: ∀ i,i<2->Ld.fine (Ud.oM P a b c) i):
 Calls Tryz.prog 57 #[.agg (Pd.svals X 6 6 (Mt.mz 6 6 P)).toArray, .agg (Ud.pv x y a b c).toArray] w fun e w'=>e= .returned (.tuple #[.agg (Pd.svals (Ud.xN X P x y a b c) 6 6 (Mt.mz 6 6 (Ud.zN P a b c))).toArray, .int .i64 (Lk.ofN (Ud.fL P a b c) (Ud.fD P a b c) (Ud.v2 (Ud.ox X x) (Ud.oy X y))), .bool (Ud.og X P x y a b c||Lk.ofO (Ud.fL P a b c) (Ud.fD P a b c) (Ud.v2 (Ud.ox X x) (Ud.oy X y))||Ud.nO X P x y a b c), .nilIface])/\Below w.heap.size w w':=
 iupd_by X _ _ _ _ _ _ x y a b c _ _ _ _ w (Im.hideE fun W=>uof_yes X P x y a b c W hm hp bX bP hf) (Im.hideE fun W=>k_of W X P x y a b c hf) (Im.hideE fun W=>unext_ok X P x y a b c W (fun W=>uof_yes X P x y a b c W hm hp bX bP hf) hp hf bX bP)
end
section
open Go.RowKit Vc Cn Mx St Mt Im
attribute [local go_sem ↓] Go.wp_at_zero Go.wp_at_succ
namespace El
theorem erow_crow{w:World}{g s n:Nat}{t:TypeId}{S:Nat->List Value}(h:CRow w g t (ecells S n))(hS: ∀ k,k<n->(S k).length=s):ERow w g t s n S:=
 ⟨⟨_,h,by rw [List.size_toArray,ecells_len hS]⟩,fun k hk=>⟨hS k hk,fun j v hv=>by
   have hj:j<s:=by
    rcases Nat.lt_or_ge j s with q|q
    · exact q
    · rw [List.getElem?_eq_none (by rw [hS k hk];exact q)] at hv;cases hv
   exact h.cell (k:=k*s+j) (by rw [ecells_at hS hk hj];exact hv) rfl⟩⟩
end El
theorem imxFa0{p:Prop}(h:p:=by
 go_wp2_with (first
  |(refine St.wpList_store isIg rfl _ _ (by rfl) _ _ [.slice none 0 0, .slice none 0 0] (by rfl) (by rfl) (by with_reducible exact r1) rfl rfl (im1s _ _ _ _ _ _) ?_)
  |fail)
 exact bodyPost_ret (results_3 isIg Tryz.results21 _ _ (W.heap.size+1+1+1) _ rfl (CRow.row r1 _) rfl) rfl (HX.out _ (St.below_row B1 (by omega) _))):p:=h
theorem iseen_by(Q:Ending->World->Prop)(W:World)(mo ro lo ho:Option Addr)(cn mc rq rc n cm sm hcp:Nat)(fl:Int)(K V N:Nat->Int)(A:Nat->Option Addr)(L C:Nat->Nat)(R X:Nat->Nat->Int)(r q:Nat->Int)(z:Nat->Nat->Int)(F:Nat->Nat->Nat->Int)(ch:Nat->Int)(x y a b c:Int)
 (hCk: ∀ w,Below W.heap.size W w->Calls Tryz.prog 12 #[.agg [.slice mo cn mc, .slice ro rq rc, .int .i64 fl].toArray] w fun e w'=>Below w.heap.size w w'/\((¬MayC cn rq K V N L R fl/\e= .returned (errX 1))\/(MayC cn rq K V N L R fl/\e= .returned .nilIface)))
 (t:Bool) (hb:t=true↔n=cn/\MayJ n sm ch X r q F)
 (hMy: ∀ w,Below W.heap.size W w->Calls Tryz.prog 34 #[.agg [.slice lo n cm, .slice ho sm hcp].toArray, .int .i64 (cn:Int)] w fun e w'=>e= .returned (.bool t)/\Below w.heap.size w w')
 (l1:cn<=mc) (l2:mc<=9223372036854775807) (hf0: -9223372036854775808<=fl) (hf1:fl<=9223372036854775807) (hl:Pst W lo n cm X r q z) (hz: ∀ k,k<n->r k=6->q k=6->z k=mz 6 6 (F k)) (bX: ∀ k,B64 (X k)) (bF: ∀ k,B2 (F k)) (hs:Sl W ho sm hcp ch) (bs:B64 ch)
 (q1: ∀ w',Below W.heap.size W w'-> ¬((MayC cn rq K V N L R fl/\n=cn/\MayJ n sm ch X r q F)/\Ud.MayN x y a b c)->Q (.returned (.tuple #[.agg #[.slice none 0 0, .slice none 0 0], .bool false, .iface 93 (.int .i64 1)])) w')
 (q8: ∀ w',Below W.heap.size W w'->((MayC cn rq K V N L R fl/\n=cn/\MayJ n sm ch X r q F)/\Ud.MayN x y a b c)->(¬ ∀ k,k<n->sF F a b c k)->Q (.returned (.tuple #[.agg #[.slice none 0 0, .slice none 0 0], .bool false, .iface 93 (.int .i64 8)])) w')
 (qy: ∀ w' (g:Nat) (vo:Option Addr) (vc:Nat),Below W.heap.size W w'->((MayC cn rq K V N L R fl/\n=cn/\MayJ n sm ch X r q F)/\Ud.MayN x y a b c)->(∀ k,k<n->sF F a b c k)->Pst w' (some ⟨g,0,none⟩) n n (sX X F x y a b c) (fun _=>6) (fun _=>6) (fun k=>mz 6 6 (sP F a b c k))->Sl w' vo n vc (sC n ch fl X F x y a b c)->NewL W (some ⟨g,0,none⟩)->NewL W vo->
  Q (.returned (.tuple #[.agg #[.slice (some ⟨g,0,none⟩) n n, .slice vo n vc], .bool (sO n ch X F x y a b c), .nilIface])) w'):
 Calls Tryz.prog 21 #[.agg #[.slice mo cn mc, .slice ro rq rc, .int .i64 fl], .agg #[.slice lo n cm, .slice ho sm hcp], .agg (Ud.pv x y a b c).toArray] W Q:=by
 have t0:=(((crow_new W 41 [.slice mo cn mc, .slice ro rq rc, .int .i64 fl]).alloc (.cells [.slice lo n cm, .slice ho sm hcp].toArray 34)).alloc (.cells (Ud.pv x y a b c).toArray 69)).alloc (.cells [.slice none 0 0, .slice none 0 0].toArray 34);have m0:=((crow_new1 W (.cells [.slice mo cn mc, .slice ro rq rc, .int .i64 fl].toArray 41) 34 [.slice lo n cm, .slice ho sm hcp]).alloc (.cells (Ud.pv x y a b c).toArray 69)).alloc (.cells [.slice none 0 0, .slice none 0 0].toArray 34);have p0:=(crow_new2 W (.cells [.slice mo cn mc, .slice ro rq rc, .int .i64 fl].toArray 41) (.cells [.slice lo n cm, .slice ho sm hcp].toArray 34) 69 (Ud.pv x y a b c)).alloc (.cells [.slice none 0 0, .slice none 0 0].toArray 34);have r0:=crow_new3 W (.cells [.slice mo cn mc, .slice ro rq rc, .int .i64 fl].toArray 41) (.cells [.slice lo n cm, .slice ho sm hcp].toArray 34) (.cells (Ud.pv x y a b c).toArray 69) 34 [.slice none 0 0, .slice none 0 0];have B0:Below W.heap.size W ((((W.alloc (.cells [.slice mo cn mc, .slice ro rq rc, .int .i64 fl].toArray 41)).alloc (.cells [.slice lo n cm, .slice ho sm hcp].toArray 34)).alloc (.cells (Ud.pv x y a b c).toArray 69)).alloc (.cells [.slice none 0 0, .slice none 0 0].toArray 34)):=below_al (below_al (below_al (below_al (Below.refl _ _) _) _) _) _;obtain⟨w0,hw0⟩: ∃ w0,w0=(((W.alloc (.cells [.slice mo cn mc, .slice ro rq rc, .int .i64 fl].toArray 41)).alloc (.cells [.slice lo n cm, .slice ho sm hcp].toArray 34)).alloc (.cells (Ud.pv x y a b c).toArray 69)).alloc (.cells [.slice none 0 0, .slice none 0 0].toArray 34):=⟨_,rfl⟩;rw [← hw0] at t0 m0 p0 r0 B0;have HW:=Im.hideE hw0;have HCk:=Im.hideE hCk;have HMy:=Im.hideE hMy;have HB:=Im.hideE hb;have HI:=Im.hideE (show Pst W lo n cm X r q z/\(∀ k,k<n->r k=6->q k=6->z k=mz 6 6 (F k))/\(∀ k,B64 (X k))/\(∀ k,B2 (F k))/\Sl W ho sm hcp ch/\B64 ch/\ -9223372036854775808<=fl/\fl<=9223372036854775807 from⟨hl,hz,bX,bF,hs,bs,hf0,hf1⟩);have H1:=Im.hideE q1;have H8:=Im.hideE q8;have HYS:=Im.hideE qy;clear hw0 hCk hMy hb hl hz bX bF hs bs hf0 hf1 q1 q8 qy;go_enter Tryz.func21,Tryz.ntmps21
 go_wp2_with (first
  |(rw [← HW.out])
  |((with_reducible show wpList _ _ _ _ _ _);refine St.wpList_load isCo (by rfl) _ (by rfl) _ _ (by rfl) (by with_reducible exact t0) rfl ?_)
  |fail)
 refine(HCk.out _ B0).mono ?_;rintro e w1 ⟨k1,⟨hn,rfl⟩|⟨hy,rfl⟩⟩
 ·have HX:Hid (∀ w',Below W.heap.size W w'->Q _ w'):=fun w' k=>H1.out w' k (fun e=>hn e.1.1);have r1:=CRow.keep r0 k1;have B1:=below_tr B0 k1;rw [errX_one];clear hn t0 m0 p0 r0 B0 k1 HW HCk HMy HI HB H1 H8 HYS;exact imxFa0
 ·have HY:=Im.hideE hy;have t1:=CRow.keep t0 k1;have m1:=CRow.keep m0 k1;have p1:=CRow.keep p0 k1;have r1:=CRow.keep r0 k1;have B1:=below_tr B0 k1;have d1:w1.cell? ⟨W.heap.size,0,none⟩=some (.slice mo cn mc):=CRow.cell t1 (k:=0) rfl rfl;clear hy t0 m0 p0 r0 B0 k1 HW HCk
  go_wp2_with (first
   |((with_reducible show wpList _ _ _ _ _ _);refine St.wpList_load isIg (by rfl) _ (by rfl) _ _ (by rfl) (by with_reducible exact m1) rfl ?_)
   |fail)
  refine(HMy.out _ B1).mono ?_;rintro e w2 ⟨rfl,k2⟩;have t2:=CRow.keep t1 k2;have m2:=CRow.keep m1 k2;have p2:=CRow.keep p1 k2;have r2:=CRow.keep r1 k2;have B2:=below_tr B1 k2;clear t1 m1 p1 r1 B1 k2 d1 HMy;cases t with
  |false=>
   have HX:Hid (∀ w',Below W.heap.size W w'->Q _ w'):=fun w' k=>H1.out w' k (fun e=>by have:=HB.out.2 e.1.2;cases this);have r1:=r2;have B1:=B2;clear t2 m2 p2 r2 B2 HI HY HB H1 H8 HYS;exact imxFa0
  |true=>
   obtain⟨hcn,hJ⟩:=HB.out.1 rfl;subst hcn;obtain⟨hl,hz,bX,bF,hs,bs,hf0,hf1⟩:=HI.out;obtain rfl:n=sm:=hJ.1;have n1:=HY.out.one;have n4:=HY.out.four;have HFit:=Im.hideE (show MayC n rq K V N L R fl/\n=n/\MayJ n n ch X r q F from⟨HY.out,rfl,hJ⟩);obtain⟨gl,hlo,hlr⟩:=hl.get;obtain rfl:=hlo (by omega);have l3:=hl.le;have l4:=hl.cap
   have HSt:Hid (∀ k,k<n-> ∃ (Yk:Nat->Int) (yr yc:Int) (zN:Nat->Int) (lk:Int) (gk:Bool) (ef:Value),(∀ U,Calls Tryz.prog 57 #[.agg (Pd.svals (X k) 6 6 (mz 6 6 (F k))).toArray, .agg (Ud.pv x y a b c).toArray] U fun e w'=>e= .returned (.tuple #[.agg (Pd.svals Yk yr yc zN).toArray, .int .i64 lk, .bool gk,ef])/\Below U.heap.size U w')/\
    ((Ud.MayN x y a b c/\sF F a b c k/\ef= .nilIface/\gk=sG X F x y a b c k/\lk=sL X F x y a b c k/\Pd.svals Yk yr yc zN=Pd.svals (sX X F x y a b c k) 6 6 (mz 6 6 (sP F a b c k)))\/(¬Ud.MayN x y a b c/\ef= .iface 93 (.int .i64 1))\/(Ud.MayN x y a b c/\ ¬sF F a b c k/\ef= .iface 93 (.int .i64 8)))):=fun k hk=>by
    have hV:=(hJ.2.2 k hk).2.2;by_cases hp:Ud.MayN x y a b c
    ·by_cases hF:sF F a b c k
     ·exact⟨_,_,_,_,_,_,_,fun U=>iupd_yes (X k) (F k) x y a b c U hV hp (bX k) (bF k) hF,Or.inl ⟨hp,hF,rfl,rfl,rfl,rfl⟩⟩
     ·exact⟨_,_,_,_,_,_,_,fun U=>iupd_none (X k) (F k) x y a b c U hV hp (bX k) (bF k) hF,Or.inr (Or.inr ⟨hp,hF,rfl⟩)⟩
    ·exact⟨_,_,_,_,_,_,_,fun U=>iupd_place (X k) (F k) x y a b c U hV hp,Or.inr (Or.inl ⟨hp,rfl⟩)⟩
   have HLR:Hid (∀ k,k<n->W.rangeAt gl (k*44) (Pd.svals (X k) 6 6 (mz 6 6 (F k)))):=fun k hk=>by
    have h:=hlr k hk;obtain⟨e1,e2,_⟩:=hJ.2.2 k hk;rw [hz k hk e1 e2,e1,e2] at h;exact h
   have HWt:=Im.hideE (fun(U:World) (lo:Option Addr) (cl:Nat) (kU:Below W.heap.size W U) (h:Sl U lo n cl (sL X F x y a b c))=>k_weightsN U lo ho n cl n hcp (sL X F x y a b c) ch fl h (sL_b X F x y a b c) (hs.keep kU) bs hf0 hf1);have HML:=Im.hideE (sL_may (show Ch n ch 0 from hJ.2.1) HY.out.lo HY.out.hi X F x y a b c);have hmkS:=makeSt n n4;have hmkI:=makeI n n4;have c0:w2.cell? ⟨W.heap.size+1,0,none⟩=some (.slice (some ⟨gl,0,none⟩) n cm):=CRow.cell m2 (k:=0) rfl rfl;have HC0:Hid (∀ U,Below w2.heap.size w2 U->U.cell? ⟨W.heap.size+1,0,none⟩=some (.slice (some ⟨gl,0,none⟩) n cm)):=fun U k=>CRow.cell (CRow.keep m2 k) (k:=0) rfl rfl;clear hJ hl hz bX bF hs bs hf0 hf1 hlo hlr HI HB HY;go_upto_region 3 with fail
   go_cut [9,10,11] (fun a b o wx=> ∃ g1 g2:Nat,a= .slice (some ⟨g1,0,none⟩) n n/\b= .slice (some ⟨g2,0,none⟩) n n/\o= .bool false/\CRow wx g1 55 (El.ecells (fun _=>sZ) n)/\CRow wx g2 2 (vals n (fun _=>0))/\g1≠g2/\w2.heap.size<=g1/\w2.heap.size<=g2/\Below w2.heap.size w2 wx)
   case first=>
    refine Ru.wp_region_U [] (fun w'=>w'.cell? ⟨W.heap.size+1,0,none⟩=some (.slice (some ⟨gl,0,none⟩) n cm)) (by kernel_rfl) (HC0.out _ (Vc.below_drew' _)) (fun hHeld=> ?_);refine Ru.tk1 0 (.pointer (some ⟨W.heap.size+1,0,none⟩)) hHeld ?_;refine Ru.tk1 1 (.slice (some ⟨gl,0,none⟩) n cm) hHeld ?_;refine Ru.tk1 2 (.int .i64 (n:Int)) hHeld ?_;refine Ru.tk1 4 (.pointer (some ⟨W.heap.size+1,0,none⟩)) hHeld ?_;refine Ru.tk1 5 (.slice (some ⟨gl,0,none⟩) n cm) hHeld ?_;refine Ru.tk1 6 (.int .i64 (n:Int)) hHeld ?_;have D_:=Vc.below_drew' w2;refine Ru.rs [3,7] ?_
    repeat' (first
     |((with_reducible show Ru.AllReadyU _ _ _ _ _ _ _ _ _ _ _);first
      |refine Ru.sp ?_ ?_
      |(refine Ru.co1 (i:=3) (fun K hK=> ?_);go_simp;obtain⟨g1,x_,hg,hx,n1_,l1_,k_⟩:=made D_ 55 (El.ecells (fun _=>sZ) n);(first|rw [← hx]|rw [show(w2.alloc (.cells (El.ecells (fun _=>sZ) n).toArray 55)).drew=x_ from hx.symm]);(try rw [← hg]);(try rw [show w2.heap.size=g1 from hg.symm]);(try have ne_:g1≠g2:=(by have:=CRow.lt n2_;omega));(try replace n2_:=CRow.keep n2_ k_);clear hg hx;replace D_:=below_tr D_ k_;refine Ru.hd hK (HC0.out _ D_) (fun hHeld=> ?_);clear hK K;refine Ru.tk1 8 (.slice (some ⟨g1,0,none⟩) n n) hHeld ?_;(first|refine Ru.rz [7] ?_|skip))
      |(refine Ru.co1 (i:=7) (fun K hK=> ?_);go_simp;obtain⟨g2,x_,hg,hx,n2_,l2_,k_⟩:=made D_ 2 (vals n (fun _=>0));(first|rw [← hx]|rw [show(w2.alloc (.cells (vals n (fun _=>0)).toArray 2)).drew=x_ from hx.symm]);(try rw [← hg]);(try rw [show w2.heap.size=g2 from hg.symm]);(try have ne_:g1≠g2:=(by have:=CRow.lt n1_;omega));(try replace n1_:=CRow.keep n1_ k_);clear hg hx;replace D_:=below_tr D_ k_;refine Ru.hd hK (HC0.out _ D_) (fun hHeld=> ?_);clear hK K;(first|refine Ru.rz [3] ?_|skip)))
     |as_aux_lemma=>(refine Ru.tk1 9 (.slice (some ⟨g2,0,none⟩) n n) hHeld ?_;refine Ru.tk1 10 (.bool false) hHeld ?_;refine Ru.wpAnyU_done (by kernel_rfl) ?_;go_wp2_with fail;go_meet;exact⟨g1,g2,rfl,rfl,rfl,n1_,n2_,ne_,l1_,l2_,D_⟩))
   rename World=>w3;obtain⟨g1,g2,rfl,rfl,rfl,e3,n3,hne,hg1,hg2,k3⟩:=hcut;have E3:=El.erow_crow e3 (fun _ _=>Pd.svals_len _ _ _ _);have t3:=CRow.keep t2 k3;have m3:=CRow.keep m2 k3;have p3:=CRow.keep p2 k3;have r3:=CRow.keep r2 k3;have B3:=below_tr B2 k3;have hr2:=CRow.lt r2;have HL:Hid (∀ U,Ld.But (fun q=>q=g1\/q=g2) w3 U->Below W.heap.size W U/\CRow U W.heap.size 41 [.slice mo n mc, .slice ro rq rc, .int .i64 fl]/\CRow U (W.heap.size+1) 34 [.slice (some ⟨gl,0,none⟩) n cm, .slice ho n hcp]/\CRow U (W.heap.size+1+1) 69 (Ud.pv x y a b c)/\CRow U (W.heap.size+1+1+1) 34 [.slice none 0 0, .slice none 0 0]):=fun U k=>⟨k.below B3 B3.size (fun q e=>by omega),Ld.crowBut t3 k (by omega),Ld.crowBut m3 k (by omega),Ld.crowBut p3 k (by omega),Ld.crowBut r3 k (by omega)⟩;have HG1:Hid (W.heap.size+1+1+1<g1):=(show W.heap.size+1+1+1<g1 by omega);have c3:w3.cell? ⟨W.heap.size+1,0,none⟩=some (.slice (some ⟨gl,0,none⟩) n cm):=CRow.cell m3 (k:=0) rfl rfl;obtain⟨G,hG⟩: ∃ q,q=sG X F x y a b c:=⟨_,rfl⟩;obtain⟨Lg,hLg⟩: ∃ q,q=sL X F x y a b c:=⟨_,rfl⟩;obtain⟨Y,hY⟩: ∃ q,q=sX X F x y a b c:=⟨_,rfl⟩;obtain⟨zP,hzP⟩: ∃ q,q=fun k=>mz 6 6 (sP F a b c k):=⟨_,rfl⟩;obtain⟨zJ,hzJ⟩: ∃ q,q=fun k=>mz 6 6 (F k):=⟨_,rfl⟩
   have HSt:Hid (∀ k,k<n-> ∃ (Yk:Nat->Int) (yr yc:Int) (zN:Nat->Int) (lk:Int) (gk:Bool) (ef:Value),(∀ U,Calls Tryz.prog 57 #[.agg (Pd.svals (X k) 6 6 (zJ k)).toArray, .agg (Ud.pv x y a b c).toArray] U fun e w'=>e= .returned (.tuple #[.agg (Pd.svals Yk yr yc zN).toArray, .int .i64 lk, .bool gk,ef])/\Below U.heap.size U w')/\
    ((Ud.MayN x y a b c/\sF F a b c k/\ef= .nilIface/\gk=G k/\lk=Lg k/\Pd.svals Yk yr yc zN=Pd.svals (Y k) 6 6 (zP k))\/(¬Ud.MayN x y a b c/\ef= .iface 93 (.int .i64 1))\/(Ud.MayN x y a b c/\ ¬sF F a b c k/\ef= .iface 93 (.int .i64 8)))):=by rw [hzJ,hG,hLg,hY,hzP];exact HSt
   have HLR:Hid (∀ k,k<n->W.rangeAt gl (k*44) (Pd.svals (X k) 6 6 (zJ k))):=by rw [hzJ];exact HLR
   have HEq:=Im.hideE (show _/\_/\_/\_ from⟨hG,hLg,hY,hzP⟩);have HAny:Hid (∀ k,anyb G (k+1)=(anyb G k||G k)):=fun _=>rfl;clear t2 m2 p2 r2 B2 k3 e3 t3 m3 p3 r3 B3 hr2 hG hLg hY hzP hzJ hmkS hmkI c0 HC0 hg1 hg2;go_wp2_with fail
   go_loopw [11,45] (fun o i wr=> ∃ (k:Nat) (S:Nat->List Value) (zl:Nat->Int),k<=n/\(¬Ud.MayN x y a b c->k=0)/\i= .int .i64 (k:Int)/\o= .bool (anyb G k)/\(∀ j,j<k->sF F a b c j/\S j=Pd.svals (Y j) 6 6 (zP j)/\zl j=Lg j)/\El.ERow wr g1 55 44 n S/\CRow wr g2 2 (vals n zl)/\Ld.But (fun q=>q=g1\/q=g2) w3 wr) (fun _ i _=>n- (intOf i).toNat)
   case atStart=>exact⟨0,_,_,by omega,fun _=>rfl,rfl,rfl,fun j hj=>by omega,E3,n3,Ld.But.refl _ _⟩
   case round=>
    rename World=>wr;obtain⟨k,S,zl,hk,hk0,rfl,rfl,hS1,eR,nR,bl⟩:=hrel;by_cases h:k<n
    ·obtain⟨Yk,yr,yc,zN,lk,gk,ef,hSk,hcs⟩:=HSt.out k h;obtain⟨BW,tW,mW,pW,rW⟩:=HL.out _ bl;have HSk:=Im.hideE hSk;have HCS:=Im.hideE hcs;have hq:wr.rangeAt gl (k*44) (Pd.svals (X k) 6 6 (zJ k)):=fun j v hv=>keep_cell BW (HLR.out k h j v hv);have HRR:=Im.hideE (show _/\_ from⟨hk0,hS1⟩);have kn:(k:Int)<n:=by omega
     have A1:=Im.hideE (HAny.out k);obtain⟨Xk,hXk⟩: ∃ q,q=X k:=⟨_,rfl⟩;obtain⟨zk,hzk⟩: ∃ q,q=zJ k:=⟨_,rfl⟩;rw [← hXk,← hzk] at hq HSk;clear hSk hcs hXk hzk hk0 hS1 HSt HLR HAny
     go_wp2_with (first
      |((with_reducible show wpList _ _ _ _ _ _);refine St.wpList_part Pd.isS (by rfl) _ (by rfl) _ _ _ (by rfl) (by with_reducible exact hq) (Pd.svals_len _ _ _ _) ?_)
      |(rw [Pd.zeroS];refine St.wpList_storeNew Pd.isS rfl _ _ (by rfl) _ _ _ (by rfl) (by rfl) (Pd.svals_len _ _ _ _) (Pd.svals_len _ _ _ _) (Pd.one_svals _ _ _ _) ?_;intro w5 n5 k5;have p5:=CRow.keep pW k5;clear hq)
      |((with_reducible show wpList _ _ _ _ _ _);refine St.wpList_load Pd.isS (by rfl) _ (by rfl) _ _ (by rfl) (by with_reducible exact n5) (Pd.svals_len _ _ _ _) ?_)
      |((with_reducible show wpList _ _ _ _ _ _);refine St.wpList_load Up.isSn (by rfl) _ (by rfl) _ _ (by rfl) (by with_reducible exact p5) rfl ?_)
      |fail)
     refine(HSk.out _).mono ?_;rintro e w6 ⟨rfl,k6⟩;have e6:=(eR.keep k5).keep k6;have n6:=CRow.keep (CRow.keep nR k5) k6;have b6:=(bl.then k5).then k6
     clear eR nR bl BW tW mW pW rW n5 p5 k5 k6 HSk;rcases HCS.out with⟨hT,hF,hef,hgk,hlk,hsv⟩|⟨hT,hef⟩|⟨hT,hF,hef⟩
     ·subst hef;rw [← hgk] at A1;have HSV:=Im.hideE (show _/\_/\_ from⟨hF,hsv,hlk⟩);have HT:=Im.hideE hT;clear hgk hsv hT hF hlk HCS;obtain⟨qn,hqn⟩: ∃ q,q=anyb G k:=⟨_,rfl⟩;have A2:Hid (anyb G (k+1)=(qn||gk)):=by show _=_;rw [A1.out,hqn]
      rw [← hqn];clear hqn A1;cases qn
      all_goals go_wp2_with (first
       |(rw [Pd.zeroS];refine St.wpList_storeNew Pd.isS rfl _ _ (by rfl) _ _ _ (by rfl) (by rfl) (Pd.svals_len _ _ _ _) (Pd.svals_len _ _ _ _) (Pd.one_svals _ _ _ _) ?_;intro w7 u7 k7;have e7:=e6.keep k7;have n7:=CRow.keep n6 k7;have b7:=b6.then k7;clear e6 n6 b6 k7)
       |((with_reducible show wpList _ _ _ _ _ _);refine St.wpList_load Pd.isS (by rfl) _ (by rfl) _ _ (by rfl) (by with_reducible exact u7) (Pd.svals_len _ _ _ _) ?_)
       |((with_reducible show wpList _ _ _ _ _ _);refine El.wpList_storeE 55 rfl _ _ (by rfl) (Pd.svals Yk yr yc zN) (by rfl) (by rfl) (by with_reducible exact e7) h (Pd.svals_len _ _ _ _) infoSt (Pd.one_svals _ _ _ _) ?_;intro w8 e8 k8;have n8:=Ld.crowBut n7 k8 (fun e=>hne e.symm);have d8:=n8.cell (vals_at (z:=zl) h) rfl;have f8:=n8.free k;have m9:=n8.set k (.int .i64 lk);rw [vals_set] at m9;have M9:=Im.hideE m9;have B9:=Im.hideE ((b7.trans (k8.mono fun q e=>Or.inl e)).set (p:=⟨g2,k,none⟩) (.int .i64 lk) (Or.inr rfl));have E9:=Im.hideE (e8.but ((Ld.But.refl (· =g2) w8).set (p:=⟨g2,k,none⟩) (.int .i64 lk) rfl) hne);clear e7 n7 b7 k8 u7 n8 m9 e8)
       |fail)
      all_goals go_roundw
      all_goals first
       |(simp [intOf];omega)
       |exact⟨k+1,_,_,by omega,fun e=>absurd HT.out e,by go_num,by rw [A2.out];first|rfl|simp,fun j hj=>(by
        by_cases e:j=k
        ·rw [if_pos e,if_pos e,e];exact HSV.out
        ·rw [if_neg e,if_neg e];exact HRR.out.2 j (by omega)),E9.out,M9.out,B9.out⟩
     ·subst hef;have HX:Hid (∀ w',Below W.heap.size W w'->Q _ w'):=fun w' k=>H1.out w' k (fun e=>hT e.2);clear hT HCS e6 n6
      go_wp2_with (first
       |(rw [Pd.zeroS];refine St.wpList_storeNew Pd.isS rfl _ _ (by rfl) _ _ _ (by rfl) (by rfl) (Pd.svals_len _ _ _ _) (Pd.svals_len _ _ _ _) (Pd.one_svals _ _ _ _) ?_;intro w7 u7 k7;obtain⟨B1,_,_,_,r1⟩:=HL.out _ (b6.then k7);clear b6 k7 u7)
       |(refine St.wpList_store isIg rfl _ _ (by rfl) _ _ [.slice none 0 0, .slice none 0 0] (by rfl) (by rfl) (by with_reducible exact r1) rfl rfl (im1s _ _ _ _ _ _) ?_)
       |fail)
      exact bodyPost_ret (results_3 isIg Tryz.results21 _ _ (W.heap.size+1+1+1) _ rfl (CRow.row r1 _) rfl) rfl (HX.out _ (St.below_row B1 (by omega) _))
     ·subst hef;have HX:Hid (∀ w',Below W.heap.size W w'->Q _ w'):=fun w' k'=>H8.out w' k' ⟨HFit.out,hT⟩ (fun e=>hF (e k h));clear hT hF HCS e6 n6
      go_wp2_with (first
       |(rw [Pd.zeroS];refine St.wpList_storeNew Pd.isS rfl _ _ (by rfl) _ _ _ (by rfl) (by rfl) (Pd.svals_len _ _ _ _) (Pd.svals_len _ _ _ _) (Pd.one_svals _ _ _ _) ?_;intro w7 u7 k7;obtain⟨B1,_,_,_,r1⟩:=HL.out _ (b6.then k7);clear b6 k7 u7)
       |(refine St.wpList_store isIg rfl _ _ (by rfl) _ _ [.slice none 0 0, .slice none 0 0] (by rfl) (by rfl) (by with_reducible exact r1) rfl rfl (im1s _ _ _ _ _ _) ?_)
       |fail)
      exact bodyPost_ret (results_3 isIg Tryz.results21 _ _ (W.heap.size+1+1+1) _ rfl (CRow.row r1 _) rfl) rfl (HX.out _ (St.below_row B1 (by omega) _))
    ·obtain rfl:n=k:=by omega
     have hT:Ud.MayN x y a b c:=Classical.byContradiction fun e=>by have:=hk0 e;omega
     have HFs:Hid (∀ j,j<n->sF F a b c j):=fun j hj=>(hS1 j hj).1;have HSS:Hid (∀ j,j<n->S j=Pd.svals (sX X F x y a b c j) 6 6 (mz 6 6 (sP F a b c j))):=fun j hj=>(hS1 j hj).2.1.trans (by rw [HEq.out.2.2.1,HEq.out.2.2.2]);obtain⟨BW,tW,mW,pW,rW⟩:=HL.out _ bl;have HW1:=Im.hideE (HWt.out wr (some ⟨g2,0,none⟩) n BW ((crow_sl nR n4).congr fun j hj=>by rw [(hS1 j hj).2.2,HEq.out.2.1]));have c1:wr.cell? ⟨W.heap.size+1,1,none⟩=some (.slice ho n hcp):=CRow.cell mW (k:=1) rfl rfl;have c2:wr.cell? ⟨W.heap.size,2,none⟩=some (.int .i64 fl):=CRow.cell tW (k:=2) rfl rfl;have HT:=Im.hideE hT;clear hk0 hS1 tW mW pW nR bl hT HSt HLR HWt;go_wp2_with fail
     refine HW1.out.mono ?_;rintro e w7 ⟨vo,vn,vc,oW,ev,rfl,k7,sW,⟨hno,_⟩|⟨_,_,q1,q2,q3⟩,nw⟩
     ·exact absurd ⟨by trivial,HML.out⟩ hno
     obtain rfl:=q1.symm;subst q3;have r7:=CRow.keep rW k7;have B7:=below_tr BW k7;have hrl:=CRow.lt rW;have kU:=Ud.but_row w7 (W.heap.size+1+1+1) ([.slice (some ⟨g1,0,none⟩) n n, .slice vo n vc]:List Value).toArray;have hG1:=HG1.out;have HP5:=Im.hideE (erow_pst (X:=sX X F x y a b c) (r:=fun _=>6) (c:=fun _=>6) (z:=fun j=>mz 6 6 (sP F a b c j)) ((eR.keep k7).but kU (by omega)) n4 HSS.out);have HS5:=Im.hideE (Ld.slBut sW kU (fun x e=>by have:=nw x e;omega));have R5:=Im.hideE (St.below_row B7 (g:=W.heap.size+1+1+1) (by omega) ([.slice (some ⟨g1,0,none⟩) n n, .slice vo n vc]:List Value).toArray);have HNW:Hid (NewL W (some ⟨g1,0,none⟩)/\NewL W vo):=⟨fun x e=>by cases e;show _<=g1;omega,fun x e=>Nat.le_trans BW.size (nw x e)⟩;have HO:Hid (sO n ch X F x y a b c=(anyb G n||oW)):=by show _=_;rw [HEq.out.1,q2];rfl
     have HFin:=Im.hideE (HYS.out _ g1 vo vc R5.out ⟨HFit.out,HT.out⟩ HFs.out HP5.out HS5.out HNW.out.1 HNW.out.2);rw [HO.out] at HFin;obtain⟨qa,hqa⟩: ∃ q,q=anyb G n:=⟨_,rfl⟩;rw [← hqa] at HFin ⊢;clear kU hG1 hrl nw q2 BW B7 eR rW k7 sW hqa HO c1 c2 HW1;cases qa
     all_goals go_wp2_with (first
      |(refine St.wpList_store isIg rfl _ _ (by rfl) _ _ [.slice (some ⟨g1,0,none⟩) n n, .slice vo n vc] (by rfl) (by rfl) (by with_reducible exact r7) rfl rfl (im1s _ _ _ _ _ _) ?_)
      |fail)
     all_goals exact bodyPost_ret (results_3 isIg Tryz.results21 _ _ (W.heap.size+1+1+1) _ rfl (CRow.row r7 _) rfl) rfl (by first|exact HFin.out|(have h:=HFin.out;simpa using h))
theorem im_seen:ISeen:=by
 intro W c s x y a b g hc hs hpv;obtain⟨t,hb⟩:=ex_bool (s.n=c.n/\s.May);have hCk:=fun w (k:Below W.heap.size W w)=>im_check w c (hc.keep k);have hMy:=fun w (k:Below W.heap.size W w)=>imay_any t s c.n w (hs.keep k) hb;obtain⟨mo,cn,mc,K,V,N,ro,rq,rc,A,L,C,R,fl⟩:=c;obtain⟨lo,n,cm,ho,sm,hcp,X,r,q,z,F,ch⟩:=s;refine iseen_by _ W mo ro lo ho cn mc rq rc n cm sm hcp fl K V N A L C R X r q z F ch x y a b g hCk t hb hMy hc.m.le hc.m.cap hc.b.f0 hc.b.f1 hs.st hs.six hs.x hs.f hs.c hs.b ?_ ?_ ?_
 · exact fun w' k hn=>⟨_,Or.inl ⟨hn,rfl,ans_nil k _ _ _⟩⟩
 · exact fun w' k hf hn=>⟨_,Or.inr (Or.inl ⟨hf,hn,rfl,ans_nil k _ _ _⟩)⟩
 · exact fun w' g1 vo vc k hf hy hp hc' h1 h2=>⟨_,Or.inr (Or.inr ⟨hf,hy,rfl,_,_,_,_,_,_,rfl,k,hp,hc',rfl,rfl,h1,h2⟩)⟩
end
section
theorem immPkg:Im.IPkg:=⟨im_check,im_start,im_ahead,im_seen,im_one,im_same⟩
end
end Go.Proofs.YtcefcokpjbebhaaGreatDoor
