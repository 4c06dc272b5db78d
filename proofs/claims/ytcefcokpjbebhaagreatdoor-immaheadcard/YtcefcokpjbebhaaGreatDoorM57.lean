/-
  The document's answer of layer 11 (radomeref11): Step.
-/
import Derived.Test.YtcefcokpjbebhaaGreatDoorMoR
import Derived.Test.YtcefcokpjbebhaaGreatDoorM25
import Derived.Test.YtcefcokpjbebhaaGreatDoorRefK
import Derived.Test.YtcefcokpjbebhaaGreatDoorM3
import Derived.Test.YtcefcokpjbebhaaGreatDoorM28
import Derived.Deep.DeepCutAuto
import Derived.Deep.CutRange
import Derived.RegionTactic
import Derived.ChangeAlike
import Derived.BigRegion
import Derived.Test.YtcefcokpjbebhaaGreatDoorRegU
set_option linter.unusedSimpArgs false
set_option linter.unusedVariables false
set_option maxHeartbeats 8000000
set_option maxRecDepth 20000
namespace Go.Proofs.YtcefcokpjbebhaaGreatDoor
section
open Go.RowKit Vc St Qn Dt Tg Ld Mt Mo
attribute [local go_sem ↓] Go.wp_at_zero Go.wp_at_succ
namespace Mo
def fp(F:Nat->Nat->Int)(p:Nat):Nat->Nat->Int:=fun i j=>if i<p then F i j else 0
theorem fp_zero(F:Nat->Nat->Int)(i j:Nat):(0:Int)=fp F 0 i j:=by unfold fp;rw [if_neg om1]
theorem fp_all(F:Nat->Nat->Int){i:Nat}(h:i<6)(j:Nat):fp F 6 i j=F i j:=by unfold fp;rw [if_pos h]
theorem still_row(d:Int){p:Nat}(hp:p=0\/p=3)(i j:Nat)(hi:i<6)(hj:j<6):put2 (put2 (put2 (fp (tw (stF 0 d)) p) p p 1048576) p (p+1) d) (p+1) (p+1) 1048576 i j=fp (tw (stF 0 d)) (p+3) i j:=by
 rcases hp with rfl|rfl<;>rcases i with _|_|_|_|_|_|i<;>rcases j with _|_|_|_|_|_|j<;>first|rfl|omega
theorem pushed_row(d:Int){p:Nat}(hp:p=0\/p=3)(i j:Nat)(hi:i<6)(hj:j<6):put2 (put2 (put2 (put2 (put2 (put2 (fp (tw (stF 1 d)) p) p p 1048576) p (p+1) d) (p+1) (p+1) 1048576) p (p+2) (hf d)) (p+1) (p+2) d) (p+2) (p+2) 1048576 i j=fp (tw (stF 1 d)) (p+3) i j:=by
 rcases hp with rfl|rfl<;>rcases i with _|_|_|_|_|_|i<;>rcases j with _|_|_|_|_|_|j<;>first|rfl|omega
end Mo
theorem dstep_straight(K R N d:Int)(w:World)(hK:K=0\/K=1)(ht:MayT d):
 Calls Tryz.prog 43 #[.agg #[.int .i64 K, .int .i64 R, .int .i64 N], .int .i64 d] w fun e w'=> ∃ lo cm,e= .returned (.slice lo 6 cm)/\Grid w' lo 6 cm 6 (tw (stF K d))/\Below w.heap.size w w':=by
 have m0:=crow_new w 97 [.int .i64 K, .int .i64 R, .int .i64 N];have B0:=below_al (Below.refl _ w) (.cells [.int .i64 K, .int .i64 R, .int .i64 N].toArray 97);have h1:=sq_in ht;have h2:=hf_in ht;obtain⟨t0,t1⟩:=ht;have H1:=hide (fun W=>dtimes_any d d W om1 om1 om1 om1);have H2:=hide (fun W=>dtimes_any (ml d d) 524288 W om1 om1 om1 om1);have e1:ml (ml d d) 524288=hf d:=rfl;rw [e1] at H2;clear e1 h1 h2;generalize ml d d=q2 at*;obtain⟨hd,hhd⟩: ∃ x,x=hf d:=⟨_,rfl⟩;rw [← hhd] at H2;have HHD:=hide hhd;have HKK:=hide hK;have dK:decide (K<2)=true:=decide_eq_true om1;clear hhd;go_enter Tryz.func43,Tryz.ntmps43
 go_wp2_with fail
 refine(dempty_any _).mono ?_;rintro e w1 ⟨L,cm,G,rfl,hR⟩;have m1:=CRow.keep m0 hR.below;have B1:=below_tr B0 hR.below;go_wp2_with fail
 refine(H1.out _).mono ?_;rintro e w2 ⟨rfl,k2⟩;go_wp2_with fail
 refine(H2.out _).mono ?_;rintro e w3 ⟨rfl,k3⟩;have R3:=(hR.keep k2).keep k3;obtain⟨W0,hW0⟩: ∃ W,W=w.alloc (.cells [.int .i64 K, .int .i64 R, .int .i64 N].toArray 97):=⟨_,rfl⟩;have R3':RwsAt W0.heap.size W0 w3 L cm G 6 6 (fp (tw (stF K d)) 0):=by rw [hW0];exact R3.congr (fun i j _ _=>fp_zero _ i j)
 rw [← hW0] at m0 B0;have capL:=R3'.cap;have capL2:=R3'.cap2;clear hR R3 k2 k3 m1 B1 hK hW0 H1 H2;go_wp2;go_loopw [7] (fun v wr=> ∃ p:Nat,(p=0\/p=3\/p=6)/\v= .int .i64 (p:Int)/\RwsAt W0.heap.size W0 wr L cm G 6 6 (fp (tw (stF K d)) p)) (fun v _=>6- (intOf v).toNat)
 case atStart=>exact⟨0, .inl rfl,rfl,R3'⟩
 case round=>
  rename World=>wo;obtain⟨p,hp,rfl,hO⟩:=hrel;have mO:=CRow.keep m0 hO.below;have c0:wo.cell? ⟨w.heap.size,0,none⟩=some (.int .i64 K):=CRow.cell mO (k:=0) rfl rfl;by_cases h6:p=6
  ·subst h6;go_wp2;go_ret;exact⟨_,_,rfl,(hO.grid om1).congr (fun i j hi hj=>fp_all _ hi j),below_tr B0 hO.below⟩
  ·have hp':p=0\/p=3:=om1;have s0:=hO.set (i:=p) om1 p 1048576;have s1:=s0.set (i:=p) om1 (p+1) d;have s2:=s1.set (i:=p+1) om1 (p+1) 1048576;have l0:=hO.cellL (k:=p) om1;have l1:=hO.cellL (k:=p+1) om1;have a0:=hO.cell (i:=p) (j:=p) om1 om1;have a1:=hO.cell (i:=p) (j:=p+1) om1 om1;have a2:=hO.cell (i:=p+1) (j:=p+1) om1 om1;have f0:=hO.free (i:=p) om1 p;have f1:=hO.free (i:=p) om1 (p+1);have f2:=hO.free (i:=p+1) om1 (p+1);have ne:=hO.far p (p+1) om1 om1 om1;have p6:p<6:=om1;have p6':(p:Int)+1<6:=om1;have pc:(p:Int)<6:=om1;have cN:w.heap.size<wo.heap.size:=CRow.lt mO;generalize fp (tw (stF K d)) p p p=v0 at a0;generalize fp (tw (stF K d)) p p (p+1)=v1 at a1;generalize fp (tw (stF K d)) p (p+1) (p+1)=v2 at a2;obtain⟨g0,hg0⟩: ∃ g,g=G p:=⟨_,rfl⟩;obtain⟨g1,hg1⟩: ∃ g,g=G (p+1):=⟨_,rfl⟩;rw [← hg0] at l0 a0 a1 f0 f1 ne;rw [← hg1] at l1 a2 f2 ne;rw [← hg0] at s0 s1 s2;rw [← hg1] at s2;have HG0:=hide hg0;have HG1:=hide hg1;clear hg0 hg1;go_wp2;go_region
   have s3:=s2.keep (Vc.below_drew' _);obtain⟨W3,hW3⟩: ∃ W,W=(((wo.setCell ⟨g0,p,none⟩ (.int .i64 1048576)).setCell ⟨g0,p+1,none⟩ (.int .i64 d)).setCell ⟨g1,p+1,none⟩ (.int .i64 1048576)).drew:=⟨_,rfl⟩;rw [← hW3] at s3 ⊢;have m3:=CRow.keep m0 s3.below;have c3:W3.cell? ⟨w.heap.size,0,none⟩=some (.int .i64 K):=CRow.cell m3 (k:=0) rfl rfl;clear hW3 s0 s1 s2 l0 l1 a0 a1 a2 f0 f1 f2 c0 mO cN hO m3;rcases HKK.out with e|e
   ·subst e;have s4:=s3.congr (fun i j hi hj=>still_row d hp' i j hi hj);clear s3;go_wp2;go_roundw
    case rel=>exact⟨p+3,om1,by go_num,s4⟩
    case measure=>simp [intOf];omega
   ·subst e;have l0:=s3.cellL (k:=p) om1;have l1:=s3.cellL (k:=p+1) om1;have l2:=s3.cellL (k:=p+2) om1;have a0:=s3.cell (i:=p) (j:=p+2) om1 om1;have a1:=s3.cell (i:=p+1) (j:=p+2) om1 om1;have a2:=s3.cell (i:=p+2) (j:=p+2) om1 om1;have f0:=s3.free (i:=p) om1 (p+2);have f1:=s3.free (i:=p+1) om1 (p+2);have f2:=s3.free (i:=p+2) om1 (p+2);have n02:=s3.far p (p+2) om1 om1 om1;have n12:=s3.far (p+1) (p+2) om1 om1 om1;have u0:=s3.set (i:=p) om1 (p+2) hd;have u1:=u0.set (i:=p+1) om1 (p+2) d;have u2:=u1.set (i:=p+2) om1 (p+2) 1048576;obtain⟨g2,hg2⟩: ∃ g,g=G (p+2):=⟨_,rfl⟩;rw [← HG0.out] at l0 a0 f0 n02 u0 u1 u2;rw [← HG1.out] at l1 a1 f1 n12 u1 u2;rw [← hg2] at l2 a2 f2 n02 n12 u2;have HG2:=hide hg2;generalize put2 (put2 (put2 (fp (tw (stF 1 d)) p) p p 1048576) p (p+1) d) (p+1) (p+1) 1048576 p (p+2)=v0 at a0;generalize put2 (put2 (put2 (fp (tw (stF 1 d)) p) p p 1048576) p (p+1) d) (p+1) (p+1) 1048576 (p+1) (p+2)=v1 at a1;generalize put2 (put2 (put2 (fp (tw (stF 1 d)) p) p p 1048576) p (p+1) d) (p+1) (p+1) 1048576 (p+2) (p+2)=v2 at a2;have p6b:(p:Int)+2<6:=om1;have u3:=u2.keep (Vc.below_drew' _);rw [HHD.out] at u3;have u4:=u3.congr (fun i j hi hj=>pushed_row d hp' i j hi hj);rw [← HHD.out] at u4;clear s3 u0 u1 u2 u3 hg2;go_wp2;go_region
    go_wp2;go_roundw
    case rel=>exact⟨p+3,om1,by go_num,u4⟩
    case measure=>simp [intOf];omega
end
section
open Go.RowKit Vc St Qn Dt Tg Ld Mt Mo Dec Nv
attribute [local go_sem ↓] Go.wp_at_zero Go.wp_at_succ
namespace Mo
theorem put_new{B:Nat}{w0 W:World}{L cm:Nat}{G:Nat->Nat}{F:Nat->Nat->Int}(h:RwsAt B w0 W L cm G 6 6 F){i:Nat}(hi:i<6)(f:Nat->Int):
 RwsAt B w0 ((W.alloc (.cells (vals 6 f).toArray 2)).setCell ⟨L,i,none⟩ (.slice (some ⟨W.heap.size,0,none⟩) 6 6)) L cm (fun k=>if k=i then W.heap.size else G k) 6 6 (fun a=>if a=i then f else F a):=by
 have k:=below_al (Below.refl _ W) (.cells (vals 6 f).toArray 2);have hl:L<W.heap.size:=by obtain⟨cur,h1,_⟩:=h.list;exact heap_lt h1
 exact(h.keep k).put hi (heap_alloc_new W _) h.base om1 (fun q hq e=>by have:=heap_lt (h.row q hq);omega)
theorem sine_of(R d:Int):bnd (Tn.rne (sine (tn R d)) ((2^10:Nat):Int))=sV R d:=by
 rw [(sV_in R d).2.1];have h:=(mv_in (sine_bd (tn R d)).1 (sine_bd (tn R d)).2).2.2;show clamp (rne (sine (tn R d)) 1024)=_;exact clampId om1 om1
theorem cosine_of(R d:Int):bnd (Tn.rne (cosine (tn R d)) ((2^10:Nat):Int))=cV R d:=by
 rw [(cV_in R d).2.1];have h:=(mv_in (cosine_bd (tn R d)).1 (cosine_bd (tn R d)).2).2.2;show clamp (rne (cosine (tn R d)) 1024)=_;exact clampId om1 om1
theorem len_rne{n:Int}(h0: -5215406418<=n)(h1:n<=5215406418):(digs n.natAbs).length<=700000/\(digs (Tn.rne n ((2^10:Nat):Int)).natAbs).length<=1000000:=by
 have h:=(mv_in h0 h1).2.2;have e:Tn.rne n ((2^10:Nat):Int)=rne n 1024:=rfl;rw [e];have l1:=length_digs_le (show n.natAbs<10^19 by omega);have l2:=length_digs_le (show(rne n 1024).natAbs<10^19 by omega);omega
theorem lit6(a b c d e f:Int):(#[.int .i64 a, .int .i64 b, .int .i64 c, .int .i64 d, .int .i64 e, .int .i64 f]:Array Value)=(vals 6 (row6 a b c d e f)).toArray:=rfl
theorem rsine_same(t:Int):rsine t=sine t:=rfl
theorem rcosine_same(t:Int):rcosine t=cosine t:=rfl
end Mo
theorem dstep_turn(K R N d:Int)(w:World)(hK:Turns K)(hR:MayR R)(ht:MayT d):
 Calls Tryz.prog 43 #[.agg #[.int .i64 K, .int .i64 R, .int .i64 N], .int .i64 d] w fun e w'=> ∃ lo cm,e= .returned (.slice lo 6 cm)/\Grid w' lo 6 cm 6 (stepF K R d)/\Below w.heap.size w w':=by
 have m0:=crow_new w 97 [.int .i64 K, .int .i64 R, .int .i64 N];have B0:=below_al (Below.refl _ w) (.cells [.int .i64 K, .int .i64 R, .int .i64 N].toArray 97);have h1:=sq_in ht;have h2:=hf_in ht;have tb:=tn_bd R d;have sb:=sine_bd (tn R d);have cb:=cosine_bd (tn R d);have sV1:=(sV_in R d).2.2;have cV1:=(cV_in R d).2.2;have wV1:=wV_in hR;have pV1:=(pV_in (d:=d) hR).2;have qV1:=(qV_in (d:=d) hR).2;obtain⟨t0,t1⟩:=id ht;obtain⟨r0,r1⟩:=id hR;have H1:=hide (fun W=>dtimes_any d d W om1 om1 om1 om1);have H2:=hide (fun W=>dtimes_any (ml d d) 524288 W om1 om1 om1 om1);have HB:=hide (fun W=>rboth_any (tn R d) W tb.1 tb.2);rw [rsine_same,rcosine_same] at HB;have HS:=hide (fun v W (h:IsNum W v (sine (tn R d)))=>half_any v (sine (tn R d)) 10 W om1 (len_rne sb.1 sb.2).1 (len_rne sb.1 sb.2).2 h);have HC:=hide (fun v W (h:IsNum W v (cosine (tn R d)))=>half_any v (cosine (tn R d)) 10 W om1 (len_rne cb.1 cb.2).1 (len_rne cb.1 cb.2).2 h);rw [sine_of] at HS;rw [cosine_of] at HC;have HO1:=hide (fun W=>of_any (sine (tn R d)) W om1 om1);have HO2:=hide (fun W=>of_any (cosine (tn R d)) W om1 om1);have HSm:=hide (fun v W (h:IsNum W v (wV R))=>small_any v (wV R) W om1 om1 h);have HP:=hide (fun W=>dby_any (sV R d) (wV R) W om1 om1 om1 om1 om1);have HQ:=hide (fun W=>dby_any (1048576- cV R d) (wV R) W om1 om1 om1 om1 om1);have e2:dv (sV R d) (wV R)=pV R d:=rfl;have e3:dv (1048576- cV R d) (wV R)=qV R d:=rfl;rw [e2] at HP;rw [e3] at HQ;obtain⟨rn,hrn⟩: ∃ rn:Nat,R=(rn:Int):=⟨R.toNat,om1⟩;have HRd:=hide (fun W=>rrad_any rn 20 W om1 om1);have e1:Tn.rad (rn:Int) 20=wV R:=by rw [← hrn];rfl
 rw [e1,← hrn] at HRd;clear e1 hrn;have mm0:0<=R*d:=Int.mul_nonneg om1 om1;have mm1:R*d<=268435456*67108864:=Int.mul_le_mul r1 t1 om1 om1;have HM:Hid (tn R d=R*d/1048576%4294967296):=rfl;have HF2:Hid (K=2->stepF K R d=arcF (-(sV R d)) (cV R d) (pV R d) (-(qV R d))):=fun e=>by unfold stepF;rw [if_pos e]
 have HF3:Hid (K=3->stepF K R d=arcF (sV R d) (cV R d) (pV R d) (qV R d)):=fun e=>by unfold stepF;rw [if_neg om1,if_pos e]
 obtain⟨M,hM⟩: ∃ M,M=R*d:=⟨_,rfl⟩;have wM:IntKind.i64.wrap (R*d)=M:=by rw [IntKind.wrap_i64,hM];omega
 rw [← hM] at HM mm0 mm1;obtain⟨M1,hM1⟩: ∃ M1,M1=M/1048576:=⟨_,rfl⟩;have q1:M.tdiv 1048576=M1:=by rw [hM1];exact Int.tdiv_eq_ediv_of_nonneg mm0
 have q1':M/1048576=M1:=hM1.symm;have q2:M1.tmod 4294967296=tn R d:=by rw [HM.out,← hM1];exact Int.tmod_eq_emod_of_nonneg om1
 have q2':M1%4294967296=tn R d:=by rw [HM.out,← hM1]
 have mb0:0<=M1:=om1;have mb1:M1<=17179869184:=om1;clear e2 e3 hM hM1 h1 h2 HM;generalize tn R d=t at*;generalize sine t=S at*;generalize cosine t=C at*;generalize sV R d=s at*;generalize cV R d=c at*;generalize wV R=v at*;generalize pV R d=p at*;generalize qV R d=q at*;generalize ml d d=u2 at*;generalize ml u2 524288=u3 at*;obtain⟨u,hu⟩: ∃ u,u=1048576- c:=⟨_,rfl⟩;have wu:IntKind.i64.wrap (1048576- c)=u:=by rw [IntKind.wrap_i64,hu];omega
 rw [← hu] at HQ;have HKK:=hide hK;have dK:decide (K<2)=false:=decide_eq_false (by rcases hK with rfl|rfl<;>omega)
 obtain⟨F,hF⟩: ∃ F,F=stepF K R d:=⟨_,rfl⟩;rw [← hF] at HF2 HF3 ⊢;clear hu hK hF;go_enter Tryz.func43,Tryz.ntmps43
 go_wp2_with fail
 refine(dempty_any _).mono ?_;rintro e w1 ⟨L,cm,G,rfl,hR1⟩;obtain⟨W0,hW0⟩: ∃ W,W=w.alloc (.cells [.int .i64 K, .int .i64 R, .int .i64 N].toArray 97):=⟨_,rfl⟩;have R1:RwsAt W0.heap.size W0 w1 L cm G 6 6 (fun _ _=>0):=by rw [hW0];exact hR1
 rw [← hW0] at m0 B0;clear hR1 hW0;go_wp2_with fail
 refine(H1.out _).mono ?_;rintro e w2 ⟨rfl,k2⟩;go_wp2_with fail
 refine(H2.out _).mono ?_;rintro e w3 ⟨rfl,k3⟩;have R3:=(R1.keep k2).keep k3;have m3:=CRow.keep m0 R3.below;have c0:w3.cell? ⟨w.heap.size,0,none⟩=some (.int .i64 K):=CRow.cell m3 (k:=0) rfl rfl;have c1:w3.cell? ⟨w.heap.size,1,none⟩=some (.int .i64 R):=CRow.cell m3 (k:=1) rfl rfl;clear R1 k2 k3 H1 H2;go_wp2;go_loopw [7] (fun v wr=>v= .int .i64 0/\wr=w3) (fun _ _=>0)
 case atStart=>exact⟨rfl,rfl⟩
 case round=>
  obtain⟨rfl,rfl⟩:=hrel;go_wp2_with fail
  refine(HB.out _).mono ?_;rintro e w4 ⟨rfl,k4⟩;have R4:=R3.keep k4;go_wp2_with fail
  refine(HO1.out _).mono ?_;rintro e w5 ⟨v5,rfl,i5,k5⟩;have R5:=R4.keep k5;go_wp2_with fail
  refine(HS.out _ _ i5).mono ?_;rintro e w6 ⟨rfl,k6⟩;have R6:=R5.keep k6;go_wp2_with fail
  refine(HO2.out _).mono ?_;rintro e w7 ⟨v7,rfl,i7,k7⟩;have R7:=R6.keep k7;go_wp2_with fail
  refine(HC.out _ _ i7).mono ?_;rintro e w8 ⟨rfl,k8⟩;have R8:=R7.keep k8;have m8:=CRow.keep m0 R8.below;have c18:w8.cell? ⟨w.heap.size,1,none⟩=some (.int .i64 R):=CRow.cell m8 (k:=1) rfl rfl;clear R4 R5 R6 R7 R3 m3 c0 c1 k4 k5 k6 k7 k8 i5 i7 HB HO1 HO2 HS HC;go_wp2_with fail
  refine(HRd.out _).mono ?_;rintro e w9 ⟨v9,rfl,i9,k9⟩;have R9:=R8.keep k9;go_wp2_with fail
  refine(HSm.out _ _ i9).mono ?_;rintro e w10 ⟨rfl,k10⟩;have R10:=R9.keep k10;go_wp2_with fail
  refine(HP.out _).mono ?_;rintro e w11 ⟨rfl,k11⟩;have R11:=R10.keep k11;go_wp2_with fail
  refine(HQ.out _).mono ?_;rintro e w12 ⟨rfl,k12⟩;have R12:=R11.keep k12;have m12:=CRow.keep m0 R12.below;have c12:w12.cell? ⟨w.heap.size,0,none⟩=some (.int .i64 K):=CRow.cell m12 (k:=0) rfl rfl;clear R8 R9 R10 R11 m8 c18 k9 k10 k11 k12 i9 HRd HSm HP HQ m12;go_upto_if 122 with fail
  go_cut [17,11] (fun a b wx=> ∃ qq ss:Int,a= .int .i64 qq/\b= .int .i64 ss/\F=arcF ss c p qq/\(-9000000000<=qq/\qq<=9000000000)/\(-9000000000<=ss/\ss<=9000000000)/\wx=w12)
  case first=>
   rcases HKK.out with e|e
   ·subst e;have hFx:=hide (HF2.out rfl);have nq:IntKind.i64.wrap (-q)= -q:=by rw [IntKind.wrap_i64];omega
    have ns:IntKind.i64.wrap (-s)= -s:=by rw [IntKind.wrap_i64];omega
    go_wp2;go_meet;exact⟨-q,-s,rfl,rfl,hFx.out,om1,om1,rfl⟩
   ·subst e;have hFx:=hide (HF3.out rfl);go_wp2;go_meet;exact⟨q,s,rfl,rfl,hFx.out,om1,om1,rfl⟩
  obtain⟨qq,ss,rfl,rfl,hF,hqq,hss,rfl⟩:=hcut;have HFF:=hide hF;clear HF2 HF3 hF c12;have nq:IntKind.i64.wrap (-qq)= -qq:=by rw [IntKind.wrap_i64];omega
  have ns:IntKind.i64.wrap (-ss)= -ss:=by rw [IntKind.wrap_i64];omega
  have l0:=R12.keep (below_al (Below.refl _ wc) (.cells #[.int .i64 1048576, .int .i64 p, .int .i64 0, .int .i64 0, .int .i64 qq, .int .i64 0] 2));have P0:=put_new R12 (i:=0) om1 (row6 1048576 p 0 0 qq 0);obtain⟨Y0,hY0⟩: ∃ Y,Y=wc.alloc (.cells #[.int .i64 1048576, .int .i64 p, .int .i64 0, .int .i64 0, .int .i64 qq, .int .i64 0] 2):=⟨_,rfl⟩;rw [← lit6 1048576 p 0 0 qq 0,← hY0] at P0;have Q0:=hide P0;rw [← hY0] at l0;have a0:=l0.cellL (k:=0) om1;have f0:=l0.freeL 0;have HY0:=hide hY0;clear hY0 l0 P0;go_upto_region 20 with(first|(rw [← HY0.out])|fail)
  obtain⟨X0,hX0⟩: ∃ X,X=Y0.setCell ⟨L,0,none⟩ (.slice (some ⟨wc.heap.size,0,none⟩) 6 6):=⟨_,rfl⟩;have S0:=Q0.out;rw [← hX0] at S0 ⊢;clear hX0 Q0 a0 f0 HY0 R12;have l1:=S0.keep (below_al (Below.refl _ X0) (.cells #[.int .i64 0, .int .i64 c, .int .i64 0, .int .i64 0, .int .i64 ss, .int .i64 0] 2));have P1:=put_new S0 (i:=1) om1 (row6 0 c 0 0 ss 0);obtain⟨Y1,hY1⟩: ∃ Y,Y=X0.alloc (.cells #[.int .i64 0, .int .i64 c, .int .i64 0, .int .i64 0, .int .i64 ss, .int .i64 0] 2):=⟨_,rfl⟩;rw [← lit6 0 c 0 0 ss 0,← hY1] at P1;have Q1:=hide P1;rw [← hY1] at l1;have a1:=l1.cellL (k:=1) om1;have f1:=l1.freeL 1;have HY1:=hide hY1;clear hY1 l1 P1;go_upto_region 21 with(first|(rw [← HY1.out])|fail)
  obtain⟨X1,hX1⟩: ∃ X,X=Y1.setCell ⟨L,1,none⟩ (.slice (some ⟨X0.heap.size,0,none⟩) 6 6):=⟨_,rfl⟩;have S1:=Q1.out;rw [← hX1] at S1 ⊢;clear hX1 Q1 a1 f1 HY1 S0;have l2:=S1.keep (below_al (Below.refl _ X1) (.cells #[.int .i64 0, .int .i64 (-qq), .int .i64 0, .int .i64 1048576, .int .i64 p, .int .i64 0] 2));have P2:=put_new S1 (i:=3) om1 (row6 0 (-qq) 0 1048576 p 0);obtain⟨Y2,hY2⟩: ∃ Y,Y=X1.alloc (.cells #[.int .i64 0, .int .i64 (-qq), .int .i64 0, .int .i64 1048576, .int .i64 p, .int .i64 0] 2):=⟨_,rfl⟩;rw [← lit6 0 (-qq) 0 1048576 p 0,← hY2] at P2;have Q2:=hide P2;rw [← hY2] at l2;have a2:=l2.cellL (k:=3) om1;have f2:=l2.freeL 3;have HY2:=hide hY2;clear hY2 l2 P2;go_upto_region 22 with(first|(rw [← HY2.out])|fail)
  obtain⟨X2,hX2⟩: ∃ X,X=Y2.setCell ⟨L,3,none⟩ (.slice (some ⟨X1.heap.size,0,none⟩) 6 6):=⟨_,rfl⟩;have S2:=Q2.out;rw [← hX2] at S2 ⊢;clear hX2 Q2 a2 f2 HY2 S1;have l3:=S2.keep (below_al (Below.refl _ X2) (.cells #[.int .i64 0, .int .i64 (-ss), .int .i64 0, .int .i64 0, .int .i64 c, .int .i64 0] 2));have P3:=put_new S2 (i:=4) om1 (row6 0 (-ss) 0 0 c 0);obtain⟨Y3,hY3⟩: ∃ Y,Y=X2.alloc (.cells #[.int .i64 0, .int .i64 (-ss), .int .i64 0, .int .i64 0, .int .i64 c, .int .i64 0] 2):=⟨_,rfl⟩;rw [← lit6 0 (-ss) 0 0 c 0,← hY3] at P3;have Q3:=hide P3;rw [← hY3] at l3;have a3:=l3.cellL (k:=4) om1;have f3:=l3.freeL 4;have HY3:=hide hY3;clear hY3 l3 P3;go_upto_region 23 with(first|(rw [← HY3.out])|fail)
  obtain⟨X3,hX3⟩: ∃ X,X=Y3.setCell ⟨L,4,none⟩ (.slice (some ⟨X2.heap.size,0,none⟩) 6 6):=⟨_,rfl⟩;have S3:=Q3.out;rw [← hX3] at S3 ⊢;clear hX3 Q3 a3 f3 HY3 S2;go_wp2;go_ret;refine⟨_,_,rfl,(S3.grid om1).congr (fun i j hi hj=> ?_),below_tr B0 S3.below⟩;rw [HFF.out];rcases i with _|_|_|_|_|_|i
  ·rfl
  ·rfl
  ·rcases j with _|_|_|_|_|_|j<;>first|rfl|omega
  ·rfl
  ·rfl
  ·rcases j with _|_|_|_|_|_|j<;>first|rfl|omega
  ·omega
end
section
open Go.RowKit Vc St Qn Dt Tg Ld Mt Mo Dec Nv
attribute [local go_sem ↓] Go.wp_at_zero Go.wp_at_succ
namespace Mo
def pn(K d N:Int)(p i j:Nat):Nat->Nat->Int:=fun a b=>if a/3=b/3/\(a<p+i\/a=p+i/\b<p+j) then ng K d N (a%3) (b%3) else 0
theorem pn_zero(K d N:Int)(a b:Nat):(0:Int)=pn K d N 0 0 0 a b:=by unfold pn;rw [if_neg om1]
theorem pn_next(K d N:Int){p i j:Nat}(hp:p=0\/p=3)(hi:i<3)(hj:j<3)(a b:Nat):put2 (pn K d N p i j) (p+i) (p+j) (ng K d N i j) a b=pn K d N p i (j+1) a b:=by
 unfold put2 pn;by_cases e:a=p+i/\b=p+j
 · obtain⟨rfl,rfl⟩:=e;rw [if_pos ⟨rfl,rfl⟩,if_pos om1];have e1:(p+i)%3=i:=om1;have e2:(p+j)%3=j:=om1;rw [e1,e2]
 · rw [if_neg e];by_cases h:a/3=b/3/\(a<p+i\/a=p+i/\b<p+j)
   · rw [if_pos h,if_pos om1]
   · rw [if_neg h,if_neg om1]
theorem pn_row(K d N:Int){p i:Nat}(hp:p=0\/p=3)(hi:i<3)(a b:Nat):pn K d N p i 3 a b=pn K d N p (i+1) 0 a b:=by
 unfold pn;by_cases h:a/3=b/3/\(a<p+i\/a=p+i/\b<p+3)
 · rw [if_pos h,if_pos om1]
 · rw [if_neg h,if_neg om1]
theorem pn_blk(K d N:Int){p:Nat}(hp:p=0\/p=3)(a b:Nat):pn K d N p 3 0 a b=pn K d N (p+3) 0 0 a b:=by
 unfold pn;by_cases h:a/3=b/3/\(a<p+3\/a=p+3/\b<p+0)
 · rw [if_pos h,if_pos om1]
 · rw [if_neg h,if_neg om1]
def dn(K d N:Int)(k:Nat):Nat->Nat->Int:=fun a b=>tw (ng K d N) a b+if a=b/\a<k then 16 else 0
theorem dn_zero(K d N:Int){a:Nat}(b:Nat)(ha:a<6):pn K d N 6 0 0 a b=dn K d N 0 a b:=by
 unfold pn dn tw;rw [if_neg (show ¬(a=b/\a<0) by omega),Int.add_zero];by_cases h:a/3=b/3
 · rw [if_pos h,if_pos ⟨h,om1⟩]
 · rw [if_neg h,if_neg (fun e=>h e.1)]
theorem dn_next(K d N:Int)(k a b:Nat):put2 (dn K d N k) k k (tw (ng K d N) k k+16) a b=dn K d N (k+1) a b:=by
 unfold put2 dn;by_cases e:a=k/\b=k
 · obtain⟨rfl,rfl⟩:=e;rw [if_pos ⟨rfl,rfl⟩,if_pos ⟨rfl,om1⟩]
 · rw [if_neg e];by_cases h:a=b/\a<k
   · rw [if_pos h,if_pos om1]
   · rw [if_neg h,if_neg om1]
theorem dn_at(K d N:Int)(k:Nat):dn K d N k k k=tw (ng K d N) k k:=by unfold dn;rw [if_neg om1];omega
theorem dn_end(K d N:Int){a:Nat}(b:Nat)(ha:a<6):dn K d N 6 a b=tw (nz K d N) a b:=by
 unfold dn tw nz;by_cases h:a/3=b/3
 · rw [if_pos h,if_pos h];by_cases e:a=b
   · rw [if_pos ⟨e,ha⟩,if_pos om1]
   · rw [if_neg (fun q=>e q.1),if_neg om1]
 · rw [if_neg h,if_neg h,if_neg om1];rfl
theorem tn_in(K:Int){d N:Int}(h:MayT d)(n:MayN N)(k:Nat):0<=tw (ng K d N) k k/\tw (ng K d N) k k<=4503599627370496:=by
 unfold tw;rw [if_pos rfl];exact(ng_in K h n _ _).2.2
structure DSt(W0 wr:World)(L cm:Nat)(G:Nat->Nat)(bg:Nat)(K d:Int)(F:Nat->Nat->Int):Prop where
 r:RwsAt W0.heap.size W0 wr L cm G 6 6 F
 g:CRow wr bg 2 (vals 3 (gv K d))
 ne: ∀ k,k<6->bg≠G k
theorem DSt.keep{W0 wr w':World}{L cm:Nat}{G:Nat->Nat}{bg:Nat}{K d:Int}{F:Nat->Nat->Int}(h:DSt W0 wr L cm G bg K d F)(k:Below wr.heap.size wr w'):DSt W0 w' L cm G bg K d F:=⟨h.r.keep k,CRow.keep h.g k,h.ne⟩
theorem DSt.set{W0 wr:World}{L cm:Nat}{G:Nat->Nat}{bg:Nat}{K d:Int}{F:Nat->Nat->Int}(h:DSt W0 wr L cm G bg K d F){i:Nat}(hi:i<6)(j:Nat)(x:Int):DSt W0 (wr.setCell ⟨G i,j,none⟩ (.int .i64 x)) L cm G bg K d (put2 F i j x):=⟨h.r.set hi j x,CRow.other h.g _ (h.ne i hi),h.ne⟩
theorem DSt.congr{W0 wr:World}{L cm:Nat}{G:Nat->Nat}{bg:Nat}{K d:Int}{F F':Nat->Nat->Int}(h:DSt W0 wr L cm G bg K d F)(e: ∀ i j,i<6->j<6->F i j=F' i j):DSt W0 wr L cm G bg K d F':=⟨h.r.congr e,h.g,h.ne⟩
theorem sl_at{w:World}{b:Nat}{x:Int}(h:w.cell? ⟨b,0,none⟩=some (.int .i64 x)):Sl w (some ⟨b,0,none⟩) 1 1 (fun _=>x):=Vc.Sl.one h
theorem bnd_small{z:Int}(h0:0<=z)(h1:z<=4611686018427387903):(if 4611686018427387903<z then(4611686018427387903:Int) else if z< -4611686018427387903 then-4611686018427387903 else z)=z/\(decide (4611686018427387903<z)||decide (z< -4611686018427387903))=false:=by
 refine⟨by rw [if_neg om1,if_neg om1], ?_⟩;rw [decide_eq_false om1,decide_eq_false om1];rfl
end Mo
theorem movFa1{p:Prop}(h:p:=by
 rintro _ w5 ⟨rfl,k5⟩;have K5:=below_tr b2 k5;go_wp2_with fail
 refine hK1.out _ _ ⟨keep_cell K5 cA,keep_cell K5 cB⟩ (fun hHeld=> ?_);clear hK1 K1;try simp only [Act.put,List.getElem_toArray,List.getElem_cons_zero,List.getElem_cons_succ,List.setIfInBounds_toArray,List.set_cons_zero,List.set_cons_succ]
 refine Ru.tk2 11 (.tuple #[.int .i64 AB, .bool false]) hHeld ?_;refine Ru.tk2 12 (.int .i64 AB) hHeld ?_;refine Ru.tk2 13 (.bool false) hHeld ?_;refine Ru.tk2 14 (.int .i64 AB) hHeld ?_;refine Ru.rs [15] ?_;refine Ru.AllReadyU.cons2 rfl (by kernel_rfl) (fun K1 hK1=> ?_) Ru.AllReadyU.nil;go_simp;refine hK1.out _ _ ?_;clear hK1 K1;try simp only [Act.put,List.getElem_toArray,List.getElem_cons_zero,List.getElem_cons_succ,List.setIfInBounds_toArray,List.set_cons_zero,List.set_cons_succ]
 refine wpAny_done (by kernel_rfl) ?_ _;go_wp2;go_meet
 exact⟨rfl,rfl,K5⟩):p:=h
theorem dnoise_any(K R N d:Int)(w:World)(hn:MayN N)(ht:MayT d):
 Calls Tryz.prog 41 #[.agg #[.int .i64 K, .int .i64 R, .int .i64 N], .int .i64 d] w fun e w'=> ∃ lo cm,e= .returned (.tuple #[.slice lo 6 cm, .bool false])/\Grid w' lo 6 cm 6 (tw (nz K d N))/\Below w.heap.size w w':=by
 have m0:=crow_new w 97 [.int .i64 K, .int .i64 R, .int .i64 N];have B0:=below_al (Below.refl _ w) (.cells [.int .i64 K, .int .i64 R, .int .i64 N].toArray 97);have h1:=sq_in ht;have h2:=hf_in ht;obtain⟨t0,t1⟩:=id ht;obtain⟨n1,n2⟩:=id hn;have H1:=hide (fun W=>dtimes_any d d W om1 om1 om1 om1);have H2:=hide (fun W=>dtimes_any (ml d d) 524288 W om1 om1 om1 om1);have e1:ml (ml d d) 524288=hf d:=rfl;rw [e1] at H2;have HgI:=hide (gv_in K ht);have HggI:=hide (gg_in K ht);have HngI:=hide (ng_in K ht hn);have HtnI:=hide (tn_in K ht hn);clear e1 h1 h2;generalize ml d d=q2 at*;go_enter Tryz.func41,Tryz.ntmps41
 go_wp2_with fail
 refine(dempty_any _).mono ?_;rintro e w1 ⟨L,cm,G,rfl,hR1⟩;obtain⟨W0,hW0⟩: ∃ W,W=w.alloc (.cells [.int .i64 K, .int .i64 R, .int .i64 N].toArray 97):=⟨_,rfl⟩;have R1:RwsAt W0.heap.size W0 w1 L cm G 6 6 (fun _ _=>0):=by rw [hW0];exact hR1
 rw [← hW0] at m0 B0;clear hR1 hW0;go_wp2_with fail
 refine(H1.out _).mono ?_;rintro e w2 ⟨rfl,k2⟩;go_wp2_with fail
 refine(H2.out _).mono ?_;rintro e w3 ⟨rfl,k3⟩;have R3:=(R1.keep k2).keep k3;have m3:=CRow.keep m0 R3.below;have capL:=R3.cap;have capL2:=R3.cap2;have l3: ∀ k,k<6->w3.heap.size≠G k:=fun k hk=>by have:=heap_lt (R3.row k hk);omega
 have c3:(w3.alloc (.cells #[.int .i64 (hf d), .int .i64 d, .int .i64 0] 2)).cell? ⟨w.heap.size,0,none⟩=some (.int .i64 K):=keep_cell (below_al (Below.refl _ _) _) (CRow.cell m3 (k:=0) rfl rfl);clear R1 k2 k3 H1 H2;go_upto_if 28 with fail
 go_cut [] (fun wx=>DSt W0 wx L cm G w3.heap.size K d (pn K d N 0 0 0))
 case first=>
  by_cases e:K=1
  ·subst e;go_wp2;go_meet;have a2:=crow_new w3 2 [.int .i64 (hf d), .int .i64 d, .int .i64 1048576];have K2:=below_al (Below.refl _ w3) (.cells [.int .i64 (hf d), .int .i64 d, .int .i64 1048576].toArray 2);exact⟨(R3.keep K2).congr (fun i j _ _=>pn_zero _ _ _ i j),by rw [gv_list1];exact a2,l3⟩
  ·have e1:(K==1)=false:=beq_eq_false_iff_ne.2 e;go_wp2;go_meet;have a2:=crow_new w3 2 [.int .i64 (hf d), .int .i64 d, .int .i64 0];have K2:=below_al (Below.refl _ w3) (.cells [.int .i64 (hf d), .int .i64 d, .int .i64 0].toArray 2);exact⟨(R3.keep K2).congr (fun i j _ _=>pn_zero _ _ _ i j),by rw [gv_list K d e];exact a2,l3⟩
 have HD0:=hide hcut;obtain⟨bg,hbg⟩: ∃ b,b=w3.heap.size:=⟨_,rfl⟩;rw [← hbg] at HD0;have HBG:=hide hbg;clear hcut R3 m3 l3 c3 hbg;go_wp2_with (first|(rw [← HBG.out])|fail)
 go_loopw [7,9] (fun an v wr=> ∃ p:Nat,(p=0\/p=3\/p=6)/\an= .bool false/\v= .int .i64 (p:Int)/\DSt W0 wr L cm G bg K d (pn K d N p 0 0)) (fun _ v _=>6- (intOf v).toNat)
 case atStart=>exact⟨0, .inl rfl,rfl,rfl,HD0.out⟩
 case round=>
  rename World=>wa;obtain⟨p,hp,rfl,rfl,hA⟩:=hrel;have HAp:=hide hA;by_cases h6:p=6
  ·subst h6;have hA0:=hA.congr (F':=dn K d N 0) (fun i j hi hj=>dn_zero K d N j hi);clear hA HAp;go_wp2;go_loopw [7,16] (fun an v wr=> ∃ k:Nat,k<=6/\an= .bool false/\v= .int .i64 (k:Int)/\DSt W0 wr L cm G bg K d (dn K d N k)) (fun _ v _=>6- (intOf v).toNat)
   case atStart=>exact⟨0,om1,rfl,rfl,hA0⟩
   case round=>
    rename World=>wb;obtain⟨k,hk,rfl,rfl,hB⟩:=hrel;by_cases h5:k<6
    ·have l0:=hB.r.cellL h5;have a0:=hB.r.cell h5 h5;rw [dn_at] at a0;have vb:=HtnI.out k;have hset:=hide (fun W (q:Below wb.heap.size wb W)=>((hB.keep q).set h5 k (tw (ng K d N) k k+16)).congr (F':=dn K d N (k+1)) (fun i j _ _=>dn_next K d N k i j));have hfree:=hide (fun W (q:Below wb.heap.size wb W)=>(hB.keep q).r.free h5 k);have k6':(k:Int)<6:=om1;obtain⟨V,hV⟩: ∃ V,V=tw (ng K d N) k k:=⟨_,rfl⟩;rw [← hV] at a0 vb hset;obtain⟨g0,hg0⟩: ∃ g,g=G k:=⟨_,rfl⟩;rw [← hg0] at l0 a0 hset hfree;have HO1:=hide (fun W=>of_any V W om1 om1);have HO2:=hide (fun W=>of_any 16 W om1 om1);have lV:(digs V.natAbs).length<=1000000:=by have:=length_digs_le (show V.natAbs<10^19 by omega);omega
     have l16:(digs (16:Int).natAbs).length<=1000000:=by have:=length_digs_le (show(16:Int).natAbs<10^19 by decide);omega
     have lS:(digs (V+16).natAbs).length<=1000000:=by have:=length_digs_le (show(V+16).natAbs<10^19 by omega);omega
     have HAd:=hide (fun va vb W (x:IsNum W va V) (y:IsNum W vb 16)=>add_any va vb V 16 W lV l16 x y);have HBd:=hide (fun v W (x:IsNum W v (V+16))=>bound_any v (V+16) W lS x);rw [(bnd_small (z:=V+16) om1 om1).1,(bnd_small (z:=V+16) om1 om1).2] at HBd;obtain⟨V16,hV16⟩: ∃ x,x=V+16:=⟨_,rfl⟩;rw [← hV16] at HAd HBd hset;clear hV hg0 lV l16 lS hV16 hB;go_wp2_with fail
     refine(HO1.out _).mono ?_;rintro _ w4 ⟨v4,rfl,i4,k4⟩;go_wp2_with fail
     refine(HO2.out _).mono ?_;rintro _ w5 ⟨v5,rfl,i5,k5⟩;go_wp2_with fail
     refine(HAd.out _ _ _ (i4.below k5) i5).mono ?_;rintro _ w6 ⟨v6,rfl,i6,k6⟩;go_wp2_with fail
     refine(HBd.out _ _ i6).mono ?_;rintro _ w7 ⟨rfl,k7⟩;have K7:=below_tr (below_tr (below_tr k4 k5) k6) k7;have l7:=keep_cell K7 l0;have a7:=keep_cell K7 a0;have f7:=hfree.out _ K7;have s7:=hset.out _ K7;clear l0 a0 k4 k5 k6 k7 i4 i5 i6 HO1 HO2 HAd HBd hfree hset K7;go_wp2;go_roundw
     case rel=>exact⟨k+1,om1,rfl,by go_num,s7⟩
     case measure=>simp [intOf];omega
    ·obtain rfl:k=6:=om1;go_wp2;go_ret2;exact⟨_,_,rfl,(hB.r.grid om1).congr (fun i j hi hj=>dn_end K d N j hi),below_tr B0 hB.r.below⟩
  ·have hp':p=0\/p=3:=om1;have p6':(p:Int)<6:=om1;go_wp2;go_loopw [7,10] (fun an v wr=> ∃ i:Nat,i<=3/\an= .bool false/\v= .int .i64 (i:Int)/\DSt W0 wr L cm G bg K d (pn K d N p i 0)) (fun _ v _=>3- (intOf v).toNat)
   case atStart=>exact⟨0,om1,rfl,rfl,hA⟩
   case round=>
    rename World=>wb;obtain⟨i,hi,rfl,rfl,hB⟩:=hrel;by_cases h3:i<3
    ·have i3':(i:Int)<3:=om1;go_wp2;go_loopw [7,11] (fun an v wr=> ∃ j:Nat,j<=3/\an= .bool false/\v= .int .i64 (j:Int)/\DSt W0 wr L cm G bg K d (pn K d N p i j)) (fun _ v _=>3- (intOf v).toNat)
     case atStart=>exact⟨0,om1,rfl,rfl,hB⟩
     case round=>
      rename World=>wi;obtain⟨j,hj,rfl,rfl,hC⟩:=hrel;by_cases h4:j<3
      ·have cA:wi.cell? ⟨bg,i,none⟩=some (.int .i64 (gv K d i)):=CRow.cell hC.g (vals_at h3) rfl;have cB:wi.cell? ⟨bg,j,none⟩=some (.int .i64 (gv K d j)):=CRow.cell hC.g (vals_at h4) rfl;have b1:=HgI.out i;have b2:=HgI.out j;have b3:=HggI.out i j;have b4:=HngI.out i j;have eR:Hid (ng K d N i j=ml (ml (gv K d i) (gv K d j)) N):=rfl;have HCs:=hide (fun W (q:Below wi.heap.size wi W)=>((hC.keep q).set (i:=p+i) om1 (p+j) (ng K d N i j)).congr (F':=pn K d N p i (j+1)) (fun a b _ _=>pn_next K d N hp' h3 h4 a b));have HCm:=hide (fun W (q:Below wi.heap.size wi W)=>CRow.keep m0 (hC.keep q).r.below);have HCl:=hide (fun W (q:Below wi.heap.size wi W)=>(hC.keep q).r.cellL (k:=p+i) om1);have HCc:=hide (fun W (q:Below wi.heap.size wi W)=>(hC.keep q).r.cell (i:=p+i) (j:=p+j) om1 om1);have HCf:=hide (fun W (q:Below wi.heap.size wi W)=>(hC.keep q).r.free (i:=p+i) om1 (p+j));obtain⟨A,hA'⟩: ∃ A,A=gv K d i:=⟨_,rfl⟩;obtain⟨B,hB'⟩: ∃ B,B=gv K d j:=⟨_,rfl⟩;rw [← hA'] at cA b1 b3 b4 eR;rw [← hB'] at cB b2 b3 b4 eR;clear hA' hB';have HDt:=hide (fun x y W (sx:Sl W (some x) 1 1 (fun _=>A)) (sy:Sl W (some y) 1 1 (fun _=>B))=>ldot_sl (some x) (some y) 1 1 1 (fun _=>A) (fun _=>B) 20 20 W rfl om1 sx sy (fun _=>⟨(by omega: -9223372036854775808<=A),(by omega:A<=9223372036854775807)⟩) (fun _=>⟨(by omega: -9223372036854775808<=B),(by omega:B<=9223372036854775807)⟩) om1);have e1:dk (fun _=>A) (fun _=>B) 1=A*B:=by show 0+A*B=A*B;omega
       have e2:Qn.clamp (Qn.rne (A*B) (2^20))=ml A B:=rfl;have e3:Qn.great (Qn.rne (A*B) (2^20))=false:=b3.1;rw [e1,e2,e3] at HDt;have HD2:=hide (fun W=>vdot_one (ml A B) N 20 20 W rfl om1 om1 om1 om1 om1);have e4:Qn.clamp (Qn.rne (ml A B*N) (2^20))=ng K d N i j:=eR.out.symm;have e5:Qn.great (Qn.rne (ml A B*N) (2^20))=false:=b4.1;rw [e4,e5] at HD2;obtain⟨rr,hrr⟩: ∃ r,r=ng K d N i j:=⟨_,rfl⟩;rw [← hrr] at HD2 HCs;clear hrr eR b3 b4 e1 e2 e3 e4 e5;generalize ml A B=AB at HDt HD2;have j3':(j:Int)<3:=om1;obtain⟨P1,hP1⟩: ∃ x:Nat,x=p+i:=⟨_,rfl⟩;obtain⟨P2,hP2⟩: ∃ x:Nat,x=p+j:=⟨_,rfl⟩;have s1:(p:Int)+(i:Int)=(P1:Int):=om1;have s1':IntKind.i64.wrap ((p:Int)+(i:Int))=(P1:Int):=by rw [IntKind.wrap_i64];omega
       have s2:(p:Int)+(j:Int)=(P2:Int):=om1;have s2':IntKind.i64.wrap ((p:Int)+(j:Int))=(P2:Int):=by rw [IntKind.wrap_i64];omega
       have P16:(P1:Int)<6:=om1;have P26:(P2:Int)<6:=om1;rw [← hP1,← hP2] at HCs HCc HCf;rw [← hP1] at HCl;clear hP1 hP2 hC;go_upto_region 15 with fail
       go_cut [12,13] (fun a b wx=>a= .int .i64 AB/\b= .bool false/\Below wi.heap.size wi wx)
       case first=>
        refine Ru.wp_region_U [15] (fun w'=>w'.cell? ⟨bg,i,none⟩=some (.int .i64 A)/\w'.cell? ⟨bg,j,none⟩=some (.int .i64 B)) (by kernel_rfl) ⟨cA,cB⟩ (fun hHeld=> ?_);refine Ru.tk2 0 (.slice (some ⟨bg,0,none⟩) 3 3) hHeld ?_;refine Ru.tk2 1 (.int .i64 (i:Int)) hHeld ?_;refine Ru.tk2 2 (.pointer (some ⟨bg,i,none⟩)) hHeld ?_;refine Ru.tk2 3 (.int .i64 A) hHeld ?_;refine Ru.tk2 5 (.slice (some ⟨bg,0,none⟩) 3 3) hHeld ?_;refine Ru.tk2 6 (.int .i64 (j:Int)) hHeld ?_;refine Ru.tk2 7 (.pointer (some ⟨bg,j,none⟩)) hHeld ?_;refine Ru.tk2 8 (.int .i64 B) hHeld ?_;refine Ru.rs [4,9] ?_;refine Ru.AllReadyU.cons rfl (by kernel_rfl) (fun K1 hK1=> ?_) (Ru.AllReadyU.cons rfl (by kernel_rfl) (fun K1 hK1=> ?_) Ru.AllReadyU.nil)
        ·go_simp;have b1:=below_al (Vc.below_drew' wi) (.cells #[.int .i64 A] 2);refine hK1.out _ _ ⟨keep_cell b1 cA,keep_cell b1 cB⟩ (fun hHeld=> ?_);clear hK1 K1;try simp only [Act.put,List.getElem_toArray,List.getElem_cons_zero,List.getElem_cons_succ,List.setIfInBounds_toArray,List.set_cons_zero,List.set_cons_succ]
         refine Ru.rs [9] ?_;refine Ru.AllReadyU.cons rfl (by kernel_rfl) (fun K1 hK1=> ?_) Ru.AllReadyU.nil;go_simp;have b2:=below_al b1 (.cells #[.int .i64 B] 2);refine hK1.out _ _ ⟨keep_cell b2 cA,keep_cell b2 cB⟩ (fun hHeld=> ?_);clear hK1 K1;try simp only [Act.put,List.getElem_toArray,List.getElem_cons_zero,List.getElem_cons_succ,List.setIfInBounds_toArray,List.set_cons_zero,List.set_cons_succ]
         refine Ru.rs [10] ?_;refine Ru.AllReadyU.cons rfl (by kernel_rfl) (fun K1 hK1=> ?_) Ru.AllReadyU.nil;go_simp;have y1:((wi.drew.alloc (.cells #[.int .i64 A] 2)).alloc (.cells #[.int .i64 B] 2)).cell? ⟨wi.heap.size,0,none⟩=some (.int .i64 A):=by go_simp
         have y2:((wi.drew.alloc (.cells #[.int .i64 A] 2)).alloc (.cells #[.int .i64 B] 2)).cell? ⟨wi.heap.size+1,0,none⟩=some (.int .i64 B):=by go_simp
         refine(HDt.out _ _ _ (sl_at y1) (sl_at y2)).mono ?_;exact movFa1
        ·go_simp;have b1:=below_al (Vc.below_drew' wi) (.cells #[.int .i64 B] 2);refine hK1.out _ _ ⟨keep_cell b1 cA,keep_cell b1 cB⟩ (fun hHeld=> ?_);clear hK1 K1;try simp only [Act.put,List.getElem_toArray,List.getElem_cons_zero,List.getElem_cons_succ,List.setIfInBounds_toArray,List.set_cons_zero,List.set_cons_succ]
         refine Ru.rs [4] ?_;refine Ru.AllReadyU.cons rfl (by kernel_rfl) (fun K1 hK1=> ?_) Ru.AllReadyU.nil;go_simp;have b2:=below_al b1 (.cells #[.int .i64 A] 2);refine hK1.out _ _ ⟨keep_cell b2 cA,keep_cell b2 cB⟩ (fun hHeld=> ?_);clear hK1 K1;try simp only [Act.put,List.getElem_toArray,List.getElem_cons_zero,List.getElem_cons_succ,List.setIfInBounds_toArray,List.set_cons_zero,List.set_cons_succ]
         refine Ru.rs [10] ?_;refine Ru.AllReadyU.cons rfl (by kernel_rfl) (fun K1 hK1=> ?_) Ru.AllReadyU.nil;go_simp;have y1:((wi.drew.alloc (.cells #[.int .i64 B] 2)).alloc (.cells #[.int .i64 A] 2)).cell? ⟨wi.heap.size,0,none⟩=some (.int .i64 B):=by go_simp
         have y2:((wi.drew.alloc (.cells #[.int .i64 B] 2)).alloc (.cells #[.int .i64 A] 2)).cell? ⟨wi.heap.size+1,0,none⟩=some (.int .i64 A):=by go_simp
         refine(HDt.out _ _ _ (sl_at y2) (sl_at y1)).mono ?_;exact movFa1
       obtain⟨rfl,rfl,kc⟩:=hcut;have mC:=HCm.out _ kc;have cN:wc.cell? ⟨w.heap.size,2,none⟩=some (.int .i64 N):=CRow.cell mC (k:=2) rfl rfl;have cN1:(wc.alloc (.cells #[.int .i64 AB] 2)).cell? ⟨w.heap.size,2,none⟩=some (.int .i64 N):=keep_cell (below_al (Below.refl _ _) _) cN;clear mC HDt cA cB;go_wp2_with fail
       refine(HD2.out _).mono ?_;rintro _ w6 ⟨rfl,k6⟩;have K6:=below_tr kc k6;have l6:=HCl.out _ K6;have a6:=HCc.out _ K6;have f6:=HCf.out _ K6;have s6:=HCs.out _ K6;obtain⟨g0,hg0⟩: ∃ g,g=G P1:=⟨_,rfl⟩;rw [← hg0] at l6 a6 f6 s6;generalize pn K d N p i j P1 P2=z0 at a6;clear HCl HCc HCf HCs HCm HD2 kc k6 cN cN1 K6 hg0;go_wp2;go_roundw
       case rel=>exact⟨j+1,om1,rfl,by go_num,s6⟩
       case measure=>simp [intOf];omega
      ·obtain rfl:j=3:=om1;have hC':=hC.congr (F':=pn K d N p (i+1) 0) (fun a b _ _=>pn_row K d N hp' h3 a b);clear hC;go_wp2;go_roundw
       case rel=>exact⟨i+1,om1,rfl,by go_num,hC'⟩
       case measure=>simp [intOf];omega
    ·obtain rfl:i=3:=om1;have hB':=hB.congr (F':=pn K d N (p+3) 0 0) (fun a b _ _=>pn_blk K d N hp' a b);clear hB;go_wp2;go_roundw
     case rel=>exact⟨p+3,om1,rfl,by go_num,hB'⟩
     case measure=>simp [intOf];omega
end
end Go.Proofs.YtcefcokpjbebhaaGreatDoor
