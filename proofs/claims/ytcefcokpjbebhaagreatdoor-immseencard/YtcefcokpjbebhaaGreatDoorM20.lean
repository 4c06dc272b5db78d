/-
  How things move (model): a turn's numbers, rows of both axes.
-/
import Derived.Test.YtcefcokpjbebhaaGreatDoorMoA
import Derived.Test.YtcefcokpjbebhaaGreatDoorM8
import Derived.Deep.RegionLaw
import Derived.Test.YtcefcokpjbebhaaGreatDoorM16
set_option linter.unusedSimpArgs false
set_option linter.unusedVariables false
set_option maxHeartbeats 2000000
set_option maxRecDepth 20000
namespace Go.Proofs.YtcefcokpjbebhaaGreatDoor
section
open Go.RowKit Vc St Qn Dt Tg Ld Mt Mo
attribute [local go_sem ↓] Go.wp_at_zero Go.wp_at_succ
namespace Mo
def xR(s c p q:Int):List Value:= [.int .i64 s, .int .i64 c, .int .i64 p, .int .i64 q]
theorem ZG(s c p q:Int): ∀ v∈xR s c p q,v.oneCell'=true:=by
 intro v hv;simp only [xR,List.mem_cons,List.not_mem_nil,or_false] at hv;rcases hv with rfl|rfl|rfl|rfl<;>rfl
theorem zeroAc:(#[.int .i64 0, .int .i64 0, .int .i64 0, .int .i64 0]:Array Value)=(xR 0 0 0 0).toArray:=rfl
end Mo
theorem mirror_any(s c p q:Int)(w:World)(s0: -9000000000000000000<=s)(s1:s<=9000000000000000000)(q0: -9000000000000000000<=q)(q1:q<=9000000000000000000):
 Calls Tryz.prog 146 #[.agg (xR s c p q).toArray] w fun e w'=>e= .returned (.agg (xR (-s) c p (-q)).toArray)/\Below w.heap.size w w':=by
 have s0':=bU w (.cells #[.int .i64 s, .int .i64 c, .int .i64 p, .int .i64 q] 244) 244 (xR (-s) c p (-q));have e1:IntKind.i64.wrap (-s)= -s:=by rw [IntKind.wrap_i64];omega
 have e2:IntKind.i64.wrap (-q)= -q:=by rw [IntKind.wrap_i64];omega
 show Calls Tryz.prog 146 #[.agg #[.int .i64 s, .int .i64 c, .int .i64 p, .int .i64 q]] w fun e w'=>e= .returned (.agg (xR (-s) c p (-q)).toArray)/\Below w.heap.size w w';go_enter Tryz.func146,Tryz.ntmps146
 go_wp2;exact bodyPost_ret (v:= .agg (xR (-s) c p (-q)).toArray) (iV isAc Tryz.results146 _ _ (w.heap.size+1) (xR (-s) c p (-q)) rfl s0' rfl) rfl ⟨rfl,af (af (Below.refl _ _) _) _⟩
namespace Mo
theorem isB9:Is 151 9:=⟨by kernel_rfl,⟨_,Tryz.underlying151,rfl⟩⟩
theorem isA3:Is 149 3:=⟨by kernel_rfl,⟨_,Tryz.underlying149,rfl⟩⟩
def bl(b:Nat->Nat->Int):List Value:=vals 9 (fun t=>b (t/3) (t%3))
theorem XI(b:Nat->Nat->Int):(bl b).length=9:=aK _ _
theorem ZH(b:Nat->Nat->Int)(w:World): ∀ {k:Nat},k<3->(Instr.index 151 (.agg (bl b).toArray) (.int .i64 (k:Int))).run Tryz.prog w= .ok (.agg (vals 3 (b k)).toArray) w
 |0,_=>by kernel_rfl
 |1,_=>by kernel_rfl
 |2,_=>by kernel_rfl
 |n+3,h=>by omega
theorem zero3:(#[.int .i64 0, .int .i64 0, .int .i64 0]:Array Value)=(vals 3 (fun _=>0)).toArray:=rfl
theorem Rt(b:Nat->Nat->Int){f k:Nat}(hf:f<2)(hk:k<3):splice (vals 6 (fun _=>0)) (3*f) (vals 3 (b k))=vals 6 (tw b (3*f+k)):=by
 have e1:(3*f+k)/3=f:=om1;have e2:(3*f+k)%3=k:=om1;rcases f with _|_|f
 · simp [splice,vals,List.range,List.range.loop,tw,Nat.div_eq_of_lt hk,Nat.mod_eq_of_lt hk]
 · simp [splice,vals,List.range,List.range.loop,tw,e1,e2]
 · omega
end Mo
theorem BI(b:Nat->Nat->Int)(w:World):
 Calls Tryz.prog 74 #[.agg (bl b).toArray] w fun e w'=> ∃ lo cm,e= .returned (.slice lo 6 cm)/\Grid w' lo 6 cm 6 (tw b)/\Below w.heap.size w w':=by
 obtain⟨i0,hi,hz0,hz1,hz2⟩:=info_parts iY;obtain⟨i1,hj,hy0,hy1,hy2⟩:=info_parts Ba;have r0:=aH w 151 (bl b);have B0:=af (Below.refl _ w) (.cells (bl b).toArray 151);obtain⟨W,hW⟩: ∃ W,W=w.alloc (.cells (bl b).toArray 151):=⟨_,rfl⟩;rw [← hW] at r0 B0;have HW:=hide hW;have HI:=hide (fun(w:World) (k:Nat) (hk:k<3)=>ZH b w hk);have HL:=hide (XI b);obtain⟨L,hL⟩: ∃ L,L=bl b:=⟨_,rfl⟩;rw [← hL] at r0 HI HW HL;rw [← hL];clear hW hL;go_enter Tryz.func74,Tryz.ntmps74
 go_wp2_with (first
  |(rw [← HW.out];at_make;refine wpList_make_own _ rfl _ _ 23 rfl W.heap.size 27 i1 (.slice none 0 0) 1 Tryz.underlying23 hj hy0 hy1 _ _ _ 6 rfl rfl rfl (by rw [hy2];omega) (by unfold maxLen;omega) (Nat.le_refl _) ?_))
 intro w1 ho1 hg1;have L1:Lst W.heap.size W w1 (.slice (some ⟨W.heap.size,0,none⟩) 0 6) 0 6 (tw b):=⟨⟨fun _=>undef,ho1,fun j hj=>by omega⟩,(Below.refl _ _).grown hg1 (Nat.le_refl _) (fun k h=>by cases h),hg1.size⟩;clear ho1 hg1;go_wp2;go_loopw [3,9] (fun rows i wr=> ∃ f:Nat,f<=2/\i= .int .i64 (f:Int)/\Lst W.heap.size W wr rows (3*f) 6 (tw b)) (fun _ i _=>2- (intOf i).toNat)
 case atStart=>exact⟨0,om1,rfl,L1⟩
 case round=>
  rename World=>wo;obtain⟨f,hf,rfl,hL⟩:=hrel;by_cases h:f<2
  ·have r1:=ai.keep r0 hL.below;go_wp2_with (first|(refine St.aI isB9 rl1 _ rl1 _ _ rl1 (by with_reducible exact r1) HL.out ?_))
   go_loopw [3,13] (fun rows i wr=> ∃ k:Nat,k<=3/\i= .int .i64 (k:Int)/\Lst W.heap.size W wr rows (3*f+k) 6 (tw b)) (fun _ i _=>3- (intOf i).toNat)
   case atStart=>exact⟨0,om1,rfl,hL⟩
   case round=>
    rename World=>wi;obtain⟨k,hk,rfl,hM⟩:=hrel;by_cases h5:k<3
    ·have hidx:=fun(w:World)=>HI.out w k h5;obtain⟨V,hV⟩: ∃ V,V=vals 3 (b k):=⟨_,rfl⟩;rw [← hV] at hidx;have HV:=hide hV;clear hV
     go_wp2_with (first
      |(rw [zero3];refine St.aF isA3 rl1 _ _ rl1 _ _ V rl1 rl1 rfl (by rw [HV.out];rfl) (by rw [HV.out];exact fK _ _) ?_;intro w3 n3 k3)
      |(at_make;refine wpList_make_full _ rfl _ _ 27 rfl w3.heap.size 2 i0 (.int .i64 0) 1 Tryz.underlying27 hi hz0 hz1 _ _ _ _ 6 rfl rfl rfl rfl (by rw [hz2];omega) (by unfold maxLen;omega) (Nat.le_refl _) ?_))
     intro w4 hown hgrow;have hO:=iR hown hgrow (Nat.le_refl _);have hW4:=hide (qJ hO);have hB4:=hO.below;have n4:=ai.keep n3 hB4;have hM4:=hM.keep (ae k3 hB4);have HS:=hide (fun j v (hv:V[j]?=some v)=>show w4.cell? (Addr.add ⟨wi.heap.size,0,none⟩ j)=some v by rw [Addr.add_lit,Nat.zero_add];exact ai.cell n4 hv rfl);obtain⟨Z0,hZ0⟩: ∃ Z,Z=vals 6 (fun _=>0):=⟨_,rfl⟩;rw [← hZ0] at hW4;have HZ:=hide hZ0;have hp:=hide (Rt b h h5);have hsz:wi.heap.size<=w3.heap.size:=k3.size;have HM:=hide hM;have HB4:=hide hB4;have K3:=hide k3;clear hZ0 hown hgrow hO n3 n4 k3 hM hB4 hM4;obtain⟨q,hq⟩: ∃ q,q=3*f:=⟨_,rfl⟩;rw [← hq] at hp;have q3:q<=3:=om1;have wr:IntKind.i64.wrap ((f:Int)*3)=(q:Int):=by rw [IntKind.wrap_i64,hq];omega
     have q6:(6=q)=False:=eq_false om1;have q7:(q:Int)<=6:=om1;have HQ:=hide hq;clear hq;go_wp2;go_region_law (refine step_copy_splice rfl (.tmp 20) (.tmp 21) 27 27 rfl 2 Tryz.underlying27 qK (some ⟨w3.heap.size,q,none⟩) (some ⟨wi.heap.size,0,none⟩) (6- q) (6- q) 3 3 rl1 rl1 w3.heap.size q Z0 2 hW4.out V (by rw [HV.out,aK];exact(Nat.min_eq_left om1).symm) (fun h0=>⟨rfl,⟨wi.heap.size,0,none⟩,rfl,HS.out⟩) (by rw [HV.out,HZ.out,aK,aK];omega) (by rw [HV.out];exact fK _ _) w3.heap.size w3 (by first|exact HB4.out|exact HB4.out.drew|exact Vc.below_drewN HB4.out _) (Nat.le_refl _) ?_;intro w5 hg5 hb5)
     have hO5:Own w3.heap.size w3 w5 (.slice (some ⟨w3.heap.size,0,none⟩) 6 6) 6 (tw b (3*f+k)):=by
      have e:=hg5.out;rw [HZ.out,HV.out,hp.out,HQ.out] at e;exact yt e hb5 (Nat.le_refl _) (by unfold maxLen;omega)
     obtain⟨ao,ca,e1,s1,f1⟩:=mZ hO5;injection e1 with ea _ ec
     subst ea ec;have hL5:=HM.out.keep (ae K3.out hb5);have HS5:=hide s1;have HAP:=hide (HM.out.apart K3.out.size f1);clear hO5 s1 f1 hg5 hb5 HS;go_wp2_with (at_builtin;refine lN rl1 _ _ rl1 W.heap.size W _ (3*f+k) 6 (tw b) rl1 hL5 om1 om1 _ _ HS5.out HAP.out rl1 ?_)
     intro v' w' hL';go_wp2;go_roundw
     case rel=>exact⟨k+1,om1,by go_num,hL'⟩
     case measure=>simp [intOf];omega
    ·obtain rfl:k=3:=om1;go_wp2;go_roundw
     case rel=>exact⟨f+1,om1,by go_num,hM⟩
     case measure=>simp [intOf];omega
  ·obtain rfl:f=2:=om1;obtain⟨lo,cm,rfl,hG⟩:=hL.grid;go_wp2;go_ret;exact⟨lo,cm,rfl,hG,ae B0 hL.below⟩
end
section
open Go.RowKit Vc St Qn Dt Tg Ld Mt Mo
attribute [local go_sem ↓] Go.wp_at_zero Go.wp_at_succ
theorem ZI(g:Nat)(R d:Int)(w:World)(hT:iM w)(h:CU w g)(hr:UM R)(ht:qU d):
 Calls Tryz.prog 145 #[.pointer (some ⟨g,0,none⟩), .int .i64 R, .int .i64 d] w fun e w'=>e= .returned (.agg (xR (sV R d) (cV R d) (pV R d) (qV R d)).toArray)/\Below w.heap.size w w':=by
 have tb:=tn_bd R d;have sb:=Jt (tn R d);have cb:=Bi (tn R d);have s1:=VY R d;have c1:=ZA R d;have w1:=ZB hr;have p1:=pV_in (d:=d) hr;have q1:=ZC (d:=d) hr;have HB:=hide (fun W (h:iM W)=>both_any (tn R d) W h tb.1 tb.2);have HS:=hide (fun W=>wK (Fh (tn R d)) 30 20 W om1 om1 om1 om1);have HC:=hide (fun W=>wK (kJ (tn R d)) 30 20 W om1 om1 om1 om1);have HR:=hide (fun W=>JD R 20 W (by have:=hr.1;omega) (by have:=hr.2;omega) om1);have HP:=hide (fun W=>tK (sV R d) (wV R) 20 W om1 om1 om1 om1 om1 om1);have HU:=hide (fun W=>nU 1048576 (cV R d) W om1 om1 om1 om1);have HQ:=hide (fun W=>tK (1048576- cV R d) (wV R) 20 W om1 om1 om1 om1 om1 om1);have HN:=hide (fun n W (k:CU W g)=>H9 g n .nilIface W k);have HE:=hide (fun n W (k:CU W g)=>xQ g n W k);rw [s1.1] at HS;rw [c1.1] at HC;have e1:clamp (rne (Fh (tn R d)*2^(20- 30)) (2^(30- 20)))=sV R d:=rfl;have e2:clamp (rne (kJ (tn R d)*2^(20- 30)) (2^(30- 20)))=cV R d:=rfl;have e3:Tn.rad R 20=wV R:=rfl;have e4:signed (sV R d) (wV R) (clamp (rne (((sV R d).natAbs:Int)*2^20) (wV R).natAbs))=pV R d:=rfl;have e5:great (rne (((sV R d).natAbs:Int)*2^20) (wV R).natAbs)=false:=p1.1;have e6:signed (1048576- cV R d) (wV R) (clamp (rne (((1048576- cV R d).natAbs:Int)*2^20) (wV R).natAbs))=qV R d:=rfl;have e7:great (rne (((1048576- cV R d).natAbs:Int)*2^20) (wV R).natAbs)=false:=q1.1;rw [e1] at HS;rw [e2] at HC;rw [e3] at HR;rw [e4,e5] at HP;rw [BG om1 om1,BH om1 om1] at HU;rw [e6,e7] at HQ;obtain⟨r0,r1⟩:=id hr;obtain⟨t0,t1⟩:=id ht;have m0:0<=R*d:=Int.mul_nonneg om1 om1;have m1:R*d<=268435456*67108864:=Int.mul_le_mul r1 t1 om1 om1;have HM:Hid (tn R d=R*d/1048576%4294967296):=rfl;obtain⟨M,hM⟩: ∃ M,M=R*d:=⟨_,rfl⟩;have wM:IntKind.i64.wrap (R*d)=M:=by rw [IntKind.wrap_i64,hM];omega
 rw [← hM] at HM m0 m1;clear e1 e2 e3 e4 e5 e6 e7 s1 c1 p1 q1 hM;generalize tn R d=t at*;generalize Fh t=S at*;generalize kJ t=C at*;generalize sV R d=s at*;generalize cV R d=c at*;generalize wV R=v at*;generalize pV R d=p at*;generalize qV R d=q at*;obtain⟨u,hu⟩: ∃ u,u=1048576- c:=⟨_,rfl⟩;rw [← hu] at HU HQ;clear hu;have hmt:M/1048576%4294967296=t:=HM.out.symm;clear HM;have rR:R%4294967296=R:=om1;have z0:=aH w 244 (xR 0 0 0 0);have B0:=af (Below.refl _ w) (.cells (xR 0 0 0 0).toArray 244);have T0:=hT.below B0;have g0:=h.keep B0;go_enter Tryz.func145,Tryz.ntmps145
 go_wp2_with fail
 refine(HB.out _ T0).mono ?_;rintro e w1 ⟨rfl,k1⟩;have z1:=ai.keep z0 k1;have g1:=g0.keep k1;have B1:=ae B0 k1;have A1:=aH w1 244 (xR 0 0 0 0);have K1:=af (Below.refl _ w1) (.cells (xR 0 0 0 0).toArray 244);obtain⟨W1,hW1⟩: ∃ W,W=w1.alloc (.cells (xR 0 0 0 0).toArray 244):=⟨_,rfl⟩;rw [← hW1] at A1 K1;have HW:=hide hW1;have z2:=ai.keep z1 K1;have g2:=g1.keep K1;have B2:=ae B1 K1;have ne:w.heap.size≠w1.heap.size:=by have:=z1.lt;omega
 have neg:g≠w1.heap.size:=by have:=ai.lt g1;omega
 have lb:w.heap.size<=w1.heap.size:=by have:=z1.lt;omega
 clear hW1 z0 z1 g0 g1 B0 B1 K1 k1 T0 hT HB;go_wp2_with fail
 rw [zeroAc,← HW.out];refine(HS.out _).mono ?_;rintro e w3 ⟨rfl,k3⟩;have z3:=ai.keep z2 k3;have g3:=g2.keep k3;have A3:=ai.keep A1 k3;have B3:=ae B2 k3;clear z2 g2 A1 B2 k3;go_wp2_with fail
 refine(HN.out s _ g3).mono ?_;rintro e w4 ⟨rfl,k4⟩;have z4:=ai.keep z3 k4;have g4:=g3.keep k4;have A4:=ai.keep A3 k4;have B4:=ae B3 k4;clear z3 g3 A3 B3 k4;have c4_0:w4.cell? ⟨w1.heap.size,0,none⟩=some (.int .i64 0):=ai.cell A4 (k:=0) rfl rfl;have f4_0:=ai.free A4 0;have A4s:ai (w4.setCell ⟨w1.heap.size,0,none⟩ (.int .i64 s)) w1.heap.size 244 (xR s 0 0 0):=ai.set A4 0 _;have z4s:=ai.other z4 (p:=⟨w1.heap.size,0,none⟩) (.int .i64 s) ne;have g4s:CU _ g:=ai.other g4 (p:=⟨w1.heap.size,0,none⟩) (.int .i64 s) neg;have B4s:=B4.setCell (p:=⟨w1.heap.size,0,none⟩) lb (.int .i64 s);go_wp2_with fail
 refine(HC.out _).mono ?_;rintro e w5 ⟨rfl,k5⟩;have z5:=ai.keep z4s k5;have g5:=g4s.keep k5;have A5:=ai.keep A4s k5;have B5:=ae B4s k5;clear z4s g4s A4s B4s k5;go_wp2_with fail
 refine(HN.out c _ g5).mono ?_;rintro e w6 ⟨rfl,k6⟩;have z6:=ai.keep z5 k6;have g6:=g5.keep k6;have A6:=ai.keep A5 k6;have B6:=ae B5 k6;clear z5 g5 A5 B5 k6;have c6_1:w6.cell? ⟨w1.heap.size,1,none⟩=some (.int .i64 0):=ai.cell A6 (k:=1) rfl rfl;have f6_1:=ai.free A6 1;have A6s:ai (w6.setCell ⟨w1.heap.size,1,none⟩ (.int .i64 c)) w1.heap.size 244 (xR s c 0 0):=ai.set A6 1 _;have z6s:=ai.other z6 (p:=⟨w1.heap.size,1,none⟩) (.int .i64 c) ne;have g6s:CU _ g:=ai.other g6 (p:=⟨w1.heap.size,1,none⟩) (.int .i64 c) neg;have B6s:=B6.setCell (p:=⟨w1.heap.size,1,none⟩) lb (.int .i64 c);go_wp2_with fail
 refine(HR.out _).mono ?_;rintro e w7 ⟨rfl,k7⟩;have z7:=ai.keep z6s k7;have g7:=g6s.keep k7;have A7:=ai.keep A6s k7;have B7:=ae B6s k7;clear z6s g6s A6s B6s k7;have c7_0:w7.cell? ⟨w1.heap.size,0,none⟩=some (.int .i64 s):=ai.cell A7 (k:=0) rfl rfl;have f7_0:=ai.free A7 0;go_wp2_with fail
 refine(HP.out _).mono ?_;rintro e w8 ⟨rfl,k8⟩;have z8:=ai.keep z7 k8;have g8:=g7.keep k8;have A8:=ai.keep A7 k8;have B8:=ae B7 k8;clear z7 g7 A7 B7 k8;go_wp2_with fail
 refine(HN.out p _ g8).mono ?_;rintro e w9 ⟨rfl,k9⟩;have z9:=ai.keep z8 k9;have g9:=g8.keep k9;have A9:=ai.keep A8 k9;have B9:=ae B8 k9;clear z8 g8 A8 B8 k9;have c9_1:w9.cell? ⟨w1.heap.size,1,none⟩=some (.int .i64 c):=ai.cell A9 (k:=1) rfl rfl;have f9_1:=ai.free A9 1;have c9_2:w9.cell? ⟨w1.heap.size,2,none⟩=some (.int .i64 0):=ai.cell A9 (k:=2) rfl rfl;have f9_2:=ai.free A9 2;have A9s:ai (w9.setCell ⟨w1.heap.size,2,none⟩ (.int .i64 p)) w1.heap.size 244 (xR s c p 0):=ai.set A9 2 _;have z9s:=ai.other z9 (p:=⟨w1.heap.size,2,none⟩) (.int .i64 p) ne;have g9s:CU _ g:=ai.other g9 (p:=⟨w1.heap.size,2,none⟩) (.int .i64 p) neg;have B9s:=B9.setCell (p:=⟨w1.heap.size,2,none⟩) lb (.int .i64 p);go_wp2_with fail
 refine(HU.out _).mono ?_;rintro e w10 ⟨rfl,k10⟩;have z10:=ai.keep z9s k10;have g10:=g9s.keep k10;have A10:=ai.keep A9s k10;have B10:=ae B9s k10;clear z9s g9s A9s B9s k10;go_wp2_with fail
 refine(HE.out u _ g10).mono ?_;rintro e w11 ⟨rfl,k11⟩;have z11:=ai.keep z10 k11;have g11:=g10.keep k11;have A11:=ai.keep A10 k11;have B11:=ae B10 k11;clear z10 g10 A10 B10 k11;go_wp2_with fail
 refine(HQ.out _).mono ?_;rintro e w12 ⟨rfl,k12⟩;have z12:=ai.keep z11 k12;have g12:=g11.keep k12;have A12:=ai.keep A11 k12;have B12:=ae B11 k12;clear z11 g11 A11 B11 k12;go_wp2_with fail
 refine(HN.out q _ g12).mono ?_;rintro e w13 ⟨rfl,k13⟩;have z13:=ai.keep z12 k13;have g13:=g12.keep k13;have A13:=ai.keep A12 k13;have B13:=ae B12 k13;clear z12 g12 A12 B12 k13;have c13_3:w13.cell? ⟨w1.heap.size,3,none⟩=some (.int .i64 0):=ai.cell A13 (k:=3) rfl rfl;have f13_3:=ai.free A13 3;have A13s:ai (w13.setCell ⟨w1.heap.size,3,none⟩ (.int .i64 q)) w1.heap.size 244 (xR s c p q):=ai.set A13 3 _;have z13s:=ai.other z13 (p:=⟨w1.heap.size,3,none⟩) (.int .i64 q) ne;have g13s:CU _ g:=ai.other g13 (p:=⟨w1.heap.size,3,none⟩) (.int .i64 q) neg;have B13s:=B13.setCell (p:=⟨w1.heap.size,3,none⟩) lb (.int .i64 q)
 go_wp2_with (first
  |(refine St.aI isAc rl1 _ rl1 _ _ rl1 (by with_reducible exact A13s) rfl ?_)
  |(refine St.aU isAc rl1 _ _ rl1 _ (xR 0 0 0 0) (xR s c p q) rl1 rl1 (by with_reducible exact z13s) rfl rfl (ZG _ _ _ _) ?_))
 exact bodyPost_ret (v:= .agg (xR s c p q).toArray) (iV isAc Tryz.results145 _ _ w.heap.size (xR s c p q) rfl (ai.row z13s _) rfl) rfl ⟨rfl,St.aJ B13s (Nat.le_refl _) _⟩
end
section
open Go.RowKit Vc St Qn Dt Tg Ld Mt Mo
attribute [local go_sem ↓] Go.wp_at_zero Go.wp_at_succ
namespace Mo
theorem V3(w:World)(n:Nat)(hn:w.heap.size=n)(F:Nat->Nat->Int)(r0 r1 r2 r3 r4 r5:Array Value)(h0:r0=(vals 6 (F 0)).toArray)(h1:r1=(vals 6 (F 1)).toArray)(h2:r2=(vals 6 (F 2)).toArray)(h3:r3=(vals 6 (F 3)).toArray)(h4:r4=(vals 6 (F 4)).toArray)(h5:r5=(vals 6 (F 5)).toArray):
 Grid (((((((w.alloc (.cells r0 2)).alloc (.cells r1 2)).alloc (.cells r2 2)).alloc (.cells r3 2)).alloc (.cells r4 2)).alloc (.cells r5 2)).alloc (.cells #[.slice (some ⟨n,0,none⟩) 6 6, .slice (some ⟨n+1,0,none⟩) 6 6, .slice (some ⟨n+1+1,0,none⟩) 6 6, .slice (some ⟨n+1+1+1,0,none⟩) 6 6, .slice (some ⟨n+1+1+1+1,0,none⟩) 6 6, .slice (some ⟨n+1+1+1+1+1,0,none⟩) 6 6] 27)) (some ⟨n+1+1+1+1+1+1,0,none⟩) 6 6 6 F:=by
 have z0:w.heap.size=n:=hn;obtain⟨W0,e0⟩: ∃ W,W=w.alloc (.cells r0 2):=⟨_,rfl⟩;have z1:W0.heap.size=n+1:=by rw [e0];simp [z0]
 have b0_0:W0.heap[n]?=some (.cells r0 2 (0,0)):=by rw [e0,← z0];exact heap_alloc_new _ _
 rw [← e0];obtain⟨W1,e1⟩: ∃ W,W=W0.alloc (.cells r1 2):=⟨_,rfl⟩;have z2:W1.heap.size=n+1+1:=by rw [e1];simp [z1]
 have b1_1:W1.heap[n+1]?=some (.cells r1 2 (0,0)):=by rw [e1,← z1];exact heap_alloc_new _ _
 have b1_0:W1.heap[n]?=some (.cells r0 2 (0,0)):=by rw [e1];exact(Below.heap_alloc _ _ _ om1).trans b0_0
 rw [← e1];obtain⟨W2,e2⟩: ∃ W,W=W1.alloc (.cells r2 2):=⟨_,rfl⟩;have z3:W2.heap.size=n+1+1+1:=by rw [e2];simp [z2]
 have b2_2:W2.heap[n+1+1]?=some (.cells r2 2 (0,0)):=by rw [e2,← z2];exact heap_alloc_new _ _
 have b2_0:W2.heap[n]?=some (.cells r0 2 (0,0)):=by rw [e2];exact(Below.heap_alloc _ _ _ om1).trans b1_0
 have b2_1:W2.heap[n+1]?=some (.cells r1 2 (0,0)):=by rw [e2];exact(Below.heap_alloc _ _ _ om1).trans b1_1
 rw [← e2];obtain⟨W3,e3⟩: ∃ W,W=W2.alloc (.cells r3 2):=⟨_,rfl⟩;have z4:W3.heap.size=n+1+1+1+1:=by rw [e3];simp [z3]
 have b3_3:W3.heap[n+1+1+1]?=some (.cells r3 2 (0,0)):=by rw [e3,← z3];exact heap_alloc_new _ _
 have b3_0:W3.heap[n]?=some (.cells r0 2 (0,0)):=by rw [e3];exact(Below.heap_alloc _ _ _ om1).trans b2_0
 have b3_1:W3.heap[n+1]?=some (.cells r1 2 (0,0)):=by rw [e3];exact(Below.heap_alloc _ _ _ om1).trans b2_1
 have b3_2:W3.heap[n+1+1]?=some (.cells r2 2 (0,0)):=by rw [e3];exact(Below.heap_alloc _ _ _ om1).trans b2_2
 rw [← e3];obtain⟨W4,e4⟩: ∃ W,W=W3.alloc (.cells r4 2):=⟨_,rfl⟩;have z5:W4.heap.size=n+1+1+1+1+1:=by rw [e4];simp [z4]
 have b4_4:W4.heap[n+1+1+1+1]?=some (.cells r4 2 (0,0)):=by rw [e4,← z4];exact heap_alloc_new _ _
 have b4_0:W4.heap[n]?=some (.cells r0 2 (0,0)):=by rw [e4];exact(Below.heap_alloc _ _ _ om1).trans b3_0
 have b4_1:W4.heap[n+1]?=some (.cells r1 2 (0,0)):=by rw [e4];exact(Below.heap_alloc _ _ _ om1).trans b3_1
 have b4_2:W4.heap[n+1+1]?=some (.cells r2 2 (0,0)):=by rw [e4];exact(Below.heap_alloc _ _ _ om1).trans b3_2
 have b4_3:W4.heap[n+1+1+1]?=some (.cells r3 2 (0,0)):=by rw [e4];exact(Below.heap_alloc _ _ _ om1).trans b3_3
 rw [← e4];obtain⟨W5,e5⟩: ∃ W,W=W4.alloc (.cells r5 2):=⟨_,rfl⟩;have z6:W5.heap.size=n+1+1+1+1+1+1:=by rw [e5];simp [z5]
 have b5_5:W5.heap[n+1+1+1+1+1]?=some (.cells r5 2 (0,0)):=by rw [e5,← z5];exact heap_alloc_new _ _
 have b5_0:W5.heap[n]?=some (.cells r0 2 (0,0)):=by rw [e5];exact(Below.heap_alloc _ _ _ om1).trans b4_0
 have b5_1:W5.heap[n+1]?=some (.cells r1 2 (0,0)):=by rw [e5];exact(Below.heap_alloc _ _ _ om1).trans b4_1
 have b5_2:W5.heap[n+1+1]?=some (.cells r2 2 (0,0)):=by rw [e5];exact(Below.heap_alloc _ _ _ om1).trans b4_2
 have b5_3:W5.heap[n+1+1+1]?=some (.cells r3 2 (0,0)):=by rw [e5];exact(Below.heap_alloc _ _ _ om1).trans b4_3
 have b5_4:W5.heap[n+1+1+1+1]?=some (.cells r4 2 (0,0)):=by rw [e5];exact(Below.heap_alloc _ _ _ om1).trans b4_4
 rw [← e5];obtain⟨V,e⟩: ∃ V,V=W5.alloc (.cells #[.slice (some ⟨n,0,none⟩) 6 6, .slice (some ⟨n+1,0,none⟩) 6 6, .slice (some ⟨n+1+1,0,none⟩) 6 6, .slice (some ⟨n+1+1+1,0,none⟩) 6 6, .slice (some ⟨n+1+1+1+1,0,none⟩) 6 6, .slice (some ⟨n+1+1+1+1+1,0,none⟩) 6 6] 27):=⟨_,rfl⟩;have bl:V.heap[n+1+1+1+1+1+1]?=some (.cells #[.slice (some ⟨n,0,none⟩) 6 6, .slice (some ⟨n+1,0,none⟩) 6 6, .slice (some ⟨n+1+1,0,none⟩) 6 6, .slice (some ⟨n+1+1+1,0,none⟩) 6 6, .slice (some ⟨n+1+1+1+1,0,none⟩) 6 6, .slice (some ⟨n+1+1+1+1+1,0,none⟩) 6 6] 27 (0,0)):=by rw [e,← z6];exact heap_alloc_new _ _
 have c0:V.heap[n]?=some (.cells (vals 6 (F 0)).toArray 2 (0,0)):=by rw [e,← h0];exact(Below.heap_alloc _ _ _ om1).trans b5_0
 have c1:V.heap[n+1]?=some (.cells (vals 6 (F 1)).toArray 2 (0,0)):=by rw [e,← h1];exact(Below.heap_alloc _ _ _ om1).trans b5_1
 have c2:V.heap[n+1+1]?=some (.cells (vals 6 (F 2)).toArray 2 (0,0)):=by rw [e,← h2];exact(Below.heap_alloc _ _ _ om1).trans b5_2
 have c3:V.heap[n+1+1+1]?=some (.cells (vals 6 (F 3)).toArray 2 (0,0)):=by rw [e,← h3];exact(Below.heap_alloc _ _ _ om1).trans b5_3
 have c4:V.heap[n+1+1+1+1]?=some (.cells (vals 6 (F 4)).toArray 2 (0,0)):=by rw [e,← h4];exact(Below.heap_alloc _ _ _ om1).trans b5_4
 have c5:V.heap[n+1+1+1+1+1]?=some (.cells (vals 6 (F 5)).toArray 2 (0,0)):=by rw [e,← h5];exact(Below.heap_alloc _ _ _ om1).trans b5_5
 rw [← e]
 have key: ∀ j,j<6->V.heap[n+j]?=some (.cells (vals 6 (F j)).toArray 2 (0,0)):=fun j hj=>by
  rcases j with _|_|_|_|_|_|j
  ·exact c0
  ·exact c1
  ·exact c2
  ·exact c3
  ·exact c4
  ·exact c5
  ·omega
 refine⟨fun k=>some ⟨n+k,0,none⟩,fun _=>6,⟨om1,om1,fun j hj=>⟨_,rfl, ?_⟩⟩,fun k hk=>⟨Nat.le_refl _,(by decide:6<=9223372036854775807),fun j hj=>⟨_,rfl, ?_⟩⟩⟩
 ·rw [Addr.add_lit,Nat.zero_add];rcases j with _|_|_|_|_|_|j
  ·simp [World.cell?,bl,Nat.add_assoc]
  ·simp [World.cell?,bl,Nat.add_assoc]
  ·simp [World.cell?,bl,Nat.add_assoc]
  ·simp [World.cell?,bl,Nat.add_assoc]
  ·simp [World.cell?,bl,Nat.add_assoc]
  ·simp [World.cell?,bl,Nat.add_assoc]
  ·omega
 ·rw [Addr.add_lit,Nat.zero_add];simp [World.cell?,key k hk,dI hj]
end Mo
theorem Ib(s c p q:Int)(w:World)(s0: -9000000000000000000<=s)(s1:s<=9000000000000000000)(q0: -9000000000000000000<=q)(q1:q<=9000000000000000000):
 Calls Tryz.prog 147 #[.agg (xR s c p q).toArray] w fun e w'=> ∃ lo cm,e= .returned (.slice lo 6 cm)/\Grid w' lo 6 cm 6 (Ot s c p q)/\Below w.heap.size w w':=by
 have e1:IntKind.i64.wrap (-s)= -s:=by rw [IntKind.wrap_i64];omega
 have e2:IntKind.i64.wrap (-q)= -q:=by rw [IntKind.wrap_i64];omega
 show Calls Tryz.prog 147 #[.agg #[.int .i64 s, .int .i64 c, .int .i64 p, .int .i64 q]] w fun e w'=> ∃ lo cm,e= .returned (.slice lo 6 cm)/\Grid w' lo 6 cm 6 (Ot s c p q)/\Below w.heap.size w w';go_enter Tryz.func147,Tryz.ntmps147
 go_wp2;go_ret;refine⟨_,_,rfl, ?_,af (af (af (af (af (af (af (af (Below.refl _ _) _) _) _) _) _) _) _) _⟩;exact V3 (w.alloc (.cells #[.int .i64 s, .int .i64 c, .int .i64 p, .int .i64 q] 244)) (w.heap.size+1) (by simp) (Ot s c p q) _ _ _ _ _ _ rfl rfl rfl rfl rfl rfl
namespace Mo
def pt(K d N:Int)(i j:Nat):Nat->Int:=fun t=>if t<3*i then nz K d N (t/3) (t%3) else if t<3*i+j then ng K d N (t/3) (t%3) else 0
theorem uQ(K d N:Int)(k:Nat):pt K d N 0 0 k=0:=by unfold pt;rw [if_neg om1,if_neg om1]
theorem Jz(K d N:Int){i j:Nat}(hj:j<3)(k:Nat):(if k=3*i+j then ng K d N i j else pt K d N i j k)=pt K d N i (j+1) k:=by
 unfold pt;by_cases e:k=3*i+j
 · rw [if_pos e,if_neg om1,if_pos om1];have e1:k/3=i:=om1;have e2:k%3=j:=om1;rw [e1,e2]
 · rw [if_neg e];by_cases h:k<3*i
   · rw [if_pos h,if_pos h]
   · rw [if_neg h,if_neg h];by_cases h2:k<3*i+j
     · rw [if_pos h2,if_pos om1]
     · rw [if_neg h2,if_neg om1]
theorem Ri(K d N:Int){i:Nat}(hi:i<3):pt K d N i 3 (3*i+i)=ng K d N i i:=by
 unfold pt;rw [if_neg om1,if_pos om1];have e1:(3*i+i)/3=i:=om1;have e2:(3*i+i)%3=i:=om1;rw [e1,e2]
theorem pt_row(K d N:Int){i:Nat}(hi:i<3)(k:Nat):(if k=3*i+i then ng K d N i i+16 else pt K d N i 3 k)=pt K d N (i+1) 0 k:=by
 unfold pt;by_cases e:k=3*i+i
 · rw [if_pos e,if_pos om1];have e1:k/3=i:=om1;have e2:k%3=i:=om1;rw [e1,e2];unfold nz;rw [if_pos rfl]
 · rw [if_neg e];by_cases h:k<3*i
   · rw [if_pos h,if_pos om1]
   · rw [if_neg h];by_cases h2:k<3*i+3
     · rw [if_pos h2,if_pos om1];unfold nz;rw [if_neg om1];omega
     · rw [if_neg h2,if_neg om1,if_neg om1]
theorem BJ(K d N:Int)(k:Nat)(h:k<9):pt K d N 3 0 k=nz K d N (k/3) (k%3):=by unfold pt;rw [if_pos om1]
def jM(w:World)(b:Nat)(z:Nat->Int):Prop:=ai w b 151 (vals 9 z)
theorem jM.keep{w w':World}{b:Nat}{z:Nat->Int}(h:jM w b z)(k:Below w.heap.size w w'):jM w' b z:=ai.keep h k
theorem jM.cell{w:World}{b:Nat}{z:Nat->Int}(h:jM w b z){k:Nat}(hk:k<9):w.cell? ⟨b,k,none⟩=some (.int .i64 (z k)):=ai.cell h (dI hk) rfl
theorem jM.set{w:World}{b:Nat}{z:Nat->Int}(h:jM w b z)(j:Nat)(x:Int):jM (w.setCell ⟨b,j,none⟩ (.int .i64 x)) b (fun k=>if k=j then x else z k):=by
 have e:=ai.set h j (.int .i64 x);rw [fG] at e;exact e
theorem jM.congr{w:World}{b:Nat}{z z':Nat->Int}(h:jM w b z)(e: ∀ k,k<9->z k=z' k):jM w b z':=by
 unfold jM;rw [← dZ e];exact h
theorem run_g(z:Nat->Int)(w:World): ∀ {k:Nat},k<3->(Instr.index 149 (.agg (vals 3 z).toArray) (.int .i64 (k:Int))).run Tryz.prog w= .ok (.int .i64 (z k)) w
 |0,_=>by kernel_rfl
 |1,_=>by kernel_rfl
 |2,_=>by kernel_rfl
 |n+3,h=>by omega
theorem ZJ(K d:Int)(h:K≠1):vals 3 (gv K d)= [.int .i64 (hf d), .int .i64 d, .int .i64 0]:=by
 simp [vals,List.range,List.range.loop,gv,h]
theorem V4(d:Int):vals 3 (gv 1 d)= [.int .i64 (hf d), .int .i64 d, .int .i64 1048576]:=by
 simp [vals,List.range,List.range.loop,gv]
theorem zero9:(#[.int .i64 0, .int .i64 0, .int .i64 0, .int .i64 0, .int .i64 0, .int .i64 0, .int .i64 0, .int .i64 0, .int .i64 0]:Array Value)=(vals 9 (fun _=>0)).toArray:=by kernel_rfl
end Mo
end
section
open Go.RowKit Vc Mt Qn Dt
namespace Mt
theorem FI:(Tryz.prog.fieldsOf 53).toList.map (fun f=>(f.name,f.type,f.offset))= [("Rows",3,0),("Cols",3,1),("A",51,2)]:=by kernel_rfl
theorem BK:Tryz.prog.underlying 53=some (.struct (Tryz.prog.fieldsOf 53)):=by kernel_rfl
theorem XJ:Tryz.prog.stoodInHeld 53=false:=by kernel_rfl
theorem XK:Tryz.prog.eqGuardType Tryz.prog.depth 53=false:=by kernel_rfl
theorem Rw:Tryz.prog.underlying 51=some (.array 36 2):=by kernel_rfl
theorem Md:Tryz.prog.cellsOf 2=1:=by kernel_rfl
theorem ZK(w:World):(sizeOf 51).run Tryz.prog w= .ok 36 w:=by
 have h:(Tryz.prog.info? 51).map (·.size)=some 36:=by kernel_rfl
 cases hq:Tryz.prog.info? 51 with
 |none=>rw [hq] at h;cases h
 |some i=>
  have hi:i.size=36:=by rw [hq] at h;simpa using h
  simp [sizeOf,typeInfo,hq,hi]
theorem Ov(r c:Int)(z:Nat->Int):List.take 36 (List.drop 2 (aj r c z))=vals 36 z:=by
 have h:(vals 36 z).length=36:=aK 36 z;show List.take 36 (vals 36 z)=vals 36 z;exact List.take_of_length_le om1
theorem iO(w:World)(xs:Array Value)(o:Nat)(v:Int)(h:xs[o]?=some (.int .i64 v)):(Go.part 3 xs o).run Tryz.prog w= .ok (.int .i64 v) w:=by
 simp [Go.part,isAgg,run_underlying Tryz.underlying3,h]
theorem nV(w:World)(xs:Array Value)(o:Nat)(v:Int)(h:xs[o]?=some (.int .i64 v)):(Go.part 2 xs o).run Tryz.prog w= .ok (.int .i64 v) w:=by
 simp [Go.part,isAgg,run_underlying Tryz.underlying2,h]
theorem tX(w:World)(r c:Int)(z:Nat->Int):(Go.part 51 (aj r c z).toArray 2).run Tryz.prog w= .ok (.agg (vals 36 z).toArray) w:=by
 simp [Go.part,isAgg,run_underlying Rw,ZK];exact Ov r c z
theorem Rx{α β:Type}{g:α->β}: ∀ {fs:List α} {a b c:β},fs.map g= [a,b,c]-> ∃ x y z,fs= [x,y,z]/\g x=a/\g y=b/\g z=c
 | [],a,b,c,h=>by simp at h
 | [x],a,b,c,h=>by simp at h
 | [x,y],a,b,c,h=>by simp at h
 | [x,y,z],a,b,c,h=>by simp at h;exact⟨x,y,z,rfl,h.1,h.2.1,h.2.2⟩
 |x::y::z::u::r,a,b,c,h=>by simp at h
theorem qW(d:Nat)(xs ys:Array Value)(w:World):(Op.eqFields d xs ys []).run Tryz.prog w= .ok true w:=by simp [Op.eqFields]
theorem aF{ops:Array Oper}{rest:List Oper}{o:Oper}{a:Act}{Q:Exit->Act->World->Prop}(hgd:o.guard=none)(x y:Operand)(ho:o.op= .store 53 x y)(w2:World)
 (r c:Int) (z:Nat->Int) (hx:a.eval x= .pointer (some ⟨w2.heap.size,0,none⟩)) (hy:a.eval y= .agg (aj r c z).toArray)
 (h: ∀ w3,dU w3 w2.heap.size r c z->Below w2.heap.size w2 w3->wpList Tryz.prog ops Q rest (a.put o.dst undef) w3):wpList Tryz.prog ops Q (o::rest) a (w2.alloc (.cells (aj 0 0 (fun _=>0)).toArray 53)):=
 aN hgd x y ho _ _ _ _ _ _ _ hx hy (bJ w2 0 0 (fun _=>0)) (h _ ((bJ w2 0 0 (fun _=>0)).row _ _ _) (aJ (af (Below.refl _ _) _) (Nat.le_refl _) _))
end Mt
end
section
open Go.RowKit Vc Mt St Ld
namespace Ld
def eqz(n:Nat)(z y:Nat->Int):Bool:=(List.range n).all fun i=>z i==y i
theorem FK{n:Nat}{z y:Nat->Int}:eqz n z y=true↔ ∀ k,k<n->z k=y k:=by
 unfold eqz;rw [List.all_eq_true];exact⟨fun h k hk=>by simpa using h k (List.mem_range.2 hk),fun h k hk=>by simpa using h k (List.mem_range.1 hk)⟩
theorem o8(n:Nat)(z y:Nat->Int)(w:World)(d:Nat): ∀ is:List Nat,(∀ i∈is,i<n)->(Op.eqItems (d+1) 2 1 (vals n z).toArray (vals n y).toArray is).run Tryz.prog w= .ok (is.all fun i=>z i==y i) w
 | [],_=>by simp [Op.eqItems]
 |i::is,h=>by
  have hi:i<n:=h i (by simp)
  have px:=nV w (vals n z).toArray (i*1) (z i) (by rw [List.getElem?_toArray,Nat.mul_one];exact dI hi)
  have py:=nV w (vals n y).toArray (i*1) (y i) (by rw [List.getElem?_toArray,Nat.mul_one];exact dI hi)
  have pe:=run_equalIn_int w d 2 .i64 .i64 (z i) (y i) Tryz.underlying2
  have ih:=o8 n z y w d is fun j hj=>h j (by simp [hj])
  simp only [Op.eqItems,Sem.run_bind,px,py,pe,Result.andThen_ok]
  cases hb:(z i==y i) with
  |true=>simp [ih,hb]
  |false=>simp [hb]
theorem fM(d:Nat)(xs ys:Array Value)(f:Field)(fs:List Field)(w:World)(v u:Value)(b c:Bool)(hn:f.name≠ "_")(p1:(Go.part f.type xs f.offset).run Tryz.prog w= .ok v w)(p2:(Go.part f.type ys f.offset).run Tryz.prog w= .ok u w)(pe:(Op.equalIn d f.type v u).run Tryz.prog w= .ok b w)
 (h:(Op.eqFields d xs ys fs).run Tryz.prog w= .ok c w):(Op.eqFields d xs ys (f::fs)).run Tryz.prog w= .ok (b && c) w:=by
 rw [Op.eqFields,if_pos hn];simp only [Sem.run_bind,p1,p2,pe,Result.andThen_ok];cases b with
 |true=>simpa using h
 |false=>simp
def eqM(r c:Int)(z:Nat->Int)(r' c':Int)(z':Nat->Int):Bool:=(r==r') && ((c==c') && (eqz 36 z z' && true))
theorem FM{r c r' c':Int}{z z':Nat->Int}:eqM r c z r' c' z'=true↔r=r'/\c=c'/\ ∀ k,k<36->z k=z' k:=by
 unfold eqM;simp [FK]
theorem FN(r c:Int)(z:Nat->Int)(r' c':Int)(z':Nat->Int)(w:World):(Op.equalIn 10000 53 (.agg (aj r c z).toArray) (.agg (aj r' c' z').toArray)).run Tryz.prog w= .ok (eqM r c z r' c' z') w:=by
 obtain⟨f0,f1,f2,hf,h0,h1,h2⟩:=Rx FI;injection h0 with n0 h0
 injection h0 with t0 o0
 injection h1 with n1 h1
 injection h1 with t1 o1
 injection h2 with n2 h2
 injection h2 with t2 o2
 rw [run_equalIn_struct w 9999 53 _ _ BK XJ,hf];clear hf;obtain⟨i0,hi,_,_,_⟩:=info_parts iY;have q0:=run_equalIn_int w 9998 3 .i64 .i64 r r' Tryz.underlying3;have q1:=run_equalIn_int w 9998 3 .i64 .i64 c c' Tryz.underlying3
 have q2:(Op.equalIn 9999 51 (.agg (vals 36 z).toArray) (.agg (vals 36 z').toArray)).run Tryz.prog w= .ok (eqz 36 z z') w:=by
  rw [run_equalIn_array w 9998 (vals 36 z).toArray (vals 36 z').toArray Rw hi,Md];exact o8 36 z z' w 9997 _ (fun i hi=>by simpa using hi)
 exact fM 9999 _ _ f0 _ w _ _ _ _ (by rw [n0];simp) (by rw [t0,o0];exact iO w (aj r c z).toArray 0 r (by simp [aj])) (by rw [t0,o0];exact iO w (aj r' c' z').toArray 0 r' (by simp [aj])) (by rw [t0];exact q0)
  (fM 9999 _ _ f1 _ w _ _ _ _ (by rw [n1];simp) (by rw [t1,o1];exact iO w (aj r c z).toArray 1 c (by simp [aj])) (by rw [t1,o1];exact iO w (aj r' c' z').toArray 1 c' (by simp [aj])) (by rw [t1];exact q1)
    (fM 9999 _ _ f2 _ w _ _ _ _ (by rw [n2];simp) (by rw [t2,o2];exact tX w r c z) (by rw [t2,o2];exact tX w r' c' z') (by rw [t2];exact q2) (qW _ _ _ w)))
theorem Ox{ops:Array Oper}{rest:List Oper}{o:Oper}{a:Act}{w:World}{Q:Exit->Act->World->Prop}(hw:Region.wanted o (yielded ops a.tmps)=true)(x y:Operand)(u:TypeId)(ho:o.op= .binOp .neq 53 x y u)
 (r c:Int) (z:Nat->Int) (r' c':Int) (z':Nat->Int) (b:Bool) (hb:(!eqM r c z r' c' z')=b) (hx:a.eval x= .agg (aj r c z).toArray) (hy:a.eval y= .agg (aj r' c' z').toArray)
 (h:wpList Tryz.prog ops Q rest (a.put o.dst (.bool b)) w):wpList Tryz.prog ops Q (o::rest) a w:=
 mM hw fun _ hK=>by
  unfold Oper.wp execOp
  simp only [ho,hx,hy,Sem.run_bind,run_eqGuard_agg w _ _ x y _ _ XK,Result.andThen_ok,run_neq_struct,FN]
  rw [hb]
  exact hK _ _ h
end Ld
end
section
open Go.RowKit Vc Mt St Qn Dt Ld
namespace Ld
abbrev f0:List Value:=fB 0 (fun _=>0) (fun _=>0)
def Same(n:Nat)(F:Nat->Nat->Int):Prop:= ∀ i j,i<n->j<n->F i j=F j i
theorem Ry{n:Nat}{F:Nat->Nat->Int}(h:Same n F):(!eqM n n (mz n n (fun i j=>F j i)) n n (mz n n F))=false:=by
 rw [FM.2 ⟨rfl,rfl,fun k hk=>pJ (fun i j hi hj=>(h i j hi hj).symm) k⟩];rfl
end Ld
theorem lof_not(r c:Int)(z:Nat->Int)(w:World)(h: ¬May r c z):
 Calls Tryz.prog 160 #[.agg (aj r c z).toArray] w fun e w'=>e= .returned (.tuple #[.agg f0.toArray, .iface 93 (.int .i64 1)])/\Below w.heap.size w w':=by
 have rM:=(bJ w r c z).alloc (.cells f0.toArray 161);have rA:=bU w (.cells (aj r c z).toArray 53) 161 f0;have hB:=af (af (Below.refl _ w) (.cells (aj r c z).toArray 53)) (.cells f0.toArray 161);obtain⟨W,hW⟩: ∃ W,W=(w.alloc (.cells (aj r c z).toArray 53)).alloc (.cells f0.toArray 161):=⟨_,rfl⟩;rw [← hW] at rM rA hB;have HT:=Hid.mkV (QI r c z W h);have HW:=Hid.mkV hW;clear hW h;go_enter Tryz.func160,Tryz.ntmps160
 go_wp2_with (first
  |(rw [QL,← HW.out];refine dw rl1 _ rl1 _ _ _ _ rl1 (by with_reducible exact rM) ?_)
  |fail)
 refine HT.out.mono ?_;rintro e w1 ⟨rfl,k1⟩;have A1:=ai.keep rA k1;have B1:=ae hB k1;clear rM rA HT hB k1
 go_wp2_with (first
  |(rw [dY];refine Mt.aF rfl _ _ rl1 _ _ _ _ rl1 rl1 ?_;intro w2 n2 k2;have A2:=ai.keep A1 k2;have B2:=ae B1 k2;clear A1 B1 k2)
  |(refine oI rl1 rl1 ?_)
  |(refine St.aU isF rfl _ _ rl1 _ _ _ rl1 rl1 (by with_reducible exact A2) (dM _ _ _) (dM _ _ _) (lM _ _ _) ?_)
  |fail)
 exact bodyPost_ret (St.iD isF Tryz.results160 _ _ (w.heap.size+1) _ rfl (ai.row A2 _) (dM _ _ _)) rfl ⟨rfl,St.aJ B2 om1 _⟩
open Classical in
noncomputable def Ld.ofV (n:Nat) (F:Nat->Nat->Int):Value:=if ∀ i,i<n->fine F i then .tuple #[.agg (fB n (mz n n (st F n).1) (st F n).2).toArray, .nilIface] else .tuple #[.agg f0.toArray, .iface 93 (.int .i64 8)]
theorem Rz(n:Nat)(F:Nat->Nat->Int)(w:World)(h1:1<=n)(h2:n<=6)(h:Same n F)(hF:B2 F):
 Calls Tryz.prog 160 #[.agg (aj n n (mz n n F)).toArray] w fun e w'=>e= .returned (ofV n F)/\Below w.heap.size w w':=by
 have rM:=(bJ w n n (mz n n F)).alloc (.cells f0.toArray 161);have rA:=bU w (.cells (aj n n (mz n n F)).toArray 53) 161 f0;have hB:=af (af (Below.refl _ w) (.cells (aj n n (mz n n F)).toArray 53)) (.cells f0.toArray 161);obtain⟨W,hW⟩: ∃ W,W=(w.alloc (.cells (aj n n (mz n n F)).toArray 53)).alloc (.cells f0.toArray 161):=⟨_,rfl⟩;have hWs:w.heap.size+2=W.heap.size:=by rw [hW];simp
 rw [← hW] at rM rA hB;have HT:=Hid.mkV (qM n n F W h1 h2 h1 h2);have HE:=Hid.mkV (Ry h);have HR:=Hid.mkV (fun i (hi:i<n) W'=>ET n n i F W' h1 h2 h1 h2 hi);have HY:Hid ((∀ i,i<n->fine F i)->ofV n F= .tuple #[.agg (fB n (mz n n (st F n).1) (st F n).2).toArray, .nilIface]):=fun h=>if_pos h;have HN:Hid ((¬ ∀ i,i<n->fine F i)->ofV n F= .tuple #[.agg f0.toArray, .iface 93 (.int .i64 8)]):=fun h=>if_neg h;obtain⟨V,hV⟩: ∃ V,V=ofV n F:=⟨_,rfl⟩;rw [← hV] at HY HN ⊢;obtain⟨z,hz⟩: ∃ z,z=mz n n F:=⟨_,rfl⟩;obtain⟨z',hz'⟩: ∃ z,z=mz n n (fun i j=>F j i):=⟨_,rfl⟩;rw [← hz] at rM hW HT HE HR ⊢;rw [← hz'] at HT HE;have HW:=Hid.mkV hW
 have HFill:=Hid.mkV (fun(g s i:Nat) (mo:Option Addr) (mc:Nat) (o:Bool) (W:World) (h:gX W g n (mz n n (st F i).1) (st F i).2) (hs:fH W s o) (hgs:g≠s) (hm:Sl W mo n mc (F i)) (hmb: ∀ x,mo=some x->x.block≠s/\x.block≠g) (hi:i<n) (hf: ∀ k,k<i->fine F k)=>
  JA g s i n mo mc (F i) (st F i).1 (st F i).2 o W h hs hgs hm hmb (hF i) h2 hi (fun a=>lS (Hf F i a)) (lS (DN F i)) (fun k hk=>by rw [abe F hk];have:=(hf k hk).2;omega) (fun b=>DR F (Nat.le_refl _)))
 clear hW h hz hz' hV hF;go_enter Tryz.func160,Tryz.ntmps160
 go_wp2_with (first
  |(rw [QL,← HW.out];refine dw rl1 _ rl1 _ _ _ _ rl1 (by with_reducible exact rM) ?_)
  |fail)
 refine HT.out.mono ?_;rintro e w1 ⟨rfl,k1⟩;have M1:=rM.keep k1;have A1:=ai.keep rA k1;have B1:=ae hB k1;have z1:w.heap.size+2<=w1.heap.size:=by have:=k1.size;omega
 clear rM rA HT hB k1
 go_wp2_with (first
  |(rw [dY];refine Mt.aF rfl _ _ rl1 _ _ _ _ rl1 rl1 ?_;intro w2 n2 k2;have M2:=M1.keep k2;have A2:=ai.keep A1 k2;have B2:=ae B1 k2;have z2:w.heap.size+2<=w2.heap.size:=(by have:=k2.size;omega);clear M1 A1 B1 k2 z1)
  |(refine dw rl1 _ rl1 _ _ _ _ rl1 (by with_reducible exact n2) ?_)
  |(refine dw rl1 _ rl1 _ _ _ _ rl1 (by with_reducible exact M2) ?_)
  |(refine Ox rl1 _ _ _ rl1 _ _ _ _ _ _ _ HE.out rl1 rl1 ?_)
  |(refine Mt.ji rl1 _ rl1 _ _ _ rl1 (by with_reducible exact M2.rows) ?_)
  |(refine Dh rl1 _ rl1 _ rl1 ?_)
  |(rw [QL];refine St.aF isF rfl _ _ rl1 _ _ _ rl1 rl1 (dM _ _ _) (dM _ _ _) (lM _ _ _) ?_;intro w3 F3 k3;have M3:=M2.keep k3;have A3:=ai.keep A2 k3;have B3:=ae B2 k3;have z3:w.heap.size+3<=w3.heap.size:=(by have:=F3.lt;omega);clear M2 A2 B2 k3 n2)
  |(refine Mt.ji rl1 _ rl1 _ _ _ rl1 (by with_reducible exact gX.n (ai.alloc F3 _)) ?_)
  |fail)
 have F4:=ai.alloc F3 (.cells #[.bool false] 343);have S4:fH (w3.alloc (.cells #[.bool false] 343)) w3.heap.size false:=aH w3 _ _;have M4:=M3.alloc (.cells #[.bool false] 343);have A4:=ai.alloc A3 (.cells #[.bool false] 343);have B4:=af B3 (.cells #[.bool false] 343);have z4:=F3.lt;obtain⟨w4,hw4⟩: ∃ x,x=w3.alloc (.cells #[.bool false] 343):=⟨_,rfl⟩;obtain⟨s,hs⟩: ∃ x,x=w3.heap.size:=⟨_,rfl⟩;obtain⟨g,hg⟩: ∃ x,x=w2.heap.size:=⟨_,rfl⟩;rw [← hw4] at F4 S4 M4 A4 B4 ⊢;rw [← hs] at S4 z3 z4 ⊢;rw [← hg] at F4 z2 z4 ⊢
 have F4':gX w4 g n (mz n n (st F 0).1) (st F 0).2:=gX.congr F4 (fun k hk=>by
  unfold mz mP
  split<;>rfl) (fun k hk=>rfl)
 clear hw4 hs hg F3 M3 A3 B3 F4 HE;go_loopw [30] (fun ix wr=> ∃ i:Nat,i<=n/\ix= .int .i64 (i:Int)/\gX wr g n (mz n n (st F i).1) (st F i).2/\fH wr s false/\dU wr w.heap.size n n z/\ai wr (w.heap.size+1) 161 f0/\Below w.heap.size w wr/\Hid (∀ k,k<i->fine F k)) (fun ix _=>n- (intOf ix).toNat)
 case atStart=>exact⟨0,om1,rfl,F4',S4,M4,A4,B4,fun k hk=>by omega⟩
 case round=>
  obtain⟨i,hi,rfl,Fr,Sr,Mr,Ar,Br,hok⟩:=hrel;by_cases hin:i<n
  ·have HRi:=Hid.mkV (HR.out i hin)
   go_wp2_with (first
    |(refine dw rl1 _ rl1 _ _ _ _ rl1 (by with_reducible exact Mr) ?_)
    |fail)
   refine(HRi.out _).mono ?_;rintro e w5 ⟨mo,mc,rfl,sl5,fr5,k5⟩;have F5:=ai.keep Fr k5;have S5:=ai.keep Sr k5;have M5:=Mr.keep k5;have A5:=ai.keep Ar k5;have B5:=ae Br k5
   have z5: ∀ x,mo=some x->x.block≠s/\x.block≠g:=fun x hx=>by
    have h5:=fr5 x hx;have h6:=Fr.lt;have h7:=Sr.lt;omega
   clear HRi;go_wp2_with fail
   refine(HFill.out g s i mo mc false _ F5 S5 om1 sl5 z5 hin hok.out).mono ?_;rintro e w6 ⟨rfl,F6,S6,k6⟩
   have M6:dU w6 w.heap.size n n z:=by
    unfold dU;rw [k6.block _ M5.lt om1];exact M5
   have A6:=aT A5 k6 om1;have B6:=k6.below B5 (by have:=M5.lt;omega) (fun k hk=>by rcases hk with hk|hk<;>omega)
   have e1:Hid ((false||(LY (F i) (st F i).1 (st F i).2 i||midO (F i) (iI (F i) (st F i).1 (st F i).2 i) (st F i).2 i))=stO F i):=rfl;rw [e1.out] at S6;have F6':gX w6 g n (mz n n (st F (i+1)).1) (st F (i+1)).2:=F6;have cD:=gX.d F6' (k:=i) (o:=37+i) om1 om1;rw [abe F (Nat.lt_succ_self i)] at cD;have cO:=fH.o S6;have hfine:Hid (fine F i↔stO F i=false/\0<stD F i):=Iff.rfl;clear Fr Sr Mr Ar Br F5 S5 M5 A5 B5 F6;obtain⟨D,hD⟩: ∃ D,D=stD F i:=⟨_,rfl⟩;rw [← hD] at cD hfine;clear hD;cases hO:stO F i with
   |true=>
    rw [hO] at cO S6 hfine
    go_wp2_with (first
     |(refine oI rl1 rl1 ?_)
     |(refine St.aU isF rfl _ _ rl1 _ _ _ rl1 rl1 (by with_reducible exact A6) (dM _ _ _) (dM _ _ _) (lM _ _ _) ?_)
     |fail)
    refine bodyPost_ret (St.iD isF Tryz.results160 _ _ (w.heap.size+1) _ rfl (ai.row A6 _) (dM _ _ _)) rfl ⟨?_,St.aJ B6 om1 _⟩;rw [HN.out (fun h=>by have:=hfine.out.1 (h i hin);exact absurd this.1 (by simp))];rfl
   |false=>
    rw [hO] at cO S6 hfine;by_cases hD:D<=0
    ·have e3:decide (D<=0)=true:=decide_eq_true hD
     go_wp2_with (first
      |(refine oI rl1 rl1 ?_)
      |(refine St.aU isF rfl _ _ rl1 _ _ _ rl1 rl1 (by with_reducible exact A6) (dM _ _ _) (dM _ _ _) (lM _ _ _) ?_)
      |fail)
     refine bodyPost_ret (St.iD isF Tryz.results160 _ _ (w.heap.size+1) _ rfl (ai.row A6 _) (dM _ _ _)) rfl ⟨?_,St.aJ B6 om1 _⟩;rw [HN.out (fun h=>by have:=hfine.out.1 (h i hin);omega)];rfl
    ·have e3:decide (D<=0)=false:=decide_eq_false hD;go_wp2;go_roundw
     case rel=>
      exact⟨i+1,om1,by go_num,F6',S6,M6,A6,B6,fun k hk=>by
       rcases Nat.lt_or_ge k i with c|c
       ·exact hok.out k c
       ·obtain rfl:k=i:=om1
        exact hfine.out.2 ⟨by trivial,om1⟩⟩
     case measure=>simp [intOf];omega
  ·obtain rfl:i=n:=om1
   go_wp2_with (first
    |(refine St.aI isF rl1 _ rl1 _ _ rl1 (by with_reducible exact Fr) (dM _ _ _) ?_)
    |(refine St.aU isF rfl _ _ rl1 _ _ _ rl1 rl1 (by with_reducible exact Ar) (dM _ _ _) (dM _ _ _) (lM _ _ _) ?_)
    |fail)
   refine bodyPost_ret (St.iD isF Tryz.results160 _ _ (w.heap.size+1) _ rfl (ai.row Ar _) (dM _ _ _)) rfl ⟨?_,St.aJ Br om1 _⟩;rw [HY.out hok.out];rfl
end
section
open Go.RowKit Vc Mt St Qn Dt Ld
namespace Ld
theorem may_st{n:Nat}{F:Nat->Nat->Int}(h1:1<=n)(h2:n<=6)(hf: ∀ i,i<n->fine F i):vg n (mz n n (st F n).1) (st F n).2:=by
 refine⟨om1,om1,fun k hk=> ?_,fun k hk=> ?_⟩
 · rw [Int.toNat_natCast];unfold okD;by_cases e:n<=k
   · rw [if_pos e,DU F e];rfl
   · rw [if_neg e];have h3:=DN F n k;have h4:=(hf k om1).2;rw [abe F om1] at h3 ⊢;rw [decide_eq_true om1,decide_eq_true om1];rfl
 · rw [Int.toNat_natCast];unfold okL;by_cases e:n*n<=k
   · have e1:n<=k/n:=(Nat.le_div_iff_mul_le om1).2 e;rw [if_pos (Or.inl e1),Gy e];rfl
   · have e1:k/n<n:=(Nat.div_lt_iff_lt_mul om1).2 om1;have e2:k%n<n:=Nat.mod_lt _ om1;have e3:k=k/n*n+k%n:=by rw [Nat.mul_comm];exact(Nat.div_add_mod k n).symm
     have e4:mz n n (st F n).1 k=(st F n).1 (k/n) (k%n):=by
      have:=pI (n:=n) (c:=n) (F:=(st F n).1) e1 e2;rwa [← e3] at this
     rw [e4];by_cases c1:k/n<k%n
     · rw [if_pos (Or.inr c1),st_up F e1 c1];rfl
     · rw [if_neg om1];by_cases c2:k%n=k/n
       · rw [if_pos c2,c2,XA F e1];rfl
       · rw [if_neg c2];have h3:=Hf F n (k/n) (k%n);rw [vz.2 h3];rfl
theorem ZM{n:Nat}{F:Nat->Nat->Int}(h: ∀ i,i<n->fine F i):ofV n F= .tuple #[.agg (fB n (mz n n (st F n).1) (st F n).2).toArray, .nilIface]:=if_pos h
theorem ofV_no{n:Nat}{F:Nat->Nat->Int}(h: ¬ ∀ i,i<n->fine F i):ofV n F= .tuple #[.agg f0.toArray, .iface 93 (.int .i64 8)]:=if_neg h
def sV(a b:Int):Nat->Int:=fun k=>if k=0 then a else b
end Ld
end
section
open Go.RowKit Vc St Mt Dt Pr
namespace Ud
theorem hide{p:Prop}(h:p):Hid p:=h
def lT(x y a b c:Int):Prop:=InV x/\InV y/\InV a/\InV b/\InV c/\0<=a/\0<=b
instance (x y a b c:Int):Decidable (lT x y a b c):=by unfold lT;infer_instance
abbrev pv(x y a b c:Int):List Value:= [.int .i64 x, .int .i64 y, .int .i64 a, .int .i64 b, .int .i64 c]
def arX(m:Nat)(A M:Nat->Nat->Int):Nat->Nat->Int:=fun i j=>Qn.clamp (Qn.rne (dk (fun k=>M k j) (A i) m) (2^20))
def arV(m:Nat)(A M:Nat->Nat->Int):Nat->Nat->Int:=fun i j=>Qn.clamp (Qn.rne (dk (fun k=>A j k) (arX m A M i) m) (2^20))
def Dj(n m:Nat)(A M:Nat->Nat->Int):Bool:=jK (fun i j=>Qn.great (Qn.rne (dk (fun k=>M k j) (A i) m) (2^20))) n m
def Dk(n m:Nat)(A M:Nat->Nat->Int):Bool:=jK (fun i j=>Qn.great (Qn.rne (dk (fun k=>A j k) (arX m A M i) m) (2^20))) n n
theorem Ic(R:Nat->Nat->Int):B2 (fun i j=>Qn.clamp (R i j)):=fun i j=>by show _<=Qn.clamp (R i j)/\Qn.clamp (R i j)<=_;unfold Qn.clamp;constructor<;>(repeat' split)<;>omega
def g2(a b c:Int):Nat->Nat->Int:=fun i j=>if i=0 then(if j=0 then a else b) else(if j=0 then b else c)
def v2(x y:Int):Nat->Int:=fun k=>if k=0 then x else y
theorem JE(a b c:Int):Ld.Same 2 (g2 a b c):=by
 intro i j hi hj;unfold g2;by_cases h:i=0<;>by_cases h':j=0<;>simp [h,h']
theorem v2_b{x y:Int}(hx: -9223372036854775808<=x/\x<=9223372036854775807)(hy: -9223372036854775808<=y/\y<=9223372036854775807):B64 (v2 x y):=fun k=>by
 show _<=(if k=0 then x else y)/\(if k=0 then x else y)<=_
 split<;>assumption
theorem iF{w:World}{g:Nat}{t:TypeId}{n:Nat}{z:Nat->Int}(h:ai w g t (vals n z))(hn:n<=9223372036854775807):Sl w (some ⟨g,0,none⟩) n n z:=
 ⟨Nat.le_refl _,hn,fun k hk=>⟨_,rfl,by rw [Addr.add_lit];exact h.cell (dI hk) om1⟩⟩
theorem ZN{w:World}{gl g0 g1:Nat}{x0 y0 x1 y1:Int}(h:ai w gl 27 [.slice (some ⟨g0,0,none⟩) 2 2, .slice (some ⟨g1,0,none⟩) 2 2])(h0:ai w g0 2 (vals 2 (v2 x0 y0)))(h1:ai w g1 2 (vals 2 (v2 x1 y1))):
 Grid w (some ⟨gl,0,none⟩) 2 2 2 (fun i=>if i=0 then v2 x0 y0 else v2 x1 y1):=
 ⟨fun i=>if i=0 then some ⟨g0,0,none⟩ else some ⟨g1,0,none⟩,fun _=>2,⟨Nat.le_refl _,om1,fun k hk=>⟨_,rfl,by
  rw [Addr.add_lit]
  match k,hk with
  |0,_=>exact h.cell (k:=0) rfl rfl
  |1,_=>exact h.cell (k:=1) rfl rfl⟩⟩,fun k hk=>by
  match k,hk with
  |0,_=>exact iF h0 om1
  |1,_=>exact iF h1 om1⟩
theorem xU{ops:Array Oper}{S:World->Prop}{o:Oper}{a:Act}(hw:Region.wanted o (yielded ops a.tmps)=true)(x:Operand)(ho:o.op= .load 2 x)(ad:Addr)(v:Int)(hx:a.eval x= .pointer (some ad))(hS: ∀ w,S w->w.cell? ad=some (.int .i64 v)):YieldsIf Tryz.prog ops S o (.int .i64 v) a:=
 .inl ⟨hw,fun w h=>by
  unfold execOp
  have hL:(loadVar 2 ad).run Tryz.prog w= .ok (.int .i64 v) w:=by
   simp [loadVar,isAgg,underlying,Tryz.underlying2,hS w h,Result.andThen]
  simp only [ho,hx,Instr.loadAt,Instr.sureAddr,Sem.run_bind,Sem.run_pure,Result.andThen_ok,hL]⟩
theorem JF{ops:Array Oper}{S:World->Prop}{o:Oper}{a:Act}(hw:Region.wanted o (yielded ops a.tmps)=true)(x:Operand)(ho:o.op= .load 27 x)(ad:Addr)(v:Value)(hx:a.eval x= .pointer (some ad))(hS: ∀ w,S w->w.cell? ad=some v):YieldsIf Tryz.prog ops S o v a:=
 .inl ⟨hw,fun w h=>by
  unfold execOp
  have hL:(loadVar 27 ad).run Tryz.prog w= .ok v w:=by
   simp [loadVar,isAgg,underlying,Tryz.underlying27,hS w h,Result.andThen]
  simp only [ho,hx,Instr.loadAt,Instr.sureAddr,Sem.run_bind,Sem.run_pure,Result.andThen_ok,hL]⟩
theorem yw{w:World}{g:Nat}{t:TypeId}{cs:List Value}(h:ai w g t cs){a:Addr}{v:Value}(hc:w.cell? a=some v)(e:a.block=g):v∈cs:=by
 unfold World.cell? at hc;unfold ai at h;rw [e,h] at hc;simp only at hc;split at hc
 · cases hc
 · rw [List.getElem?_toArray] at hc;exact List.mem_of_getElem? hc
theorem mF{a b:World}{g:Nat}{t:TypeId}{cs:List Value}(h:ai a g t cs)(hc: ∀ z,Value.int .i64 z∉cs){ao:Option Addr}{n ca:Nat}{z:Nat->Int}(s:Sl a ao n ca z)(hn:0<n)(k:Ld.But (· =g) a b):Sl b ao n ca z:=
 Ld.lK s k fun x hx e=>by
  obtain⟨y,hy,c⟩:=s.at' 0 hn
  rw [hx] at hy
  cases hy
  exact hc _ (yw h c (by rw [Ld.dL];exact e))
theorem qX{a b:World}{g:Nat}{t:TypeId}{cs:List Value}(h:ai a g t cs)(hc: ∀ z,Value.int .i64 z∉cs){lo:Option Addr}{n cm m:Nat}{F:Nat->Nat->Int}(hl: ∀ q c,Value.slice q m c∉cs)(gr:Grid a lo n cm m F)(hm:0<m)(k:Ld.But (· =g) a b):Grid b lo n cm m F:=by
 obtain⟨A,C,h1,h2⟩:=gr;refine⟨A,C,⟨h1.le,h1.cap,fun j hj=> ?_⟩,fun j hj=>mF h hc (h2 j hj) hm k⟩;obtain⟨x,hx,c⟩:=h1.at' j hj;exact⟨x,hx,k.cell c fun e=>hl _ _ (yw h c e)⟩
theorem gp(w:World)(g:Nat)(cs:Array Value):Ld.But (· =g) w (w.setRow g cs):=⟨rfl,rfl,rfl,by simp,fun k hk hn=>setRow_other w g k cs hn⟩
theorem JG(a b c:Int)(i j:Nat)(hi:i<2)(hj:j<2):(if i=0 then v2 a b else v2 b c) j=g2 a b c i j:=by
 unfold g2 v2;by_cases h:i=0<;>by_cases h':j=0<;>simp [h,h']
def oa(P:Nat->Nat->Int)(a:Int):Int:=Qn.clamp (P 0 0+a)
def ob(P:Nat->Nat->Int)(c:Int):Int:=Qn.clamp (P 0 3+c)
def oc(P:Nat->Nat->Int)(b:Int):Int:=Qn.clamp (P 3 3+b)
def ox(X:Nat->Int)(x:Int):Int:=Qn.clamp (x- X 0)
def oy(X:Nat->Int)(y:Int):Int:=Qn.clamp (y- X 3)
def og(X:Nat->Int)(P:Nat->Nat->Int)(x y a b c:Int):Bool:=Qn.great (P 0 0+a)||Qn.great (P 0 3+c)||Qn.great (P 3 3+b)||Qn.great (x- X 0)||Qn.great (y- X 3)
def oM(P:Nat->Nat->Int)(a b c:Int):Nat->Nat->Int:=g2 (oa P a) (ob P c) (oc P b)
theorem BM(z:Int): -9223372036854775808<=Qn.clamp z/\Qn.clamp z<=9223372036854775807:=by unfold Qn.clamp;constructor<;>(repeat' split)<;>omega
theorem g2_b{a b c:Int}(ha: -9223372036854775808<=a/\a<=9223372036854775807)(hb: -9223372036854775808<=b/\b<=9223372036854775807)(hc: -9223372036854775808<=c/\c<=9223372036854775807):B2 (g2 a b c):=fun i j=>by
 show _<=(if i=0 then(if j=0 then a else b) else(if j=0 then b else c))/\(if i=0 then(if j=0 then a else b) else(if j=0 then b else c))<=_
 split<;>split<;>assumption
def fL(P:Nat->Nat->Int)(a b c:Int):Nat->Nat->Int:=(Ld.st (oM P a b c) 2).1
def fD(P:Nat->Nat->Int)(a b c:Int):Nat->Int:=(Ld.st (oM P a b c) 2).2
def kr(P:Nat->Nat->Int)(a b c:Int):Nat->Nat->Int:=fun i=>Ld.VT 2 (fL P a b c) (fD P a b c) (v2 (P i 0) (P i 3))
def ko(P:Nat->Nat->Int)(a b c:Int)(i:Nat):Bool:=Ld.UL 2 (fL P a b c) (fD P a b c) (v2 (P i 0) (P i 3))
def br(P:Nat->Nat->Int)(a b c:Int):Nat->Nat->Int:=fun i j=>if j=0 then Qn.clamp (lF i 0- kr P a b c i 0) else if j=3 then Qn.clamp (lF i 3- kr P a b c i 1) else lF i j
def bo0(P:Nat->Nat->Int)(a b c:Int)(i:Nat):Bool:=Qn.great (lF i 0- kr P a b c i 0)
def bo3(P:Nat->Nat->Int)(a b c:Int)(i:Nat):Bool:=Qn.great (lF i 3- kr P a b c i 1)
def nA(q:Bool)(P:Nat->Nat->Int)(a b c:Int):Nat->Bool
 |0=>q
 |k+1=>nA q P a b c k||ko P a b c k||bo0 P a b c k||bo3 P a b c k
def dV(X:Nat->Int)(P:Nat->Nat->Int)(x y a b c:Int):Nat->Int:=fun i=>Qn.clamp (Qn.rne (dk (kr P a b c i) (v2 (ox X x) (oy X y)) 2) (2^20))
def dO(X:Nat->Int)(P:Nat->Nat->Int)(x y a b c:Int):Bool:=dN (fun i=>Qn.great (Qn.rne (dk (kr P a b c i) (v2 (ox X x) (oy X y)) 2) (2^20))) 6
def xN(X:Nat->Int)(P:Nat->Nat->Int)(x y a b c:Int):Nat->Int:=fun i=>Qn.clamp (X i+dV X P x y a b c i)
def nB(q:Bool)(X:Nat->Int)(P:Nat->Nat->Int)(x y a b c:Int):Nat->Bool
 |0=>q
 |k+1=>nB q X P x y a b c k||Qn.great (X k+dV X P x y a b c k)
def wN(P:Nat->Nat->Int)(a b c:Int):Nat->Nat->Int:=fun i j=>Qn.clamp (arV 6 (br P a b c) P i j+arV 2 (kr P a b c) (g2 a c b) i j)
def wO(P:Nat->Nat->Int)(a b c:Int):Bool:=jK (fun i j=>Qn.great (arV 6 (br P a b c) P i j+arV 2 (kr P a b c) (g2 a c b) i j)) 6 6
def zE(P:Nat->Nat->Int)(a b c:Int):Nat->Nat->Int:=fun i j=>Qn.clamp (Qn.rne (wN P a b c i j+wN P a b c j i) (2^1))
def zO(P:Nat->Nat->Int)(a b c:Int):Bool:=jK (fun i j=>Qn.great (Qn.rne (wN P a b c i j+wN P a b c j i) (2^1))) 6 6
def zN(P:Nat->Nat->Int)(a b c:Int):Nat->Nat->Int:=fun i j=>if i=j/\zE P a b c i j<0 then 0 else zE P a b c i j
def nO(X:Nat->Int)(P:Nat->Nat->Int)(x y a b c:Int):Bool:=nB (nA (og X P x y a b c) P a b c 6||dO X P x y a b c) X P x y a b c 6||(Dj 6 6 (br P a b c) P||Dk 6 6 (br P a b c) P)||(Dj 6 2 (kr P a b c) (g2 a c b)||Dk 6 2 (kr P a b c) (g2 a c b))||wO P a b c||zO P a b c
theorem tY{ops:Array Oper}{S:World->Prop}{o:Oper}{a:Act}{t:TypeId}{n:Nat}(I:Is t n)(hw:Region.wanted o (yielded ops a.tmps)=true)(x:Operand)(ho:o.op= .load t x)
 (b p:Nat) (cs:List Value) (hx:a.eval x= .pointer (some ⟨b,p,none⟩)) (hS: ∀ w,S w->w.rangeAt b p cs) (hl:cs.length=n):YieldsIf Tryz.prog ops S o (.agg cs.toArray) a:=by
 obtain⟨d,hd,hr⟩:=I.row;exact yieldsIf_load_mid hw _ x ho b p hx cs d hS hd hr (by rw [I.size,hl])
theorem iG{ops:Array Oper}{rest:List Oper}{o:Oper}{a:Act}{w:World}{Q:Exit->Act->World->Prop}{t:TypeId}{n:Nat}(I:Is t n)(x:Operand)(ho:o.op= .load t x)(b:Nat)(cs:List Value)(hx:a.eval x= .pointer (some ⟨b,0,none⟩))(hr:ai w b t cs)(hl:cs.length=n)(hw:Region.wanted o (yielded ops a.tmps)=true)
 (h:wpList Tryz.prog ops Q rest (a.put o.dst (.agg cs.toArray)) w):wpList Tryz.prog ops Q (o::rest) a w:=St.aI I hw x ho b cs hx hr hl h
theorem Eb{ops:Array Oper}{rest:List Oper}{o:Oper}{a:Act}{w:World}{Q:Exit->Act->World->Prop}{t:TypeId}{n:Nat}(I:Is t n)(x y:Operand)(ho:o.op= .store t x y)(b:Nat)(cs ds:List Value)(hx:a.eval x= .pointer (some ⟨b,0,none⟩))(hy:a.eval y= .agg ds.toArray)(hr:ai w b t cs)(hl:cs.length=n)(hd:ds.length=n)(h1: ∀ v∈ds,v.oneCell'=true)(hgd:o.guard=none)
 (h:wpList Tryz.prog ops Q rest (a.put o.dst undef) (w.setRow b ds.toArray)):wpList Tryz.prog ops Q (o::rest) a w:=St.aU I hgd x y ho b cs ds hx hy hr hl hd h1 h
theorem kr_b(P:Nat->Nat->Int)(a b c:Int):B2 (kr P a b c):=fun i=>Ld.lS (Ld.Hq _ (Ld.yB _ _) 2 2)
theorem Dl:B2 lF:=fun i j=>by
 show _<=(if i=j then(1048576:Int) else 0)/\(if i=j then(1048576:Int) else 0)<=_
 split<;>omega
theorem br_b(P:Nat->Nat->Int)(a b c:Int):B2 (br P a b c):=fun i j=>by
 show _<=(if j=0 then _ else if j=3 then _ else lF i j)/\(if j=0 then _ else if j=3 then _ else lF i j)<=_
 split
 · exact BM _
 · split
   · exact BM _
   · exact Dl i j
theorem fD_b{P:Nat->Nat->Int}{a b c:Int}(h: ∀ i,i<2->Ld.fine (oM P a b c) i): ∀ k,k<2->1<=fD P a b c k/\fD P a b c k<=4611686018427387903:=fun k hk=>by
 have h3:=Ld.DN (oM P a b c) 2 k
 have h4:=(h k hk).2
 rw [← Ld.abe (oM P a b c) hk] at h4
 unfold fD
 omega
theorem fL_b(P:Nat->Nat->Int)(a b c:Int): ∀ i,B64 (fL P a b c i):=fun i=>Ld.lS (Ld.Hf (oM P a b c) 2 i)
end Ud
end
section
open Go.RowKit Vc Mt
namespace Cm
def eqz(n:Nat)(z y:Nat->Int):Bool:=(List.range n).all fun i=>z i==y i
theorem FK{n:Nat}{z y:Nat->Int}:eqz n z y=true↔ ∀ k,k<n->z k=y k:=by
 unfold eqz;rw [List.all_eq_true];exact⟨fun h k hk=>by simpa using h k (List.mem_range.2 hk),fun h k hk=>by simpa using h k (List.mem_range.1 hk)⟩
theorem o8(n:Nat)(z y:Nat->Int)(w:World)(d:Nat): ∀ is:List Nat,(∀ i∈is,i<n)->(Op.eqItems (d+1) 2 1 (vals n z).toArray (vals n y).toArray is).run Tryz.prog w= .ok (is.all fun i=>z i==y i) w
 | [],_=>by simp [Op.eqItems]
 |i::is,h=>by
  have hi:i<n:=h i (by simp)
  have px:=nV w (vals n z).toArray (i*1) (z i) (by rw [List.getElem?_toArray,Nat.mul_one];exact dI hi)
  have py:=nV w (vals n y).toArray (i*1) (y i) (by rw [List.getElem?_toArray,Nat.mul_one];exact dI hi)
  have pe:=run_equalIn_int w d 2 .i64 .i64 (z i) (y i) Tryz.underlying2
  have ih:=o8 n z y w d is fun j hj=>h j (by simp [hj])
  simp only [Op.eqItems,Sem.run_bind,px,py,pe,Result.andThen_ok]
  cases hb:(z i==y i) with
  |true=>simp [ih,hb]
  |false=>simp [hb]
theorem RD{t:TypeId}{n:Nat}(ht:Tryz.prog.underlying t=some (.array n 2))(z y:Nat->Int)(w:World)(d:Nat):(Op.equalIn (d+2) t (.agg (vals n z).toArray) (.agg (vals n y).toArray)).run Tryz.prog w= .ok (eqz n z y) w:=by
 obtain⟨i0,hi,_,_,_⟩:=info_parts iY;rw [run_equalIn_array w (d+1) (vals n z).toArray (vals n y).toArray ht hi,Md];exact o8 n z y w d _ (fun i hi=>by simpa using hi)
theorem fM(d:Nat)(xs ys:Array Value)(f:Field)(fs:List Field)(w:World)(v u:Value)(b c:Bool)(hn:f.name≠ "_")(p1:(Go.part f.type xs f.offset).run Tryz.prog w= .ok v w)(p2:(Go.part f.type ys f.offset).run Tryz.prog w= .ok u w)(pe:(Op.equalIn d f.type v u).run Tryz.prog w= .ok b w)
 (h:(Op.eqFields d xs ys fs).run Tryz.prog w= .ok c w):(Op.eqFields d xs ys (f::fs)).run Tryz.prog w= .ok (b && c) w:=by
 rw [Op.eqFields,if_pos hn];simp only [Sem.run_bind,p1,p2,pe,Result.andThen_ok];cases b with
 |true=>simpa using h
 |false=>simp
def eqM(r c:Int)(z:Nat->Int)(r' c':Int)(z':Nat->Int):Bool:=(r==r') && ((c==c') && (eqz 36 z z' && true))
theorem FM{r c r' c':Int}{z z':Nat->Int}:eqM r c z r' c' z'=true↔r=r'/\c=c'/\ ∀ k,k<36->z k=z' k:=by
 unfold eqM;simp [FK]
theorem FN(r c:Int)(z:Nat->Int)(r' c':Int)(z':Nat->Int)(w:World)(d:Nat):(Op.equalIn (d+3) 53 (.agg (aj r c z).toArray) (.agg (aj r' c' z').toArray)).run Tryz.prog w= .ok (eqM r c z r' c' z') w:=by
 obtain⟨f0,f1,f2,hf,h0,h1,h2⟩:=Rx FI;injection h0 with n0 h0
 injection h0 with t0 o0
 injection h1 with n1 h1
 injection h1 with t1 o1
 injection h2 with n2 h2
 injection h2 with t2 o2
 rw [run_equalIn_struct w (d+2) 53 _ _ BK XJ,hf];clear hf;have q0:=run_equalIn_int w (d+1) 3 .i64 .i64 r r' Tryz.underlying3;have q1:=run_equalIn_int w (d+1) 3 .i64 .i64 c c' Tryz.underlying3;have q2:=RD Rw z z' w d
 exact fM (d+2) _ _ f0 _ w _ _ _ _ (by rw [n0];simp) (by rw [t0,o0];exact iO w (aj r c z).toArray 0 r (by simp [aj])) (by rw [t0,o0];exact iO w (aj r' c' z').toArray 0 r' (by simp [aj])) (by rw [t0];exact q0)
  (fM (d+2) _ _ f1 _ w _ _ _ _ (by rw [n1];simp) (by rw [t1,o1];exact iO w (aj r c z).toArray 1 c (by simp [aj])) (by rw [t1,o1];exact iO w (aj r' c' z').toArray 1 c' (by simp [aj])) (by rw [t1];exact q1)
    (fM (d+2) _ _ f2 _ w _ _ _ _ (by rw [n2];simp) (by rw [t2,o2];exact tX w r c z) (by rw [t2,o2];exact tX w r' c' z') (by rw [t2];exact q2) (qW _ _ _ w)))
variable {ops:Array Oper} {rest:List Oper} {o:Oper} {a:Act} {w:World} {Q:Exit->Act->World->Prop}
theorem eqlM(x y:Operand)(u:TypeId)(ho:o.op= .binOp .eql 53 x y u)
 (r c:Int) (z:Nat->Int) (r' c':Int) (z':Nat->Int) (b:Bool) (hb:eqM r c z r' c' z'=b) (hx:a.eval x= .agg (aj r c z).toArray) (hy:a.eval y= .agg (aj r' c' z').toArray) (hw:Region.wanted o (yielded ops a.tmps)=true)
 (h:wpList Tryz.prog ops Q rest (a.put o.dst (.bool b)) w):wpList Tryz.prog ops Q (o::rest) a w:=
 mM hw fun _ hK=>by
  unfold Oper.wp execOp
  simp only [ho,hx,hy,Sem.run_bind,run_eqGuard_agg w _ _ x y _ _ XK,Result.andThen_ok,run_eql_struct]
  rw [FN r c z r' c' z' w 9997,hb]
  exact hK _ _ h
end Cm
end
section
open Go.RowKit Vc Mt St Cm
namespace Pd
def aB(X:Nat->Int)(r c:Int)(z:Nat->Int):List Value:=vals 6 X++aj r c z
theorem aA(X:Nat->Int)(r c:Int)(z:Nat->Int):(aB X r c z).length=44:=by simp [aB,aK,dG]
theorem FO{X:Nat->Int}{r c:Int}{z:Nat->Int}{k:Nat}(h:k<6):(aB X r c z)[k]?=some (.int .i64 (X k)):=by
 unfold aB;rw [List.getElem?_append_left (by rw [aK];exact h)];exact dI h
theorem RF(X:Nat->Int)(r c:Int)(z:Nat->Int)(k:Nat):(aB X r c z)[k+6]?=(aj r c z)[k]?:=by
 unfold aB;rw [List.getElem?_append_right (by rw [aK];omega),aK,Nat.add_sub_cancel]
theorem ZO{X:Nat->Int}{r c:Int}{z:Nat->Int}{k:Nat}(h:k<36):(aB X r c z)[k+8]?=some (.int .i64 (z k)):=by
 rw [RF X r c z (k+2)];exact pG h
theorem Oy{X:Nat->Int}{r c:Int}{z:Nat->Int}{j:Nat}(h:j<6)(x:Int):(aB X r c z).set j (.int .i64 x)=aB (fun k=>if k=j then x else X k) r c z:=by
 unfold aB;rw [List.set_append_left _ _ (by rw [aK];exact h),fG]
theorem JH{X Y:Nat->Int}{r c:Int}{z z':Nat->Int}(h: ∀ k,k<6->X k=Y k)(h': ∀ k,k<36->z k=z' k):aB X r c z=aB Y r c z':=by
 unfold aB;rw [dZ h,jJ h']
theorem cZ(X:Nat->Int)(r c:Int)(z:Nat->Int): ∀ v∈aB X r c z,v.oneCell'=true:=by
 intro v hv;rcases List.mem_append.1 hv with hv|hv
 · obtain⟨k,_,rfl⟩:=List.mem_map.1 hv;rfl
 · exact vT _ _ _ v hv
theorem isS:Is 55 44:=⟨by kernel_rfl,⟨_,Tryz.underlying55,rfl⟩⟩
theorem is6:Is 50 6:=⟨by kernel_rfl,⟨_,Tryz.underlying50,rfl⟩⟩
theorem Ie:Is 53 38:=⟨Tryz.yJ,⟨_,Tryz.underlying53,rfl⟩⟩
theorem JI:Is 156 6:=⟨by kernel_rfl,⟨_,Tryz.underlying156,rfl⟩⟩
abbrev fH(w:World)(g:Nat)(X:Nat->Int)(r c:Int)(z:Nat->Int):Prop:=ai w g 55 (aB X r c z)
theorem fH.x{w:World}{g:Nat}{X:Nat->Int}{r c:Int}{z:Nat->Int}(h:fH w g X r c z){k o:Nat}(hk:k<6)(ho:o=k):w.cell? ⟨g,o,none⟩=some (.int .i64 (X k)):=h.cell (FO hk) ho
theorem fH.z{w:World}{g:Nat}{X:Nat->Int}{r c:Int}{z:Nat->Int}(h:fH w g X r c z){k o:Nat}(hk:k<36)(ho:o=k+8):w.cell? ⟨g,o,none⟩=some (.int .i64 (z k)):=h.cell (ZO hk) ho
theorem fH.IW{w:World}{g:Nat}{X:Nat->Int}{r c:Int}{z:Nat->Int}(h:fH w g X r c z){k o:Nat}(hk:k<6)(ho:o=k)(x:Int):fH (w.setCell ⟨g,o,none⟩ (.int .i64 x)) g (fun i=>if i=k then x else X i) r c z:=by
 subst ho;have h':=ai.set h o (.int .i64 x);rwa [Oy hk] at h'
theorem fH.congr{w:World}{g:Nat}{X Y:Nat->Int}{r c:Int}{z z':Nat->Int}(h:fH w g X r c z)(e: ∀ k,k<6->X k=Y k)(e': ∀ k,k<36->z k=z' k):fH w g Y r c z':=by
 unfold fH;rw [← JH e e'];exact h
theorem fH.sl{w:World}{g:Nat}{X:Nat->Int}{r c:Int}{z:Nat->Int}(h:fH w g X r c z):Sl w (some ⟨g,0,none⟩) 6 6 X:=
 ⟨Nat.le_refl _,om1,fun k hk=>⟨_,rfl,by rw [Addr.add_lit];exact h.x hk om1⟩⟩
theorem fH.rx{w:World}{g:Nat}{X:Nat->Int}{r c:Int}{z:Nat->Int}(h:fH w g X r c z):w.rangeAt g 0 (vals 6 X):=ai.mid h (o:=0) fun j v hv=>by
 have hj:j<6:=by
  rcases Nat.lt_or_ge j 6 with k|k
  · exact k
  · rw [List.getElem?_eq_none (by rw [aK];exact k)] at hv;cases hv
 rw [dI hj] at hv;injection hv with hv
 rw [Nat.zero_add,FO hj,hv]
theorem fH.rm{w:World}{g:Nat}{X:Nat->Int}{r c:Int}{z:Nat->Int}(h:fH w g X r c z):w.rangeAt g 6 (aj r c z):=ai.mid h (o:=6) fun j v hv=>by
 rw [Nat.add_comm,RF];exact hv
theorem zeroS:(#[.int .i64 0, .int .i64 0, .int .i64 0, .int .i64 0, .int .i64 0, .int .i64 0, .int .i64 0, .int .i64 0, .int .i64 0, .int .i64 0, .int .i64 0, .int .i64 0, .int .i64 0, .int .i64 0, .int .i64 0, .int .i64 0, .int .i64 0, .int .i64 0, .int .i64 0, .int .i64 0, .int .i64 0, .int .i64 0, .int .i64 0, .int .i64 0, .int .i64 0, .int .i64 0, .int .i64 0, .int .i64 0, .int .i64 0, .int .i64 0, .int .i64 0, .int .i64 0, .int .i64 0, .int .i64 0, .int .i64 0, .int .i64 0, .int .i64 0, .int .i64 0, .int .i64 0, .int .i64 0, .int .i64 0, .int .i64 0, .int .i64 0, .int .i64 0]:Array Value)=(aB (fun _=>0) 0 0 (fun _=>0)).toArray:=by kernel_rfl
theorem zero6:(#[.int .i64 0, .int .i64 0, .int .i64 0, .int .i64 0, .int .i64 0, .int .i64 0]:Array Value)=(vals 6 (fun _=>0)).toArray:=by kernel_rfl
theorem ZP:(Tryz.prog.fieldsOf 55).toList.map (fun f=>(f.name,f.type,f.offset))= [("X",50,0),("P",53,6)]:=by kernel_rfl
theorem ZQ:Tryz.prog.underlying 55=some (.struct (Tryz.prog.fieldsOf 55)):=by kernel_rfl
theorem stoodS:Tryz.prog.stoodInHeld 55=false:=by kernel_rfl
theorem guardS:Tryz.prog.eqGuardType Tryz.prog.depth 55=false:=by kernel_rfl
theorem Zp:Tryz.prog.underlying 50=some (.array 6 2):=by kernel_rfl
theorem ZT{α β:Type}{g:α->β}: ∀ {fs:List α} {a b:β},fs.map g= [a,b]-> ∃ x y,fs= [x,y]/\g x=a/\g y=b
 | [],a,b,h=>by simp at h
 | [x],a,b,h=>by simp at h
 | [x,y],a,b,h=>by
   simp only [List.map_cons,List.map_nil,List.cons.injEq,and_true] at h
   exact⟨x,y,rfl,h.1,h.2⟩
 |x::y::z::r,a,b,h=>by simp at h
theorem Ig{t:TypeId}{n:Nat}(h:(Tryz.prog.info? t).map (·.size)=some n)(w:World):(sizeOf t).run Tryz.prog w= .ok n w:=by
 cases hq:Tryz.prog.info? t with
 |none=>rw [hq] at h;cases h
 |some i=>
  have hi:i.size=n:=by rw [hq] at h;simpa using h
  simp [sizeOf,typeInfo,hq,hi]
theorem ZU(X:Nat->Int)(r c:Int)(z:Nat->Int):List.take 6 (aB X r c z)=vals 6 X:=by
 unfold aB;rw [List.take_append_of_le_length (by rw [aK];omega)];exact List.take_of_length_le (by rw [aK];omega)
theorem ZV(X:Nat->Int)(r c:Int)(z:Nat->Int):List.take 38 (List.drop 6 (aB X r c z))=aj r c z:=by
 unfold aB;rw [List.drop_append_of_le_length (by rw [aK];omega),List.drop_eq_nil_of_le (by rw [aK];omega),List.nil_append];exact List.take_of_length_le (by rw [dG];omega)
theorem Ec(w:World)(X:Nat->Int)(r c:Int)(z:Nat->Int):(Go.part 50 (aB X r c z).toArray 0).run Tryz.prog w= .ok (.agg (vals 6 X).toArray) w:=by
 simp [Go.part,isAgg,run_underlying Zp,Ig is6.size];exact ZU X r c z
theorem Ed(w:World)(X:Nat->Int)(r c:Int)(z:Nat->Int):(Go.part 53 (aB X r c z).toArray 6).run Tryz.prog w= .ok (.agg (aj r c z).toArray) w:=by
 simp [Go.part,isAgg,run_underlying BK,Ig Tryz.yJ];exact ZV X r c z
def eqS(X:Nat->Int)(r c:Int)(z:Nat->Int)(Y:Nat->Int)(r' c':Int)(z':Nat->Int):Bool:=eqz 6 X Y && (eqM r c z r' c' z' && true)
theorem ZW{X Y:Nat->Int}{r c r' c':Int}{z z':Nat->Int}:eqS X r c z Y r' c' z'=true↔(∀ k,k<6->X k=Y k)/\r=r'/\c=c'/\ ∀ k,k<36->z k=z' k:=by
 unfold eqS;simp [FK,FM]
theorem V5(X:Nat->Int)(r c:Int)(z:Nat->Int):eqS X r c z X r c z=true:=ZW.2 ⟨fun _ _=>rfl,rfl,rfl,fun _ _=>rfl⟩
theorem ZX(X:Nat->Int)(r c:Int)(z:Nat->Int)(Y:Nat->Int)(r' c':Int)(z':Nat->Int)(w:World)(d:Nat):(Op.equalIn (d+4) 55 (.agg (aB X r c z).toArray) (.agg (aB Y r' c' z').toArray)).run Tryz.prog w= .ok (eqS X r c z Y r' c' z') w:=by
 obtain⟨f0,f1,hf,h0,h1⟩:=ZT ZP;injection h0 with n0 h0
 injection h0 with t0 o0
 injection h1 with n1 h1
 injection h1 with t1 o1
 rw [run_equalIn_struct w (d+3) 55 _ _ ZQ stoodS,hf];clear hf;have q0:=RD Zp X Y w (d+1);have q1:=FN r c z r' c' z' w d
 exact fM (d+3) _ _ f0 _ w _ _ _ _ (by rw [n0];simp) (by rw [t0,o0];exact Ec w X r c z) (by rw [t0,o0];exact Ec w Y r' c' z') (by rw [t0];exact q0)
  (fM (d+3) _ _ f1 _ w _ _ _ _ (by rw [n1];simp) (by rw [t1,o1];exact Ed w X r c z) (by rw [t1,o1];exact Ed w Y r' c' z') (by rw [t1];exact q1) (qW _ _ _ w))
section
variable {ops:Array Oper} {rest:List Oper} {o:Oper} {a:Act} {w:World} {Q:Exit->Act->World->Prop}
theorem eqlS(x y:Operand)(u:TypeId)(ho:o.op= .binOp .eql 55 x y u)
 (X:Nat->Int) (r c:Int) (z:Nat->Int) (Y:Nat->Int) (r' c':Int) (z':Nat->Int) (b:Bool) (hx:a.eval x= .agg (aB X r c z).toArray) (hy:a.eval y= .agg (aB Y r' c' z').toArray) (hb:eqS X r c z Y r' c' z'=b) (hw:Region.wanted o (yielded ops a.tmps)=true)
 (h:wpList Tryz.prog ops Q rest (a.put o.dst (.bool b)) w):wpList Tryz.prog ops Q (o::rest) a w:=
 wpList_want hw fun _ hK=>by
  unfold Oper.wp execOp
  simp only [ho,hx,hy,Sem.run_bind,run_eqGuard_agg w _ _ x y _ _ guardS,Result.andThen_ok,run_eql_struct]
  rw [ZX X r c z Y r' c' z' w 9996,hb]
  exact hK _ _ h
end
abbrev wS(w:World)(s:Nat)(o:Bool):Prop:=ai w s 155 [.bool o]
theorem wS.o{w:World}{s:Nat}{o:Bool}(h:wS w s o):w.cell? ⟨s,0,none⟩=some (.bool o):=h.cell (k:=0) rfl rfl
theorem wS.set{w:World}{s:Nat}{o:Bool}(h:wS w s o)(v:Bool):wS (w.setCell ⟨s,0,none⟩ (.bool v)) s v:=ai.set h 0 (.bool v)
abbrev jD(w:World)(g:Nat)(X:Nat->Int):Prop:=ai w g 156 (vals 6 X)
theorem jD.x{w:World}{g:Nat}{X:Nat->Int}(h:jD w g X){k o:Nat}(hk:k<6)(ho:o=k):w.cell? ⟨g,o,none⟩=some (.int .i64 (X k)):=h.cell (dI hk) ho
theorem jD.IW{w:World}{g:Nat}{X:Nat->Int}(h:jD w g X)(j:Nat)(x:Int){o:Nat}(ho:o=j):jD (w.setCell ⟨g,o,none⟩ (.int .i64 x)) g (fun k=>if k=j then x else X k):=by
 subst ho;have h':=ai.set h o (.int .i64 x);rwa [fG] at h'
theorem jD.congr{w:World}{g:Nat}{X Y:Nat->Int}(h:jD w g X)(e: ∀ k,k<6->X k=Y k):jD w g Y:=by
 unfold jD;rw [← dZ e];exact h
theorem jD.sl{w:World}{g:Nat}{X:Nat->Int}(h:jD w g X):Sl w (some ⟨g,0,none⟩) 6 6 X:=
 ⟨Nat.le_refl _,om1,fun k hk=>⟨_,rfl,by rw [Addr.add_lit];exact h.x hk om1⟩⟩
end Pd
end
section
open Go.RowKit Mt
namespace Hk
variable {ops:Array Oper} {rest:List Oper} {o:Oper} {a:Act} {w:World} {Q:Exit->Act->World->Prop}
theorem fP(x:Operand)(ho:o.op= .load 53 x)(b:Nat)(r c:Int)(z:Nat->Int)(hx:a.eval x= .pointer (some ⟨b,0,none⟩))(hr:dU w b r c z)(hw:Region.wanted o (yielded ops a.tmps)=true)
 (h:wpList Tryz.prog ops Q rest (a.put o.dst (.agg (aj r c z).toArray)) w):wpList Tryz.prog ops Q (o::rest) a w:=dw hw x ho b r c z hx hr h
end Hk
end
section
open Go.RowKit Vc St Mt Cm Pd Pr
attribute [local go_sem ↓] Go.wp_at_zero Go.wp_at_succ
namespace Pd
theorem hide{p:Prop}(h:p):Hid p:=h
def allIn(a b:Int)(z:Nat->Int)(n:Nat):Prop:= ∀ k,k<n->a<=z k/\z k<=b
theorem may66(z:Nat->Int):May 6 6 z:=⟨6,6,rfl,rfl,om1,om1,om1,om1,fun k h1 h2=>by omega⟩
end Pd
theorem uS(t:Bool)(a b:Int)(ao:Option Addr)(n ca:Nat)(z:Nat->Int)(w:World)(h:Sl w ao n ca z)(ht:t=true↔allIn a b z n):
 Calls Tryz.prog 85 #[.int .i64 a, .int .i64 b, .slice ao n ca] w fun e w'=>e= .returned (.bool t)/\w'=w:=by
 have HN:Hid (∀ k,k<n-> ¬(a<=z k/\z k<=b)->t=false):=fun k hk q=>by
  cases t with
  |false=>rfl
  |true=>exact absurd (ht.1 rfl k hk) q
 have HY:Hid ((∀ k,k<n->a<=z k/\z k<=b)->t=true):=fun q=>ht.2 q;obtain⟨x,hx,hc⟩:=h.get;have l1:=h.le;have l2:=h.cap;have HX:=hide hx;have HC:=hide hc;clear h hx hc ht;go_enter Tryz.func85,Tryz.ntmps85
 go_wp2;go_loopw [11] (fun i wr=> ∃ k:Nat,k<=n/\i= .int .i64 (k:Int)/\wr=w/\Hid (∀ q,q<k->a<=z q/\z q<=b)) (fun i _=>n- (intOf i).toNat)
 case atStart=>exact⟨0,om1,rfl,rfl,fun q hq=>by omega⟩
 case round=>
  obtain⟨k,hk,rfl,rfl,hok⟩:=hrel;by_cases h:k<n
  · obtain rfl:=HX.out om1;have cc:=HC.out k h;obtain⟨v,hv⟩: ∃ v,v=z k:=⟨_,rfl⟩;rw [← hv] at cc;have HV:=hide hv;clear hv;by_cases c1:v<a
    · have d1:decide (v<a)=true:=decide_eq_true c1;go_wp2;go_ret;exact⟨by rw [HN.out k h (fun q=>by rw [← HV.out] at q;omega)];rfl,rfl⟩
    · have d1:decide (v<a)=false:=decide_eq_false c1;by_cases c2:b<v
      · have d2:decide (b<v)=true:=decide_eq_true c2;go_wp2;go_ret;exact⟨by rw [HN.out k h (fun q=>by rw [← HV.out] at q;omega)];rfl,rfl⟩
      · have d2:decide (b<v)=false:=decide_eq_false c2;go_wp2;go_roundw
        case rel=>exact⟨k+1,om1,by go_num,trivial,fun q hq=>by
         rcases Nat.lt_or_ge q k with c|c
         · exact hok.out q c
         · obtain rfl:q=k:=om1
           rw [← HV.out];omega⟩
        case measure=>simp [intOf];omega
  · obtain rfl:k=n:=om1;go_wp2;go_ret;exact⟨by rw [HY.out hok.out];rfl,rfl⟩
theorem lU(t:Bool)(ao:Option Addr)(n ca:Nat)(z:Nat->Int)(w:World)(h:Sl w ao n ca z)(ht:t=true↔ ∀ k,k<n->InV (z k)):
 Calls Tryz.prog 84 #[.slice ao n ca] w fun e w'=>e= .returned (.bool t)/\w'=w:=by
 have H:=hide (uS t (-4611686018427387903) 4611686018427387903 ao n ca z w h ht);clear h ht;go_enter Tryz.func84,Tryz.ntmps84
 go_wp2_with fail
 refine H.out.mono ?_;rintro e w1 ⟨rfl,rfl⟩;go_wp2;go_ret;exact⟨rfl,rfl⟩
theorem RG{p:Prop}(h:p:=by
 go_enter Tryz.func76,Tryz.ntmps76
 go_wp2_with (first
  |(rw [← HW.out];refine Hk.fP _ (by with_reducible rfl) _ _ _ _ rl1 (by with_reducible exact r0) (by kernel_rfl) ?_)
  |fail)
 refine H.out.mono ?_;rintro e w1 ⟨rfl,k1⟩;have c0:=(r0.keep k1).rows;have c1:=(r0.keep k1).cols;go_wp2;go_ret
 exact⟨rfl,ae B0 k1⟩):p:=h
theorem xW(z:Nat->Int)(w:World):
 Calls Tryz.prog 76 #[.agg (aj 6 6 z).toArray] w fun e w'=>e= .returned (.bool true)/\Below w.heap.size w w':=by
 have r0:=bJ w 6 6 z;have B0:=af (Below.refl _ w) (.cells (aj 6 6 z).toArray 53);obtain⟨W,hW⟩: ∃ W,W=w.alloc (.cells (aj 6 6 z).toArray 53):=⟨_,rfl⟩;rw [← hW] at r0 B0;have HW:=hide hW;have H:=hide (jk W (may66 z));clear hW;exact RG
theorem RH(r c:Int)(z:Nat->Int)(w:World)(h: ¬(r=6/\c=6)):
 Calls Tryz.prog 76 #[.agg (aj r c z).toArray] w fun e w'=>e= .returned (.bool false)/\Below w.heap.size w w':=by
 have r0:=bJ w r c z;have B0:=af (Below.refl _ w) (.cells (aj r c z).toArray 53);obtain⟨W,hW⟩: ∃ W,W=w.alloc (.cells (aj r c z).toArray 53):=⟨_,rfl⟩;rw [← hW] at r0 B0;have HW:=hide hW;clear hW;by_cases hm:May r c z
 · have H:=hide (jk W hm);clear hm;by_cases hr:r=6
   · subst hr;have e1:(c==6)=false:=beq_eq_false_iff_ne.2 (fun q=>h ⟨rfl,q⟩);clear h;exact RG
   · have e1:(r==6)=false:=beq_eq_false_iff_ne.2 hr;clear h;exact RG
 · have H:=hide (GG W hm);clear hm h;go_enter Tryz.func76,Tryz.ntmps76
   go_wp2_with (first
    |(rw [← HW.out];refine Hk.fP _ (by with_reducible rfl) _ _ _ _ rl1 (by with_reducible exact r0) (by kernel_rfl) ?_)
    |fail)
   refine H.out.mono ?_;rintro e w1 ⟨rfl,k1⟩;go_wp2;go_ret;exact⟨rfl,ae B0 k1⟩
theorem BN(t:Bool)(F:Nat->Nat->Int)(w:World)(ht:t=true↔ ∀ i j,i<6->j<6->F i j=F j i):
 Calls Tryz.prog 135 #[.agg (aj 6 6 (mz 6 6 F)).toArray] w fun e w'=>e= .returned (.bool t)/\Below w.heap.size w w':=by
 have r0:=bJ w 6 6 (mz 6 6 F);have B0:=af (Below.refl _ w) (.cells (aj 6 6 (mz 6 6 F)).toArray 53);obtain⟨W,hW⟩: ∃ W,W=w.alloc (.cells (aj 6 6 (mz 6 6 F)).toArray 53):=⟨_,rfl⟩;rw [← hW] at r0 B0;have H:=hide (qM 6 6 F W om1 om1 om1 om1)
 have HT:Hid (eqM 6 6 (mz 6 6 (fun i j=>F j i)) 6 6 (mz 6 6 F)=t):=by
  have h1:eqM 6 6 (mz 6 6 (fun i j=>F j i)) 6 6 (mz 6 6 F)=true↔t=true:=by
   rw [ht,FM];exact⟨fun q i j hi hj=>(mz_inj om1 q.2.2 hi hj).symm,fun q=>⟨rfl,rfl,fun k _=>pJ (fun i j hi hj=>q j i hj hi) k⟩⟩
  cases t with
  |true=>exact h1.2 rfl
  |false=>
   cases he:eqM 6 6 (mz 6 6 (fun i j=>F j i)) 6 6 (mz 6 6 F) with
   |false=>rfl
   |true=>exact absurd (h1.1 he) (by decide)
 obtain⟨z,hz⟩: ∃ z,z=mz 6 6 F:=⟨_,rfl⟩;obtain⟨y,hy⟩: ∃ y,y=mz 6 6 (fun i j=>F j i):=⟨_,rfl⟩;rw [← hz] at r0 hW H HT ⊢;rw [← hy] at H HT;have HW:=hide hW;clear hW hz hy ht;go_enter Tryz.func135,Tryz.ntmps135
 go_wp2_with (first
  |(rw [← HW.out];refine Hk.fP _ (by with_reducible rfl) _ _ _ _ rl1 (by with_reducible exact r0) (by kernel_rfl) ?_)
  |fail)
 refine H.out.mono ?_;rintro e w1 ⟨rfl,k1⟩;have r1:=r0.keep k1;have B1:=ae B0 k1;clear HW H r0 B0 k1
 go_wp2_with (first
  |(rw [dY];refine Mt.aF rfl _ _ rl1 _ _ _ _ rl1 rl1 ?_;intro w2 n2 k2;have r2:=r1.keep k2;have B2:=ae B1 k2;clear r1 B1)
  |(refine Hk.fP _ (by with_reducible rfl) _ _ _ _ rl1 (by with_reducible exact n2) (by kernel_rfl) ?_)
  |(refine Hk.fP _ (by with_reducible rfl) _ _ _ _ rl1 (by with_reducible exact r2) (by kernel_rfl) ?_)
  |(refine Cm.eqlM _ _ _ (by with_reducible rfl) _ _ _ _ _ _ _ HT.out rl1 rl1 (by kernel_rfl) ?_)
  |fail)
 go_ret;exact⟨rfl,B2⟩
namespace Pd
theorem Me(X:Nat->Int)(w:World): ∀ {k:Nat},k<6->(Instr.index 156 (.agg (vals 6 X).toArray) (.int .i64 (k:Int))).run Tryz.prog w= .ok (.int .i64 (X k)) w
 |0,_=>by kernel_rfl
 |1,_=>by kernel_rfl
 |2,_=>by kernel_rfl
 |3,_=>by kernel_rfl
 |4,_=>by kernel_rfl
 |5,_=>by kernel_rfl
def pt(X Y:Nat->Int)(k:Nat):Nat->Int:=fun i=>if i<k then X i else Y i
theorem uQ(X Y:Nat->Int)(i:Nat):Y i=pt X Y 0 i:=rfl
theorem jQ(X Y:Nat->Int)(k i:Nat):(if i=k then X k else pt X Y k i)=pt X Y (k+1) i:=by
 unfold pt;by_cases e:i=k
 · subst e;rw [if_pos rfl,if_pos om1]
 · rw [if_neg e];by_cases h:i<k
   · rw [if_pos h,if_pos om1]
   · rw [if_neg h,if_neg om1]
theorem BJ(X Y:Nat->Int){n i:Nat}(h:i<n):pt X Y n i=X i:=if_pos h
def dg(z:Nat->Int):Nat->Int:=fun i=>z (7*i)
end Pd
theorem Ih(z:Nat->Int)(w:World):
 Calls Tryz.prog 219 #[.agg (aj 6 6 z).toArray] w fun e w'=>e= .returned (.agg (vals 6 (dg z)).toArray)/\Below w.heap.size w w':=by
 have r0:=((bJ w 6 6 z).alloc (.cells (vals 6 (fun _=>0)).toArray 156)).alloc (.cells (vals 6 (fun _=>0)).toArray 156);have q0:=(bU w (.cells (aj 6 6 z).toArray 53) 156 (vals 6 (fun _=>0))).alloc (.cells (vals 6 (fun _=>0)).toArray 156);have o0:=dH w (.cells (aj 6 6 z).toArray 53) (.cells (vals 6 (fun _=>0)).toArray 156) 156 (vals 6 (fun _=>0));have B0:Below w.heap.size w (((w.alloc (.cells (aj 6 6 z).toArray 53)).alloc (.cells (vals 6 (fun _=>0)).toArray 156)).alloc (.cells (vals 6 (fun _=>0)).toArray 156)):=af (af (af (Below.refl _ _) _) _) _;obtain⟨W,hW⟩: ∃ W,W=((w.alloc (.cells (aj 6 6 z).toArray 53)).alloc (.cells (vals 6 (fun _=>0)).toArray 156)).alloc (.cells (vals 6 (fun _=>0)).toArray 156):=⟨_,rfl⟩;rw [← hW] at r0 q0 o0 B0;have HW:=hide hW;clear hW;go_enter Tryz.func219,Tryz.ntmps219
 go_wp2_with (first|(rw [Pd.zero6,Pd.zero6,← HW.out])|(rw [Pd.zero6,← HW.out])|(rw [← HW.out])|fail)
 go_loopw [5] (fun i wr=> ∃ k:Nat,k<=6/\i= .int .i64 (k:Int)/\dU wr w.heap.size 6 6 z/\jD wr (w.heap.size+1) (fun _=>0)/\jD wr (w.heap.size+1+1) (pt (dg z) (fun _=>0) k)/\Below w.heap.size w wr) (fun i _=>6- (intOf i).toNat)
 case atStart=>exact⟨0,om1,rfl,r0,q0,jD.congr o0 (fun i _=>uQ (dg z) (fun _=>0) i),B0⟩
 case round=>
  obtain⟨k,hk,rfl,r1,q1,o1,B1⟩:=hrel;by_cases h:k<6
  ·rcases(by omega:k=0\/k=1\/k=2\/k=3\/k=4\/k=5) with rfl|rfl|rfl|rfl|rfl|rfl
   ·have cz:=r1.cell (k:=0) (o:=2) om1 rfl;have fz:=ai.free o1 0;have co:=jD.x o1 (k:=0) om1 rfl;go_wp2;go_roundw
    case rel=>exact⟨1,om1,rfl,r1.other _ (by show w.heap.size≠w.heap.size+1+1;omega),ai.other q1 _ (by show w.heap.size+1≠w.heap.size+1+1;omega),jD.congr (jD.IW o1 0 _ rfl) (fun i _=>jQ (dg z) _ 0 i),B1.trans (St.dB B1.size (by show w.heap.size<=w.heap.size+1+1;omega) _)⟩
    case measure=>simp [intOf]
   ·have cz:=r1.cell (k:=7) (o:=9) om1 rfl;have fz:=ai.free o1 1;have co:=jD.x o1 (k:=1) om1 rfl;go_wp2;go_roundw
    case rel=>exact⟨2,om1,rfl,r1.other _ (by show w.heap.size≠w.heap.size+1+1;omega),ai.other q1 _ (by show w.heap.size+1≠w.heap.size+1+1;omega),jD.congr (jD.IW o1 1 _ rfl) (fun i _=>jQ (dg z) _ 1 i),B1.trans (St.dB B1.size (by show w.heap.size<=w.heap.size+1+1;omega) _)⟩
    case measure=>simp [intOf]
   ·have cz:=r1.cell (k:=14) (o:=16) om1 rfl;have fz:=ai.free o1 2;have co:=jD.x o1 (k:=2) om1 rfl;go_wp2;go_roundw
    case rel=>exact⟨3,om1,rfl,r1.other _ (by show w.heap.size≠w.heap.size+1+1;omega),ai.other q1 _ (by show w.heap.size+1≠w.heap.size+1+1;omega),jD.congr (jD.IW o1 2 _ rfl) (fun i _=>jQ (dg z) _ 2 i),B1.trans (St.dB B1.size (by show w.heap.size<=w.heap.size+1+1;omega) _)⟩
    case measure=>simp [intOf]
   ·have cz:=r1.cell (k:=21) (o:=23) om1 rfl;have fz:=ai.free o1 3;have co:=jD.x o1 (k:=3) om1 rfl;go_wp2;go_roundw
    case rel=>exact⟨4,om1,rfl,r1.other _ (by show w.heap.size≠w.heap.size+1+1;omega),ai.other q1 _ (by show w.heap.size+1≠w.heap.size+1+1;omega),jD.congr (jD.IW o1 3 _ rfl) (fun i _=>jQ (dg z) _ 3 i),B1.trans (St.dB B1.size (by show w.heap.size<=w.heap.size+1+1;omega) _)⟩
    case measure=>simp [intOf]
   ·have cz:=r1.cell (k:=28) (o:=30) om1 rfl;have fz:=ai.free o1 4;have co:=jD.x o1 (k:=4) om1 rfl;go_wp2;go_roundw
    case rel=>exact⟨5,om1,rfl,r1.other _ (by show w.heap.size≠w.heap.size+1+1;omega),ai.other q1 _ (by show w.heap.size+1≠w.heap.size+1+1;omega),jD.congr (jD.IW o1 4 _ rfl) (fun i _=>jQ (dg z) _ 4 i),B1.trans (St.dB B1.size (by show w.heap.size<=w.heap.size+1+1;omega) _)⟩
    case measure=>simp [intOf]
   ·have cz:=r1.cell (k:=35) (o:=37) om1 rfl;have fz:=ai.free o1 5;have co:=jD.x o1 (k:=5) om1 rfl;go_wp2;go_roundw
    case rel=>exact⟨6,om1,rfl,r1.other _ (by show w.heap.size≠w.heap.size+1+1;omega),ai.other q1 _ (by show w.heap.size+1≠w.heap.size+1+1;omega),jD.congr (jD.IW o1 5 _ rfl) (fun i _=>jQ (dg z) _ 5 i),B1.trans (St.dB B1.size (by show w.heap.size<=w.heap.size+1+1;omega) _)⟩
    case measure=>simp [intOf]
  ·obtain rfl:k=6:=om1;have o2:=jD.congr o1 (fun i hi=>BJ (dg z) _ hi);clear o1
   go_wp2_with (first
    |(refine St.aI JI rl1 _ rl1 _ _ rl1 (by with_reducible exact o2) (aK _ _) ?_)
    |(refine St.aU JI rfl _ _ rl1 _ _ _ rl1 rl1 (by with_reducible exact q1) (aK _ _) (aK _ _) (fK _ _) ?_)
    |fail)
   exact bodyPost_ret (iV JI Tryz.results219 _ _ (w.heap.size+1) _ rfl (q1.row _) (aK _ _)) rfl ⟨rfl,St.aJ B1 om1 _⟩
end
section
open Go.RowKit Vc St Mt Cm Pd Pr
attribute [local go_sem ↓] Go.wp_at_zero Go.wp_at_succ
namespace Pd
theorem all36(g:Nat)(w:World):(Instr.sliceAt 51 (.pointer (some ⟨g,2,none⟩)) none none none).run Tryz.prog w= .ok (.slice (some ⟨g,2,none⟩) 36 36) w:=by kernel_rfl
theorem RI(g:Nat)(w:World):(Instr.sliceAt 156 (.pointer (some ⟨g,0,none⟩)) none none none).run Tryz.prog w= .ok (.slice (some ⟨g,0,none⟩) 6 6) w:=by kernel_rfl
theorem all6(g:Nat)(w:World):(Instr.sliceAt 50 (.pointer (some ⟨g,0,none⟩)) none none none).run Tryz.prog w= .ok (.slice (some ⟨g,0,none⟩) 6 6) w:=by kernel_rfl
def wdk(z X:Nat->Int)(k:Nat):Nat->Int:=fun q=>if q%7=0/\q/7<k then X (q/7) else z q
theorem MB(z X:Nat->Int)(q:Nat):z q=wdk z X 0 q:=by unfold wdk;rw [if_neg om1]
theorem jH(z X:Nat->Int)(k q:Nat):(if q=7*k then X k else wdk z X k q)=wdk z X (k+1) q:=by
 unfold wdk;by_cases e:q=7*k
 · subst e;rw [if_pos rfl,if_pos ⟨om1,om1⟩,show 7*k/7=k by omega]
 · rw [if_neg e];by_cases h:q%7=0/\q/7<k
   · rw [if_pos h,if_pos ⟨h.1,om1⟩]
   · rw [if_neg h,if_neg (fun c=>h ⟨c.1,om1⟩)]
def wd(F:Nat->Nat->Int)(X:Nat->Int):Nat->Nat->Int:=fun i j=>if i=j then X i else F i j
theorem RJ(F:Nat->Nat->Int)(X:Nat->Int)(k:Nat)(hk:k<36):wdk (mz 6 6 F) X 6 k=mz 6 6 (wd F X) k:=by
 unfold wdk mz mP wd;rw [if_pos (by omega:k<6*6),if_pos (by omega:k<6*6)];by_cases h:k/6=k%6
 · have e:k/7=k/6:=om1;rw [if_pos ⟨om1,om1⟩,if_pos h,e]
 · rw [if_neg h,if_neg om1]
theorem ZY(F:Nat->Nat->Int){i:Nat}(h:i<6):dg (mz 6 6 F) i=F i i:=by
 have e:=pI (F:=F) h h;unfold dg;rw [show 7*i=i*6+i by omega];exact e
end Pd
theorem RP(z X:Nat->Int)(w:World):
 Calls Tryz.prog 86 #[.agg (aj 6 6 z).toArray, .agg (vals 6 X).toArray] w fun e w'=>e= .returned (.agg (aj 6 6 (wdk z X 6)).toArray)/\Below w.heap.size w w':=by
 have r0:=((bJ w 6 6 z).alloc (.cells (vals 6 X).toArray 156)).alloc (.cells (aj 0 0 (fun _=>0)).toArray 53);have q0:=(bU w (.cells (aj 6 6 z).toArray 53) 156 (vals 6 X)).alloc (.cells (aj 0 0 (fun _=>0)).toArray 53);have o0:=jE w (.cells (aj 6 6 z).toArray 53) (.cells (vals 6 X).toArray 156) 0 0 (fun _=>0);have B0:Below w.heap.size w (((w.alloc (.cells (aj 6 6 z).toArray 53)).alloc (.cells (vals 6 X).toArray 156)).alloc (.cells (aj 0 0 (fun _=>0)).toArray 53)):=af (af (af (Below.refl _ _) _) _) _;obtain⟨W,hW⟩: ∃ W,W=((w.alloc (.cells (aj 6 6 z).toArray 53)).alloc (.cells (vals 6 X).toArray 156)).alloc (.cells (aj 0 0 (fun _=>0)).toArray 53):=⟨_,rfl⟩;rw [← hW] at r0 q0 o0 B0;have HW:=hide hW;have HI:=hide (fun k (hk:k<6) W=>Me X W hk);obtain⟨V,hV⟩: ∃ V,V=(vals 6 X).toArray:=⟨_,rfl⟩;have HV:=hide hV;rw [← hV] at HI HW;rw [← hV];clear hW hV;go_enter Tryz.func86,Tryz.ntmps86
 go_wp2_with (first
  |(rw [dY,← HW.out];refine St.aI JI rl1 _ rl1 _ _ rl1 (by with_reducible exact q0) (aK _ _) ?_;rw [← HV.out])
  |fail)
 go_loopw [8] (fun i wr=> ∃ k:Nat,k<=6/\i= .int .i64 (k:Int)/\dU wr w.heap.size 6 6 (wdk z X k)/\dU wr (w.heap.size+1+1) 0 0 (fun _=>0)/\Below w.heap.size w wr) (fun i _=>6- (intOf i).toNat)
 case atStart=>exact⟨0,om1,rfl,r0.congr (fun i _=>MB z X i),o0,B0⟩
 case round=>
  obtain⟨k,hk,rfl,r1,o1,B1⟩:=hrel;by_cases h:k<6
  ·rcases(by omega:k=0\/k=1\/k=2\/k=3\/k=4\/k=5) with rfl|rfl|rfl|rfl|rfl|rfl
   ·have cz:=r1.cell (k:=0) (o:=2) om1 rfl;have fz:=r1.free 2;have hi: ∀ W,(Instr.index 156 (.agg V) (.int .i64 0)).run Tryz.prog W= .ok (.int .i64 (X 0)) W:=fun W=>HI.out 0 h W;go_wp2;go_roundw
    case rel=>exact⟨1,om1,rfl,(dU.set r1 0 _ rfl).congr (fun i _=>jH z X 0 i),o1.other _ (by show w.heap.size+1+1≠w.heap.size;omega),B1.trans (St.dB B1.size (Nat.le_refl _) _)⟩
    case measure=>simp [intOf]
   ·have cz:=r1.cell (k:=7) (o:=9) om1 rfl;have fz:=r1.free 9;have hi: ∀ W,(Instr.index 156 (.agg V) (.int .i64 1)).run Tryz.prog W= .ok (.int .i64 (X 1)) W:=fun W=>HI.out 1 h W;go_wp2;go_roundw
    case rel=>exact⟨2,om1,rfl,(dU.set r1 7 _ rfl).congr (fun i _=>jH z X 1 i),o1.other _ (by show w.heap.size+1+1≠w.heap.size;omega),B1.trans (St.dB B1.size (Nat.le_refl _) _)⟩
    case measure=>simp [intOf]
   ·have cz:=r1.cell (k:=14) (o:=16) om1 rfl;have fz:=r1.free 16;have hi: ∀ W,(Instr.index 156 (.agg V) (.int .i64 2)).run Tryz.prog W= .ok (.int .i64 (X 2)) W:=fun W=>HI.out 2 h W;go_wp2;go_roundw
    case rel=>exact⟨3,om1,rfl,(dU.set r1 14 _ rfl).congr (fun i _=>jH z X 2 i),o1.other _ (by show w.heap.size+1+1≠w.heap.size;omega),B1.trans (St.dB B1.size (Nat.le_refl _) _)⟩
    case measure=>simp [intOf]
   ·have cz:=r1.cell (k:=21) (o:=23) om1 rfl;have fz:=r1.free 23;have hi: ∀ W,(Instr.index 156 (.agg V) (.int .i64 3)).run Tryz.prog W= .ok (.int .i64 (X 3)) W:=fun W=>HI.out 3 h W;go_wp2;go_roundw
    case rel=>exact⟨4,om1,rfl,(dU.set r1 21 _ rfl).congr (fun i _=>jH z X 3 i),o1.other _ (by show w.heap.size+1+1≠w.heap.size;omega),B1.trans (St.dB B1.size (Nat.le_refl _) _)⟩
    case measure=>simp [intOf]
   ·have cz:=r1.cell (k:=28) (o:=30) om1 rfl;have fz:=r1.free 30;have hi: ∀ W,(Instr.index 156 (.agg V) (.int .i64 4)).run Tryz.prog W= .ok (.int .i64 (X 4)) W:=fun W=>HI.out 4 h W;go_wp2;go_roundw
    case rel=>exact⟨5,om1,rfl,(dU.set r1 28 _ rfl).congr (fun i _=>jH z X 4 i),o1.other _ (by show w.heap.size+1+1≠w.heap.size;omega),B1.trans (St.dB B1.size (Nat.le_refl _) _)⟩
    case measure=>simp [intOf]
   ·have cz:=r1.cell (k:=35) (o:=37) om1 rfl;have fz:=r1.free 37;have hi: ∀ W,(Instr.index 156 (.agg V) (.int .i64 5)).run Tryz.prog W= .ok (.int .i64 (X 5)) W:=fun W=>HI.out 5 h W;go_wp2;go_roundw
    case rel=>exact⟨6,om1,rfl,(dU.set r1 35 _ rfl).congr (fun i _=>jH z X 5 i),o1.other _ (by show w.heap.size+1+1≠w.heap.size;omega),B1.trans (St.dB B1.size (Nat.le_refl _) _)⟩
    case measure=>simp [intOf]
  ·obtain rfl:k=6:=om1;clear h
   go_wp2_with (first
    |(refine Hk.fP _ (by with_reducible rfl) _ _ _ _ rl1 (by with_reducible exact r1) (by kernel_rfl) ?_)
    |(refine aN rfl _ _ rl1 _ _ _ _ _ _ _ rl1 rl1 (by with_reducible exact o1) ?_)
    |fail)
   exact bodyPost_ret (dS Tryz.results86 _ _ (w.heap.size+1+1) _ _ _ rfl (o1.row _ _ _)) rfl ⟨rfl,Mt.aJ B1 om1 _⟩
namespace Pd
def nn(X:Nat->Int):Nat->Int:=fun i=>max (X i) 0
end Pd
theorem JJ(z:Nat->Int)(w:World):
 Calls Tryz.prog 157 #[.agg (aj 6 6 z).toArray] w fun e w'=>e= .returned (.agg (aj 6 6 (wdk z (nn (dg z)) 6)).toArray)/\Below w.heap.size w w':=by
 have r0:=(bJ w 6 6 z).alloc (.cells (aj 0 0 (fun _=>0)).toArray 53);have o0:=dR w (.cells (aj 6 6 z).toArray 53) 0 0 (fun _=>0);have B0:Below w.heap.size w ((w.alloc (.cells (aj 6 6 z).toArray 53)).alloc (.cells (aj 0 0 (fun _=>0)).toArray 53)):=af (af (Below.refl _ _) _) _;obtain⟨W,hW⟩: ∃ W,W=(w.alloc (.cells (aj 6 6 z).toArray 53)).alloc (.cells (aj 0 0 (fun _=>0)).toArray 53):=⟨_,rfl⟩;rw [← hW] at r0 o0 B0;have HW:=hide hW;have H:=hide (Ih z W);have HD:=hide (fun W=>RP z (nn (dg z)) W);obtain⟨d,hd⟩: ∃ d,d=dg z:=⟨_,rfl⟩;rw [← hd] at H HD ⊢;have HI:=hide (fun k (hk:k<6) W=>Me d W hk);obtain⟨V,hV⟩: ∃ V,V=(vals 6 d).toArray:=⟨_,rfl⟩;have HV:=hide hV;rw [← hV] at HI;clear hW hV hd;go_enter Tryz.func157,Tryz.ntmps157
 go_wp2_with (first
  |(rw [dY,← HW.out];refine Hk.fP _ (by with_reducible rfl) _ _ _ _ rl1 (by with_reducible exact r0) (by kernel_rfl) ?_)
  |fail)
 refine H.out.mono ?_;rintro e w1 ⟨rfl,k1⟩;have r1:=r0.keep k1;have o1:=o0.keep k1;have B1:=ae B0 k1;have l1:=o1.lt;clear HW H r0 o0 B0 k1
 go_wp2_with (first
  |(rw [Pd.zero6];refine St.aF JI rfl _ _ rl1 _ _ _ rl1 rl1 (aK _ _) (aK _ _) (fK _ _) ?_;intro w2 n2 k2;have r2:=r1.keep k2;have o2:=o1.keep k2;have B2:=ae B1 k2;have b2:=n2.lt;clear r1 o1 B1 k2)
  |(refine St.aI JI rl1 _ rl1 _ _ rl1 (by with_reducible exact n2) (aK _ _) ?_;rw [← HV.out])
  |fail)
 obtain⟨s,hs⟩: ∃ s,s=w1.heap.size:=⟨_,rfl⟩;rw [← hs] at n2 l1 b2 ⊢;clear hs;go_loopw [9] (fun i wr=> ∃ k:Nat,k<=6/\i= .int .i64 (k:Int)/\dU wr w.heap.size 6 6 z/\dU wr (w.heap.size+1) 0 0 (fun _=>0)/\jD wr s (pt (nn d) d k)/\Below w.heap.size w wr) (fun i _=>6- (intOf i).toNat)
 case atStart=>exact⟨0,om1,rfl,r2,o2,jD.congr n2 (fun i _=>uQ (nn d) d i),B2⟩
 case round=>
  obtain⟨k,hk,rfl,r1,o1,n1,B1⟩:=hrel;by_cases h:k<6
  ·rcases(by omega:k=0\/k=1\/k=2\/k=3\/k=4\/k=5) with rfl|rfl|rfl|rfl|rfl|rfl
   ·have co:=jD.x n1 (k:=0) om1 rfl;have fz:=ai.free n1 0;have hi: ∀ W,(Instr.index 156 (.agg V) (.int .i64 0)).run Tryz.prog W= .ok (.int .i64 (d 0)) W:=fun W=>HI.out 0 h W;obtain⟨M,hM⟩: ∃ M,max (d 0) 0=M:=⟨_,rfl⟩;have HM:Hid (nn d 0=M):=hM;go_wp2;go_roundw
    case rel=>exact⟨1,om1,rfl,r1.other _ (by show w.heap.size≠s;omega),o1.other _ (by show w.heap.size+1≠s;omega),jD.congr (jD.IW n1 0 _ rfl) (fun i _=>by rw [← HM.out];exact jQ (nn d) d 0 i),B1.trans (St.dB B1.size (by show w.heap.size<=s;omega) _)⟩
    case measure=>simp [intOf]
   ·have co:=jD.x n1 (k:=1) om1 rfl;have fz:=ai.free n1 1;have hi: ∀ W,(Instr.index 156 (.agg V) (.int .i64 1)).run Tryz.prog W= .ok (.int .i64 (d 1)) W:=fun W=>HI.out 1 h W;obtain⟨M,hM⟩: ∃ M,max (d 1) 0=M:=⟨_,rfl⟩;have HM:Hid (nn d 1=M):=hM;go_wp2;go_roundw
    case rel=>exact⟨2,om1,rfl,r1.other _ (by show w.heap.size≠s;omega),o1.other _ (by show w.heap.size+1≠s;omega),jD.congr (jD.IW n1 1 _ rfl) (fun i _=>by rw [← HM.out];exact jQ (nn d) d 1 i),B1.trans (St.dB B1.size (by show w.heap.size<=s;omega) _)⟩
    case measure=>simp [intOf]
   ·have co:=jD.x n1 (k:=2) om1 rfl;have fz:=ai.free n1 2;have hi: ∀ W,(Instr.index 156 (.agg V) (.int .i64 2)).run Tryz.prog W= .ok (.int .i64 (d 2)) W:=fun W=>HI.out 2 h W;obtain⟨M,hM⟩: ∃ M,max (d 2) 0=M:=⟨_,rfl⟩;have HM:Hid (nn d 2=M):=hM;go_wp2;go_roundw
    case rel=>exact⟨3,om1,rfl,r1.other _ (by show w.heap.size≠s;omega),o1.other _ (by show w.heap.size+1≠s;omega),jD.congr (jD.IW n1 2 _ rfl) (fun i _=>by rw [← HM.out];exact jQ (nn d) d 2 i),B1.trans (St.dB B1.size (by show w.heap.size<=s;omega) _)⟩
    case measure=>simp [intOf]
   ·have co:=jD.x n1 (k:=3) om1 rfl;have fz:=ai.free n1 3;have hi: ∀ W,(Instr.index 156 (.agg V) (.int .i64 3)).run Tryz.prog W= .ok (.int .i64 (d 3)) W:=fun W=>HI.out 3 h W;obtain⟨M,hM⟩: ∃ M,max (d 3) 0=M:=⟨_,rfl⟩;have HM:Hid (nn d 3=M):=hM;go_wp2;go_roundw
    case rel=>exact⟨4,om1,rfl,r1.other _ (by show w.heap.size≠s;omega),o1.other _ (by show w.heap.size+1≠s;omega),jD.congr (jD.IW n1 3 _ rfl) (fun i _=>by rw [← HM.out];exact jQ (nn d) d 3 i),B1.trans (St.dB B1.size (by show w.heap.size<=s;omega) _)⟩
    case measure=>simp [intOf]
   ·have co:=jD.x n1 (k:=4) om1 rfl;have fz:=ai.free n1 4;have hi: ∀ W,(Instr.index 156 (.agg V) (.int .i64 4)).run Tryz.prog W= .ok (.int .i64 (d 4)) W:=fun W=>HI.out 4 h W;obtain⟨M,hM⟩: ∃ M,max (d 4) 0=M:=⟨_,rfl⟩;have HM:Hid (nn d 4=M):=hM;go_wp2;go_roundw
    case rel=>exact⟨5,om1,rfl,r1.other _ (by show w.heap.size≠s;omega),o1.other _ (by show w.heap.size+1≠s;omega),jD.congr (jD.IW n1 4 _ rfl) (fun i _=>by rw [← HM.out];exact jQ (nn d) d 4 i),B1.trans (St.dB B1.size (by show w.heap.size<=s;omega) _)⟩
    case measure=>simp [intOf]
   ·have co:=jD.x n1 (k:=5) om1 rfl;have fz:=ai.free n1 5;have hi: ∀ W,(Instr.index 156 (.agg V) (.int .i64 5)).run Tryz.prog W= .ok (.int .i64 (d 5)) W:=fun W=>HI.out 5 h W;obtain⟨M,hM⟩: ∃ M,max (d 5) 0=M:=⟨_,rfl⟩;have HM:Hid (nn d 5=M):=hM;go_wp2;go_roundw
    case rel=>exact⟨6,om1,rfl,r1.other _ (by show w.heap.size≠s;omega),o1.other _ (by show w.heap.size+1≠s;omega),jD.congr (jD.IW n1 5 _ rfl) (fun i _=>by rw [← HM.out];exact jQ (nn d) d 5 i),B1.trans (St.dB B1.size (by show w.heap.size<=s;omega) _)⟩
    case measure=>simp [intOf]
  ·obtain rfl:k=6:=om1;have n3:=jD.congr n1 (fun i hi=>BJ (nn d) d hi);clear h n1
   go_wp2_with (first
    |(refine Hk.fP _ (by with_reducible rfl) _ _ _ _ rl1 (by with_reducible exact r1) (by kernel_rfl) ?_)
    |(refine St.aI JI rl1 _ rl1 _ _ rl1 (by with_reducible exact n3) (aK _ _) ?_)
    |fail)
   refine(HD.out _).mono ?_;rintro e w4 ⟨rfl,k4⟩;have o4:=o1.keep k4;have B4:=ae B1 k4
   go_wp2_with (first
    |(refine aN rfl _ _ rl1 _ _ _ _ _ _ _ rl1 rl1 (by with_reducible exact o4) ?_)
    |fail)
   exact bodyPost_ret (dS Tryz.results157 _ _ (w.heap.size+1) _ _ _ rfl (o4.row _ _ _)) rfl ⟨rfl,Mt.aJ B4 om1 _⟩
namespace Pd
def RQ(F:Nat->Nat->Int):Prop:= ∀ i,i<6->0<=F i i/\ ∀ j,j<6->InV (F i j)
theorem in36{F:Nat->Nat->Int}:(∀ k,k<36->InV (mz 6 6 F k))↔ ∀ i j,i<6->j<6->InV (F i j):=by
 refine⟨fun h i j hi hj=> ?_,fun h k hk=> ?_⟩
 · have e:=pI (F:=F) hi hj;rw [← e];exact h _ om1
 · have e:=pI (n:=6) (c:=6) (F:=F) (i:=k/6) (j:=k%6) om1 om1;rw [show k/6*6+k%6=k by omega] at e;rw [e];exact h _ _ om1 om1
theorem dU.all{w:World}{g:Nat}{r c:Int}{z:Nat->Int}(h:dU w g r c z):Sl w (some ⟨g,2,none⟩) 36 36 z:=by
 have e:=h.sl (p:=0) (n:=36) (ca:=36) (o:=2) om1 om1 om1 rfl;exact e.congr (fun k _=>by rw [Nat.zero_add])
end Pd
theorem BP(t:Bool)(F:Nat->Nat->Int)(w:World)(ht:t=true↔RQ F):
 Calls Tryz.prog 136 #[.agg (aj 6 6 (mz 6 6 F)).toArray] w fun e w'=>e= .returned (.bool t)/\Below w.heap.size w w':=by
 have r0:=bJ w 6 6 (mz 6 6 F);have B0:=af (Below.refl _ w) (.cells (aj 6 6 (mz 6 6 F)).toArray 53);obtain⟨W,hW⟩: ∃ W,W=w.alloc (.cells (aj 6 6 (mz 6 6 F)).toArray 53):=⟨_,rfl⟩;rw [← hW] at r0 B0;have H:=hide (Ih (mz 6 6 F) W);have hA:=in36 (F:=F);have hD:(∀ i,i<6->dg (mz 6 6 F) i=F i i):=fun i hi=>ZY F hi;obtain⟨z,hz⟩: ∃ z,z=mz 6 6 F:=⟨_,rfl⟩;rw [← hz] at r0 hW H hA hD ⊢;obtain⟨d,hd⟩: ∃ d,d=dg z:=⟨_,rfl⟩;rw [← hd] at H hD;have HW:=hide hW;have s1:=fun W=>all36 w.heap.size W;by_cases hb: ∀ k,k<36->InV (z k)
 ·have HB:=hide (fun W (h:Sl W (some ⟨w.heap.size,2,none⟩) 36 36 z)=>lU true _ 36 36 z W h ⟨fun _=>hb,fun _=>rfl⟩)
  have hq:t=true↔allIn 0 4611686018427387903 d 6:=by
   rw [ht];refine⟨fun q k hk=> ?_,fun q i hi=> ?_⟩
   ·rw [hD k hk];exact⟨(q k hk).1,((q k hk).2 k hk).2⟩
   ·have e:=q i hi;rw [hD i hi] at e;exact⟨e.1,fun j hj=>hA.1 hb i j hi hj⟩
  have HQ:=hide (fun b W (h:Sl W (some ⟨b,0,none⟩) 6 6 d)=>uS t 0 4611686018427387903 _ 6 6 d W h hq);clear hW hz hd ht hb hA hD hq;go_enter Tryz.func136,Tryz.ntmps136
  go_wp2_with (first
   |(rw [← HW.out];refine Hk.fP _ (by with_reducible rfl) _ _ _ _ rl1 (by with_reducible exact r0) (by kernel_rfl) ?_)
   |fail)
  refine H.out.mono ?_;rintro e w1 ⟨rfl,k1⟩;have r1:=r0.keep k1;have B1:=ae B0 k1;clear HW H r0 B0 k1
  go_wp2_with (first
   |(rw [Pd.zero6];refine St.aF JI rfl _ _ rl1 _ _ _ rl1 rl1 (aK _ _) (aK _ _) (fK _ _) ?_;intro w2 n2 k2;have r2:=r1.keep k2;have B2:=ae B1 k2;have s2:=fun W=>RI w1.heap.size W;clear r1 B1 k2)
   |fail)
  refine(HB.out _ (dU.all r2)).mono ?_;rintro e w3 ⟨rfl,rfl⟩;go_wp2_with fail
  refine(HQ.out _ _ (jD.sl n2)).mono ?_;rintro e w4 ⟨rfl,rfl⟩;go_wp2;go_ret;exact⟨rfl,B2⟩
 ·have e:t=false:=by
   cases t with
   |false=>rfl
   |true=>exact absurd (hA.2 fun i j hi hj=>((ht.1 rfl) i hi).2 j hj) hb
  subst e;have HB:=hide (fun W (h:Sl W (some ⟨w.heap.size,2,none⟩) 36 36 z)=>lU false _ 36 36 z W h ⟨fun q=>(by cases q),fun q=>absurd q hb⟩);clear hW hz hd ht hb hA hD;go_enter Tryz.func136,Tryz.ntmps136
  go_wp2_with (first
   |(rw [← HW.out];refine Hk.fP _ (by with_reducible rfl) _ _ _ _ rl1 (by with_reducible exact r0) (by kernel_rfl) ?_)
   |fail)
  refine H.out.mono ?_;rintro e w1 ⟨rfl,k1⟩;have r1:=r0.keep k1;have B1:=ae B0 k1;clear HW H r0 B0 k1
  go_wp2_with (first
   |(rw [Pd.zero6];refine St.aF JI rfl _ _ rl1 _ _ _ rl1 rl1 (aK _ _) (aK _ _) (fK _ _) ?_;intro w2 n2 k2;have r2:=r1.keep k2;have B2:=ae B1 k2;clear r1 B1 k2)
   |fail)
  refine(HB.out _ (dU.all r2)).mono ?_;rintro e w3 ⟨rfl,rfl⟩;go_wp2;go_ret;exact⟨rfl,B2⟩
namespace Pd
def ckR(b:Bool):Value:=if b then .nilIface else .iface 93 (.int .i64 1)
end Pd
theorem BQ(X:Nat->Int)(r c:Int)(z:Nat->Int)(w:World)(h: ¬(r=6/\c=6)):
 Calls Tryz.prog 63 #[.agg (aB X r c z).toArray] w fun e w'=>e= .returned (.iface 93 (.int .i64 1))/\Below w.heap.size w w':=by
 have r0:=aH w 55 (aB X r c z);have B0:=af (Below.refl _ w) (.cells (aB X r c z).toArray 55);obtain⟨W,hW⟩: ∃ W,W=w.alloc (.cells (aB X r c z).toArray 55):=⟨_,rfl⟩;rw [← hW] at r0 B0;have HW:=hide hW;have H:=hide (fun W=>RH r c z W h);have m0:=fH.rm r0;clear hW h;go_enter Tryz.func63,Tryz.ntmps63
 go_wp2_with (first
  |(rw [← HW.out];refine St.dA Ie rl1 _ rl1 _ _ _ rl1 (by with_reducible exact m0) (dG _ _ _) ?_)
  |fail)
 refine(H.out _).mono ?_;rintro e w1 ⟨rfl,k1⟩;go_wp2;go_ret;exact⟨rfl,ae B0 k1⟩
theorem jy(X:Nat->Int)(F:Nat->Nat->Int)(b:Bool)(w:World)(hb:b=true↔oK X F):
 Calls Tryz.prog 63 #[.agg (aB X 6 6 (mz 6 6 F)).toArray] w fun e w'=>e= .returned (ckR b)/\Below w.heap.size w w':=by
 have r0:=aH w 55 (aB X 6 6 (mz 6 6 F));have B0:=af (Below.refl _ w) (.cells (aB X 6 6 (mz 6 6 F)).toArray 55);obtain⟨W,hW⟩: ∃ W,W=w.alloc (.cells (aB X 6 6 (mz 6 6 F)).toArray 55):=⟨_,rfl⟩;rw [← hW] at r0 B0;have H:=hide (fun W=>xW (mz 6 6 F) W);have s1:=fun W=>all6 w.heap.size W;by_cases h1: ∀ i j,i<6->j<6->F i j=F j i
 ·have H1:=hide (fun W=>BN true F W ⟨fun _=>h1,fun _=>rfl⟩);by_cases h2:RQ F
  ·have H2:=hide (fun W=>BP true F W ⟨fun _=>h2,fun _=>rfl⟩)
   have h3:b=true↔ ∀ k,k<6->InV (X k):=by
    rw [hb];exact⟨fun q k hk=>(q k hk).1,fun q i hi=>⟨q i hi,(h2 i hi).1,fun j hj=>⟨(h2 i hi).2 j hj,h1 i j hi hj⟩⟩⟩
   have H3:=hide (fun W (h:Sl W (some ⟨w.heap.size,0,none⟩) 6 6 X)=>lU b _ 6 6 X W h h3);obtain⟨z,hz⟩: ∃ z,z=mz 6 6 F:=⟨_,rfl⟩;rw [← hz] at r0 hW H H1 H2 ⊢;have HW:=hide hW;clear hW hz h1 h2 h3 hb;have m0:=fH.rm r0;go_enter Tryz.func63,Tryz.ntmps63
   go_wp2_with (first
    |(rw [← HW.out];refine St.dA Ie rl1 _ rl1 _ _ _ rl1 (by with_reducible exact m0) (dG _ _ _) ?_)
    |fail)
   refine(H.out _).mono ?_;rintro e w1 ⟨rfl,k1⟩;have r1:=ai.keep r0 k1;have B1:=ae B0 k1;have m1:=fH.rm r1;clear HW H r0 B0 k1 m0
   go_wp2_with (first
    |(refine St.dA Ie rl1 _ rl1 _ _ _ rl1 (by with_reducible exact m1) (dG _ _ _) ?_)
    |fail)
   refine(H1.out _).mono ?_;rintro e w2 ⟨rfl,k2⟩;have r2:=ai.keep r1 k2;have B2:=ae B1 k2;have m2:=fH.rm r2;clear H1 r1 B1 k2 m1
   go_wp2_with (first
    |(refine St.dA Ie rl1 _ rl1 _ _ _ rl1 (by with_reducible exact m2) (dG _ _ _) ?_)
    |fail)
   refine(H2.out _).mono ?_;rintro e w3 ⟨rfl,k3⟩;have r3:=ai.keep r2 k3;have B3:=ae B2 k3;clear H2 r2 B2 k3 m2;go_wp2_with fail
   refine(H3.out _ (fH.sl r3)).mono ?_;rintro e w4 ⟨rfl,rfl⟩;cases b with
   |true=>
    go_wp2;go_ret;exact⟨rfl,B3⟩
   |false=>
    go_wp2;go_ret;exact⟨rfl,B3⟩
  ·have H2:=hide (fun W=>BP false F W ⟨fun q=>(by cases q),fun q=>absurd q h2⟩)
   have e:b=false:=by
    cases b with
    |false=>rfl
    |true=>exact absurd (fun i hi=>⟨(hb.1 rfl i hi).2.1,fun j hj=>((hb.1 rfl i hi).2.2 j hj).1⟩) h2
   subst e;obtain⟨z,hz⟩: ∃ z,z=mz 6 6 F:=⟨_,rfl⟩;rw [← hz] at r0 hW H H1 H2 ⊢;have HW:=hide hW;clear hW hz h1 h2 hb;have m0:=fH.rm r0;go_enter Tryz.func63,Tryz.ntmps63
   go_wp2_with (first
    |(rw [← HW.out];refine St.dA Ie rl1 _ rl1 _ _ _ rl1 (by with_reducible exact m0) (dG _ _ _) ?_)
    |fail)
   refine(H.out _).mono ?_;rintro e w1 ⟨rfl,k1⟩;have r1:=ai.keep r0 k1;have B1:=ae B0 k1;have m1:=fH.rm r1;clear HW H r0 B0 k1 m0
   go_wp2_with (first
    |(refine St.dA Ie rl1 _ rl1 _ _ _ rl1 (by with_reducible exact m1) (dG _ _ _) ?_)
    |fail)
   refine(H1.out _).mono ?_;rintro e w2 ⟨rfl,k2⟩;have r2:=ai.keep r1 k2;have B2:=ae B1 k2;have m2:=fH.rm r2;clear H1 r1 B1 k2 m1
   go_wp2_with (first
    |(refine St.dA Ie rl1 _ rl1 _ _ _ rl1 (by with_reducible exact m2) (dG _ _ _) ?_)
    |fail)
   refine(H2.out _).mono ?_;rintro e w3 ⟨rfl,k3⟩;go_wp2;go_ret;exact⟨rfl,ae B2 k3⟩
 ·have H1:=hide (fun W=>BN false F W ⟨fun q=>(by cases q),fun q=>absurd q h1⟩)
  have e:b=false:=by
   cases b with
   |false=>rfl
   |true=>exact absurd (fun i j hi hj=>((hb.1 rfl i hi).2.2 j hj).2) h1
  subst e;obtain⟨z,hz⟩: ∃ z,z=mz 6 6 F:=⟨_,rfl⟩;rw [← hz] at r0 hW H H1 ⊢;have HW:=hide hW;clear hW hz h1 hb;have m0:=fH.rm r0;go_enter Tryz.func63,Tryz.ntmps63
  go_wp2_with (first
   |(rw [← HW.out];refine St.dA Ie rl1 _ rl1 _ _ _ rl1 (by with_reducible exact m0) (dG _ _ _) ?_)
   |fail)
  refine(H.out _).mono ?_;rintro e w1 ⟨rfl,k1⟩;have r1:=ai.keep r0 k1;have B1:=ae B0 k1;have m1:=fH.rm r1;clear HW H r0 B0 k1 m0
  go_wp2_with (first
   |(refine St.dA Ie rl1 _ rl1 _ _ _ rl1 (by with_reducible exact m1) (dG _ _ _) ?_)
   |fail)
  refine(H1.out _).mono ?_;rintro e w2 ⟨rfl,k2⟩;go_wp2;go_ret;exact⟨rfl,ae B1 k2⟩
theorem RS(X:Nat->Int)(r c:Int)(z:Nat->Int)(Y:Nat->Int)(r' c':Int)(z':Nat->Int)(w:World):
 Calls Tryz.prog 31 #[.agg (aB X r c z).toArray, .agg (aB Y r' c' z').toArray] w fun e w'=>e= .returned (.bool (eqS X r c z Y r' c' z'))/\Below w.heap.size w w':=by
 have r0:=(aH w 55 (aB X r c z)).alloc (.cells (aB Y r' c' z').toArray 55);have q0:=bU w (.cells (aB X r c z).toArray 55) 55 (aB Y r' c' z');have B0:Below w.heap.size w ((w.alloc (.cells (aB X r c z).toArray 55)).alloc (.cells (aB Y r' c' z').toArray 55)):=af (af (Below.refl _ _) _) _;obtain⟨W,hW⟩: ∃ W,W=(w.alloc (.cells (aB X r c z).toArray 55)).alloc (.cells (aB Y r' c' z').toArray 55):=⟨_,rfl⟩;rw [← hW] at r0 q0 B0;have HW:=hide hW;obtain⟨b,hb⟩: ∃ b,eqS X r c z Y r' c' z'=b:=⟨_,rfl⟩;have HB:=hide hb;rw [hb];clear hW hb;go_enter Tryz.func31,Tryz.ntmps31
 go_wp2_with (first
  |(rw [← HW.out];refine St.aI isS rl1 _ rl1 _ _ rl1 (by with_reducible exact r0) (aA _ _ _ _) ?_)
  |(refine St.aI isS rl1 _ rl1 _ _ rl1 (by with_reducible exact q0) (aA _ _ _ _) ?_)
  |(refine Pd.eqlS _ _ _ (by with_reducible rfl) _ _ _ _ _ _ _ _ _ rl1 rl1 HB.out (by kernel_rfl) ?_)
  |fail)
 go_ret;exact⟨rfl,B0⟩
end
end Go.Proofs.YtcefcokpjbebhaaGreatDoor
