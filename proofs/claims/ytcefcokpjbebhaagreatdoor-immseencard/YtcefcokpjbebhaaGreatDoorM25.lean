/-
  How things move (model): rows as a matrix, Step and Noise.
-/
import Derived.Test.YtcefcokpjbebhaaGreatDoorMoE
import Derived.Test.YtcefcokpjbebhaaGreatDoorRegM
import Derived.Test.YtcefcokpjbebhaaGreatDoorM9
set_option linter.unusedSimpArgs false
set_option linter.unusedVariables false
set_option maxHeartbeats 8000000
set_option maxRecDepth 10000
namespace Go.Proofs.YtcefcokpjbebhaaGreatDoor
section
open Go.RowKit Vc St Qn Dt Tg Ld Mt Mo
attribute [local go_sem ↓] Go.wp_at_zero Go.wp_at_succ
theorem Eh(g:Nat)(lo:Option Addr)(cm:Nat)(F:Nat->Nat->Int)(w:World)(h:CU w g)(hG:Grid w lo 6 cm 6 F):
 Calls Tryz.prog 72 #[.pointer (some ⟨g,0,none⟩), .slice lo 6 cm] w fun e w'=>e= .returned (.tuple #[.agg (aj 6 6 (mz 6 6 F)).toArray, .bool false, .nilIface])/\Below w.heap.size w w':=by
 have r0:=bJ w 0 0 (fun _=>0);have B0:=af (Below.refl _ w) (.cells (aj 0 0 (fun _=>0)).toArray 53);obtain⟨W,hW⟩: ∃ W,W=w.alloc (.cells (aj 0 0 (fun _=>0)).toArray 53):=⟨_,rfl⟩;rw [← hW] at r0 B0;have HW:=hide hW;obtain⟨A,C,a1,a2⟩:=hG.keep B0;have HO:=hide (AZ 6 6 lo cm A C F W om1 om1 om1 om1 a1 a2);obtain⟨z,hz⟩: ∃ z,z=mz 6 6 F:=⟨_,rfl⟩;rw [← hz] at HO ⊢;have g0:=h.keep B0;clear hW hz a1 a2 hG;go_enter Tryz.func72,Tryz.ntmps72
 go_wp2_with fail
 rw [dY,← HW.out];refine HO.out.mono ?_;rintro e w1 ⟨rfl,k1⟩;have r1:=r0.keep k1;have g1:=g0.keep k1;have B1:=ae B0 k1;have hl:=r1.lt;clear HO HW r0 g0 B0 k1
 go_wp2_with (first
  |(rw [dY];refine Mt.aF rfl _ _ rl1 _ _ _ _ rl1 rl1 ?_;intro w2 n2 k2;have r2:=r1.keep k2;have g2:=g1.keep k2;have B2:=ae B1 k2;clear r1 g1 B1))
 have cg:w2.cell? ⟨g,0,none⟩=some (.bool false):=ai.cell g2 (k:=0) rfl rfl;have hne:w1.heap.size≠w.heap.size:=om1;have hng:g≠w.heap.size:=by have:=ai.lt h;omega
 refine Ru.aS [7] (fun w'=>dU w' w1.heap.size 6 6 z/\w'.cell? ⟨g,0,none⟩=some (.bool false)) (by kernel_rfl) ⟨n2.drew,cg⟩ (fun hHeld=> ?_);refine Ru.tk 0 (.agg (aj 6 6 z).toArray) rfl (Ru.mJ rl1 _ rl1 w1.heap.size 6 6 z rl1 (fun w h=>h.1)) hHeld ?_;refine Ru.tk2 1 (.pointer (some ⟨g,0,none⟩)) hHeld ?_;refine Ru.tk2 2 (.pointer (some ⟨g,0,none⟩)) hHeld ?_;refine Ru.tk2 3 (.pointer (some ⟨g,0,none⟩)) hHeld ?_;refine Ru.tk2 4 (.bool false) hHeld ?_;refine Ru.rd 5 (fun K hK=> ?_);refine Ru.stepM rl1 _ _ rl1 w.heap.size _ _ 6 6 _ z rl1 rl1 r2.drew ?_;have n3:dU (w2.drew.setRow w.heap.size (aj 6 6 z).toArray) w1.heap.size 6 6 z:=n2.drew.aY hne _;have r3:dU (w2.drew.setRow w.heap.size (aj 6 6 z).toArray) w.heap.size 6 6 z:=r2.drew.row _ _ _;have g3:ai (w2.drew.setRow w.heap.size (aj 6 6 z).toArray) g 144 [.bool false]:=(ai.drew g2).aY hng _;have B3:=Mt.aJ (Below.drew B2) (Nat.le_refl _) (aj 6 6 z).toArray;have c3:(w2.drew.setRow w.heap.size (aj 6 6 z).toArray).cell? ⟨g,0,none⟩=some (.bool false):=ai.cell g3 (k:=0) rfl rfl;refine Ru.hd hK ⟨n3,c3⟩ (fun hHeld=> ?_);clear hK K;refine Ru.tk2 6 (.bool false) hHeld ?_;refine Ru.rd2 7 (fun K hK=> ?_);go_simp;refine hK.out _ _ ?_;clear hK K;try simp only [Act.put,List.getElem_toArray,List.getElem_cons_zero,List.getElem_cons_succ,List.setIfInBounds_toArray,List.set_cons_zero,List.set_cons_succ]
 refine wpAny_done (by kernel_rfl) ?_ _;go_wp2;exact bodyPost_ret (iW Tryz.results72 _ _ w.heap.size _ _ _ rfl r3) rfl ⟨rfl,B3⟩
namespace Mo
def pU(K R d:Int):Nat->Nat->Int:=if K=2 then Ot (-(sV R d)) (cV R d) (pV R d) (-(qV R d)) else if K=3 then Ot (sV R d) (cV R d) (pV R d) (qV R d) else tw (stF K d)
theorem bl_st1(d:Int):(bl (stF 1 d)).toArray= #[.int .i64 1048576, .int .i64 d, .int .i64 (hf d), .int .i64 0, .int .i64 1048576, .int .i64 d, .int .i64 0, .int .i64 0, .int .i64 1048576]:=by
 simp [bl,vals,List.range,List.range.loop,stF]
theorem bl_st0(d:Int):(bl (stF 0 d)).toArray= #[.int .i64 1048576, .int .i64 d, .int .i64 0, .int .i64 0, .int .i64 1048576, .int .i64 0, .int .i64 0, .int .i64 0, .int .i64 0]:=by
 simp [bl,vals,List.range,List.range.loop,stF]
end Mo
theorem Si(g:Nat)(K R d N:Int)(w:World)(hT:iM w)(h:CU w g)(hm:CV K R N)(ht:qU d):
 Calls Tryz.prog 73 #[.agg #[.int .i64 K, .int .i64 R, .int .i64 N], .int .i64 d, .pointer (some ⟨g,0,none⟩)] w fun e w'=> ∃ lo cm,e= .returned (.slice lo 6 cm)/\Grid w' lo 6 cm 6 (pU K R d)/\Below w.heap.size w w':=by
 have m0:=aH w 85 [.int .i64 K, .int .i64 R, .int .i64 N];have B0:=af (Below.refl _ w) (.cells [.int .i64 K, .int .i64 R, .int .i64 N].toArray 85);have g0:=h.keep B0;have T0:=hT.below B0;obtain⟨hn,⟨hK,hR⟩|⟨hK,hR⟩⟩:=hm
 ·clear hR;rcases hK with rfl|rfl
  ·have HT:=hide (fun W=>BI (stF 0 d) W);rw [bl_st0] at HT;have e:Hid (pU 0 R d=tw (stF 0 d)):=rfl;rw [e.out];clear e;generalize tw (stF 0 d)=F at*;go_enter Tryz.func73,Tryz.ntmps73
   go_wp2_with fail
   refine(HT.out _).mono ?_;rintro e w1 ⟨lo,cm,rfl,hG,k1⟩;go_wp2;go_ret;exact⟨lo,cm,rfl,hG,ae B0 k1⟩
  ·have HT:=hide (fun W=>BI (stF 1 d) W);rw [bl_st1] at HT;have e:Hid (pU 1 R d=tw (stF 1 d)):=rfl;rw [e.out];clear e;have HH:=hide (FH g d _ g0 ht);generalize tw (stF 1 d)=F at*;go_enter Tryz.func73,Tryz.ntmps73
   go_wp2_with fail
   refine HH.out.mono ?_;rintro e w1 ⟨rfl,k1⟩;go_wp2_with fail
   refine(HT.out _).mono ?_;rintro e w2 ⟨lo,cm,rfl,hG,k2⟩;go_wp2;go_ret;exact⟨lo,cm,rfl,hG,ae (ae B0 k1) k2⟩
 ·have sb:=(VY R d).2.2;have qb:=(ZC (d:=d) hR).2;have HA:=hide (ZI g R d _ T0 g0 hR ht);have HR:=hide (fun W=>Ib (sV R d) (cV R d) (pV R d) (qV R d) W om1 om1 om1 om1);have HM:=hide (fun W=>mirror_any (sV R d) (cV R d) (pV R d) (qV R d) W om1 om1 om1 om1);have HL:=hide (fun W=>Ib (-(sV R d)) (cV R d) (pV R d) (-(qV R d)) W om1 om1 om1 om1);have c1:(w.alloc (.cells #[.int .i64 K, .int .i64 R, .int .i64 N] 85)).cell? ⟨w.heap.size,1,none⟩=some (.int .i64 R):=ai.cell m0 (k:=1) rfl rfl;clear sb qb;rcases hK with rfl|rfl
  ·have e:Hid (pU 2 R d=Ot (-(sV R d)) (cV R d) (pV R d) (-(qV R d))):=rfl;rw [e.out];clear e;generalize Ot (-(sV R d)) (cV R d) (pV R d) (-(qV R d))=F at*;generalize (xR (-(sV R d)) (cV R d) (pV R d) (-(qV R d))).toArray=U at*;generalize (xR (sV R d) (cV R d) (pV R d) (qV R d)).toArray=V at*;go_enter Tryz.func73,Tryz.ntmps73
   go_wp2_with fail
   refine HA.out.mono ?_;rintro e w1 ⟨rfl,k1⟩;go_wp2_with fail
   refine(HM.out _).mono ?_;rintro e w2 ⟨rfl,k2⟩;go_wp2_with fail
   refine(HL.out _).mono ?_;rintro e w3 ⟨lo,cm,rfl,hG,k3⟩;go_wp2;go_ret;exact⟨lo,cm,rfl,hG,ae (ae (ae B0 k1) k2) k3⟩
  ·have e:Hid (pU 3 R d=Ot (sV R d) (cV R d) (pV R d) (qV R d)):=rfl;rw [e.out];clear e;generalize Ot (sV R d) (cV R d) (pV R d) (qV R d)=F at*;generalize (xR (sV R d) (cV R d) (pV R d) (qV R d)).toArray=V at*;go_enter Tryz.func73,Tryz.ntmps73
   go_wp2_with fail
   refine HA.out.mono ?_;rintro e w1 ⟨rfl,k1⟩;go_wp2_with fail
   refine(HR.out _).mono ?_;rintro e w2 ⟨lo,cm,rfl,hG,k2⟩;go_wp2;go_ret;exact⟨lo,cm,rfl,hG,ae (ae B0 k1) k2⟩
end
section
open Go.RowKit Vc St Mt Cm Ld Pd Pr Qn Dt
attribute [local go_sem ↓] Go.wp_at_zero Go.wp_at_succ
namespace Pd
theorem dE{P:Nat->Prop}{a b:World}{g:Nat}{r c:Int}{z:Nat->Int}(h:dU a g r c z)(k:But P a b)(hx: ¬P g):dU b g r c z:=by
 unfold dU;rw [k.block g h.lt hx];exact h
theorem Sj(X Y:Nat->Int):splice (vals 6 X) 0 (vals 6 Y)=vals 6 Y:=DI 6 X Y
end Pd
theorem pX(s:Nat)(r c:Int)(z:Nat->Int)(a o:Bool)(v:Value)(w:World)(h:wS w s a):
 Calls Tryz.prog 154 #[.pointer (some ⟨s,0,none⟩), .agg (aj r c z).toArray, .bool o,v] w fun e w'=>e= .returned (.agg (aj r c z).toArray)/\wS w' s (a||o)/\But (· =s) w w':=by
 have hs:=ai.lt h;have r0:=(bJ w r c z).alloc (.cells (aj 0 0 (fun _=>0)).toArray 53);have o0:=dR w (.cells (aj r c z).toArray 53) 0 0 (fun _=>0);have B0:Below w.heap.size w ((w.alloc (.cells (aj r c z).toArray 53)).alloc (.cells (aj 0 0 (fun _=>0)).toArray 53)):=af (af (Below.refl _ _) _) _;obtain⟨W,hW⟩: ∃ W,W=(w.alloc (.cells (aj r c z).toArray 53)).alloc (.cells (aj 0 0 (fun _=>0)).toArray 53):=⟨_,rfl⟩;rw [← hW] at r0 o0 B0;have HW:=hide hW;have s0:=ai.keep h B0;have c0:=wS.o s0;have f0:=ai.free s0 0;have n1:w.heap.size≠s:=om1;have n2:w.heap.size+1≠s:=om1;have n3:s≠w.heap.size+1:=om1;clear hW h;have Bb:But (· =s) w W:=jb B0;cases a with
 |true=>
  go_enter Tryz.func154,Tryz.ntmps154
  go_wp2_with (first
   |(rw [dY,← HW.out])
   |(refine Hk.fP _ (by with_reducible rfl) _ _ _ _ rl1 (by with_reducible exact r0.other _ n1) (by kernel_rfl) ?_)
   |(refine aN rfl _ _ rl1 _ _ _ _ _ _ _ rl1 rl1 (by with_reducible exact o0.other _ n2) ?_)
   |fail)
  exact bodyPost_ret (dS Tryz.results154 _ _ (w.heap.size+1) _ _ _ rfl ((o0.other _ n2).row _ _ _)) rfl ⟨rfl,(wS.set s0 true).aY n3 _,(Bb.set (p:=⟨s,0,none⟩) _ rfl).lJ _ om1⟩
 |false=>
  go_enter Tryz.func154,Tryz.ntmps154
  go_wp2_with (first
   |(rw [dY,← HW.out])
   |(refine Hk.fP _ (by with_reducible rfl) _ _ _ _ rl1 (by with_reducible exact r0.other _ n1) (by kernel_rfl) ?_)
   |(refine aN rfl _ _ rl1 _ _ _ _ _ _ _ rl1 rl1 (by with_reducible exact o0.other _ n2) ?_)
   |fail)
  exact bodyPost_ret (dS Tryz.results154 _ _ (w.heap.size+1) _ _ _ rfl ((o0.other _ n2).row _ _ _)) rfl ⟨rfl,(wS.set s0 o).aY n3 _,(Bb.set (p:=⟨s,0,none⟩) _ rfl).lJ _ om1⟩
theorem XO{p:Prop}(h:p:=by
 have b4:But (· =s) w w4:=⟨hB4.os.trans b3.os,hB4.tape.trans b3.tape,hB4.output.trans b3.output,Nat.le_trans b3.size hB4.size,fun i hi hp=>by rw [hB4.block i om1];exact b3.block i hi hp⟩;clear hw4 hB4 hg3 HY6 HV HU o3 s3 b3 y3 H2 H3 HG
 go_wp2_with (first
  |(refine St.aI JI rl1 _ rl1 _ _ rl1 (by with_reducible exact n4) (aK _ _) ?_)
  |(refine St.aU JI rfl _ _ rl1 _ _ _ rl1 rl1 (by with_reducible exact o4) (aK _ _) (aK _ _) (fK _ _) ?_)
  |fail)
 exact bodyPost_ret (iV JI Tryz.results77 _ _ (w.heap.size+1+1) _ rfl (o4.row _) (aK _ _)) rfl ⟨rfl,ai.aY s4 om1 _,b4.lJ _ om1⟩):p:=h
theorem OC(s:Nat)(X:Nat->Int)(F:Nat->Nat->Int)(a:Bool)(w:World)(h:wS w s a)(bF:B2 F)(bX:B64 X):
 Calls Tryz.prog 77 #[.pointer (some ⟨s,0,none⟩), .agg (vals 6 X).toArray, .agg (aj 6 6 (mz 6 6 F)).toArray] w fun e w'=>e= .returned (.agg (vals 6 (nX F X)).toArray)/\wS w' s (a||oX F X)/\But (· =s) w w':=by
 have hs:=ai.lt h;have x0:=((aH w 156 (vals 6 X)).alloc (.cells (aj 6 6 (mz 6 6 F)).toArray 53)).alloc (.cells (vals 6 (fun _=>0)).toArray 156);have m0:=(dR w (.cells (vals 6 X).toArray 156) 6 6 (mz 6 6 F)).alloc (.cells (vals 6 (fun _=>0)).toArray 156);have o0:=dH w (.cells (vals 6 X).toArray 156) (.cells (aj 6 6 (mz 6 6 F)).toArray 53) 156 (vals 6 (fun _=>0));have B0:Below w.heap.size w (((w.alloc (.cells (vals 6 X).toArray 156)).alloc (.cells (aj 6 6 (mz 6 6 F)).toArray 53)).alloc (.cells (vals 6 (fun _=>0)).toArray 156)):=af (af (af (Below.refl _ _) _) _) _;obtain⟨W,hW⟩: ∃ W,W=((w.alloc (.cells (vals 6 X).toArray 156)).alloc (.cells (aj 6 6 (mz 6 6 F)).toArray 53)).alloc (.cells (vals 6 (fun _=>0)).toArray 156):=⟨_,rfl⟩;rw [← hW] at x0 m0 o0 B0;have HA:Hid (∀ W,jD W w.heap.size X->Calls Tryz.prog 152 #[.agg (aj 6 6 (mz 6 6 F)).toArray, .slice (some ⟨w.heap.size,0,none⟩) 6 6] W fun e w'=> ∃ co cc,e= .returned (.tuple #[.slice co 6 cc, .bool (oX F X), .nilIface])/\Sl w' co 6 cc (nX F X)/\vV W.heap.size co/\Below W.heap.size W w'):=fun W hx=>Ea 6 6 6 (some ⟨w.heap.size,0,none⟩) F X W om1 om1 om1 om1 bF (jD.sl hx) bX;have s0:=ai.keep h B0;have Bb:But (· =s) w W:=jb B0;have lW:w.heap.size+1+1<W.heap.size:=ai.lt o0;have al:=fun W=>RI w.heap.size W;obtain⟨z,hz⟩: ∃ z,z=mz 6 6 F:=⟨_,rfl⟩;obtain⟨Y,hY⟩: ∃ Y,Y=nX F X:=⟨_,rfl⟩;obtain⟨q,hq⟩: ∃ q,q=oX F X:=⟨_,rfl⟩;rw [← hz] at m0 hW HA ⊢;rw [← hY,← hq] at HA ⊢;have HW:=hide hW;clear hW hz hY hq h bF bX B0;go_enter Tryz.func77,Tryz.ntmps77
 go_upto_region 1 with(first|(rw [Pd.zero6,← HW.out])|fail)
 try rw [Pd.zero6,← HW.out]
 refine Ru.aS [] (fun w'=>dU w' (w.heap.size+1) 6 6 z/\jD w' w.heap.size X) (by kernel_rfl) ⟨m0.drew,ai.drew x0⟩ (fun hHeld=> ?_);refine Ru.tk 0 (.agg (aj 6 6 z).toArray) rfl (Ru.mJ (by kernel_rfl) _ rl1 (w.heap.size+1) 6 6 z rl1 (fun w h=>h.1)) hHeld ?_;refine Ru.tk2 1 (.slice (some ⟨w.heap.size,0,none⟩) 6 6) hHeld ?_;refine Ru.rs [2] ?_;refine Ru.dC.cons rfl (by kernel_rfl) (fun K1 hK1=> ?_) Ru.dC.nil;go_simp;refine(HA.out _ (ai.drew x0)).mono ?_;rintro _ w1 ⟨co,cc,rfl,sY,fY,k1⟩;have k1':=ae (Vc.az W) k1;have x1:=ai.keep x0 k1';have m1:=m0.keep k1';have o1:=ai.keep o0 k1';have s1:=ai.keep s0 k1';have b1:=Bb.then k1';go_wp2_with fail
 refine hK1.out _ _ ⟨m1,x1⟩ (fun hHeld=> ?_);clear hK1 K1;try simp only [Act.put,List.getElem_toArray,List.getElem_cons_zero,List.getElem_cons_succ,List.setIfInBounds_toArray,List.set_cons_zero,List.set_cons_succ]
 refine Ru.tk2 3 (.tuple #[.slice co 6 cc, .bool q, .nilIface]) hHeld ?_;refine Ru.tk2 4 (.slice co 6 cc) hHeld ?_;refine Ru.tk2 5 (.bool q) hHeld ?_;refine Ru.tk2 6 (.nilIface) hHeld ?_;refine Ru.tk2 7 (.slice co 6 cc) hHeld ?_;refine Ru.tk2 8 (.bool q) hHeld ?_;refine Ru.tk2 9 (.nilIface) hHeld ?_;refine Ru.bI (by kernel_rfl) ?_;have c1:=wS.o s1;have f1:=ai.free s1 0;have lf: ∀ x,co=some x-> ¬x.block=s:=fun x hx=>by have:=fY x hx;have e:W.drew.heap.size=W.heap.size:=rfl;omega
 have l1:w.heap.size+1+1<w1.heap.size:=ai.lt o1;have ls1:s<w1.heap.size:=ai.lt s1;have hW1:=k1'.size;clear x0 m0 o0 s0 Bb x1 m1 fY k1 k1' HA HW al;cases a with
 |true=>
  have s2:wS (w1.setCell ⟨s,0,none⟩ (.bool true)) s true:=wS.set s1 true;have b2:But (· =s) w (w1.setCell ⟨s,0,none⟩ (.bool true)):=b1.set (p:=⟨s,0,none⟩) _ rfl;have o2:jD (w1.setCell ⟨s,0,none⟩ (.bool true)) (w.heap.size+1+1) (fun _=>0):=ai.other o1 _ (by show w.heap.size+1+1≠s;omega);have y2:Sl (w1.setCell ⟨s,0,none⟩ (.bool true)) co 6 cc Y:=lK sY ((But.refl (· =s) w1).set (p:=⟨s,0,none⟩) (.bool true) rfl) lf;have hz2:(w1.setCell ⟨s,0,none⟩ (.bool true)).heap.size=w1.heap.size:=by simp
  obtain⟨w2,hw2⟩: ∃ w2,w2=w1.setCell ⟨s,0,none⟩ (.bool true):=⟨_,rfl⟩;rw [← hw2] at s2 b2 o2 y2 hz2;have H2:=hide hw2;have n3:=aH w2 156 (vals 6 (fun _=>0));have B3:=af (Below.refl _ w2) (.cells (vals 6 (fun _=>0)).toArray 156);have s3:=ai.keep s2 B3;have b3:=b2.then B3;have o3:=ai.keep o2 B3;have y3:=y2.keep B3;obtain⟨w3,hw3⟩: ∃ w3,w3=w2.alloc (.cells (vals 6 (fun _=>0)).toArray 156):=⟨_,rfl⟩;rw [← hw3] at n3 s3 b3 o3 y3;have H3:=hide hw3;obtain⟨g,hg⟩: ∃ g,g=w1.heap.size:=⟨_,rfl⟩;rw [hz2,← hg] at n3;have HG:=hide hg;have ag:=fun W=>RI g W;have lg:w.heap.size+1+1<g:=om1;have lg2:s<g:=om1;have hY6:=Sl.src y3 om1;obtain⟨V,hV⟩: ∃ V,V=vals 6 Y:=⟨_,rfl⟩;obtain⟨U,hU⟩: ∃ U,U=vals 6 (fun _=>0):=⟨_,rfl⟩;rw [← hV] at hY6;have HV:=hide hV;have HU:=hide hU;have HY6:=hide hY6;have hg3:Hid (w3.heap[g]?=some (.cells U.toArray 156 (0,0))):=by rw [hU];exact n3
  clear hw2 hw3 hg hY6 hV hU s1 b1 o1 sY s2 b2 o2 y2 n3 B3 lf
  go_wp2_with (first
   |(rw [← H2.out])
   |(rw [Pd.zero6,← H3.out,← HG.out])
   |(refine wpList_copy_splice rfl _ _ 27 27 rl1 2 Tryz.underlying27 qK _ _ _ _ _ _ rl1 rl1 g 0 U 156 hg3.out V (by rw [HV.out,aK];rfl) (fun h0=>⟨rfl,HY6.out⟩) (by rw [HV.out,HU.out,aK,aK];omega) (by rw [HV.out];exact fK 6 _) g w3 (Below.refl _ _) (Nat.le_refl _) ?_)
   |fail)
  intro w4 hw4 hB4
  have n4:jD w4 g Y:=by
   have e:=hw4.out;rw [HV.out,HU.out,Sj] at e;exact e
  have o4:jD w4 (w.heap.size+1+1) (fun _=>0):=by
   unfold jD ai;rw [hB4.block _ lg];exact o3
  have s4:wS w4 s true:=by
   unfold wS ai;rw [hB4.block _ lg2];exact s3
  exact XO
 |false=>
  have s2:wS (w1.setCell ⟨s,0,none⟩ (.bool q)) s q:=wS.set s1 q;have b2:But (· =s) w (w1.setCell ⟨s,0,none⟩ (.bool q)):=b1.set (p:=⟨s,0,none⟩) _ rfl;have o2:jD (w1.setCell ⟨s,0,none⟩ (.bool q)) (w.heap.size+1+1) (fun _=>0):=ai.other o1 _ (by show w.heap.size+1+1≠s;omega);have y2:Sl (w1.setCell ⟨s,0,none⟩ (.bool q)) co 6 cc Y:=lK sY ((But.refl (· =s) w1).set (p:=⟨s,0,none⟩) (.bool q) rfl) lf;have hz2:(w1.setCell ⟨s,0,none⟩ (.bool q)).heap.size=w1.heap.size:=by simp
  obtain⟨w2,hw2⟩: ∃ w2,w2=w1.setCell ⟨s,0,none⟩ (.bool q):=⟨_,rfl⟩;rw [← hw2] at s2 b2 o2 y2 hz2;have H2:=hide hw2;have n3:=aH w2 156 (vals 6 (fun _=>0));have B3:=af (Below.refl _ w2) (.cells (vals 6 (fun _=>0)).toArray 156);have s3:=ai.keep s2 B3;have b3:=b2.then B3;have o3:=ai.keep o2 B3;have y3:=y2.keep B3;obtain⟨w3,hw3⟩: ∃ w3,w3=w2.alloc (.cells (vals 6 (fun _=>0)).toArray 156):=⟨_,rfl⟩;rw [← hw3] at n3 s3 b3 o3 y3;have H3:=hide hw3;obtain⟨g,hg⟩: ∃ g,g=w1.heap.size:=⟨_,rfl⟩;rw [hz2,← hg] at n3;have HG:=hide hg;have ag:=fun W=>RI g W;have lg:w.heap.size+1+1<g:=om1;have lg2:s<g:=om1;have hY6:=Sl.src y3 om1;obtain⟨V,hV⟩: ∃ V,V=vals 6 Y:=⟨_,rfl⟩;obtain⟨U,hU⟩: ∃ U,U=vals 6 (fun _=>0):=⟨_,rfl⟩;rw [← hV] at hY6;have HV:=hide hV;have HU:=hide hU;have HY6:=hide hY6;have hg3:Hid (w3.heap[g]?=some (.cells U.toArray 156 (0,0))):=by rw [hU];exact n3
  clear hw2 hw3 hg hY6 hV hU s1 b1 o1 sY s2 b2 o2 y2 n3 B3 lf
  go_wp2_with (first
   |(rw [← H2.out])
   |(rw [Pd.zero6,← H3.out,← HG.out])
   |(refine wpList_copy_splice rfl _ _ 27 27 rl1 2 Tryz.underlying27 qK _ _ _ _ _ _ rl1 rl1 g 0 U 156 hg3.out V (by rw [HV.out,aK];rfl) (fun h0=>⟨rfl,HY6.out⟩) (by rw [HV.out,HU.out,aK,aK];omega) (by rw [HV.out];exact fK 6 _) g w3 (Below.refl _ _) (Nat.le_refl _) ?_)
   |fail)
  intro w4 hw4 hB4
  have n4:jD w4 g Y:=by
   have e:=hw4.out;rw [HV.out,HU.out,Sj] at e;exact e
  have o4:jD w4 (w.heap.size+1+1) (fun _=>0):=by
   unfold jD ai;rw [hB4.block _ lg];exact o3
  have s4:wS w4 s q:=by
   unfold wS ai;rw [hB4.block _ lg2];exact s3
  exact XO
end
section
open Go.RowKit Vc St Mt Cm Ld Pd Pr Qn Dt
attribute [local go_sem ↓] Go.wp_at_zero Go.wp_at_succ
namespace Pd
theorem mul_nY(F P:Nat->Nat->Int):(fun i j=>clamp (mulR F P 6 i j))=nY F P:=by
 funext i j;unfold mulR nY;rw [qH]
theorem mul_oY(F P:Nat->Nat->Int):jK (fun i j=>great (mulR F P 6 i j)) 6 6=oY F P:=by
 unfold oY;refine sU fun i j _ _=> ?_;unfold mulR;rw [qH]
theorem mul_nZ(F P:Nat->Nat->Int):(fun i j=>clamp (mulR (nY F P) (fun i j=>F j i) 6 i j))=nZ F P:=by
 funext i j;unfold mulR nZ;rw [qH]
theorem mul_oZ(F P:Nat->Nat->Int):jK (fun i j=>great (mulR (nY F P) (fun i j=>F j i) 6 i j)) 6 6=oZ F P:=by
 unfold oZ;refine sU fun i j _ _=> ?_;unfold mulR;rw [qH]
theorem Su(F P Q:Nat->Nat->Int):aj 6 6 (wdk (mz 6 6 (nE F P Q)) (nn (dg (mz 6 6 (nE F P Q)))) 6)=aj 6 6 (mz 6 6 (nP F P Q)):=by
 refine jJ fun k hk=> ?_;rw [RJ _ _ k hk];refine pJ (fun i j hi hj=> ?_) k;unfold wd nP nn;by_cases e:i=j
 · subst e;rw [if_pos rfl,ZY _ hi];by_cases h:nE F P Q i i<0
   · rw [if_pos ⟨rfl,h⟩];omega
   · rw [if_neg (fun q=>h q.2)];omega
 · rw [if_neg e,if_neg (fun q=>e q.1)]
def oS(F P Q:Nat->Nat->Int):Bool:=oY F P||oZ F P||oW F P Q||oE F P Q
theorem XP(X:Nat->Int)(r c:Int)(z:Nat->Int):Tryz.prog.built 55 [(0, .agg (vals 6 X).toArray),(1, .agg (aj r c z).toArray)]=some (aB X r c z).toArray:=by kernel_rfl
theorem ZZ:Tryz.prog.built 55 []=some (aB (fun _=>0) 0 0 (fun _=>0)).toArray:=by kernel_rfl
theorem xY{ops:Array Oper}{S:World->Prop}{o:Oper}{a:Act}{t:TypeId}{n:Nat}(I:Is t n)(hw:Region.wanted o (yielded ops a.tmps)=true)(x:Operand)(ho:o.op= .load t x)
 (b p:Nat) (cs:List Value) (hx:a.eval x= .pointer (some ⟨b,p,none⟩)) (hS: ∀ w,S w->w.rangeAt b p cs) (hl:cs.length=n):YieldsIf Tryz.prog ops S o (.agg cs.toArray) a:=by
 obtain⟨d,hd,hr⟩:=I.row;exact yieldsIf_load_mid hw _ x ho b p hx cs d hS hd hr (by rw [I.size,hl])
theorem uT{ops:Array Oper}{S:World->Prop}{o:Oper}{a:Act}(hw:Region.wanted o (yielded ops a.tmps)=true)(x y:Operand)(ho:o.op= .build 55 #[(0,x),(1,y)])
 (X:Nat->Int) (r c:Int) (z:Nat->Int) (hx:a.eval x= .agg (vals 6 X).toArray) (hy:a.eval y= .agg (aj r c z).toArray):YieldsIf Tryz.prog ops S o (.agg (aB X r c z).toArray) a:=
 .inl ⟨hw,fun w _=>by
  unfold execOp
  have em:((#[(0,x),(1,y)]:Array (Nat×Operand)).map fun(i,x)=>(i,a.eval x)).toList= [(0, .agg (vals 6 X).toArray),(1, .agg (aj r c z).toArray)]:=by simp [hx,hy]
  simp only [ho,Sem.run_bind,run_build w 55 _ _ (by rw [em];exact XP X r c z),Result.andThen_ok,Sem.run_pure]⟩
theorem FP{ops:Array Oper}{rest:List Oper}{o:Oper}{a:Act}{w:World}{Q:Exit->Act->World->Prop}(ho:o.op= .build 55 #[])(hw:Region.wanted o (yielded ops a.tmps)=true)
 (h:wpList Tryz.prog ops Q rest (a.put o.dst (.agg (aB (fun _=>0) 0 0 (fun _=>0)).toArray)) w):wpList Tryz.prog ops Q (o::rest) a w:=
 wpList_want hw fun _ hK=>by
  unfold Oper.wp execOp
  have em:((#[]:Array (Nat×Operand)).map fun(i,x)=>(i,a.eval x)).toList= []:=by simp
  simp only [ho,Sem.run_bind,run_build w 55 _ _ (by rw [em];exact ZZ),Result.andThen_ok]
  exact hK _ _ h
theorem Z4{ops:Array Oper}{rest:List Oper}{o:Oper}{a:Act}{w:World}{Q:Exit->Act->World->Prop}(x y:Operand)(ho:o.op= .build 55 #[(0,x),(1,y)])(X:Nat->Int)(r c:Int)(z:Nat->Int)(hx:a.eval x= .agg (vals 6 X).toArray)(hy:a.eval y= .agg (aj r c z).toArray)(hw:Region.wanted o (yielded ops a.tmps)=true)
 (h:wpList Tryz.prog ops Q rest (a.put o.dst (.agg (aB X r c z).toArray)) w):wpList Tryz.prog ops Q (o::rest) a w:=
 wpList_want hw fun _ hK=>by
  unfold Oper.wp execOp
  have em:((#[(0,x),(1,y)]:Array (Nat×Operand)).map fun(i,x)=>(i,a.eval x)).toList= [(0, .agg (vals 6 X).toArray),(1, .agg (aj r c z).toArray)]:=by simp [hx,hy]
  simp only [ho,Sem.run_bind,run_build w 55 _ _ (by rw [em];exact XP X r c z),Result.andThen_ok]
  exact hK _ _ h
end Pd
theorem Ik(s:Nat)(P F Q:Nat->Nat->Int)(a:Bool)(w:World)(h:wS w s a)(bP:B2 P)(bF:B2 F)(bQ:B2 Q):
 Calls Tryz.prog 78 #[.pointer (some ⟨s,0,none⟩), .agg (aj 6 6 (mz 6 6 P)).toArray, .agg (aj 6 6 (mz 6 6 F)).toArray, .agg (aj 6 6 (mz 6 6 Q)).toArray] w fun e w'=>e= .returned (.agg (aj 6 6 (mz 6 6 (nP F P Q))).toArray)/\wS w' s (a||oS F P Q)/\But (· =s) w w':=by
 have hs:=ai.lt h;have HT:=hide (fun W=>qM 6 6 F W om1 om1 om1 om1);have HY:=hide (fun W=>yU 6 6 6 F P W om1 om1 om1 om1 om1 om1 bF bP);rw [mul_nY,mul_oY] at HY;have HZ:=hide (fun W=>yU 6 6 6 (nY F P) (fun i j=>F j i) W om1 om1 om1 om1 om1 om1 (VA _) (fun i j=>bF j i));rw [mul_nZ,mul_oZ] at HZ;have HA:Hid (∀ W,Calls Tryz.prog 156 #[.agg (aj 6 6 (mz 6 6 (nZ F P))).toArray, .agg (aj 6 6 (mz 6 6 Q)).toArray] W fun e w'=>e= .returned (.tuple #[.agg (aj 6 6 (mz 6 6 (nW F P Q))).toArray, .bool (oW F P Q), .nilIface])/\Below W.heap.size W w'):=fun W=>FC 6 6 (nZ F P) Q W om1 om1 om1 om1 (VA _) bQ;have HE:Hid (∀ W,Calls Tryz.prog 158 #[.agg (aj 6 6 (mz 6 6 (nW F P Q))).toArray] W fun e w'=>e= .returned (.tuple #[.agg (aj 6 6 (mz 6 6 (nE F P Q))).toArray, .bool (oE F P Q), .nilIface])/\Below W.heap.size W w'):=fun W=>Bl 6 (nW F P Q) W om1 om1 (VA _);have HN:=hide (fun W=>JJ (mz 6 6 (nE F P Q)) W);rw [Su] at HN;unfold oS;obtain⟨zP,hzP⟩: ∃ z,z=mz 6 6 P:=⟨_,rfl⟩;obtain⟨zF,hzF⟩: ∃ z,z=mz 6 6 F:=⟨_,rfl⟩;obtain⟨zQ,hzQ⟩: ∃ z,z=mz 6 6 Q:=⟨_,rfl⟩;obtain⟨zT,hzT⟩: ∃ z,z=mz 6 6 (fun i j=>F j i):=⟨_,rfl⟩;obtain⟨zY,hzY⟩: ∃ z,z=mz 6 6 (nY F P):=⟨_,rfl⟩;obtain⟨zZ,hzZ⟩: ∃ z,z=mz 6 6 (nZ F P):=⟨_,rfl⟩;obtain⟨zW,hzW⟩: ∃ z,z=mz 6 6 (nW F P Q):=⟨_,rfl⟩;obtain⟨zE,hzE⟩: ∃ z,z=mz 6 6 (nE F P Q):=⟨_,rfl⟩;obtain⟨zN,hzN⟩: ∃ z,z=mz 6 6 (nP F P Q):=⟨_,rfl⟩;obtain⟨y1,hy1⟩: ∃ z,z=oY F P:=⟨_,rfl⟩;obtain⟨y2,hy2⟩: ∃ z,z=oZ F P:=⟨_,rfl⟩;obtain⟨y3,hy3⟩: ∃ z,z=oW F P Q:=⟨_,rfl⟩;obtain⟨y4,hy4⟩: ∃ z,z=oE F P Q:=⟨_,rfl⟩;rw [← hzF,← hzT] at HT;rw [← hzF,← hzP,← hzY,← hy1] at HY;rw [← hzY,← hzT,← hzZ,← hy2] at HZ;rw [← hzZ,← hzQ,← hzW,← hy3] at HA;rw [← hzW,← hzE,← hy4] at HE;rw [← hzE,← hzN] at HN;rw [← hzP,← hzF,← hzQ,← hzN,← hy1,← hy2,← hy3,← hy4];clear hzP hzF hzQ hzT hzY hzZ hzW hzE hzN hy1 hy2 hy3 hy4 bP bF bQ;have p0:=(((bJ w 6 6 zP).alloc (.cells (aj 6 6 zF).toArray 53)).alloc (.cells (aj 6 6 zQ).toArray 53)).alloc (.cells (aj 0 0 (fun _=>0)).toArray 53);have f0:=((dR w (.cells (aj 6 6 zP).toArray 53) 6 6 zF).alloc (.cells (aj 6 6 zQ).toArray 53)).alloc (.cells (aj 0 0 (fun _=>0)).toArray 53);have q0:=(jE w (.cells (aj 6 6 zP).toArray 53) (.cells (aj 6 6 zF).toArray 53) 6 6 zQ).alloc (.cells (aj 0 0 (fun _=>0)).toArray 53);have r0:=BF w (.cells (aj 6 6 zP).toArray 53) (.cells (aj 6 6 zF).toArray 53) (.cells (aj 6 6 zQ).toArray 53) 0 0 (fun _=>0);have B0:Below w.heap.size w ((((w.alloc (.cells (aj 6 6 zP).toArray 53)).alloc (.cells (aj 6 6 zF).toArray 53)).alloc (.cells (aj 6 6 zQ).toArray 53)).alloc (.cells (aj 0 0 (fun _=>0)).toArray 53)):=af (af (af (af (Below.refl _ _) _) _) _) _;obtain⟨W,hW⟩: ∃ W,W=(((w.alloc (.cells (aj 6 6 zP).toArray 53)).alloc (.cells (aj 6 6 zF).toArray 53)).alloc (.cells (aj 6 6 zQ).toArray 53)).alloc (.cells (aj 0 0 (fun _=>0)).toArray 53):=⟨_,rfl⟩;rw [← hW] at p0 f0 q0 r0 B0;have HW:=hide hW;have s0:=ai.keep h B0;have b0:But (· =s) w W:=jb B0;clear hW h;go_enter Tryz.func78,Tryz.ntmps78
 go_wp2_with (first
  |(rw [dY,← HW.out];refine Hk.fP _ (by with_reducible rfl) _ _ _ _ rl1 (by with_reducible exact f0) (by kernel_rfl) ?_)
  |(refine Hk.fP _ (by with_reducible rfl) _ _ _ _ rl1 (by with_reducible exact f0) (by kernel_rfl) ?_)
  |fail)
 refine(HT.out _).mono ?_;rintro e w_1 ⟨rfl,k_1⟩;have p_1:=p0.keep k_1;have f_1:=f0.keep k_1;have q_1:=q0.keep k_1;have r_1:=r0.keep k_1;have s_1:=ai.keep s0 k_1;have b_1:=b0.then k_1;clear p0 f0 q0 r0 s0 b0
 go_wp2_with (first
  |(rw [dY];refine Mt.aF rfl _ _ rl1 _ _ _ _ rl1 rl1 ?_;intro ws2 ns2 ks2;have ls2:=b_1.size;have p_2:=p_1.keep ks2;have f_2:=f_1.keep ks2;have q_2:=q_1.keep ks2;have r_2:=r_1.keep ks2;have s_2:=ai.keep s_1 ks2;have b_2:=b_1.then ks2;clear p_1 f_1 q_1 r_1 s_1 b_1)
  |(refine Hk.fP _ (by with_reducible rfl) _ _ _ _ rl1 (by with_reducible exact f_2) (by kernel_rfl) ?_)
  |(refine Hk.fP _ (by with_reducible rfl) _ _ _ _ rl1 (by with_reducible exact p_2) (by kernel_rfl) ?_)
  |fail)
 refine(HY.out _).mono ?_;rintro e w_3 ⟨rfl,k_3⟩;have f_3:=f_2.keep k_3;have q_3:=q_2.keep k_3;have r_3:=r_2.keep k_3;have t_3:=ns2.keep k_3;have s_3:=ai.keep s_2 k_3;have b_3:=b_2.then k_3;clear f_2 q_2 r_2 ns2 s_2 b_2;go_wp2_with fail
 refine(pX s 6 6 zY a y1 _ _ s_3).mono ?_;rintro e w_4 ⟨rfl,z_4,k_4⟩;have f_4:=dE f_3 k_4 om1;have q_4:=dE q_3 k_4 om1;have r_4:=dE r_3 k_4 om1;have t_4:=dE t_3 k_4 om1;have b_4:=b_3.trans k_4;clear f_3 q_3 r_3 t_3 s_3 b_3
 go_wp2_with (first
  |(rw [dY];refine Mt.aF rfl _ _ rl1 _ _ _ _ rl1 rl1 ?_;intro ws5 ns5 ks5;have ls5:=b_4.size;have f_5:=f_4.keep ks5;have q_5:=q_4.keep ks5;have r_5:=r_4.keep ks5;have t_5:=t_4.keep ks5;have s_5:=ai.keep z_4 ks5;have b_5:=b_4.then ks5;clear f_4 q_4 r_4 t_4 z_4 b_4)
  |(refine Hk.fP _ (by with_reducible rfl) _ _ _ _ rl1 (by with_reducible exact ns5) (by kernel_rfl) ?_)
  |(refine Hk.fP _ (by with_reducible rfl) _ _ _ _ rl1 (by with_reducible exact t_5) (by kernel_rfl) ?_)
  |fail)
 refine(HZ.out _).mono ?_;rintro e w_6 ⟨rfl,k_6⟩;have q_6:=q_5.keep k_6;have r_6:=r_5.keep k_6;have s_6:=ai.keep s_5 k_6;have b_6:=b_5.then k_6;clear q_5 r_5 s_5 b_5;go_wp2_with fail
 refine(pX s 6 6 zZ _ y2 _ _ s_6).mono ?_;rintro e w_7 ⟨rfl,z_7,k_7⟩;have q_7:=dE q_6 k_7 om1;have r_7:=dE r_6 k_7 om1;have b_7:=b_6.trans k_7;clear q_6 r_6 s_6 b_6
 go_wp2_with (first
  |(rw [dY];refine Mt.aF rfl _ _ rl1 _ _ _ _ rl1 rl1 ?_;intro ws8 ns8 ks8;have ls8:=b_7.size;have q_8:=q_7.keep ks8;have r_8:=r_7.keep ks8;have s_8:=ai.keep z_7 ks8;have b_8:=b_7.then ks8;clear q_7 r_7 z_7 b_7)
  |(refine Hk.fP _ (by with_reducible rfl) _ _ _ _ rl1 (by with_reducible exact ns8) (by kernel_rfl) ?_)
  |(refine Hk.fP _ (by with_reducible rfl) _ _ _ _ rl1 (by with_reducible exact q_8) (by kernel_rfl) ?_)
  |fail)
 refine(HA.out _).mono ?_;rintro e w_9 ⟨rfl,k_9⟩;have r_9:=r_8.keep k_9;have s_9:=ai.keep s_8 k_9;have b_9:=b_8.then k_9;clear r_8 s_8 b_8;go_wp2_with fail
 refine(pX s 6 6 zW _ y3 _ _ s_9).mono ?_;rintro e w_10 ⟨rfl,z_10,k_10⟩;have r_10:=dE r_9 k_10 om1;have b_10:=b_9.trans k_10;clear r_9 s_9 b_9
 go_wp2_with (first
  |(rw [dY];refine Mt.aF rfl _ _ rl1 _ _ _ _ rl1 rl1 ?_;intro ws11 ns11 ks11;have ls11:=b_10.size;have r_11:=r_10.keep ks11;have s_11:=ai.keep z_10 ks11;have b_11:=b_10.then ks11;clear r_10 z_10 b_10)
  |(refine Hk.fP _ (by with_reducible rfl) _ _ _ _ rl1 (by with_reducible exact ns11) (by kernel_rfl) ?_)
  |fail)
 refine(HE.out _).mono ?_;rintro e w_12 ⟨rfl,k_12⟩;have r_12:=r_11.keep k_12;have s_12:=ai.keep s_11 k_12;have b_12:=b_11.then k_12;clear r_11 s_11 b_11;go_wp2_with fail
 refine(pX s 6 6 zE _ y4 _ _ s_12).mono ?_;rintro e w_13 ⟨rfl,z_13,k_13⟩;have r_13:=dE r_12 k_13 om1;have b_13:=b_12.trans k_13;clear r_12 s_12 b_12
 go_wp2_with (first
  |fail)
 refine(HN.out _).mono ?_;rintro e w_14 ⟨rfl,k_14⟩;have r_14:=r_13.keep k_14;have s_14:=ai.keep z_13 k_14;have b_14:=b_13.then k_14;clear r_13 z_13 b_13
 go_wp2_with (first
  |(refine aN rfl _ _ rl1 _ _ _ _ _ _ _ rl1 rl1 (by with_reducible exact r_14) ?_)
  |fail)
 have eO:(a||(y1||y2||y3||y4))=((((a||y1)||y2)||y3)||y4):=by cases a<;>cases y1<;>cases y2<;>cases y3<;>rfl
 have s_e:=ai.aY s_14 (g:=w.heap.size+1+1+1) om1 (aj 6 6 zN).toArray;rw [← eO] at s_e;exact bodyPost_ret (dS Tryz.results78 _ _ (w.heap.size+1+1+1) _ _ _ rfl (r_14.row _ _ _)) rfl ⟨rfl,s_e,b_14.lJ _ om1⟩
end
section
open Go.RowKit Vc St Mt Cm Ld Pd Pr Qn Dt
attribute [local go_sem ↓] Go.wp_at_zero Go.wp_at_succ
theorem Sz{p:Prop}(h:p:=by
 rw [← hg] at nE oE rE bE gz gr ⊢;refine hK.out _ _ ?_;clear hK K;clear HS HR HB D0 o0 H3 HH4;generalize (World.setRow _ g (aB Y 6 6 zN).toArray)=wE at*;try simp only [Act.put,List.getElem_toArray,List.getElem_cons_zero,List.getElem_cons_succ,List.setIfInBounds_toArray,List.set_cons_zero,List.set_cons_succ]
 refine wpAny_done (by kernel_rfl) ?_ _;have c5:=wS.o oE;go_upto_region 5 with fail
 refine Ru.aS [5] (fun w'=>fH w' g Y 6 6 zN/\w'.cell? ⟨s,0,none⟩=some (.bool (false||x1||x2))) (by kernel_rfl) ⟨ai.drew nE,c5⟩ (fun hHeld=> ?_);refine Ru.tk 0 (.agg (aB Y 6 6 zN).toArray) rfl (Ru.fF isS (by kernel_rfl) _ rl1 g _ rl1 (fun w h=>h.1) (aA _ _ _ _)) hHeld ?_;refine Ru.tk2 1 (.pointer (some ⟨s,0,none⟩)) hHeld ?_;refine Ru.tk2 2 (.bool (false||x1||x2)) hHeld ?_;refine Ru.rd 3 (fun K hK=> ?_);refine Ru.kK isS (by kernel_rfl) _ _ rl1 (w.heap.size+1+1+1) _ (aB Y 6 6 zN) rl1 rl1 (ai.drew rE) (aA _ _ _ _) (aA _ _ _ _) (cZ _ _ _ _) ?_;have nF:fH (wE.drew.setRow (w.heap.size+1+1+1) (aB Y 6 6 zN).toArray) g Y 6 6 zN:=ai.aY (ai.drew nE) om1 _;have oF:wS (wE.drew.setRow (w.heap.size+1+1+1) (aB Y 6 6 zN).toArray) s (false||x1||x2):=ai.aY (ai.drew oE) om1 _;have rF:fH (wE.drew.setRow (w.heap.size+1+1+1) (aB Y 6 6 zN).toArray) (w.heap.size+1+1+1) Y 6 6 zN:=ai.row (ai.drew rE) _;have bF:=St.aJ bE.drew (g:=w.heap.size+1+1+1) om1 (aB Y 6 6 zN).toArray;refine Ru.hd hK ⟨nF,wS.o oF⟩ (fun hHeld=> ?_);clear hK K;refine Ru.tk2 4 (.bool (false||x1||x2)) hHeld ?_;refine Ru.rd2 5 (fun K hK=> ?_);go_simp;refine hK.out _ _ ?_;clear hK K;try simp only [Act.put,List.getElem_toArray,List.getElem_cons_zero,List.getElem_cons_succ,List.setIfInBounds_toArray,List.set_cons_zero,List.set_cons_succ]
 refine wpAny_done (by kernel_rfl) ?_ _;go_wp2
 exact bodyPost_ret (dJ isS Tryz.results30 _ _ (w.heap.size+1+1+1) _ rfl rF (aA _ _ _ _)) rfl ⟨by simp,bF⟩):p:=h
theorem SC(X:Nat->Int)(P F Q:Nat->Nat->Int)(w:World)(hm:oK X P)(bX:B64 X)(bP:B2 P)(bF:B2 F)(bQ:B2 Q):
 Calls Tryz.prog 30 #[.agg (aB X 6 6 (mz 6 6 P)).toArray, .agg (aj 6 6 (mz 6 6 F)).toArray, .agg (aj 6 6 (mz 6 6 Q)).toArray] w fun e w'=>e= .returned (.tuple #[.agg (aB (nX F X) 6 6 (mz 6 6 (nP F P Q))).toArray, .bool (oP F X P Q), .nilIface])/\Below w.heap.size w w':=by
 have HC:Hid (∀ W,Calls Tryz.prog 63 #[.agg (aB X 6 6 (mz 6 6 P)).toArray] W fun e w'=>e= .returned .nilIface/\Below W.heap.size W w'):=fun W=>jy X P true W ⟨fun _=>hm,fun _=>rfl⟩;have H1:=hide (fun W=>xW (mz 6 6 F) W);have H2:=hide (fun W=>xW (mz 6 6 Q) W);have H3:=hide (fun s a W (h:wS W s a)=>OC s X F a W h bF bX);have H4:=hide (fun s a W (h:wS W s a)=>Ik s P F Q a W h bP bF bQ)
 have eO:Hid (oP F X P Q=(oX F X||oS F P Q)):=by
  show(oX F X||oY F P||oZ F P||oW F P Q||oE F P Q)=(oX F X||(oY F P||oZ F P||oW F P Q||oE F P Q));cases oX F X<;>rfl
 obtain⟨zP,hzP⟩: ∃ z,z=mz 6 6 P:=⟨_,rfl⟩;obtain⟨zF,hzF⟩: ∃ z,z=mz 6 6 F:=⟨_,rfl⟩;obtain⟨zQ,hzQ⟩: ∃ z,z=mz 6 6 Q:=⟨_,rfl⟩;obtain⟨zN,hzN⟩: ∃ z,z=mz 6 6 (nP F P Q):=⟨_,rfl⟩;obtain⟨Y,hY⟩: ∃ Y,Y=nX F X:=⟨_,rfl⟩;obtain⟨x1,hx1⟩: ∃ q,q=oX F X:=⟨_,rfl⟩;obtain⟨x2,hx2⟩: ∃ q,q=oS F P Q:=⟨_,rfl⟩;rw [← hx1,← hx2] at eO;rw [eO.out];rw [← hzP] at HC;rw [← hzF] at H1;rw [← hzQ] at H2;rw [← hzF,← hY,← hx1] at H3;rw [← hzP,← hzF,← hzQ,← hzN,← hx2] at H4;rw [← hzP,← hzF,← hzQ,← hzN,← hY];clear hzP hzF hzQ hzN hY hx1 hx2 hm bX bP bF bQ eO;have t0:=(((aH w 55 (aB X 6 6 zP)).alloc (.cells (aj 6 6 zF).toArray 53)).alloc (.cells (aj 6 6 zQ).toArray 53)).alloc (.cells (aB (fun _=>0) 0 0 (fun _=>0)).toArray 55);have m0:=((dR w (.cells (aB X 6 6 zP).toArray 55) 6 6 zF).alloc (.cells (aj 6 6 zQ).toArray 53)).alloc (.cells (aB (fun _=>0) 0 0 (fun _=>0)).toArray 55);have q0:=(jE w (.cells (aB X 6 6 zP).toArray 55) (.cells (aj 6 6 zF).toArray 53) 6 6 zQ).alloc (.cells (aB (fun _=>0) 0 0 (fun _=>0)).toArray 55);have r0:=qN w (.cells (aB X 6 6 zP).toArray 55) (.cells (aj 6 6 zF).toArray 53) (.cells (aj 6 6 zQ).toArray 53) 55 (aB (fun _=>0) 0 0 (fun _=>0));have B0:Below w.heap.size w ((((w.alloc (.cells (aB X 6 6 zP).toArray 55)).alloc (.cells (aj 6 6 zF).toArray 53)).alloc (.cells (aj 6 6 zQ).toArray 53)).alloc (.cells (aB (fun _=>0) 0 0 (fun _=>0)).toArray 55)):=af (af (af (af (Below.refl _ _) _) _) _) _;obtain⟨W,hW⟩: ∃ W,W=(((w.alloc (.cells (aB X 6 6 zP).toArray 55)).alloc (.cells (aj 6 6 zF).toArray 53)).alloc (.cells (aj 6 6 zQ).toArray 53)).alloc (.cells (aB (fun _=>0) 0 0 (fun _=>0)).toArray 55):=⟨_,rfl⟩;rw [← hW] at t0 m0 q0 r0 B0;have HW:=hide hW;clear hW;go_enter Tryz.func30,Tryz.ntmps30
 go_wp2_with (first
  |(rw [zeroS,← HW.out];refine St.aI isS rl1 _ rl1 _ _ rl1 (by with_reducible exact t0) (aA _ _ _ _) ?_)
  |fail)
 refine(HC.out _).mono ?_;rintro e w1 ⟨rfl,k1⟩;have t1:=ai.keep t0 k1;have m1:=m0.keep k1;have q1:=q0.keep k1;have r1:=ai.keep r0 k1;have B1:=ae B0 k1;clear t0 m0 q0 r0 B0
 go_wp2_with (first
  |(refine Hk.fP _ (by with_reducible rfl) _ _ _ _ rl1 (by with_reducible exact m1) (by kernel_rfl) ?_)
  |fail)
 refine(H1.out _).mono ?_;rintro e w2 ⟨rfl,k2⟩;have t2:=ai.keep t1 k2;have m2:=m1.keep k2;have q2:=q1.keep k2;have r2:=ai.keep r1 k2;have B2:=ae B1 k2;clear t1 m1 q1 r1 B1
 go_wp2_with (first
  |(refine Hk.fP _ (by with_reducible rfl) _ _ _ _ rl1 (by with_reducible exact q2) (by kernel_rfl) ?_)
  |fail)
 refine(H2.out _).mono ?_;rintro e w3 ⟨rfl,k3⟩;have t3:=ai.keep t2 k3;have m3:=m2.keep k3;have q3:=q2.keep k3;have r3:=ai.keep r2 k3;have B3:=ae B2 k3;clear t2 m2 q2 r2 B2;have s4:=aH w3 155 [.bool false];have A4:=af (Below.refl _ w3) (.cells [.bool false].toArray 155);have t4:=ai.keep t3 A4;have m4:=m3.keep A4;have q4:=q3.keep A4;have r4:=ai.keep r3 A4;have B4:=ae B3 A4;have l3:=ai.lt r3;obtain⟨w4,hw4⟩: ∃ w4,w4=w3.alloc (.cells [.bool false].toArray 155):=⟨_,rfl⟩;rw [← hw4] at s4 t4 m4 q4 r4 B4;have H4w:=hide hw4;obtain⟨s,hs⟩: ∃ s,s=w3.heap.size:=⟨_,rfl⟩;rw [← hs] at s4 l3;have Hs:=hide hs;have ls:=ai.lt s4;clear hw4 hs t3 m3 q3 r3 B3 A4 H1 H2 HC HW;go_upto_region 4 with(first|(rw [← H4w.out,← Hs.out])|fail)
 try rw [← H4w.out,← Hs.out]
 have hS: ∀ W,But (· =s) w4 W->(fH W w.heap.size X 6 6 zP/\dU W (w.heap.size+1) 6 6 zF/\dU W (w.heap.size+1+1) 6 6 zQ):=fun W k=>⟨aT t4 k om1,dE m4 k om1,dE q4 k om1⟩;have hR: ∀ W,But (· =s) w4 W->fH W (w.heap.size+1+1+1) (fun _=>0) 0 0 (fun _=>0):=fun W k=>aT r4 k om1;have hB: ∀ W,But (· =s) w4 W->Below w.heap.size w W:=fun W k=>k.below B4 B4.size (fun q e=>by omega);have HS:=hide hS;have HR:=hide hR;have HB:=hide hB;have D0:But (· =s) w4 w4.drew:=(But.refl _ _).drew;have o0:wS w4.drew s false:=ai.drew s4;have z4:w.heap.size+1+1+1<w4.heap.size:=ai.lt r4;have HH4:=hide H4;clear hS hR hB H4 t4 m4 q4 r4 B4 H4w Hs;refine Ru.aS [11] (fun w'=>fH w' w.heap.size X 6 6 zP/\dU w' (w.heap.size+1) 6 6 zF/\dU w' (w.heap.size+1+1) 6 6 zQ) (by kernel_rfl) (HS.out _ D0) (fun hHeld=> ?_);refine Ru.tk3 0 (.pointer (some ⟨w.heap.size,0,none⟩)) hHeld ?_;refine Ru.tk 1 (.agg (vals 6 X).toArray) rfl (Pd.xY is6 (by kernel_rfl) _ rl1 w.heap.size 0 _ rl1 (fun w h=>fH.rx h.1) (aK _ _)) hHeld ?_;refine Ru.tk 2 (.agg (aj 6 6 zF).toArray) rfl (Ru.mJ (by kernel_rfl) _ rl1 (w.heap.size+1) 6 6 zF rl1 (fun w h=>h.2.1)) hHeld ?_;refine Ru.tk3 4 (.pointer (some ⟨w.heap.size,6,none⟩)) hHeld ?_;refine Ru.tk 5 (.agg (aj 6 6 zP).toArray) rfl (Pd.xY Ie (by kernel_rfl) _ rl1 w.heap.size 6 _ rl1 (fun w h=>fH.rm h.1) (dG _ _ _)) hHeld ?_;refine Ru.tk 6 (.agg (aj 6 6 zF).toArray) rfl (Ru.mJ (by kernel_rfl) _ rl1 (w.heap.size+1) 6 6 zF rl1 (fun w h=>h.2.1)) hHeld ?_;refine Ru.tk 7 (.agg (aj 6 6 zQ).toArray) rfl (Ru.mJ (by kernel_rfl) _ rl1 (w.heap.size+1+1) 6 6 zQ rl1 (fun w h=>h.2.2)) hHeld ?_;refine Ru.rs [3,10] ?_;refine Ru.co (fun K hK=> ?_) ?_
 ·go_simp;refine(H3.out s _ _ o0).mono ?_;rintro e v_1 ⟨rfl,o_1,k_1⟩;have D_1:=D0.trans k_1;go_wp2_with fail
  refine Ru.hd hK (HS.out _ D_1) (fun hHeld=> ?_);clear hK K;refine Ru.rs [8,10] ?_;refine Ru.co (fun K hK=> ?_) ?_
  ·go_simp;refine(HH4.out s _ _ o_1).mono ?_;rintro e v_2 ⟨rfl,o_2,k_2⟩;have D_2:=D_1.trans k_2;go_wp2_with fail
   refine Ru.hd hK (HS.out _ D_2) (fun hHeld=> ?_);clear hK K;refine Ru.tk 9 (.agg (aB Y 6 6 zN).toArray) rfl (Pd.uT (by kernel_rfl) _ _ rl1 Y 6 6 zN rl1 rl1) hHeld ?_;refine Ru.rd 10 (fun K hK=> ?_);go_simp;try rw [zeroS]
   have n_3:ai (v_2.alloc (.cells (aB (fun _=>0) 0 0 (fun _=>0)).toArray 55)) v_2.heap.size 55 (aB (fun _=>0) 0 0 (fun _=>0)):=aH v_2 55 (aB (fun _=>0) 0 0 (fun _=>0));have a_3:=af (Below.refl _ v_2) (.cells (aB (fun _=>0) 0 0 (fun _=>0)).toArray 55);have D_3:=D_2.then a_3;have o_3:=ai.keep o_2 a_3;have g_3:=D_2.size;refine Ru.hd hK (HS.out _ D_3) (fun hHeld=> ?_);clear hK K;refine Ru.rd2 11 (fun K hK=> ?_);refine Ru.kK isS (by kernel_rfl) _ _ rl1 (v_2.heap.size) _ (aB Y 6 6 zN) rl1 rl1 n_3 (aA _ _ _ _) (aA _ _ _ _) (cZ _ _ _ _) ?_;have nE:=ai.row n_3 (aB Y 6 6 zN);have oE:=ai.aY o_3 (g:=v_2.heap.size) om1 (aB Y 6 6 zN).toArray;have rE:=ai.aY (HR.out _ D_3) (g:=v_2.heap.size) om1 (aB Y 6 6 zN).toArray;have bE:=St.aJ (HB.out _ D_3) (g:=v_2.heap.size) om1 (aB Y 6 6 zN).toArray;have gz:s<v_2.heap.size:=om1;have gr:w.heap.size+1+1+1≠v_2.heap.size:=om1;obtain⟨g,hg⟩: ∃ g,g=v_2.heap.size:=⟨_,rfl⟩;exact Sz
  refine Ru.co1 (fun K hK=> ?_);go_simp;try rw [zeroS]
  have n_4:ai (v_1.alloc (.cells (aB (fun _=>0) 0 0 (fun _=>0)).toArray 55)) v_1.heap.size 55 (aB (fun _=>0) 0 0 (fun _=>0)):=aH v_1 55 (aB (fun _=>0) 0 0 (fun _=>0));have a_4:=af (Below.refl _ v_1) (.cells (aB (fun _=>0) 0 0 (fun _=>0)).toArray 55);have D_4:=D_1.then a_4;have o_4:=ai.keep o_1 a_4;have g_4:=D_1.size;refine Ru.hd hK (HS.out _ D_4) (fun hHeld=> ?_);clear hK K;refine Ru.rd 8 (fun K hK=> ?_);go_simp;refine(HH4.out s _ _ o_4).mono ?_;rintro e v_5 ⟨rfl,o_5,k_5⟩;have D_5:=D_4.trans k_5;have n_5:=aT n_4 k_5 om1;go_wp2_with fail
  refine Ru.hd hK (HS.out _ D_5) (fun hHeld=> ?_);clear hK K;refine Ru.tk 9 (.agg (aB Y 6 6 zN).toArray) rfl (Pd.uT (by kernel_rfl) _ _ rl1 Y 6 6 zN rl1 rl1) hHeld ?_;refine Ru.rd2 11 (fun K hK=> ?_);refine Ru.kK isS (by kernel_rfl) _ _ rl1 (v_1.heap.size) _ (aB Y 6 6 zN) rl1 rl1 n_5 (aA _ _ _ _) (aA _ _ _ _) (cZ _ _ _ _) ?_;have nE:=ai.row n_5 (aB Y 6 6 zN);have oE:=ai.aY o_5 (g:=v_1.heap.size) om1 (aB Y 6 6 zN).toArray;have rE:=ai.aY (HR.out _ D_5) (g:=v_1.heap.size) om1 (aB Y 6 6 zN).toArray;have bE:=St.aJ (HB.out _ D_5) (g:=v_1.heap.size) om1 (aB Y 6 6 zN).toArray;have gz:s<v_1.heap.size:=om1;have gr:w.heap.size+1+1+1≠v_1.heap.size:=om1;obtain⟨g,hg⟩: ∃ g,g=v_1.heap.size:=⟨_,rfl⟩;exact Sz
 refine Ru.co1 (fun K hK=> ?_);go_simp;try rw [zeroS]
 have n_6:ai (w4.drew.alloc (.cells (aB (fun _=>0) 0 0 (fun _=>0)).toArray 55)) w4.heap.size 55 (aB (fun _=>0) 0 0 (fun _=>0)):=aH w4.drew 55 (aB (fun _=>0) 0 0 (fun _=>0));have a_6:=af (Below.refl _ w4.drew) (.cells (aB (fun _=>0) 0 0 (fun _=>0)).toArray 55);have D_6:=D0.then a_6;have o_6:=ai.keep o0 a_6;have g_6:=D0.size;have e_6:w4.drew.heap.size=w4.heap.size:=rfl;refine Ru.hd hK (HS.out _ D_6) (fun hHeld=> ?_);clear hK K;refine Ru.rd 3 (fun K hK=> ?_);go_simp;refine(H3.out s _ _ o_6).mono ?_;rintro e v_7 ⟨rfl,o_7,k_7⟩;have D_7:=D_6.trans k_7;have n_7:=aT n_6 k_7 om1;go_wp2_with fail
 refine Ru.hd hK (HS.out _ D_7) (fun hHeld=> ?_);clear hK K;refine Ru.rd 8 (fun K hK=> ?_);go_simp;refine(HH4.out s _ _ o_7).mono ?_;rintro e v_8 ⟨rfl,o_8,k_8⟩;have D_8:=D_7.trans k_8;have n_8:=aT n_7 k_8 om1;go_wp2_with fail
 refine Ru.hd hK (HS.out _ D_8) (fun hHeld=> ?_);clear hK K;refine Ru.tk 9 (.agg (aB Y 6 6 zN).toArray) rfl (Pd.uT (by kernel_rfl) _ _ rl1 Y 6 6 zN rl1 rl1) hHeld ?_;refine Ru.rd2 11 (fun K hK=> ?_);refine Ru.kK isS (by kernel_rfl) _ _ rl1 (w4.heap.size) _ (aB Y 6 6 zN) rl1 rl1 n_8 (aA _ _ _ _) (aA _ _ _ _) (cZ _ _ _ _) ?_;have nE:=ai.row n_8 (aB Y 6 6 zN);have oE:=ai.aY o_8 (g:=w4.heap.size) om1 (aB Y 6 6 zN).toArray;have rE:=ai.aY (HR.out _ D_8) (g:=w4.heap.size) om1 (aB Y 6 6 zN).toArray;have bE:=St.aJ (HB.out _ D_8) (g:=w4.heap.size) om1 (aB Y 6 6 zN).toArray;have gz:s<w4.heap.size:=om1;have gr:w.heap.size+1+1+1≠w4.heap.size:=om1;obtain⟨g,hg⟩: ∃ g,g=w4.heap.size:=⟨_,rfl⟩;exact Sz
end
section
open Go.RowKit Vc St Mt Cm Ld Pd Pr Qn Dt
attribute [local go_sem ↓] Go.wp_at_zero Go.wp_at_succ
namespace Pd
def six(a b c d e f:Int):Nat->Int
 |0=>a
 |1=>b
 |2=>c
 |3=>d
 |4=>e
 |_=>f
theorem MH(a b c d e f:Int): #[.int .i64 a, .int .i64 b, .int .i64 c, .int .i64 d]=(vals 4 (six a b c d e f)).toArray:=rfl
theorem iF{w:World}{g:Nat}{t:TypeId}{n:Nat}{z:Nat->Int}(h:ai w g t (vals n z))(hn:n<=9223372036854775807):Sl w (some ⟨g,0,none⟩) n n z:=
 ⟨Nat.le_refl _,hn,fun k hk=>⟨_,rfl,by rw [Addr.add_lit];exact h.cell (dI hk) om1⟩⟩
def bP(D:Nat->Int):Nat->Nat->Int:=wd (fun _ _=>0) D
theorem Z5(k:Nat):mz 6 6 (fun _ _=>0) k=0:=by unfold mz mP;split<;>rfl
theorem wdk_bP(D:Nat->Int):aj 6 6 (wdk (fun _=>0) D 6)=aj 6 6 (mz 6 6 (bP D)):=by
 refine jJ fun k hk=> ?_;have e:=RJ (fun _ _=>0) D k hk;unfold bP;rw [← e];unfold wdk;rw [Z5]
theorem SH{X D:Nat->Int}(h: ∀ k,k<6->InV (X k))(h': ∀ k,k<6->1<=D k/\D k<=4611686018427387903):oK X (bP D):=fun i hi=>by
 refine⟨h i hi, ?_,fun j hj=>⟨?_, ?_⟩⟩
 · unfold bP wd;rw [if_pos rfl];have:=h' i hi;omega
 · unfold bP wd
   split
   · have:=h' i hi;exact⟨om1,om1⟩
   · exact(show InV 0 from⟨om1,om1⟩)
 · unfold bP wd
   by_cases e:i=j
   · subst e;rfl
   · rw [if_neg e,if_neg (fun q=>e q.symm)]
theorem bP_b2{D:Nat->Int}(h:B64 D):B2 (bP D):=fun i j=>by
 show _<=(if i=j then D i else 0)/\(if i=j then D i else 0)<=_
 split
 · exact h i
 · omega
end Pd
theorem pdgFa1{p:Prop}(h:p:=by
 go_wp2_with (first
  |(refine Pd.FP (by with_reducible rfl) (by kernel_rfl) ?_)
  |(refine St.aU isS rfl _ _ rl1 _ _ _ rl1 rl1 (by with_reducible exact r2) (aA _ _ _ _) (aA _ _ _ _) (cZ _ _ _ _) ?_)
  |fail)
 exact bodyPost_ret (iD isS Tryz.results33 _ _ w.heap.size _ rfl (ai.row r2 _) (aA _ _ _ _)) rfl ⟨rfl,St.aJ B2 (Nat.le_refl _) _⟩):p:=h
theorem abh(x y vx vy n f p:Int)(w:World)(h: ¬ ∀ k,k<4->InV (six x y vx vy 0 0 k)):
 Calls Tryz.prog 33 #[.int .i64 x, .int .i64 y, .int .i64 vx, .int .i64 vy, .int .i64 n, .int .i64 f, .int .i64 p] w fun e w'=>e= .returned (.tuple #[.agg (aB (fun _=>0) 0 0 (fun _=>0)).toArray, .iface 93 (.int .i64 1)])/\Below w.heap.size w w':=by
 have HB:=hide (fun ao W (q:Sl W ao 4 4 (six x y vx vy 0 0))=>lU false ao 4 4 _ W q ⟨fun c=>(by cases c),fun c=>absurd c h⟩);clear h;have r0:=(aH w 55 (aB (fun _=>0) 0 0 (fun _=>0)));have B0:=af (Below.refl _ w) (.cells (aB (fun _=>0) 0 0 (fun _=>0)).toArray 55);obtain⟨W,hW⟩: ∃ W,W=w.alloc (.cells (aB (fun _=>0) 0 0 (fun _=>0)).toArray 55):=⟨_,rfl⟩;rw [← hW] at r0 B0;have HW:=hide hW;clear hW;go_enter Tryz.func33,Tryz.ntmps33
 go_wp2_with (first
  |(rw [zeroS,← HW.out])
  |(rw [Pd.zero6];refine St.aF JI rfl _ _ rl1 _ _ (vals 6 (six n f p n f p)) rl1 rl1 (aK _ _) (aK _ _) (fK _ _) ?_;intro w1 d1 k1;have r1:=ai.keep r0 k1;have B1:=ae B0 k1)
  |fail)
 rw [MH x y vx vy 0 0];have q2:=aH w1 2 (vals 4 (six x y vx vy 0 0));have k2:=af (Below.refl _ w1) (.cells (vals 4 (six x y vx vy 0 0)).toArray 2);have s2:Sl (w1.alloc (.cells (vals 4 (six x y vx vy 0 0)).toArray 2)) (some ⟨w1.heap.size,0,none⟩) 4 4 (six x y vx vy 0 0):=iF q2 om1;have d2:=ai.keep d1 k2;have r2:=ai.keep r1 k2;have B2:=ae B1 k2;generalize w1.alloc (.cells (vals 4 (six x y vx vy 0 0)).toArray 2)=w2 at*;refine(HB.out _ _ s2).mono ?_;rintro e w3 ⟨rfl,rfl⟩;exact pdgFa1
theorem OD(x y vx vy n f p:Int)(w:World)(h: ∀ k,k<4->InV (six x y vx vy 0 0 k))(h2:allIn 1 4611686018427387903 (six n f p n f p) 6):
 Calls Tryz.prog 33 #[.int .i64 x, .int .i64 y, .int .i64 vx, .int .i64 vy, .int .i64 n, .int .i64 f, .int .i64 p] w fun e w'=>e= .returned (.tuple #[.agg (aB (six x vx 0 y vy 0) 6 6 (mz 6 6 (bP (six n f p n f p)))).toArray, .nilIface])/\Below w.heap.size w w':=by
 have HB:=hide (fun ao W (q:Sl W ao 4 4 (six x y vx vy 0 0))=>lU true ao 4 4 _ W q ⟨fun _=>h,fun _=>rfl⟩);have HU:=hide (fun ao W (q:Sl W ao 6 6 (six n f p n f p))=>uS true 1 4611686018427387903 ao 6 6 _ W q ⟨fun _=>h2,fun _=>rfl⟩);have HD:=hide (fun W=>RP (fun _=>0) (six n f p n f p) W);rw [wdk_bP] at HD;obtain⟨z,hz⟩: ∃ z,z=mz 6 6 (bP (six n f p n f p)):=⟨_,rfl⟩;rw [← hz] at HD ⊢;clear h h2 hz;have r0:=(aH w 55 (aB (fun _=>0) 0 0 (fun _=>0)));have B0:=af (Below.refl _ w) (.cells (aB (fun _=>0) 0 0 (fun _=>0)).toArray 55);obtain⟨W,hW⟩: ∃ W,W=w.alloc (.cells (aB (fun _=>0) 0 0 (fun _=>0)).toArray 55):=⟨_,rfl⟩;rw [← hW] at r0 B0;have HW:=hide hW;clear hW;go_enter Tryz.func33,Tryz.ntmps33
 go_wp2_with (first
  |(rw [zeroS,← HW.out])
  |(rw [Pd.zero6];refine St.aF JI rfl _ _ rl1 _ _ (vals 6 (six n f p n f p)) rl1 rl1 (aK _ _) (aK _ _) (fK _ _) ?_;intro w1 d1 k1;have r1:=ai.keep r0 k1;have B1:=ae B0 k1)
  |fail)
 rw [MH x y vx vy 0 0];have q2:=aH w1 2 (vals 4 (six x y vx vy 0 0));have k2:=af (Below.refl _ w1) (.cells (vals 4 (six x y vx vy 0 0)).toArray 2);have s2:Sl (w1.alloc (.cells (vals 4 (six x y vx vy 0 0)).toArray 2)) (some ⟨w1.heap.size,0,none⟩) 4 4 (six x y vx vy 0 0):=iF q2 om1;have d2:=ai.keep d1 k2;have r2:=ai.keep r1 k2;have B2:=ae B1 k2;generalize w1.alloc (.cells (vals 4 (six x y vx vy 0 0)).toArray 2)=w2 at*;refine(HB.out _ _ s2).mono ?_;rintro e w3 ⟨rfl,rfl⟩;have aQ:=fun V=>RI W.heap.size V;go_wp2_with fail
 refine(HU.out _ _ (jD.sl d2)).mono ?_;rintro e w4 ⟨rfl,rfl⟩;clear HB HU r1 B1 s2 q2 d1 aQ
 go_wp2_with (first
  |(refine jW rfl _ _ rl1 _ _ rl1 rl1 ?_)
  |(rw [dY];refine Mt.aF rfl _ _ rl1 _ _ _ _ rl1 rl1 ?_;intro w5 n5 k5;have r5:=ai.keep r2 k5;have B5:=ae B2 k5;have d5:=ai.keep d2 k5)
  |(refine Hk.fP _ (by with_reducible rfl) _ _ _ _ rl1 (by with_reducible exact n5) (by kernel_rfl) ?_)
  |(refine St.aI JI rl1 _ rl1 _ _ rl1 (by with_reducible exact d5) (aK _ _) ?_)
  |fail)
 refine(HD.out _).mono ?_;rintro e w6 ⟨rfl,k6⟩;have r6:=ai.keep r5 k6;have B6:=ae B5 k6
 go_wp2_with (first
  |(refine Pd.Z4 _ _ (by with_reducible rfl) (six x vx 0 y vy 0) 6 6 z rl1 rl1 (by kernel_rfl) ?_)
  |(refine St.aU isS rfl _ _ rl1 _ _ _ rl1 rl1 (by with_reducible exact r6) (aA _ _ _ _) (aA _ _ _ _) (cZ _ _ _ _) ?_)
  |fail)
 exact bodyPost_ret (iD isS Tryz.results33 _ _ w.heap.size _ rfl (ai.row r6 _) (aA _ _ _ _)) rfl ⟨rfl,St.aJ B6 (Nat.le_refl _) _⟩
end
section
open Go.RowKit Vc St Mt Cm Ld Pd Pr Qn Dt
attribute [local go_sem ↓] Go.wp_at_zero Go.wp_at_succ
namespace Pd
theorem Z7(r c:Int)(z:Nat->Int):Tryz.prog.built 55 [(1, .agg (aj r c z).toArray)]=some (aB (fun _=>0) r c z).toArray:=by kernel_rfl
theorem SI{ops:Array Oper}{rest:List Oper}{o:Oper}{a:Act}{w:World}{Q:Exit->Act->World->Prop}(y:Operand)(ho:o.op= .build 55 #[(1,y)])(r c:Int)(z:Nat->Int)(hy:a.eval y= .agg (aj r c z).toArray)(hw:Region.wanted o (yielded ops a.tmps)=true)
 (h:wpList Tryz.prog ops Q rest (a.put o.dst (.agg (aB (fun _=>0) r c z).toArray)) w):wpList Tryz.prog ops Q (o::rest) a w:=
 wpList_want hw fun _ hK=>by
  unfold Oper.wp execOp
  have em:((#[(1,y)]:Array (Nat×Operand)).map fun(i,x)=>(i,a.eval x)).toList= [(1, .agg (aj r c z).toArray)]:=by simp [hy]
  simp only [ho,Sem.run_bind,run_build w 55 _ _ (by rw [em];exact Z7 r c z),Result.andThen_ok]
  exact hK _ _ h
end Pd
theorem Il(xo po:Option Addr)(xc n pc:Nat)(X:Nat->Int)(r c:Int)(z:Nat->Int)(w:World)(hX:Sl w xo 6 xc X)
 (hP: ∀ W,Below w.heap.size w W->Calls Tryz.prog 66 #[.slice po n pc] W fun e w'=>e= .returned (.agg (aj r c z).toArray)/\Below W.heap.size W w'):
 Calls Tryz.prog 24 #[.agg #[.slice xo 6 xc, .slice po n pc]] w fun e w'=>e= .returned (.agg (aB X r c z).toArray)/\Below w.heap.size w w':=by
 have m0:=(aH w 60 [.slice xo 6 xc, .slice po n pc]).alloc (.cells (aB (fun _=>0) 0 0 (fun _=>0)).toArray 55);have r0:=bU w (.cells [.slice xo 6 xc, .slice po n pc].toArray 60) 55 (aB (fun _=>0) 0 0 (fun _=>0));have B0:Below w.heap.size w ((w.alloc (.cells [.slice xo 6 xc, .slice po n pc].toArray 60)).alloc (.cells (aB (fun _=>0) 0 0 (fun _=>0)).toArray 55)):=af (af (Below.refl _ _) _) _;obtain⟨W,hW⟩: ∃ W,W=(w.alloc (.cells [.slice xo 6 xc, .slice po n pc].toArray 60)).alloc (.cells (aB (fun _=>0) 0 0 (fun _=>0)).toArray 55):=⟨_,rfl⟩;rw [← hW] at m0 r0 B0;have HW:=hide hW;have HP:=hide (hP W B0);have c1:W.cell? ⟨w.heap.size,1,none⟩=some (.slice po n pc):=ai.cell m0 (k:=1) rfl rfl;clear hW hP;go_enter Tryz.func24,Tryz.ntmps24
 go_wp2_with (first|(rw [zeroS];erw [← HW.out])|fail)
 refine HP.out.mono ?_;rintro e w1 ⟨rfl,k1⟩;have m1:=ai.keep m0 k1;have r1:=ai.keep r0 k1;have B1:=ae B0 k1;have l1:=ai.lt r1;clear HW HP m0 r0 B0 k1 c1
 go_wp2_with (first
  |(refine Pd.SI _ (by with_reducible rfl) r c z rl1 (by kernel_rfl) ?_)
  |(rw [zeroS];refine St.aF isS rfl _ _ rl1 _ _ _ rl1 rl1 (aA _ _ _ _) (aA _ _ _ _) (cZ _ _ _ _) ?_;intro w2 n2 k2;have m2:=ai.keep m1 k2;have r2:=ai.keep r1 k2;have B2:=ae B1 k2;have c0:w2.cell? ⟨w.heap.size,0,none⟩=some (.slice xo 6 xc):=ai.cell m2 (k:=0) rfl rfl;clear m1 r1 B1 k2)
  |fail)
 obtain⟨g,hg⟩: ∃ g,g=w1.heap.size:=⟨_,rfl⟩;rw [← hg] at n2 l1 ⊢;have HX:=hide hX;clear hg c0 hX;go_loopw [4] (fun i wr=> ∃ k:Nat,k<=6/\i= .int .i64 (k:Int)/\ai wr w.heap.size 60 [.slice xo 6 xc, .slice po n pc]/\fH wr (w.heap.size+1) (fun _=>0) 0 0 (fun _=>0)/\fH wr g (pt X (fun _=>0) k) r c z/\Below w.heap.size w wr) (fun i _=>6- (intOf i).toNat)
 case atStart=>exact⟨0,om1,rfl,m2,r2,fH.congr n2 (fun i _=>uQ X (fun _=>0) i) (fun _ _=>rfl),B2⟩
 case round=>
  obtain⟨k,hk,rfl,m3,r3,n3,B3⟩:=hrel;have x3:=HX.out.keep B3;obtain⟨xa,hxa,hxc⟩:=x3.get;obtain rfl:=hxa om1;have l5:=x3.le;have l6:=x3.cap;by_cases h:k<6
  ·have c0:World.cell? _ ⟨w.heap.size,0,none⟩=some (.slice (some xa) 6 xc):=ai.cell m3 (k:=0) rfl rfl;have c2:=hxc k h;have c3:=fH.x n3 (k:=k) h rfl;have f3:=ai.free n3 k;obtain⟨v,hv⟩: ∃ v,v=X k:=⟨_,rfl⟩;rw [← hv] at c2;have HV:=hide hv;clear hv hxc hxa x3;go_wp2;go_roundw
   case rel=>exact⟨k+1,om1,by go_num,ai.other m3 _ (by show w.heap.size≠g;omega),ai.other r3 _ (by show w.heap.size+1≠g;omega),fH.congr (fH.IW n3 h rfl _) (fun i _=>by rw [HV.out];exact jQ X (fun _=>0) k i) (fun _ _=>rfl),B3.trans (St.dB B3.size (by show w.heap.size<=g;omega) _)⟩
   case measure=>simp [intOf];omega
  ·obtain rfl:k=6:=om1;have n4:=fH.congr n3 (fun i hi=>BJ X (fun _=>0) hi) (fun _ _=>rfl);clear n3 hxc hxa x3 h
   go_wp2_with (first
    |(refine St.aI isS rl1 _ rl1 _ _ rl1 (by with_reducible exact n4) (aA _ _ _ _) ?_)
    |(refine St.aU isS rfl _ _ rl1 _ _ _ rl1 rl1 (by with_reducible exact r3) (aA _ _ _ _) (aA _ _ _ _) (cZ _ _ _ _) ?_)
    |fail)
   exact bodyPost_ret (iV isS Tryz.results24 _ _ (w.heap.size+1) _ rfl (ai.row r3 _) (aA _ _ _ _)) rfl ⟨rfl,St.aJ B3 om1 _⟩
theorem Io(yo ro:Option Addr)(yc rc:Nat)(X:Nat->Int)(P:Nat->Nat->Int)(w:World)(hX:Sl w yo 6 yc X)(hP:Grid w ro 6 rc 6 P):
 Calls Tryz.prog 19 #[.agg (aB X 6 6 (mz 6 6 P)).toArray, .agg #[.slice yo 6 yc, .slice ro 6 rc]] w fun e w'=>e= .returned (.bool true)/\Below w.heap.size w w':=by
 have t0:=(aH w 55 (aB X 6 6 (mz 6 6 P))).alloc (.cells [.slice yo 6 yc, .slice ro 6 rc].toArray 60);have m0:=bU w (.cells (aB X 6 6 (mz 6 6 P)).toArray 55) 60 [.slice yo 6 yc, .slice ro 6 rc];have B0:Below w.heap.size w ((w.alloc (.cells (aB X 6 6 (mz 6 6 P)).toArray 55)).alloc (.cells [.slice yo 6 yc, .slice ro 6 rc].toArray 60)):=af (af (Below.refl _ _) _) _;obtain⟨W,hW⟩: ∃ W,W=(w.alloc (.cells (aB X 6 6 (mz 6 6 P)).toArray 55)).alloc (.cells [.slice yo 6 yc, .slice ro 6 rc].toArray 60):=⟨_,rfl⟩;rw [← hW] at t0 m0 B0;have HR:=hide (fun W=>NT 6 6 P W om1 om1 om1 om1);have HX:=hide (hX.keep B0);have HP:=hide (hP.keep B0);obtain⟨z,hz⟩: ∃ z,z=mz 6 6 P:=⟨_,rfl⟩;rw [← hz] at t0 hW HR ⊢;have HW:=hide hW;have hS: ∀ V,Below W.heap.size W V->(fH V w.heap.size X 6 6 z/\V.cell? ⟨w.heap.size+1,0,none⟩=some (.slice yo 6 yc)/\V.cell? ⟨w.heap.size+1,1,none⟩=some (.slice ro 6 rc)):=fun V k=>⟨ai.keep t0 k,ai.cell (ai.keep m0 k) (k:=0) rfl rfl,ai.cell (ai.keep m0 k) (k:=1) rfl rfl⟩;have HS:=hide hS;have al:=fun V=>all6 w.heap.size V;clear hS hW hz hX hP t0 m0;go_enter Tryz.func19,Tryz.ntmps19
 go_upto_region 1 with(first|(rw [← HW.out])|fail)
 try erw [← HW.out]
 refine Ru.aS [13] (fun w'=>fH w' w.heap.size X 6 6 z/\w'.cell? ⟨w.heap.size+1,0,none⟩=some (.slice yo 6 yc)/\w'.cell? ⟨w.heap.size+1,1,none⟩=some (.slice ro 6 rc)) (by kernel_rfl) (HS.out _ (Vc.az _)) (fun hHeld=> ?_);refine Ru.tk3 0 (.pointer (some ⟨w.heap.size,0,none⟩)) hHeld ?_;refine Ru.tk3 1 (.slice (some ⟨w.heap.size,0,none⟩) 6 6) hHeld ?_;refine Ru.tk3 2 (.pointer (some ⟨w.heap.size+1,0,none⟩)) hHeld ?_;refine Ru.tk3 3 (.slice yo 6 yc) hHeld ?_;refine Ru.rd 4 (fun K hK=> ?_);go_simp;refine(EW _ _ 6 _ _ X _ (fH.sl (HS.out _ (Vc.az _)).1) (HX.out.keep (Vc.az _))).mono ?_;rintro _ v1 ⟨rfl,k1⟩;have Kv1:=ae (Vc.az _) k1;go_wp2_with fail
 refine Ru.hd hK (HS.out _ Kv1) (fun hHeld=> ?_);clear hK K;refine Ru.tk3 5 (.bool true) hHeld ?_;refine Ru.tk3 6 (.pointer (some ⟨w.heap.size,6,none⟩)) hHeld ?_;refine Ru.tk 7 (.agg (aj 6 6 z).toArray) rfl (Pd.xY Ie (by kernel_rfl) _ rl1 w.heap.size 6 _ rl1 (fun w h=>fH.rm h.1) (dG _ _ _)) hHeld ?_;refine Ru.tk3 9 (.pointer (some ⟨w.heap.size+1,1,none⟩)) hHeld ?_;refine Ru.tk3 10 (.slice ro 6 rc) hHeld ?_;refine Ru.rd 8 (fun K hK=> ?_);go_simp;refine(HR.out _).mono ?_;rintro _ v2 ⟨lo,cm,rfl,gA,k2⟩;have Kv2:=ae Kv1 k2;go_wp2_with fail
 refine Ru.hd hK (HS.out _ Kv2) (fun hHeld=> ?_);clear hK K;refine Ru.rd 11 (fun K hK=> ?_);go_simp;refine(GR 6 6 _ _ _ _ P _ om1 gA (HP.out.keep Kv2)).mono ?_;rintro _ v3 ⟨rfl,k3⟩;have Kv3:=ae Kv2 k3;go_wp2_with fail
 refine Ru.hd hK (HS.out _ Kv3) (fun hHeld=> ?_);clear hK K;refine Ru.tk3 12 (.bool true) hHeld ?_;refine Ru.rd2 13 (fun K hK=> ?_);go_simp;refine hK.out _ _ ?_;clear hK K;try simp only [Act.put,List.getElem_toArray,List.getElem_cons_zero,List.getElem_cons_succ,List.setIfInBounds_toArray,List.set_cons_zero,List.set_cons_succ]
 refine wpAny_done (by kernel_rfl) ?_ _;go_wp2;go_ret;exact⟨rfl,ae B0 Kv3⟩
namespace Pd
end Pd
end
section
open Go.RowKit Vc St Qn Dt Tg Ld Mt Mo
attribute [local go_sem ↓] Go.wp_at_zero Go.wp_at_succ
theorem XQ{p:Prop}(h:p:=by
 go_wp2_with (first
  |(refine jw rfl rl1 ?_)
  |(refine aN rfl _ _ rl1 _ _ _ _ _ _ _ rl1 rl1 (by with_reducible exact r2) ?_))
 exact bodyPost_ret (iW Tryz.results28 _ _ (w.heap.size+1) _ _ _ rfl (r2.row _ _ _)) rfl ⟨rfl,Mt.aJ B2 om1 _⟩):p:=h
theorem FQ(K R N d:Int)(w:World)(h: ¬CV K R N\/ ¬qU d):
 Calls Tryz.prog 28 #[.agg #[.int .i64 K, .int .i64 R, .int .i64 N], .int .i64 d] w fun e w'=>e= .returned (.tuple #[.agg (aj 0 0 (fun _=>0)).toArray, .bool false, .iface 93 (.int .i64 1)])/\Below w.heap.size w w':=by
 have m0:=(aH w 85 [.int .i64 K, .int .i64 R, .int .i64 N]).alloc (.cells (aj 0 0 (fun _=>0)).toArray 53);have r0:=dR w (.cells [.int .i64 K, .int .i64 R, .int .i64 N].toArray 85) 0 0 (fun _=>0);have B0:Below w.heap.size w ((w.alloc (.cells [.int .i64 K, .int .i64 R, .int .i64 N].toArray 85)).alloc (.cells (aj 0 0 (fun _=>0)).toArray 53)):=af (af (Below.refl _ _) _) _;obtain⟨W,hW⟩: ∃ W,W=(w.alloc (.cells [.int .i64 K, .int .i64 R, .int .i64 N].toArray 85)).alloc (.cells (aj 0 0 (fun _=>0)).toArray 53):=⟨_,rfl⟩;rw [← hW] at m0 r0 B0;have HW:=hide hW;clear hW;by_cases hM:CV K R N
 · have hT: ¬qU d:=by rcases h with h|h;(exact absurd hM h);exact h
   clear h;go_enter Tryz.func28,Tryz.ntmps28
   go_wp2_with (first
    |(rw [dY];erw [← HW.out];refine St.aI Hu rl1 _ rl1 _ _ rl1 (by with_reducible exact m0) rfl ?_))
   refine(tV K R N W hM).mono ?_;rintro e w1 ⟨rfl,k1⟩;have r1:=r0.keep k1;have B1:=ae B0 k1;go_wp2_with fail
   refine(ZF d _ hT).mono ?_;rintro e w2 ⟨rfl,k2⟩;have r2:=r1.keep k2;have B2:=ae B1 k2;exact XQ
 · clear h;go_enter Tryz.func28,Tryz.ntmps28
   go_wp2_with (first
    |(rw [dY];erw [← HW.out];refine St.aI Hu rl1 _ rl1 _ _ rl1 (by with_reducible exact m0) rfl ?_))
   refine(Ia K R N W hM).mono ?_;rintro e w1 ⟨rfl,k1⟩;have r2:=r0.keep k1;have B2:=ae B0 k1;exact XQ
theorem Dp(K R N d:Int)(w:World)(hA:iM w)(hM:CV K R N)(hT:qU d):
 Calls Tryz.prog 28 #[.agg #[.int .i64 K, .int .i64 R, .int .i64 N], .int .i64 d] w fun e w'=>e= .returned (.tuple #[.agg (aj 6 6 (mz 6 6 (pU K R d))).toArray, .bool false, .nilIface])/\Below w.heap.size w w':=by
 have m0:=(aH w 85 [.int .i64 K, .int .i64 R, .int .i64 N]).alloc (.cells (aj 0 0 (fun _=>0)).toArray 53);have r0:=dR w (.cells [.int .i64 K, .int .i64 R, .int .i64 N].toArray 85) 0 0 (fun _=>0);have B0:Below w.heap.size w ((w.alloc (.cells [.int .i64 K, .int .i64 R, .int .i64 N].toArray 85)).alloc (.cells (aj 0 0 (fun _=>0)).toArray 53)):=af (af (Below.refl _ _) _) _;obtain⟨W,hW⟩: ∃ W,W=(w.alloc (.cells [.int .i64 K, .int .i64 R, .int .i64 N].toArray 85)).alloc (.cells (aj 0 0 (fun _=>0)).toArray 53):=⟨_,rfl⟩;rw [← hW] at m0 r0 B0;have HW:=hide hW;clear hW;go_enter Tryz.func28,Tryz.ntmps28
 go_wp2_with (first
  |(rw [dY];erw [← HW.out];refine St.aI Hu rl1 _ rl1 _ _ rl1 (by with_reducible exact m0) rfl ?_))
 refine(tV K R N W hM).mono ?_;rintro e w1 ⟨rfl,k1⟩;have m1:=ai.keep m0 k1;have r1:=r0.keep k1;have B1:=ae B0 k1;go_wp2_with fail
 refine(Mc d _ hT).mono ?_;rintro e w2 ⟨rfl,k2⟩;have m2:=ai.keep m1 k2;have r2:=r1.keep k2;have B2:=ae B1 k2;have s3:CU _ w2.heap.size:=aH w2 144 [.bool false];have K3:=af (Below.refl _ w2) (.cells [.bool false].toArray 144);have m3:=ai.keep m2 K3;have r3:=r2.keep K3;have B3:=ae B2 K3;obtain⟨W3,hW3⟩: ∃ W,W=w2.alloc (.cells [.bool false].toArray 144):=⟨_,rfl⟩;rw [← hW3] at s3 K3 m3 r3 B3;have HW3:=hide hW3;clear hW3 m0 r0 B0 m1 r1 B1 m2 r2 B2 k1 k2 K3
 go_wp2_with (first
  |(erw [← HW3.out];refine St.aI Hu rl1 _ rl1 _ _ rl1 (by with_reducible exact m3) rfl ?_))
 refine(Si w2.heap.size K R d N W3 (hA.below B3) s3 hM hT).mono ?_;rintro e w4 ⟨lo,cm,rfl,hG,k4⟩;have s4:=s3.keep k4;have r4:=r3.keep k4;have B4:=ae B3 k4;go_wp2_with fail
 refine(Eh w2.heap.size lo cm _ _ s4 hG).mono ?_;rintro e w5 ⟨rfl,k5⟩;have r5:=r4.keep k5;have B5:=ae B4 k5
 go_wp2_with (first
  |(refine aN rfl _ _ rl1 _ _ _ _ _ _ _ rl1 rl1 (by with_reducible exact r5) ?_))
 exact bodyPost_ret (iW Tryz.results28 _ _ (w.heap.size+1) _ _ _ rfl (r5.row _ _ _)) rfl ⟨rfl,Mt.aJ B5 om1 _⟩
theorem BV(K R N d:Int)(w:World)(hM:CV K R N)(hT:qU d):
 Calls Tryz.prog 29 #[.agg #[.int .i64 K, .int .i64 R, .int .i64 N], .int .i64 d] w fun e w'=>e= .returned (.tuple #[.agg (aj 6 6 (mz 6 6 (tw (nz K d N)))).toArray, .bool false, .nilIface])/\Below w.heap.size w w':=by
 have m0:=(aH w 85 [.int .i64 K, .int .i64 R, .int .i64 N]).alloc (.cells (aj 0 0 (fun _=>0)).toArray 53);have r0:=dR w (.cells [.int .i64 K, .int .i64 R, .int .i64 N].toArray 85) 0 0 (fun _=>0);have B0:Below w.heap.size w ((w.alloc (.cells [.int .i64 K, .int .i64 R, .int .i64 N].toArray 85)).alloc (.cells (aj 0 0 (fun _=>0)).toArray 53)):=af (af (Below.refl _ _) _) _;obtain⟨W,hW⟩: ∃ W,W=(w.alloc (.cells [.int .i64 K, .int .i64 R, .int .i64 N].toArray 85)).alloc (.cells (aj 0 0 (fun _=>0)).toArray 53):=⟨_,rfl⟩;rw [← hW] at m0 r0 B0;have HW:=hide hW;clear hW;go_enter Tryz.func29,Tryz.ntmps29
 go_wp2_with (first
  |(rw [dY];erw [← HW.out];refine St.aI Hu rl1 _ rl1 _ _ rl1 (by with_reducible exact m0) rfl ?_))
 refine(tV K R N W hM).mono ?_;rintro e w1 ⟨rfl,k1⟩;have m1:=ai.keep m0 k1;have r1:=r0.keep k1;have B1:=ae B0 k1;go_wp2_with fail
 refine(Mc d _ hT).mono ?_;rintro e w2 ⟨rfl,k2⟩;have m2:=ai.keep m1 k2;have r2:=r1.keep k2;have B2:=ae B1 k2;have s3:CU _ w2.heap.size:=aH w2 144 [.bool false];have K3:=af (Below.refl _ w2) (.cells [.bool false].toArray 144);have m3:=ai.keep m2 K3;have r3:=r2.keep K3;have B3:=ae B2 K3;obtain⟨W3,hW3⟩: ∃ W,W=w2.alloc (.cells [.bool false].toArray 144):=⟨_,rfl⟩;rw [← hW3] at s3 K3 m3 r3 B3;have HW3:=hide hW3;clear hW3 m0 r0 B0 m1 r1 B1 m2 r2 B2 k1 k2 K3
 go_wp2_with (first
  |(erw [← HW3.out];refine St.aI Hu rl1 _ rl1 _ _ rl1 (by with_reducible exact m3) rfl ?_))
 refine(Oz w2.heap.size K R d N W3 s3 hT hM.1).mono ?_;rintro e w4 ⟨rfl,k4⟩;have s4:=s3.keep k4;have r4:=r3.keep k4;have B4:=ae B3 k4;go_wp2_with fail
 refine(BI (nz K d N) _).mono ?_;rintro e w4' ⟨lo,cm,rfl,hG,k4'⟩;have s4':=s4.keep k4';have r4':=r4.keep k4';have B4':=ae B4 k4';go_wp2_with fail
 refine(Eh w2.heap.size lo cm _ _ s4' hG).mono ?_;rintro e w5 ⟨rfl,k5⟩;have r5:=r4'.keep k5;have B5:=ae B4' k5
 go_wp2_with (first
  |(refine aN rfl _ _ rl1 _ _ _ _ _ _ _ rl1 rl1 (by with_reducible exact r5) ?_))
 exact bodyPost_ret (iW Tryz.results29 _ _ (w.heap.size+1) _ _ _ rfl (r5.row _ _ _)) rfl ⟨rfl,Mt.aJ B5 om1 _⟩
end
section
namespace Mo
open Qn Tg Po Vc Mt Dt
theorem Z8{b:Nat->Nat->Int}(h: ∀ i j,-9000000000000000000<=b i j/\b i j<=9000000000000000000):B2 (tw b):=by
 intro i j;have:=h (i%3) (j%3);unfold tw;split<;>omega
theorem nz_b2(K:Int){d N:Int}(h:qU d)(n:lT N):B2 (tw (nz K d N)):=Z8 fun i j=>by have:=nz_in K h n i j;omega
theorem XR(K:Int){d:Int}(h:qU d)(i j:Nat): -9000000000000000000<=stF K d i j/\stF K d i j<=9000000000000000000:=by
 have h2:=(Zx h).2.2;obtain⟨h0,h1⟩:=h;unfold stF;split<;>(try split)<;>omega
theorem Z9{a b c d e f:Int}(ha: -9000000000000000000<=a/\a<=9000000000000000000)(hb: -9000000000000000000<=b/\b<=9000000000000000000)(hc: -9000000000000000000<=c/\c<=9000000000000000000)(hd: -9000000000000000000<=d/\d<=9000000000000000000)(he: -9000000000000000000<=e/\e<=9000000000000000000)(hf: -9000000000000000000<=f/\f<=9000000000000000000):B64 (Zz a b c d e f):=by
 intro k;unfold Zz;split<;>omega
theorem SK{s c p q:Int}(hs: -9000000000<=s/\s<=9000000000)(hc: -9000000000<=c/\c<=9000000000)(hp: -9000000000<=p/\p<=9000000000)(hq: -9000000000<=q/\q<=9000000000):B2 (Ot s c p q):=by
 intro i;unfold Ot;split<;>(apply Z9<;>omega)
theorem XT{R d:Int}(hR:UM R):B2 (Ot (sV R d) (cV R d) (pV R d) (qV R d))/\B2 (Ot (-(sV R d)) (cV R d) (pV R d) (-(qV R d))):=by
 have h1:=(VY R d).2.2;have h2:=(ZA R d).2.2;have h3:=(pV_in (d:=d) hR).2;have h4:=(ZC (d:=d) hR).2;exact⟨SK om1 om1 om1 om1,SK om1 om1 om1 om1⟩
theorem aab{K R N d:Int}(hM:CV K R N)(hT:qU d):B2 (pU K R d):=by
 obtain⟨_,⟨hK,hR⟩|⟨hK,hR⟩⟩:=hM
 · rcases hK with rfl|rfl
   · exact Z8 (XR 0 hT)
   · exact Z8 (XR 1 hT)
 · rcases hK with rfl|rfl
   · exact(XT hR).2
   · exact(XT hR).1
end Mo
end
section
open Go.RowKit Vc St Mt Pr Qn Ud
attribute [local go_sem ↓] Go.wp_at_zero Go.wp_at_succ
namespace Up
theorem Ph:Is 69 5:=⟨by kernel_rfl,⟨_,Tryz.underlying69,rfl⟩⟩
theorem is2:Is 159 2:=⟨by kernel_rfl,⟨_,Tryz.underlying159,rfl⟩⟩
abbrev jS(w:World)(s:Nat)(o:Bool):Prop:=ai w s 167 [.bool o]
theorem jS.o{w:World}{s:Nat}{o:Bool}(h:jS w s o):w.cell? ⟨s,0,none⟩=some (.bool o):=h.cell (k:=0) rfl rfl
theorem jS.set{w:World}{s:Nat}{o:Bool}(h:jS w s o)(v:Bool):jS (w.setCell ⟨s,0,none⟩ (.bool v)) s v:=ai.set h 0 (.bool v)
abbrev atF(g:Nat):Value:= .func (.func 244) #[] #[.pointer (some ⟨g,0,none⟩)]
theorem g2_mz(a b c:Int):mz 2 2 (fun i=>if i=0 then v2 a b else v2 b c)=mz 2 2 (g2 a b c):=by
 funext k;exact pJ (fun i j hi hj=>JG a b c i j hi hj) k
end Up
open Up
theorem yD(t:Bool)(ao:Option Addr)(n ca:Nat)(z:Nat->Int)(w:World)(h:Sl w ao n ca z)(ht:t=true↔ ∀ k,k<n->InV (z k)):
 Calls Tryz.prog 242 #[.slice ao n ca] w fun e w'=>e= .returned (.bool t)/\w'=w:=by
 have HN:Hid (∀ k,k<n-> ¬InV (z k)->t=false):=fun k hk q=>by
  cases t with
  |false=>rfl
  |true=>exact absurd (ht.1 rfl k hk) q
 have HY:Hid ((∀ k,k<n->InV (z k))->t=true):=fun q=>ht.2 q;obtain⟨x,hx,hc⟩:=h.get;have l1:=h.le;have l2:=h.cap;have HX:=Ud.hide hx;have HC:=Ud.hide hc;clear h hx hc ht;go_enter Tryz.func242,Tryz.ntmps242
 go_wp2;go_loopw [9] (fun i wr=> ∃ k:Nat,k<=n/\i= .int .i64 (k:Int)/\wr=w/\Hid (∀ q,q<k->InV (z q))) (fun i _=>n- (intOf i).toNat)
 case atStart=>exact⟨0,om1,rfl,rfl,fun q hq=>by omega⟩
 case round=>
  obtain⟨k,hk,rfl,rfl,hok⟩:=hrel;by_cases h:k<n
  · obtain rfl:=HX.out om1;have cc:=HC.out k h;obtain⟨v,hv⟩: ∃ v,v=z k:=⟨_,rfl⟩;rw [← hv] at cc;have HV:=Ud.hide hv;clear hv;have HG:Hid (great v=false↔InV v):=vz;have HK:=Ud.hide (wu v wr);obtain⟨c,hc⟩: ∃ c,c=clamp v:=⟨_,rfl⟩;obtain⟨g,hg⟩: ∃ g,g=great v:=⟨_,rfl⟩;rw [← hc,← hg] at HK;rw [← hg] at HG;clear hc hg;go_wp2_with fail
    refine HK.out.mono ?_;rintro e w1 ⟨rfl,rfl⟩;cases g with
    |true=>
     go_wp2;go_ret;exact⟨by rw [HN.out k h (fun q=>by rw [← HV.out] at q;cases HG.out.2 q)];rfl,rfl⟩
    |false=>
     go_wp2;go_roundw
     case rel=>exact⟨k+1,om1,by go_num,trivial,fun q hq=>by
      rcases Nat.lt_or_ge q k with c|c
      · exact hok.out q c
      · obtain rfl:q=k:=om1
        rw [← HV.out];exact HG.out.1 (by first|rfl|trivial)⟩
     case measure=>simp [intOf];omega
  · obtain rfl:k=n:=om1;go_wp2;go_ret;exact⟨by rw [HY.out hok.out];rfl,rfl⟩
namespace Up
def five(x y a b c:Int):Nat->Int
 |0=>x
 |1=>y
 |2=>a
 |3=>b
 |_=>c
theorem yY(x y a b c:Int): #[.int .i64 x, .int .i64 y, .int .i64 a, .int .i64 b, .int .i64 c]=(vals 5 (five x y a b c)).toArray:=rfl
theorem SN(x y a b c:Int):(∀ k,k<5->InV (five x y a b c k))↔InV x/\InV y/\InV a/\InV b/\InV c:=
 ⟨fun h=>⟨h 0 om1,h 1 om1,h 2 om1,h 3 om1,h 4 om1⟩,fun h k hk=>by
  match k,hk with
  |0,_=>exact h.1
  |1,_=>exact h.2.1
  |2,_=>exact h.2.2.1
  |3,_=>exact h.2.2.2.1
  |4,_=>exact h.2.2.2.2⟩
end Up
theorem xZ(x y a b c:Int)(w:World):
 Calls Tryz.prog 159 #[.agg (pv x y a b c).toArray] w fun e w'=>e= .returned (.bool (decide (lT x y a b c)))/\Below w.heap.size w w':=by
 have m0:=aH w 69 (pv x y a b c);have B0:=af (Below.refl _ w) (.cells (pv x y a b c).toArray 69);obtain⟨W,hW⟩: ∃ W,W=w.alloc (.cells (pv x y a b c).toArray 69):=⟨_,rfl⟩;rw [← hW] at m0 B0;have HW:=Ud.hide hW;have c0:W.cell? ⟨w.heap.size,0,none⟩=some (.int .i64 x):=ai.cell m0 (k:=0) rfl rfl;have c1:W.cell? ⟨w.heap.size,1,none⟩=some (.int .i64 y):=ai.cell m0 (k:=1) rfl rfl;have c2:W.cell? ⟨w.heap.size,2,none⟩=some (.int .i64 a):=ai.cell m0 (k:=2) rfl rfl;have c3:W.cell? ⟨w.heap.size,3,none⟩=some (.int .i64 b):=ai.cell m0 (k:=3) rfl rfl;have c4:W.cell? ⟨w.heap.size,4,none⟩=some (.int .i64 c):=ai.cell m0 (k:=4) rfl rfl;have q2:=aH W 2 (vals 5 (five x y a b c));have k2:=af (Below.refl _ W) (.cells (vals 5 (five x y a b c)).toArray 2);have s2:Sl (W.alloc (.cells (vals 5 (five x y a b c)).toArray 2)) (some ⟨W.heap.size,0,none⟩) 5 5 (five x y a b c):=iF q2 om1;have B2:=ae B0 k2;have m2:=ai.keep m0 k2;have e2:(W.alloc (.cells (vals 5 (five x y a b c)).toArray 2)).cell? ⟨w.heap.size,2,none⟩=some (.int .i64 a):=ai.cell m2 (k:=2) rfl rfl;have e3:(W.alloc (.cells (vals 5 (five x y a b c)).toArray 2)).cell? ⟨w.heap.size,3,none⟩=some (.int .i64 b):=ai.cell m2 (k:=3) rfl rfl;obtain⟨V,hV⟩: ∃ V,V=W.alloc (.cells (vals 5 (five x y a b c)).toArray 2):=⟨_,rfl⟩;rw [← hV] at s2 B2 e2 e3;have HV:=Ud.hide hV;obtain⟨g,hg⟩: ∃ g,g=W.heap.size:=⟨_,rfl⟩;rw [← hg] at s2;have HGz:=Ud.hide hg;by_cases hI:InV x/\InV y/\InV a/\InV b/\InV c
 ·have HB:=Ud.hide (yD true (some ⟨g,0,none⟩) 5 5 _ V s2 ⟨fun _=>(SN x y a b c).2 hI,fun _=>rfl⟩);by_cases ha:0<=a
  ·by_cases hb:0<=b
   ·rw [decide_eq_true (show lT x y a b c from⟨hI.1,hI.2.1,hI.2.2.1,hI.2.2.2.1,hI.2.2.2.2,ha,hb⟩)];clear hW hV hg m0 q2 k2 m2 hI;go_enter Tryz.func159,Tryz.ntmps159
    go_wp2_with (first|(rw [← HW.out])|fail)
    rw [yY x y a b c,← HV.out,← HGz.out];refine HB.out.mono ?_;rintro e w1 ⟨rfl,rfl⟩;go_wp2;go_ret;exact⟨rfl,B2⟩
   ·rw [decide_eq_false (show ¬lT x y a b c from fun q=>hb q.2.2.2.2.2.2)];have hb':decide (0<=b)=false:=decide_eq_false hb;clear hW hV hg m0 q2 k2 m2 hI;go_enter Tryz.func159,Tryz.ntmps159
    go_wp2_with (first|(rw [← HW.out])|fail)
    rw [yY x y a b c,← HV.out,← HGz.out];refine HB.out.mono ?_;rintro e w1 ⟨rfl,rfl⟩;go_wp2;go_ret;exact⟨rfl,B2⟩
  ·rw [decide_eq_false (show ¬lT x y a b c from fun q=>ha q.2.2.2.2.2.1)];have ha':decide (0<=a)=false:=decide_eq_false ha;clear hW hV hg m0 q2 k2 m2 hI;go_enter Tryz.func159,Tryz.ntmps159
   go_wp2_with (first|(rw [← HW.out])|fail)
   rw [yY x y a b c,← HV.out,← HGz.out];refine HB.out.mono ?_;rintro e w1 ⟨rfl,rfl⟩;go_wp2;go_ret;exact⟨rfl,B2⟩
 ·have HB:=Ud.hide (yD false (some ⟨g,0,none⟩) 5 5 _ V s2 ⟨fun q=>(by cases q),fun q=>absurd ((SN x y a b c).1 q) hI⟩);rw [decide_eq_false (show ¬lT x y a b c from fun q=>hI ⟨q.1,q.2.1,q.2.2.1,q.2.2.2.1,q.2.2.2.2.1⟩)];clear hW hV hg m0 q2 k2 m2 hI;go_enter Tryz.func159,Tryz.ntmps159
  go_wp2_with (first|(rw [← HW.out])|fail)
  rw [yY x y a b c,← HV.out,← HGz.out];refine HB.out.mono ?_;rintro e w1 ⟨rfl,rfl⟩;go_wp2;go_ret;exact⟨rfl,B2⟩
theorem pY(g n m i j:Nat)(F:Nat->Nat->Int)(w:World)(h:dU w g n m (mz n m F))(h1:1<=n)(h2:n<=6)(h3:1<=m)(h4:m<=6)(hi:i<n)(hj:j<m):
 Calls Tryz.prog 244 #[.int .i64 (i:Int), .int .i64 (j:Int), .pointer (some ⟨g,0,none⟩)] w fun e w'=>e= .returned (.int .i64 (F i j))/\Below w.heap.size w w':=by
 have HA:=Ud.hide (fun W=>Y2 n m i j F W h1 h2 h3 h4 hi hj);obtain⟨z,hz⟩: ∃ z,z=mz n m F:=⟨_,rfl⟩;rw [← hz] at h HA;clear hz;go_enter Tryz.func244,Tryz.ntmps244
 go_wp2_with (first
  |(refine Hk.fP _ (by with_reducible rfl) _ _ _ _ rl1 (by with_reducible exact h) (by kernel_rfl) ?_)
  |fail)
 refine(HA.out _).mono ?_;rintro e w1 ⟨rfl,k1⟩;go_wp2;go_ret;exact⟨rfl,k1⟩
theorem JL(r c:Int)(z:Nat->Int)(w:World):
 Calls Tryz.prog 163 #[.agg (aj r c z).toArray] w fun e w'=>e= .returned (atF w.heap.size)/\dU w' w.heap.size r c z/\Below w.heap.size w w':=by
 have r0:=bJ w r c z;have B0:=af (Below.refl _ w) (.cells (aj r c z).toArray 53);obtain⟨W,hW⟩: ∃ W,W=w.alloc (.cells (aj r c z).toArray 53):=⟨_,rfl⟩;rw [← hW] at r0 B0;have HW:=Ud.hide hW;clear hW;go_enter Tryz.func163,Tryz.ntmps163
 go_wp2_with (first|(rw [← HW.out])|fail)
 go_ret;exact⟨rfl,r0,B0⟩
theorem JM(n m:Nat)(F:Nat->Nat->Int)(w:World)(h1:1<=n)(h2:n<=6)(h3:1<=m)(h4:m<=6):
 Calls Tryz.prog 252 #[.agg (aj n m (mz n m F)).toArray] w fun e w'=>e= .returned (.agg (aj m n (mz m n (fun i j=>F j i))).toArray)/\Below w.heap.size w w':=by
 have HT:=Ud.hide (fun W=>qM n m F W h1 h2 h3 h4);obtain⟨z,hz⟩: ∃ z,z=mz n m F:=⟨_,rfl⟩;obtain⟨y,hy⟩: ∃ y,y=mz m n (fun i j=>F j i):=⟨_,rfl⟩;rw [← hz,← hy] at HT;rw [← hz,← hy];clear hz hy;have r0:=(bJ w n m z).alloc (.cells (aj 0 0 (fun _=>0)).toArray 53);have o0:=dR w (.cells (aj n m z).toArray 53) 0 0 (fun _=>0);have B0:Below w.heap.size w ((w.alloc (.cells (aj n m z).toArray 53)).alloc (.cells (aj 0 0 (fun _=>0)).toArray 53)):=af (af (Below.refl _ _) _) _;obtain⟨W,hW⟩: ∃ W,W=(w.alloc (.cells (aj n m z).toArray 53)).alloc (.cells (aj 0 0 (fun _=>0)).toArray 53):=⟨_,rfl⟩;rw [← hW] at r0 o0 B0;have HW:=Ud.hide hW;clear hW;go_enter Tryz.func252,Tryz.ntmps252
 go_wp2_with (first
  |(rw [dY,← HW.out];refine Hk.fP _ (by with_reducible rfl) _ _ _ _ rl1 (by with_reducible exact r0) (by kernel_rfl) ?_)
  |fail)
 refine(HT.out _).mono ?_;rintro e w1 ⟨rfl,k1⟩;have o1:=o0.keep k1;have B1:=ae B0 k1;clear HT HW r0 o0 B0
 go_wp2_with (first
  |(rw [dY];refine Mt.aF rfl _ _ rl1 _ _ _ _ rl1 rl1 ?_;intro w2 n2 k2;have o2:=o1.keep k2;have B2:=ae B1 k2;clear o1 B1)
  |(refine Hk.fP _ (by with_reducible rfl) _ _ _ _ rl1 (by with_reducible exact n2) (by kernel_rfl) ?_)
  |(refine aN rfl _ _ rl1 _ _ _ _ _ _ _ rl1 rl1 (by with_reducible exact o2) ?_)
  |fail)
 exact bodyPost_ret (dS Tryz.results252 _ _ (w.heap.size+1) _ _ _ rfl (o2.row _ _ _)) rfl ⟨rfl,Mt.aJ B2 om1 _⟩
theorem wX(a b c:Int)(w:World):
 Calls Tryz.prog 171 #[.int .i64 a, .int .i64 b, .int .i64 c] w fun e w'=>e= .returned (.agg (aj 2 2 (mz 2 2 (g2 a b c))).toArray)/\Below w.heap.size w w':=by
 have HO:=Ud.hide (fun lo W (h:Grid W lo 2 2 2 (fun i=>if i=0 then v2 a b else v2 b c))=>show Calls Tryz.prog 140 #[.slice lo 2 2] W fun e w'=>e= .returned (.tuple #[.agg (aj 2 2 (mz 2 2 (g2 a b c))).toArray, .nilIface])/\Below W.heap.size W w' by
  obtain⟨A,C,h1,h2⟩:=h;have e:=AZ 2 2 lo 2 A C _ W om1 om1 om1 om1 h1 h2;rw [g2_mz] at e
  exact e)
 obtain⟨z,hz⟩: ∃ z,z=mz 2 2 (g2 a b c):=⟨_,rfl⟩;rw [← hz] at HO;rw [← hz];clear hz;have r0:=bJ w 0 0 (fun _=>0);have B0:=af (Below.refl _ w) (.cells (aj 0 0 (fun _=>0)).toArray 53);obtain⟨W,hW⟩: ∃ W,W=w.alloc (.cells (aj 0 0 (fun _=>0)).toArray 53):=⟨_,rfl⟩;rw [← hW] at r0 B0;have HW:=Ud.hide hW;have l0:=r0.lt;clear hW;have x0:=((aH W 2 (vals 2 (v2 a b))).alloc (.cells (vals 2 (v2 b c)).toArray 2)).alloc (.cells [.slice (some ⟨W.heap.size,0,none⟩) 2 2, .slice (some ⟨W.heap.size+1,0,none⟩) 2 2].toArray 27);have x1:=(bU W (.cells (vals 2 (v2 a b)).toArray 2) 2 (vals 2 (v2 b c))).alloc (.cells [.slice (some ⟨W.heap.size,0,none⟩) 2 2, .slice (some ⟨W.heap.size+1,0,none⟩) 2 2].toArray 27);have x2:=dH W (.cells (vals 2 (v2 a b)).toArray 2) (.cells (vals 2 (v2 b c)).toArray 2) 27 [.slice (some ⟨W.heap.size,0,none⟩) 2 2, .slice (some ⟨W.heap.size+1,0,none⟩) 2 2];have kV:Below W.heap.size W (((W.alloc (.cells (vals 2 (v2 a b)).toArray 2)).alloc (.cells (vals 2 (v2 b c)).toArray 2)).alloc (.cells [.slice (some ⟨W.heap.size,0,none⟩) 2 2, .slice (some ⟨W.heap.size+1,0,none⟩) 2 2].toArray 27)):=af (af (af (Below.refl _ _) _) _) _;obtain⟨V,hV⟩: ∃ V,V=((W.alloc (.cells (vals 2 (v2 a b)).toArray 2)).alloc (.cells (vals 2 (v2 b c)).toArray 2)).alloc (.cells [.slice (some ⟨W.heap.size,0,none⟩) 2 2, .slice (some ⟨W.heap.size+1,0,none⟩) 2 2].toArray 27):=⟨_,rfl⟩;rw [← hV] at x0 x1 x2 kV;have HV:=Ud.hide hV;have hg:=ZN x2 x0 x1;have r1:=r0.keep kV;have B1:=ae B0 kV;clear hV x0 x1 x2 r0 B0 kV;go_enter Tryz.func171,Tryz.ntmps171
 go_wp2_with (first|(rw [dY,← HW.out])|fail)
 have ea: ∀ p q:Int, #[Value.int .i64 p, .int .i64 q]=(vals 2 (v2 p q)).toArray:=fun p q=>rfl;rw [ea a b,ea b c];erw [← HV.out];refine(HO.out _ _ hg).mono ?_;rintro e w1 ⟨rfl,k1⟩;have o1:=r1.keep k1;have B2:=ae B1 k1;clear HO HW HV r1 B1
 go_wp2_with (first
  |(rw [dY];refine Mt.aF rfl _ _ rl1 _ _ _ _ rl1 rl1 ?_;intro w2 n2 k2;have o2:=o1.keep k2;have B3:=ae B2 k2;clear o1 B2)
  |(refine Hk.fP _ (by with_reducible rfl) _ _ _ _ rl1 (by with_reducible exact n2) (by kernel_rfl) ?_)
  |(refine aN rfl _ _ rl1 _ _ _ _ _ _ _ rl1 rl1 (by with_reducible exact o2) ?_)
  |fail)
 exact bodyPost_ret (dS Tryz.results171 _ _ w.heap.size _ _ _ rfl (o2.row _ _ _)) rfl ⟨rfl,Mt.aJ B3 (Nat.le_refl _) _⟩
theorem yL(x y a b c:Int)(w:World):
 Calls Tryz.prog 83 #[.agg (pv x y a b c).toArray] w fun e w'=>e= .returned (.agg (aj 2 2 (mz 2 2 (g2 a c b))).toArray)/\Below w.heap.size w w':=by
 have HE:=Ud.hide (fun W=>wX a c b W);obtain⟨z,hz⟩: ∃ z,z=mz 2 2 (g2 a c b):=⟨_,rfl⟩;rw [← hz] at HE;rw [← hz];clear hz;have m0:=(aH w 69 (pv x y a b c)).alloc (.cells (aj 0 0 (fun _=>0)).toArray 53);have r0:=dR w (.cells (pv x y a b c).toArray 69) 0 0 (fun _=>0);have B0:Below w.heap.size w ((w.alloc (.cells (pv x y a b c).toArray 69)).alloc (.cells (aj 0 0 (fun _=>0)).toArray 53)):=af (af (Below.refl _ _) _) _;obtain⟨W,hW⟩: ∃ W,W=(w.alloc (.cells (pv x y a b c).toArray 69)).alloc (.cells (aj 0 0 (fun _=>0)).toArray 53):=⟨_,rfl⟩;rw [← hW] at m0 r0 B0;have HW:=Ud.hide hW;have c2:W.cell? ⟨w.heap.size,2,none⟩=some (.int .i64 a):=ai.cell m0 (k:=2) rfl rfl;have c3:W.cell? ⟨w.heap.size,3,none⟩=some (.int .i64 b):=ai.cell m0 (k:=3) rfl rfl;have c4:W.cell? ⟨w.heap.size,4,none⟩=some (.int .i64 c):=ai.cell m0 (k:=4) rfl rfl;clear hW m0;go_enter Tryz.func83,Tryz.ntmps83
 go_wp2_with (first|(rw [dY,← HW.out])|fail)
 refine(HE.out _).mono ?_;rintro e w1 ⟨rfl,k1⟩;have r1:=r0.keep k1;have B1:=ae B0 k1
 go_wp2_with (first
  |(refine aN rfl _ _ rl1 _ _ _ _ _ _ _ rl1 rl1 (by with_reducible exact r1) ?_)
  |fail)
 exact bodyPost_ret (dS Tryz.results83 _ _ (w.heap.size+1) _ _ _ rfl (r1.row _ _ _)) rfl ⟨rfl,Mt.aJ B1 om1 _⟩
end
section
open Go.RowKit Vc St Mt Pr Qn Ud Up Ld
attribute [local go_sem ↓] Go.wp_at_zero Go.wp_at_succ
theorem jq(s:Nat)(n:Int)(a o:Bool)(w:World)(h:jS w s a):
 Calls Tryz.prog 166 #[.pointer (some ⟨s,0,none⟩), .int .i64 n, .bool o] w fun e w'=>e= .returned (.int .i64 n)/\jS w' s (a||o)/\But (· =s) w w':=by
 have c0:=jS.o h;have f0:=ai.free h 0;have Bb:But (· =s) w w:=But.refl _ _;cases a with
 |true=>
  go_enter Tryz.func166,Tryz.ntmps166
  go_wp2;go_ret;exact⟨rfl,jS.set h true,Bb.set (p:=⟨s,0,none⟩) _ rfl⟩
 |false=>
  go_enter Tryz.func166,Tryz.ntmps166
  go_wp2;go_ret;exact⟨rfl,jS.set h o,Bb.set (p:=⟨s,0,none⟩) _ rfl⟩
theorem yF(s:Nat)(ao:Option Addr)(n ca:Nat)(a o:Bool)(v:Value)(w:World)(h:jS w s a):
 Calls Tryz.prog 164 #[.pointer (some ⟨s,0,none⟩), .slice ao n ca, .bool o,v] w fun e w'=>e= .returned (.slice ao n ca)/\jS w' s (a||o)/\But (· =s) w w':=by
 have c0:=jS.o h;have f0:=ai.free h 0;have Bb:But (· =s) w w:=But.refl _ _;cases a with
 |true=>
  go_enter Tryz.func164,Tryz.ntmps164
  go_wp2;go_ret;exact⟨rfl,jS.set h true,Bb.set (p:=⟨s,0,none⟩) _ rfl⟩
 |false=>
  go_enter Tryz.func164,Tryz.ntmps164
  go_wp2;go_ret;exact⟨rfl,jS.set h o,Bb.set (p:=⟨s,0,none⟩) _ rfl⟩
theorem qg(s:Nat)(r c:Int)(z:Nat->Int)(a o:Bool)(v:Value)(w:World)(h:jS w s a):
 Calls Tryz.prog 170 #[.pointer (some ⟨s,0,none⟩), .agg (aj r c z).toArray, .bool o,v] w fun e w'=>e= .returned (.agg (aj r c z).toArray)/\jS w' s (a||o)/\But (· =s) w w':=by
 have hs:=ai.lt h;have r0:=(bJ w r c z).alloc (.cells (aj 0 0 (fun _=>0)).toArray 53);have o0:=dR w (.cells (aj r c z).toArray 53) 0 0 (fun _=>0);have B0:Below w.heap.size w ((w.alloc (.cells (aj r c z).toArray 53)).alloc (.cells (aj 0 0 (fun _=>0)).toArray 53)):=af (af (Below.refl _ _) _) _;obtain⟨W,hW⟩: ∃ W,W=(w.alloc (.cells (aj r c z).toArray 53)).alloc (.cells (aj 0 0 (fun _=>0)).toArray 53):=⟨_,rfl⟩;rw [← hW] at r0 o0 B0;have HW:=Ud.hide hW;have s0:=ai.keep h B0;have c0:=jS.o s0;have f0:=ai.free s0 0;have n1:w.heap.size≠s:=om1;have n2:w.heap.size+1≠s:=om1;have n3:s≠w.heap.size+1:=om1;clear hW h;have Bb:But (· =s) w W:=jb B0;cases a with
 |true=>
  go_enter Tryz.func170,Tryz.ntmps170
  go_wp2_with (first
   |(rw [dY,← HW.out])
   |(refine Hk.fP _ (by with_reducible rfl) _ _ _ _ rl1 (by with_reducible exact r0.other _ n1) (by kernel_rfl) ?_)
   |(refine aN rfl _ _ rl1 _ _ _ _ _ _ _ rl1 rl1 (by with_reducible exact o0.other _ n2) ?_)
   |fail)
  exact bodyPost_ret (dS Tryz.results170 _ _ (w.heap.size+1) _ _ _ rfl ((o0.other _ n2).row _ _ _)) rfl ⟨rfl,(jS.set s0 true).aY n3 _,(Bb.set (p:=⟨s,0,none⟩) _ rfl).lJ _ om1⟩
 |false=>
  go_enter Tryz.func170,Tryz.ntmps170
  go_wp2_with (first
   |(rw [dY,← HW.out])
   |(refine Hk.fP _ (by with_reducible rfl) _ _ _ _ rl1 (by with_reducible exact r0.other _ n1) (by kernel_rfl) ?_)
   |(refine aN rfl _ _ rl1 _ _ _ _ _ _ _ rl1 rl1 (by with_reducible exact o0.other _ n2) ?_)
   |fail)
  exact bodyPost_ret (dS Tryz.results170 _ _ (w.heap.size+1) _ _ _ rfl ((o0.other _ n2).row _ _ _)) rfl ⟨rfl,(jS.set s0 o).aY n3 _,(Bb.set (p:=⟨s,0,none⟩) _ rfl).lJ _ om1⟩
namespace Up
theorem Lr(x y:Int):Tryz.prog.built 159 [(0, .int .i64 x),(1, .int .i64 y)]=some (vals 2 (v2 x y)).toArray:=by kernel_rfl
theorem aac{ops:Array Oper}{S:World->Prop}{o:Oper}{a:Act}(hw:Region.wanted o (yielded ops a.tmps)=true)(p q:Operand)(ho:o.op= .build 159 #[(0,p),(1,q)])
 (x y:Int) (hx:a.eval p= .int .i64 x) (hy:a.eval q= .int .i64 y):YieldsIf Tryz.prog ops S o (.agg (vals 2 (v2 x y)).toArray) a:=
 .inl ⟨hw,fun w _=>by
  unfold execOp
  have em:((#[(0,p),(1,q)]:Array (Nat×Operand)).map fun(i,x)=>(i,a.eval x)).toList= [(0, .int .i64 x),(1, .int .i64 y)]:=by simp [hx,hy]
  simp only [ho,Sem.run_bind,run_build w 159 _ _ (by rw [em];exact Lr x y),Result.andThen_ok,Sem.run_pure]⟩
theorem zero2:(#[.int .i64 0, .int .i64 0]:Array Value)=(vals 2 (fun _=>0)).toArray:=by kernel_rfl
def vo(X:Nat->Int)(x y:Int):Bool:=great (x- X 0)||great (y- X 3)
end Up
theorem SQ(s:Nat)(X:Nat->Int)(r c':Int)(z:Nat->Int)(x y a b c:Int)(o:Bool)(w:World)(h:jS w s o)(bX:B64 X)(hx: -9223372036854775808<=x/\x<=9223372036854775807)(hy: -9223372036854775808<=y/\y<=9223372036854775807):
 Calls Tryz.prog 162 #[.pointer (some ⟨s,0,none⟩), .agg (Pd.aB X r c' z).toArray, .agg (pv x y a b c).toArray] w fun e w'=>e= .returned (.agg (vals 2 (v2 (ox X x) (oy X y))).toArray)/\jS w' s (o||vo X x y)/\But (· =s) w w':=by
 have hs:=ai.lt h;have H1:=Ud.hide (fun W=>nU x (X 0) W hx.1 hx.2 (bX 0).1 (bX 0).2);have H2:=Ud.hide (fun W=>nU y (X 3) W hy.1 hy.2 (bX 3).1 (bX 3).2);have t0:=((aH w 55 (Pd.aB X r c' z)).alloc (.cells (pv x y a b c).toArray 69)).alloc (.cells (vals 2 (fun _=>0)).toArray 159);have m0:=(bU w (.cells (Pd.aB X r c' z).toArray 55) 69 (pv x y a b c)).alloc (.cells (vals 2 (fun _=>0)).toArray 159);have r0:=dH w (.cells (Pd.aB X r c' z).toArray 55) (.cells (pv x y a b c).toArray 69) 159 (vals 2 (fun _=>0));have B0:Below w.heap.size w (((w.alloc (.cells (Pd.aB X r c' z).toArray 55)).alloc (.cells (pv x y a b c).toArray 69)).alloc (.cells (vals 2 (fun _=>0)).toArray 159)):=af (af (af (Below.refl _ _) _) _) _;obtain⟨W,hW⟩: ∃ W,W=((w.alloc (.cells (Pd.aB X r c' z).toArray 55)).alloc (.cells (pv x y a b c).toArray 69)).alloc (.cells (vals 2 (fun _=>0)).toArray 159):=⟨_,rfl⟩;rw [← hW] at t0 m0 r0 B0;have HW:=Ud.hide hW;have lr:=ai.lt r0;have s0:=ai.keep h B0;have b0:But (· =s) w W:=jb B0
 have HS:Hid (∀ V,But (· =s) W V->(V.cell? ⟨w.heap.size,0,none⟩=some (.int .i64 (X 0))/\V.cell? ⟨w.heap.size,3,none⟩=some (.int .i64 (X 3))/\V.cell? ⟨w.heap.size+1,0,none⟩=some (.int .i64 x)/\V.cell? ⟨w.heap.size+1,1,none⟩=some (.int .i64 y))):=fun V k=>
  ⟨Pd.fH.x (aT t0 k om1) (k:=0) om1 rfl,Pd.fH.x (aT t0 k om1) (k:=3) om1 rfl,ai.cell (aT m0 k om1) (k:=0) rfl rfl,ai.cell (aT m0 k om1) (k:=1) rfl rfl⟩
 have HR:Hid (∀ V,But (· =s) W V->ai V (w.heap.size+1+1) 159 (vals 2 (fun _=>0))):=fun V k=>aT r0 k om1;unfold vo ox oy;obtain⟨u0,hu0⟩: ∃ u,u=X 0:=⟨_,rfl⟩;obtain⟨u3,hu3⟩: ∃ u,u=X 3:=⟨_,rfl⟩;rw [← hu0] at H1 HS ⊢;rw [← hu3] at H2 HS ⊢;obtain⟨v1,hv1⟩: ∃ v,v=clamp (x- u0):=⟨_,rfl⟩;obtain⟨v2',hv2⟩: ∃ v,v=clamp (y- u3):=⟨_,rfl⟩;obtain⟨g1,hg1⟩: ∃ v,v=great (x- u0):=⟨_,rfl⟩;obtain⟨g2',hg2⟩: ∃ v,v=great (y- u3):=⟨_,rfl⟩;rw [← hv1,← hg1] at H1;rw [← hv2,← hg2] at H2;rw [← hv1,← hv2,← hg1,← hg2];clear hW h t0 m0 r0 B0 hu0 hu3 hv1 hv2 hg1 hg2 bX hx hy;go_enter Tryz.func162,Tryz.ntmps162
 go_upto_region 1 with(first|(erw [zero2,← HW.out])|fail)
 try erw [zero2,← HW.out]
 refine Ru.aS [21] (fun w'=>w'.cell? ⟨w.heap.size,0,none⟩=some (.int .i64 u0)/\w'.cell? ⟨w.heap.size,3,none⟩=some (.int .i64 u3)/\w'.cell? ⟨w.heap.size+1,0,none⟩=some (.int .i64 x)/\w'.cell? ⟨w.heap.size+1,1,none⟩=some (.int .i64 y)) (by kernel_rfl) (HS.out _ ((But.refl (· =s) W).drew)) (fun hHeld=> ?_);refine Ru.tk4 0 (.pointer (some ⟨s,0,none⟩)) hHeld ?_;refine Ru.tk4 1 (.pointer (some ⟨w.heap.size+1,0,none⟩)) hHeld ?_;refine Ru.tk4 2 (.int .i64 x) hHeld ?_;refine Ru.tk4 3 (.pointer (some ⟨w.heap.size,0,none⟩)) hHeld ?_;refine Ru.tk4 4 (.pointer (some ⟨w.heap.size,0,none⟩)) hHeld ?_;refine Ru.tk4 5 (.int .i64 u0) hHeld ?_;refine Ru.tk4 10 (.pointer (some ⟨s,0,none⟩)) hHeld ?_;refine Ru.tk4 11 (.pointer (some ⟨w.heap.size+1,1,none⟩)) hHeld ?_;refine Ru.tk4 12 (.int .i64 y) hHeld ?_;refine Ru.tk4 13 (.pointer (some ⟨w.heap.size,0,none⟩)) hHeld ?_;refine Ru.tk4 14 (.pointer (some ⟨w.heap.size,3,none⟩)) hHeld ?_;refine Ru.tk4 15 (.int .i64 u3) hHeld ?_;refine Ru.rd 6 (fun K hK=> ?_);go_simp;refine(H1.out _).mono ?_;rintro e v_1 ⟨rfl,k_1⟩;have D_1:=((But.refl (· =s) W).drew).then k_1
 have o_1:=ai.keep (ai.drew s0) k_1;go_wp2_with fail
 refine Ru.hd hK (HS.out _ D_1) (fun hHeld=> ?_);clear hK K;refine Ru.tk4 7 (.int .i64 v1) hHeld ?_;refine Ru.tk4 8 (.bool g1) hHeld ?_;refine Ru.rd 9 (fun K hK=> ?_);go_simp;refine(jq s v1 _ g1 _ o_1).mono ?_;rintro e v_2 ⟨rfl,o_2,k_2⟩;have D_2:=D_1.trans k_2;go_wp2_with fail
 refine Ru.hd hK (HS.out _ D_2) (fun hHeld=> ?_);clear hK K;refine Ru.rd 16 (fun K hK=> ?_);go_simp;refine(H2.out _).mono ?_;rintro e v_3 ⟨rfl,k_3⟩;have D_3:=D_2.then k_3;have o_3:=ai.keep o_2 k_3;go_wp2_with fail
 refine Ru.hd hK (HS.out _ D_3) (fun hHeld=> ?_);clear hK K;refine Ru.tk4 17 (.int .i64 v2') hHeld ?_;refine Ru.tk4 18 (.bool g2') hHeld ?_;refine Ru.rd 19 (fun K hK=> ?_);go_simp;refine(jq s v2' _ g2' _ o_3).mono ?_;rintro e v_4 ⟨rfl,o_4,k_4⟩;have D_4:=D_3.trans k_4;go_wp2_with fail
 refine Ru.hd hK (HS.out _ D_4) (fun hHeld=> ?_);clear hK K;refine Ru.tk 20 (.agg (vals 2 (v2 v1 v2')).toArray) rfl (Up.aac (by kernel_rfl) _ _ rl1 v1 v2' rl1 rl1) hHeld ?_;refine Ru.rd2 21 (fun K hK=> ?_);refine Ru.kK is2 (by kernel_rfl) _ _ rl1 (w.heap.size+1+1) _ (vals 2 (v2 v1 v2')) rl1 rl1 (HR.out _ D_4) (aK _ _) (aK _ _) (fK _ _) ?_;have rE:=ai.row (HR.out _ D_4) (vals 2 (v2 v1 v2'));have oE:=ai.aY o_4 (g:=w.heap.size+1+1) om1 (vals 2 (v2 v1 v2')).toArray;have bE:=(b0.trans D_4).lJ (g:=w.heap.size+1+1) (vals 2 (v2 v1 v2')).toArray om1;refine hK.out _ _ ?_;clear hK K;try simp only [Act.put,List.getElem_toArray,List.getElem_cons_zero,List.getElem_cons_succ,List.setIfInBounds_toArray,List.set_cons_zero,List.set_cons_succ]
 refine wpAny_done (by kernel_rfl) ?_ _;go_wp2_with fail
 have eO:(o||(g1||g2'))=((o||g1)||g2'):=by cases o<;>cases g1<;>rfl
 rw [← eO] at oE;exact bodyPost_ret (iV is2 Tryz.results162 _ _ (w.heap.size+1+1) _ rfl rE (aK _ _)) rfl ⟨rfl,oE,bE⟩
namespace Up
def mo(P:Nat->Nat->Int)(a b c:Int):Bool:=great (P 0 0+a)||great (P 0 3+c)||great (P 3 3+b)
theorem og_is(X:Nat->Int)(P:Nat->Nat->Int)(x y a b c:Int):og X P x y a b c=(mo P a b c||vo X x y):=by
 unfold og mo vo;cases great (P 0 0+a)<;>cases great (P 0 3+c)<;>cases great (P 3 3+b)<;>cases great (x- X 0)<;>rfl
end Up
theorem Ip(s:Nat)(P:Nat->Nat->Int)(x y a b c:Int)(o:Bool)(w:World)(h:jS w s o)(bP:B2 P)(ha: -9223372036854775808<=a/\a<=9223372036854775807)(hb: -9223372036854775808<=b/\b<=9223372036854775807)(hc: -9223372036854775808<=c/\c<=9223372036854775807):
 Calls Tryz.prog 161 #[.pointer (some ⟨s,0,none⟩), .agg (aj 6 6 (mz 6 6 P)).toArray, .agg (pv x y a b c).toArray] w fun e w'=>e= .returned (.agg (aj 2 2 (mz 2 2 (oM P a b c))).toArray)/\jS w' s (o||mo P a b c)/\But (· =s) w w':=by
 have hs:=ai.lt h;have H1:=Ud.hide (fun W=>nT (P 0 0) a W (bP 0 0).1 (bP 0 0).2 ha.1 ha.2);have H2:=Ud.hide (fun W=>nT (P 0 3) c W (bP 0 3).1 (bP 0 3).2 hc.1 hc.2);have H3:=Ud.hide (fun W=>nT (P 3 3) b W (bP 3 3).1 (bP 3 3).2 hb.1 hb.2);have HE:=Ud.hide (fun W=>wX (oa P a) (ob P c) (oc P b) W);have A1:=Ud.hide (fun g W (q:dU W g 6 6 (mz 6 6 P))=>pY g 6 6 0 0 P W q om1 om1 om1 om1 om1 om1);have A2:=Ud.hide (fun g W (q:dU W g 6 6 (mz 6 6 P))=>pY g 6 6 0 3 P W q om1 om1 om1 om1 om1 om1);have A3:=Ud.hide (fun g W (q:dU W g 6 6 (mz 6 6 P))=>pY g 6 6 3 3 P W q om1 om1 om1 om1 om1 om1);have HT:=Ud.hide (fun W=>JL 6 6 (mz 6 6 P) W);unfold mo;show Calls _ _ _ _ fun e w'=>e= .returned (.agg (aj 2 2 (mz 2 2 (g2 (oa P a) (ob P c) (oc P b)))).toArray)/\_;obtain⟨z,hz⟩: ∃ z,z=mz 6 6 P:=⟨_,rfl⟩;obtain⟨z2,hz2⟩: ∃ z,z=mz 2 2 (g2 (oa P a) (ob P c) (oc P b)):=⟨_,rfl⟩;rw [← hz2] at HE;rw [← hz] at A1 A2 A3 HT;rw [← hz,← hz2];unfold oa ob oc at HE;obtain⟨p1,hp1⟩: ∃ p,p=P 0 0:=⟨_,rfl⟩;obtain⟨p2,hp2⟩: ∃ p,p=P 0 3:=⟨_,rfl⟩;obtain⟨p3,hp3⟩: ∃ p,p=P 3 3:=⟨_,rfl⟩;rw [← hp1] at H1 A1;rw [← hp2] at H2 A2;rw [← hp3] at H3 A3;rw [← hp1,← hp2,← hp3] at HE;rw [← hp1,← hp2,← hp3];obtain⟨v1,hv1⟩: ∃ v,v=clamp (p1+a):=⟨_,rfl⟩;obtain⟨v2',hv2⟩: ∃ v,v=clamp (p2+c):=⟨_,rfl⟩;obtain⟨v3,hv3⟩: ∃ v,v=clamp (p3+b):=⟨_,rfl⟩;obtain⟨g1,hg1⟩: ∃ v,v=great (p1+a):=⟨_,rfl⟩;obtain⟨g2',hg2⟩: ∃ v,v=great (p2+c):=⟨_,rfl⟩;obtain⟨g3,hg3⟩: ∃ v,v=great (p3+b):=⟨_,rfl⟩;rw [← hv1,← hg1] at H1;rw [← hv2,← hg2] at H2;rw [← hv3,← hg3] at H3;rw [← hv1,← hv2,← hv3] at HE;rw [← hg1,← hg2,← hg3];clear hz hz2 hp1 hp2 hp3 hv1 hv2 hv3 hg1 hg2 hg3 bP ha hb hc;have t0:=((bJ w 6 6 z).alloc (.cells (pv x y a b c).toArray 69)).alloc (.cells (aj 0 0 (fun _=>0)).toArray 53);have m0:=(bU w (.cells (aj 6 6 z).toArray 53) 69 (pv x y a b c)).alloc (.cells (aj 0 0 (fun _=>0)).toArray 53);have r0:=jE w (.cells (aj 6 6 z).toArray 53) (.cells (pv x y a b c).toArray 69) 0 0 (fun _=>0);have B0:Below w.heap.size w (((w.alloc (.cells (aj 6 6 z).toArray 53)).alloc (.cells (pv x y a b c).toArray 69)).alloc (.cells (aj 0 0 (fun _=>0)).toArray 53)):=af (af (af (Below.refl _ _) _) _) _;obtain⟨W,hW⟩: ∃ W,W=((w.alloc (.cells (aj 6 6 z).toArray 53)).alloc (.cells (pv x y a b c).toArray 69)).alloc (.cells (aj 0 0 (fun _=>0)).toArray 53):=⟨_,rfl⟩;rw [← hW] at t0 m0 r0 B0;have HW:=Ud.hide hW;have lr:=r0.lt;have s0:=ai.keep h B0;clear hW h;go_enter Tryz.func161,Tryz.ntmps161
 go_wp2_with (first
  |(rw [dY,← HW.out];refine Hk.fP _ (by with_reducible rfl) _ _ _ _ rl1 (by with_reducible exact t0) (by kernel_rfl) ?_)
  |fail)
 refine(HT.out _).mono ?_;rintro e w1 ⟨rfl,q1,k1⟩;have lq:=q1.lt;have m1:=ai.keep m0 k1;have r1:=r0.keep k1;have s1:=ai.keep s0 k1;have b1:But (· =s) w w1:=(jb B0).then k1
 obtain⟨g,hg⟩: ∃ g,g=W.heap.size:=⟨_,rfl⟩;rw [← hg] at q1 lq lr;have HG:=Ud.hide hg
 have HS:Hid (∀ V,But (· =s) w1 V->(dU V g 6 6 z/\V.cell? ⟨w.heap.size+1,2,none⟩=some (.int .i64 a)/\V.cell? ⟨w.heap.size+1,3,none⟩=some (.int .i64 b)/\V.cell? ⟨w.heap.size+1,4,none⟩=some (.int .i64 c))):=fun V k=>
  ⟨Pd.dE q1 k om1,ai.cell (aT m1 k om1) (k:=2) rfl rfl,ai.cell (aT m1 k om1) (k:=3) rfl rfl,ai.cell (aT m1 k om1) (k:=4) rfl rfl⟩
 have HR:Hid (∀ V,But (· =s) w1 V->dU V (w.heap.size+1+1) 0 0 (fun _=>0)):=fun V k=>Pd.dE r1 k om1;clear hg HW HT t0 m0 r0 B0 s0 k1 q1 m1 r1;go_upto_region 2 with(first|(rw [← HG.out])|fail)
 try rw [← HG.out]
 refine Ru.aS [28] (fun w'=>dU w' g 6 6 z/\w'.cell? ⟨w.heap.size+1,2,none⟩=some (.int .i64 a)/\w'.cell? ⟨w.heap.size+1,3,none⟩=some (.int .i64 b)/\w'.cell? ⟨w.heap.size+1,4,none⟩=some (.int .i64 c)) (by kernel_rfl) (HS.out _ ((But.refl (· =s) w1).drew)) (fun hHeld=> ?_);refine Ru.tk4 0 (.pointer (some ⟨s,0,none⟩)) hHeld ?_;refine Ru.tk4 1 (atF g) hHeld ?_;refine Ru.tk4 3 (.pointer (some ⟨w.heap.size+1,2,none⟩)) hHeld ?_;refine Ru.tk4 4 (.int .i64 a) hHeld ?_;refine Ru.tk4 9 (.pointer (some ⟨s,0,none⟩)) hHeld ?_;refine Ru.tk4 10 (atF g) hHeld ?_;refine Ru.tk4 12 (.pointer (some ⟨w.heap.size+1,4,none⟩)) hHeld ?_;refine Ru.tk4 13 (.int .i64 c) hHeld ?_;refine Ru.tk4 18 (.pointer (some ⟨s,0,none⟩)) hHeld ?_;refine Ru.tk4 19 (atF g) hHeld ?_;refine Ru.tk4 21 (.pointer (some ⟨w.heap.size+1,3,none⟩)) hHeld ?_;refine Ru.tk4 22 (.int .i64 b) hHeld ?_;refine Ru.rd 2 (fun K hK=> ?_);go_simp;refine(A1.out g _ (HS.out _ ((But.refl (· =s) w1).drew)).1).mono ?_;rintro e v_1 ⟨rfl,k_1⟩;have D_1:=((But.refl (· =s) w1).drew).then k_1
 have o_1:=ai.keep (ai.drew s1) k_1;go_wp2_with fail
 refine Ru.hd hK (HS.out _ D_1) (fun hHeld=> ?_);clear hK K;refine Ru.rd 5 (fun K hK=> ?_);go_simp;refine(H1.out _).mono ?_;rintro e v_2 ⟨rfl,k_2⟩;have D_2:=D_1.then k_2;have o_2:=ai.keep o_1 k_2;go_wp2_with fail
 refine Ru.hd hK (HS.out _ D_2) (fun hHeld=> ?_);clear hK K;refine Ru.tk4 6 (.int .i64 v1) hHeld ?_;refine Ru.tk4 7 (.bool g1) hHeld ?_;refine Ru.rd 8 (fun K hK=> ?_);go_simp;refine(jq s v1 _ g1 _ o_2).mono ?_;rintro e v_3 ⟨rfl,o_3,k_3⟩;have D_3:=D_2.trans k_3;go_wp2_with fail
 refine Ru.hd hK (HS.out _ D_3) (fun hHeld=> ?_);clear hK K;refine Ru.rd 11 (fun K hK=> ?_);go_simp;refine(A2.out g _ (HS.out _ D_3).1).mono ?_;rintro e v_4 ⟨rfl,k_4⟩;have D_4:=D_3.then k_4;have o_4:=ai.keep o_3 k_4;go_wp2_with fail
 refine Ru.hd hK (HS.out _ D_4) (fun hHeld=> ?_);clear hK K;refine Ru.rd 14 (fun K hK=> ?_);go_simp;refine(H2.out _).mono ?_;rintro e v_5 ⟨rfl,k_5⟩;have D_5:=D_4.then k_5;have o_5:=ai.keep o_4 k_5;go_wp2_with fail
 refine Ru.hd hK (HS.out _ D_5) (fun hHeld=> ?_);clear hK K;refine Ru.tk4 15 (.int .i64 v2') hHeld ?_;refine Ru.tk4 16 (.bool g2') hHeld ?_;refine Ru.rd 17 (fun K hK=> ?_);go_simp;refine(jq s v2' _ g2' _ o_5).mono ?_;rintro e v_6 ⟨rfl,o_6,k_6⟩;have D_6:=D_5.trans k_6;go_wp2_with fail
 refine Ru.hd hK (HS.out _ D_6) (fun hHeld=> ?_);clear hK K;refine Ru.rd 20 (fun K hK=> ?_);go_simp;refine(A3.out g _ (HS.out _ D_6).1).mono ?_;rintro e v_7 ⟨rfl,k_7⟩;have D_7:=D_6.then k_7;have o_7:=ai.keep o_6 k_7;go_wp2_with fail
 refine Ru.hd hK (HS.out _ D_7) (fun hHeld=> ?_);clear hK K;refine Ru.rd 23 (fun K hK=> ?_);go_simp;refine(H3.out _).mono ?_;rintro e v_8 ⟨rfl,k_8⟩;have D_8:=D_7.then k_8;have o_8:=ai.keep o_7 k_8;go_wp2_with fail
 refine Ru.hd hK (HS.out _ D_8) (fun hHeld=> ?_);clear hK K;refine Ru.tk4 24 (.int .i64 v3) hHeld ?_;refine Ru.tk4 25 (.bool g3) hHeld ?_;refine Ru.rd 26 (fun K hK=> ?_);go_simp;refine(jq s v3 _ g3 _ o_8).mono ?_;rintro e v_9 ⟨rfl,o_9,k_9⟩;have D_9:=D_8.trans k_9;go_wp2_with fail
 refine Ru.hd hK (HS.out _ D_9) (fun hHeld=> ?_);clear hK K;refine Ru.rd 27 (fun K hK=> ?_);go_simp;refine(HE.out _).mono ?_;rintro e v_10 ⟨rfl,k_10⟩;have D_10:=D_9.then k_10;have o_10:=ai.keep o_9 k_10;go_wp2_with fail
 refine Ru.hd hK (HS.out _ D_10) (fun hHeld=> ?_);clear hK K;refine Ru.rd2 28 (fun K hK=> ?_);refine Ru.stepM (by kernel_rfl) _ _ rl1 (w.heap.size+1+1) _ _ 2 2 _ z2 rl1 rl1 (HR.out _ D_10) ?_;have rE:=(HR.out _ D_10).row 2 2 z2;have oE:=ai.aY o_10 (g:=w.heap.size+1+1) om1 (aj 2 2 z2).toArray;have bE:=(b1.trans D_10).lJ (g:=w.heap.size+1+1) (aj 2 2 z2).toArray om1;refine hK.out _ _ ?_;clear hK K;try simp only [Act.put,List.getElem_toArray,List.getElem_cons_zero,List.getElem_cons_succ,List.setIfInBounds_toArray,List.set_cons_zero,List.set_cons_succ]
 refine wpAny_done (by kernel_rfl) ?_ _;go_wp2_with fail
 have eO:(o||(g1||g2'||g3))=(((o||g1)||g2')||g3):=by cases o<;>cases g1<;>cases g2'<;>rfl
 rw [← eO] at oE;exact bodyPost_ret (dS Tryz.results161 _ _ (w.heap.size+1+1) _ _ _ rfl rE) rfl ⟨rfl,oE,bE⟩
end
section
open Go.RowKit Vc St Mt Pr Qn Ud Up Ld
attribute [local go_sem ↓] Go.wp_at_zero Go.wp_at_succ
namespace Up
theorem ar_x(m:Nat)(A M:Nat->Nat->Int):(fun i j=>clamp (mulR A M m i j))=arX m A M:=by
 funext i j;unfold mulR arX;rw [qH]
theorem ar_o1(n m:Nat)(A M:Nat->Nat->Int):jK (fun i j=>great (mulR A M m i j)) n m=Dj n m A M:=by
 unfold Dj;refine sU fun i j _ _=> ?_;unfold mulR;rw [qH]
theorem ar_v(m:Nat)(A M:Nat->Nat->Int):(fun i j=>clamp (mulR (arX m A M) (fun i j=>A j i) m i j))=arV m A M:=by
 funext i j;unfold mulR arV;rw [qH]
theorem ar_o2(n m:Nat)(A M:Nat->Nat->Int):jK (fun i j=>great (mulR (arX m A M) (fun i j=>A j i) m i j)) n n=Dk n m A M:=by
 unfold Dk;refine sU fun i j _ _=> ?_;unfold mulR;rw [qH]
end Up
theorem yG(s n m:Nat)(A M:Nat->Nat->Int)(o:Bool)(w:World)(h:jS w s o)(h1:1<=n)(h2:n<=6)(h3:1<=m)(h4:m<=6)(bA:B2 A)(bM:B2 M):
 Calls Tryz.prog 168 #[.pointer (some ⟨s,0,none⟩), .agg (aj n m (mz n m A)).toArray, .agg (aj m m (mz m m M)).toArray] w fun e w'=>e= .returned (.agg (aj n n (mz n n (arV m A M))).toArray)/\jS w' s (o||(Dj n m A M||Dk n m A M))/\But (· =s) w w':=by
 have hs:=ai.lt h;have H1:=Ud.hide (fun W=>yU n m m A M W h1 h2 h3 h4 h3 h4 bA bM);rw [ar_x,ar_o1] at H1;have H2:=Ud.hide (fun W=>yU n m n (arX m A M) (fun i j=>A j i) W h1 h2 h3 h4 h1 h2 (Ic _) (fun i j=>bA j i));rw [ar_v,ar_o2] at H2;have HT:=Ud.hide (fun W=>JM n m A W h1 h2 h3 h4);obtain⟨zA,hzA⟩: ∃ z,z=mz n m A:=⟨_,rfl⟩;obtain⟨zM,hzM⟩: ∃ z,z=mz m m M:=⟨_,rfl⟩;obtain⟨zX,hzX⟩: ∃ z,z=mz n m (arX m A M):=⟨_,rfl⟩;obtain⟨zV,hzV⟩: ∃ z,z=mz n n (arV m A M):=⟨_,rfl⟩;obtain⟨zT,hzT⟩: ∃ z,z=mz m n (fun i j=>A j i):=⟨_,rfl⟩;obtain⟨q1,hq1⟩: ∃ z,z=Dj n m A M:=⟨_,rfl⟩;obtain⟨q2,hq2⟩: ∃ z,z=Dk n m A M:=⟨_,rfl⟩;rw [← hzA,← hzM,← hzX,← hq1] at H1;rw [← hzX,← hzT,← hzV,← hq2] at H2;rw [← hzA,← hzT] at HT;rw [← hzA,← hzM,← hzV,← hq1,← hq2];clear hzA hzM hzX hzV hzT hq1 hq2 bA bM h1 h2 h3 h4;obtain⟨N,hN⟩: ∃ N:Int,N=n:=⟨_,rfl⟩;obtain⟨K,hK⟩: ∃ K:Int,K=m:=⟨_,rfl⟩;rw [← hN,← hK] at H1 H2 HT;rw [← hN,← hK];clear hN hK;have t0:=((bJ w N K zA).alloc (.cells (aj K K zM).toArray 53)).alloc (.cells (aj 0 0 (fun _=>0)).toArray 53);have m0:=(dR w (.cells (aj N K zA).toArray 53) K K zM).alloc (.cells (aj 0 0 (fun _=>0)).toArray 53);have r0:=jE w (.cells (aj N K zA).toArray 53) (.cells (aj K K zM).toArray 53) 0 0 (fun _=>0);have B0:Below w.heap.size w (((w.alloc (.cells (aj N K zA).toArray 53)).alloc (.cells (aj K K zM).toArray 53)).alloc (.cells (aj 0 0 (fun _=>0)).toArray 53)):=af (af (af (Below.refl _ _) _) _) _;obtain⟨W,hW⟩: ∃ W,W=((w.alloc (.cells (aj N K zA).toArray 53)).alloc (.cells (aj K K zM).toArray 53)).alloc (.cells (aj 0 0 (fun _=>0)).toArray 53):=⟨_,rfl⟩;rw [← hW] at t0 m0 r0 B0;have HW:=Ud.hide hW;have lr:=r0.lt;have s0:=ai.keep h B0;have b0:But (· =s) w W:=jb B0;clear hW h B0;go_enter Tryz.func168,Tryz.ntmps168
 go_wp2_with (first
  |(rw [dY,← HW.out];refine Hk.fP _ (by with_reducible rfl) _ _ _ _ rl1 (by with_reducible exact t0) (by kernel_rfl) ?_)
  |(refine Hk.fP _ (by with_reducible rfl) _ _ _ _ rl1 (by with_reducible exact m0) (by kernel_rfl) ?_)
  |fail)
 refine(H1.out _).mono ?_;rintro e w1 ⟨rfl,k1⟩;have t1:=t0.keep k1;have r1:=r0.keep k1;have s1:=ai.keep s0 k1;have b1:=b0.then k1;clear t0 m0 r0 s0 b0 HW;go_wp2_with fail
 refine(qg s N K zX o q1 _ _ s1).mono ?_;rintro e w2 ⟨rfl,s2,k2⟩;have t2:=Pd.dE t1 k2 om1;have r2:=Pd.dE r1 k2 om1;have b2:=b1.trans k2;have l2:=b2.size;clear t1 r1 s1 b1
 go_upto_region 2 with(first
  |(rw [dY];refine Mt.aF rfl _ _ rl1 _ _ _ _ rl1 rl1 ?_;intro w3 n3 k3)
  |fail)
 have ln:=n3.lt;have t3:=t2.keep k3;have r3:=r2.keep k3;have s3:=ai.keep s2 k3;have b3:=b2.then k3;have l3:w2.heap.size<=w2.heap.size:=Nat.le_refl _;have lw:w.heap.size+1+1<w2.heap.size:=r2.lt;have ls2:s<w2.heap.size:=ai.lt s2;obtain⟨g,hg⟩: ∃ g,g=w2.heap.size:=⟨_,rfl⟩;rw [← hg] at n3 ln lw ls2 ⊢;have HS:Hid (∀ V,But (· =s) w3 V->(dU V w.heap.size N K zA/\dU V g N K zX)):=fun V k=>⟨Pd.dE t3 k om1,Pd.dE n3 k om1⟩;have HR:Hid (∀ V,But (· =s) w3 V->dU V (w.heap.size+1+1) 0 0 (fun _=>0)):=fun V k=>Pd.dE r3 k om1;clear hg t2 r2 s2 b2 k3 t3 r3 n3 k1 k2;refine Ru.aS [9] (fun w'=>dU w' w.heap.size N K zA/\dU w' g N K zX) (by kernel_rfl) (HS.out _ ((But.refl (· =s) w3).drew)) (fun hHeld=> ?_);refine Ru.tk2 0 (.pointer (some ⟨s,0,none⟩)) hHeld ?_;refine Ru.tk 1 (.agg (aj N K zX).toArray) rfl (Ru.mJ (by kernel_rfl) _ rl1 g N K zX rl1 (fun w h=>h.2)) hHeld ?_;refine Ru.tk 2 (.agg (aj N K zA).toArray) rfl (Ru.mJ (by kernel_rfl) _ rl1 w.heap.size N K zA rl1 (fun w h=>h.1)) hHeld ?_;refine Ru.rd 3 (fun K hK=> ?_);go_simp;refine(HT.out _).mono ?_;rintro e v_1 ⟨rfl,k_1⟩;have D_1:=((But.refl (· =s) w3).drew).then k_1
 have o_1:=ai.keep (ai.drew s3) k_1;go_wp2_with fail
 refine Ru.hd hK (HS.out _ D_1) (fun hHeld=> ?_);clear hK K;refine Ru.rd 4 (fun K hK=> ?_);go_simp;refine(H2.out _).mono ?_;rintro e v_2 ⟨rfl,k_2⟩;have D_2:=D_1.then k_2;have o_2:=ai.keep o_1 k_2;go_wp2_with fail
 refine Ru.hd hK (HS.out _ D_2) (fun hHeld=> ?_);clear hK K;refine Ru.tk2 5 (.agg (aj N N zV).toArray) hHeld ?_;refine Ru.tk2 6 (.bool q2) hHeld ?_;refine Ru.tk2 7 (.nilIface) hHeld ?_;refine Ru.rd 8 (fun K hK=> ?_);go_simp;refine(qg s N N zV _ q2 _ _ o_2).mono ?_;rintro e v_3 ⟨rfl,o_3,k_3⟩;have D_3:=D_2.trans k_3;go_wp2_with fail
 refine Ru.hd hK (HS.out _ D_3) (fun hHeld=> ?_);clear hK K;refine Ru.rd2 9 (fun K hK=> ?_);refine Ru.stepM (by kernel_rfl) _ _ rl1 (w.heap.size+1+1) _ _ N N _ zV rl1 rl1 (HR.out _ D_3) ?_;have rE:=(HR.out _ D_3).row N N zV;have oE:=ai.aY o_3 (g:=w.heap.size+1+1) om1 (aj N N zV).toArray;have bE:=(b3.trans D_3).lJ (g:=w.heap.size+1+1) (aj N N zV).toArray om1;refine hK.out _ _ ?_;clear hK K;try simp only [Act.put,List.getElem_toArray,List.getElem_cons_zero,List.getElem_cons_succ,List.setIfInBounds_toArray,List.set_cons_zero,List.set_cons_succ]
 refine wpAny_done (by kernel_rfl) ?_ _;go_wp2_with fail
 have eO:(o||(q1||q2))=((o||q1)||q2):=by cases o<;>cases q1<;>rfl
 rw [← eO] at oE;exact bodyPost_ret (dS Tryz.results168 _ _ (w.heap.size+1+1) _ _ _ rfl rE) rfl ⟨rfl,oE,bE⟩
namespace Up
def nq(z:Nat->Int)(k:Nat):Nat->Int:=fun q=>if q%7=0/\q<7*k then max (z q) 0 else z q
theorem aad(z:Nat->Int)(q:Nat):z q=nq z 0 q:=by unfold nq;rw [if_neg om1]
theorem OE(z:Nat->Int)(k:Nat):nq z k (7*k)=z (7*k):=by unfold nq;rw [if_neg om1]
theorem x9(z:Nat->Int)(k q:Nat):(if q=7*k then max (z (7*k)) 0 else nq z k q)=nq z (k+1) q:=by
 unfold nq;by_cases e:q=7*k
 · subst e;rw [if_pos rfl,if_pos om1]
 · rw [if_neg e];by_cases c:q%7=0/\q<7*k
   · rw [if_pos c,if_pos om1]
   · rw [if_neg c,if_neg om1]
def nnF(F:Nat->Nat->Int):Nat->Nat->Int:=fun i j=>if i=j/\F i j<0 then 0 else F i j
theorem nq_end(F:Nat->Nat->Int):aj 6 6 (nq (mz 6 6 F) 6)=aj 6 6 (mz 6 6 (nnF F)):=by
 refine jJ fun k hk=> ?_;have e:=pI (n:=6) (c:=6) (F:=F) (i:=k/6) (j:=k%6) om1 om1;have e':=pI (n:=6) (c:=6) (F:=nnF F) (i:=k/6) (j:=k%6) om1 om1;rw [show k/6*6+k%6=k by omega] at e e';unfold nq;rw [e,e'];unfold nnF;by_cases c:k%7=0
 · have h:k/6=k%6:=om1;rw [if_pos ⟨c,om1⟩];by_cases d:F (k/6) (k%6)<0
   · rw [if_pos ⟨h,d⟩];omega
   · rw [if_neg (fun q=>d q.2)];omega
 · have h: ¬k/6=k%6:=om1;rw [if_neg (fun q=>c q.1),if_neg (fun q=>h q.1)]
end Up
theorem JO(F:Nat->Nat->Int)(w:World):
 Calls Tryz.prog 169 #[.agg (aj 6 6 (mz 6 6 F)).toArray] w fun e w'=>e= .returned (.agg (aj 6 6 (mz 6 6 (nnF F))).toArray)/\Below w.heap.size w w':=by
 rw [← nq_end];obtain⟨z,hz⟩: ∃ z,z=mz 6 6 F:=⟨_,rfl⟩;rw [← hz];clear hz;have r0:=(bJ w 6 6 z).alloc (.cells (aj 0 0 (fun _=>0)).toArray 53);have o0:=dR w (.cells (aj 6 6 z).toArray 53) 0 0 (fun _=>0);have B0:Below w.heap.size w ((w.alloc (.cells (aj 6 6 z).toArray 53)).alloc (.cells (aj 0 0 (fun _=>0)).toArray 53)):=af (af (Below.refl _ _) _) _;obtain⟨W,hW⟩: ∃ W,W=(w.alloc (.cells (aj 6 6 z).toArray 53)).alloc (.cells (aj 0 0 (fun _=>0)).toArray 53):=⟨_,rfl⟩;rw [← hW] at r0 o0 B0;have HW:=Ud.hide hW;clear hW;go_enter Tryz.func169,Tryz.ntmps169
 go_wp2_with (first|(rw [dY,← HW.out])|fail)
 go_loopw [4] (fun i wr=> ∃ k:Nat,k<=6/\i= .int .i64 (k:Int)/\dU wr w.heap.size 6 6 (nq z k)/\dU wr (w.heap.size+1) 0 0 (fun _=>0)/\Below w.heap.size w wr) (fun i _=>6- (intOf i).toNat)
 case atStart=>exact⟨0,om1,rfl,r0.congr (fun q _=>aad z q),o0,B0⟩
 case round=>
  obtain⟨k,hk,rfl,r1,o1,B1⟩:=hrel;by_cases h:k<6
  ·rcases(by omega:k=0\/k=1\/k=2\/k=3\/k=4\/k=5) with rfl|rfl|rfl|rfl|rfl|rfl
   ·have co:=r1.cell (k:=0) (o:=2) om1 rfl;rw [show nq z 0 0=z 0 from OE z 0] at co;have fz:=r1.free 2;obtain⟨N,hN⟩: ∃ N,max (z 0) 0=N:=⟨_,rfl⟩;have HN:Hid (max (z 0) 0=N):=hN;go_wp2;go_roundw
    case rel=>exact⟨1,om1,rfl,(r1.set 0 _ rfl).congr (fun q _=>by rw [← HN.out];exact x9 z 0 q),o1.other _ (by show w.heap.size+1≠w.heap.size;omega),B1.trans (Mt.lC B1.size (by show w.heap.size<=w.heap.size;omega) _)⟩
    case measure=>simp [intOf]
   ·have co:=r1.cell (k:=7) (o:=9) om1 rfl;rw [show nq z 1 7=z 7 from OE z 1] at co;have fz:=r1.free 9;obtain⟨N,hN⟩: ∃ N,max (z 7) 0=N:=⟨_,rfl⟩;have HN:Hid (max (z 7) 0=N):=hN;go_wp2;go_roundw
    case rel=>exact⟨2,om1,rfl,(r1.set 7 _ rfl).congr (fun q _=>by rw [← HN.out];exact x9 z 1 q),o1.other _ (by show w.heap.size+1≠w.heap.size;omega),B1.trans (Mt.lC B1.size (by show w.heap.size<=w.heap.size;omega) _)⟩
    case measure=>simp [intOf]
   ·have co:=r1.cell (k:=14) (o:=16) om1 rfl;rw [show nq z 2 14=z 14 from OE z 2] at co;have fz:=r1.free 16;obtain⟨N,hN⟩: ∃ N,max (z 14) 0=N:=⟨_,rfl⟩;have HN:Hid (max (z 14) 0=N):=hN;go_wp2;go_roundw
    case rel=>exact⟨3,om1,rfl,(r1.set 14 _ rfl).congr (fun q _=>by rw [← HN.out];exact x9 z 2 q),o1.other _ (by show w.heap.size+1≠w.heap.size;omega),B1.trans (Mt.lC B1.size (by show w.heap.size<=w.heap.size;omega) _)⟩
    case measure=>simp [intOf]
   ·have co:=r1.cell (k:=21) (o:=23) om1 rfl;rw [show nq z 3 21=z 21 from OE z 3] at co;have fz:=r1.free 23;obtain⟨N,hN⟩: ∃ N,max (z 21) 0=N:=⟨_,rfl⟩;have HN:Hid (max (z 21) 0=N):=hN;go_wp2;go_roundw
    case rel=>exact⟨4,om1,rfl,(r1.set 21 _ rfl).congr (fun q _=>by rw [← HN.out];exact x9 z 3 q),o1.other _ (by show w.heap.size+1≠w.heap.size;omega),B1.trans (Mt.lC B1.size (by show w.heap.size<=w.heap.size;omega) _)⟩
    case measure=>simp [intOf]
   ·have co:=r1.cell (k:=28) (o:=30) om1 rfl;rw [show nq z 4 28=z 28 from OE z 4] at co;have fz:=r1.free 30;obtain⟨N,hN⟩: ∃ N,max (z 28) 0=N:=⟨_,rfl⟩;have HN:Hid (max (z 28) 0=N):=hN;go_wp2;go_roundw
    case rel=>exact⟨5,om1,rfl,(r1.set 28 _ rfl).congr (fun q _=>by rw [← HN.out];exact x9 z 4 q),o1.other _ (by show w.heap.size+1≠w.heap.size;omega),B1.trans (Mt.lC B1.size (by show w.heap.size<=w.heap.size;omega) _)⟩
    case measure=>simp [intOf]
   ·have co:=r1.cell (k:=35) (o:=37) om1 rfl;rw [show nq z 5 35=z 35 from OE z 5] at co;have fz:=r1.free 37;obtain⟨N,hN⟩: ∃ N,max (z 35) 0=N:=⟨_,rfl⟩;have HN:Hid (max (z 35) 0=N):=hN;go_wp2;go_roundw
    case rel=>exact⟨6,om1,rfl,(r1.set 35 _ rfl).congr (fun q _=>by rw [← HN.out];exact x9 z 5 q),o1.other _ (by show w.heap.size+1≠w.heap.size;omega),B1.trans (Mt.lC B1.size (by show w.heap.size<=w.heap.size;omega) _)⟩
    case measure=>simp [intOf]
  ·obtain rfl:k=6:=om1
   go_wp2_with (first
    |(refine Hk.fP _ (by with_reducible rfl) _ _ _ _ rl1 (by with_reducible exact r1) (by kernel_rfl) ?_)
    |(refine aN rfl _ _ rl1 _ _ _ _ _ _ _ rl1 rl1 (by with_reducible exact o1) ?_)
    |fail)
   exact bodyPost_ret (dS Tryz.results169 _ _ (w.heap.size+1) _ _ _ rfl (o1.row _ _ _)) rfl ⟨rfl,Mt.aJ B1 om1 _⟩
namespace Up
theorem OG(b p:Nat)(w:World)(h1:p<36):
 (Instr.sliceAt 51 (.pointer (some ⟨b,2,none⟩)) (some (.int .i64 (p:Int))) none none).run Tryz.prog w= .ok (.slice (some ⟨b,p+2,none⟩) (36- p) (36- p)) w:=by
 rw [run_sliceAt_array_l w 51 _ Tryz.YZ .i64 _ om1 (by rw [Tryz.Pe];omega),Tryz.NK,iU,Tryz.Pe];simp only [Result.andThen_ok,slicedAt,Int.toNat_natCast,Nat.mul_one];rw [if_neg om1,Addr.add_lit,Nat.add_comm 2 p]
def gK(P L:Nat->Nat->Int)(d:Nat->Int):Nat->Nat->Int:=fun i=>VT 2 L d (v2 (P i 0) (P i 3))
def gO(P L:Nat->Nat->Int)(d:Nat->Int):Nat->Bool:=fun i=>UL 2 L d (v2 (P i 0) (P i 3))
theorem _root_.Go.Proofs.YtcefcokpjbebhaaGreatDoor.Ld.But.low{s go:Nat}{a b c:World}(h:But (· =s) a b)(k:But (fun q=>q=s\/go<=q) b c)(hg:a.heap.size<=go):But (· =s) a c:=
 ⟨k.os.trans h.os,k.tape.trans h.tape,k.output.trans h.output,Nat.le_trans h.size k.size,fun i hi hp=>(k.block i (Nat.lt_of_lt_of_le hi h.size) (fun q=>by rcases q with q|q;exact hp q;omega)).trans (h.block i hi hp)⟩
theorem Iq(o:Bool)(g:Nat->Bool)(k:Nat):(o||dN g (k+1))=((o||dN g k)||g k):=by
 show(o||(dN g k||g k))=_;rw [Bool.or_assoc]
end Up
theorem SY(s:Nat)(P L:Nat->Nat->Int)(d:Nat->Int)(o:Bool)(w:World)(h:jS w s o)(hm:vg 2 (mz 2 2 L) d)(bP:B2 P)(bL: ∀ a,B64 (L a)):
 Calls Tryz.prog 80 #[.pointer (some ⟨s,0,none⟩), .agg (aj 6 6 (mz 6 6 P)).toArray, .agg (fB 2 (mz 2 2 L) d).toArray] w fun e w'=>e= .returned (.agg (aj 6 2 (mz 6 2 (gK P L d))).toArray)/\jS w' s (o||dN (gO P L d) 6)/\But (· =s) w w':=by
 have hs:=ai.lt h;have HA0:=Ud.hide (fun k (hk:k<6) g W (q:dU W g 6 6 (mz 6 6 P))=>pY g 6 6 k 0 P W q om1 om1 om1 om1 hk om1);have HA3:=Ud.hide (fun k (hk:k<6) g W (q:dU W g 6 6 (mz 6 6 P))=>pY g 6 6 k 3 P W q om1 om1 om1 om1 hk om1);have HSol:Hid (∀ k g W,Sl W (some ⟨g,0,none⟩) 2 2 (v2 (P k 0) (P k 3))->Calls Tryz.prog 165 #[.agg (fB 2 (mz 2 2 L) d).toArray, .slice (some ⟨g,0,none⟩) 2 2] W fun e w'=> ∃ b,e= .returned (.tuple #[.slice (some ⟨b,0,none⟩) 2 2, .bool (gO P L d k), .nilIface])/\W.heap.size<=b/\Sl w' (some ⟨b,0,none⟩) 2 2 (gK P L d k)/\Below W.heap.size W w'):=fun k g W q=>Oo 2 (some ⟨g,0,none⟩) 2 (v2 (P k 0) (P k 3)) L d W hm q (v2_b (bP k 0) (bP k 3)) bL;have HT:=Ud.hide (fun W=>JL 6 6 (mz 6 6 P) W);obtain⟨z,hz⟩: ∃ z,z=mz 6 6 P:=⟨_,rfl⟩;obtain⟨zL,hzL⟩: ∃ z,z=mz 2 2 L:=⟨_,rfl⟩;rw [← hz] at HA0 HA3 HT;rw [← hzL] at HSol;rw [← hz,← hzL];clear hz hzL hm bP bL;have t0:=((bJ w 6 6 z).alloc (.cells (fB 2 zL d).toArray 161)).alloc (.cells (aj 0 0 (fun _=>0)).toArray 53);have m0:=(bU w (.cells (aj 6 6 z).toArray 53) 161 (fB 2 zL d)).alloc (.cells (aj 0 0 (fun _=>0)).toArray 53);have r0:=jE w (.cells (aj 6 6 z).toArray 53) (.cells (fB 2 zL d).toArray 161) 0 0 (fun _=>0);have B0:Below w.heap.size w (((w.alloc (.cells (aj 6 6 z).toArray 53)).alloc (.cells (fB 2 zL d).toArray 161)).alloc (.cells (aj 0 0 (fun _=>0)).toArray 53)):=af (af (af (Below.refl _ _) _) _) _;obtain⟨W,hW⟩: ∃ W,W=((w.alloc (.cells (aj 6 6 z).toArray 53)).alloc (.cells (fB 2 zL d).toArray 161)).alloc (.cells (aj 0 0 (fun _=>0)).toArray 53):=⟨_,rfl⟩;rw [← hW] at t0 m0 r0 B0;have HW:=Ud.hide hW;have lr:=r0.lt;have s0:=ai.keep h B0;have b0:But (· =s) w W:=jb B0;clear hW h B0;go_enter Tryz.func80,Tryz.ntmps80
 go_wp2_with (first
  |(rw [dY,← HW.out];refine Hk.fP _ (by with_reducible rfl) _ _ _ _ rl1 (by with_reducible exact t0) (by kernel_rfl) ?_)
  |fail)
 refine(HT.out _).mono ?_;rintro e w1 ⟨rfl,q1,k1⟩;have lq:=q1.lt;have m1:=ai.keep m0 k1;have r1:=r0.keep k1;have s1:=ai.keep s0 k1;have b1:=b0.then k1;have ls1:=b1.size;obtain⟨g,hg⟩: ∃ g,g=W.heap.size:=⟨_,rfl⟩;rw [← hg] at q1 lq lr;have HG:=Ud.hide hg;clear hg HW HT t0 m0 r0 s0 b0 k1
 go_wp2_with (first
  |(rw [← HG.out])
  |(refine jW rfl _ _ rl1 _ _ rl1 rl1 ?_)
  |(rw [dY];refine Mt.aF rfl _ _ rl1 _ _ _ _ rl1 rl1 ?_;intro w2 n2 k2)
  |fail)
 have q2:=q1.keep k2;have m2:=ai.keep m1 k2;have r2:=r1.keep k2;have s2:=ai.keep s1 k2;have b2:=b1.then k2;obtain⟨go,hgo⟩: ∃ g,g=w1.heap.size:=⟨_,rfl⟩;rw [← hgo] at n2 lq ⊢;have lgo:s<go:=om1;have lgw:w.heap.size+1+1<go:=om1;clear hgo q1 m1 r1 s1 b1 k2 HG;go_loopw [14] (fun i wr=> ∃ k:Nat,k<=6/\i= .int .i64 (k:Int)/\dU wr go 6 2 (mP 2 (gK P L d) (k*2))/\jS wr s (o||dN (gO P L d) k)/\But (fun q=>q=s\/go<=q) w2 wr) (fun i _=>6- (intOf i).toNat)
 case atStart=>exact⟨0,om1,rfl,n2.congr (fun q _=>by rw [Nat.zero_mul,xJ]),by show jS w2 s (o||false);rw [Bool.or_false];exact s2,But.refl _ _⟩
 case round=>
  rename World=>wr;obtain⟨k,hk,rfl,nr,sr,br⟩:=hrel;by_cases h:k<6
  ·have HS:Hid (∀ V,But (· =s) wr V->(dU V g 6 6 z/\ai V (w.heap.size+1) 161 (fB 2 zL d))):=fun V k'=>
    ⟨Pd.dE (Pd.dE q2 br om1) k' om1,aT (aT m2 br om1) k' om1⟩
   have A0:=Ud.hide (HA0.out k h);have A3:=Ud.hide (HA3.out k h);have HSk:=Ud.hide (HSol.out k);have HO:Hid ((o||dN (gO P L d) (k+1))=((o||dN (gO P L d) k)||gO P L d k)):=Iq o _ k;obtain⟨p0,hp0⟩: ∃ z,z=P k 0:=⟨_,rfl⟩;obtain⟨p3,hp3⟩: ∃ z,z=P k 3:=⟨_,rfl⟩;obtain⟨qk,hqk⟩: ∃ z,z=gO P L d k:=⟨_,rfl⟩;obtain⟨ok,hok⟩: ∃ z,z=(o||dN (gO P L d) k):=⟨_,rfl⟩;rw [← hp0] at A0 HSk;rw [← hp3] at A3 HSk;rw [← hqk] at HSk HO;rw [← hok] at sr HO;have lsr:=br.size;have l2g:=n2.lt;clear hp0 hp3 hqk hok;obtain⟨p,hp⟩: ∃ p:Nat,p=k*2:=⟨_,rfl⟩;have hpi:(k:Int)*2=(p:Int):=om1;have hsl: ∀ V,(Instr.sliceAt 51 (.pointer (some ⟨go,2,none⟩)) (some (.int .i64 (p:Int))) none none).run Tryz.prog V= .ok (.slice (some ⟨go,p+2,none⟩) (36- p) (36- p)) V:=fun V=>OG go p V om1;rw [← hp] at nr;have hp10:p<=10:=om1;have HP:=Ud.hide hp;clear hp;go_upto_region 6 with fail
   refine Ru.aS [] (fun w'=>dU w' g 6 6 z/\ai w' (w.heap.size+1) 161 (fB 2 zL d)) (by kernel_rfl) (HS.out _ ((But.refl (· =s) wr).drew)) (fun hHeld=> ?_);refine Ru.tk2 0 (.pointer (some ⟨s,0,none⟩)) hHeld ?_;refine Ru.tk 1 (.agg (fB 2 zL d).toArray) rfl (Ru.fF isF (by kernel_rfl) _ rl1 (w.heap.size+1) _ rl1 (fun w h=>h.2) (dM _ _ _)) hHeld ?_;refine Ru.tk2 2 (atF g) hHeld ?_;refine Ru.tk2 3 (.int .i64 (k:Int)) hHeld ?_;refine Ru.tk2 5 (atF g) hHeld ?_;refine Ru.tk2 6 (.int .i64 (k:Int)) hHeld ?_;refine Ru.rd 4 (fun K hK=> ?_);go_simp;refine(A0.out g _ (HS.out _ ((But.refl (· =s) wr).drew)).1).mono ?_;rintro e v_1 ⟨rfl,k_1⟩;have D_1:=((But.refl (· =s) wr).drew).then k_1
   have o_1:=ai.keep (ai.drew sr) k_1;go_wp2_with fail
   refine Ru.hd hK (HS.out _ D_1) (fun hHeld=> ?_);clear hK K;refine Ru.rd 7 (fun K hK=> ?_);go_simp;refine(A3.out g _ (HS.out _ D_1).1).mono ?_;rintro e v_2 ⟨rfl,k_2⟩;have D_2:=D_1.then k_2;have o_2:=ai.keep o_1 k_2;go_wp2_with fail
   refine Ru.hd hK (HS.out _ D_2) (fun hHeld=> ?_);clear hK K;refine Ru.rd 8 (fun K hK=> ?_);go_simp;have x_3:ai (v_2.alloc (.cells #[.int .i64 p0, .int .i64 p3] 2)) v_2.heap.size 2 (vals 2 (v2 p0 p3)):=aH v_2 2 (vals 2 (v2 p0 p3));have k_3:=af (Below.refl _ v_2) (.cells #[.int .i64 p0, .int .i64 p3] 2);have D_3:=D_2.then k_3;have o_3:=ai.keep o_2 k_3;have y_3:=Ud.iF x_3 om1;have z_3:=D_2.size;refine Ru.hd hK (HS.out _ D_3) (fun hHeld=> ?_);clear hK K;refine Ru.rd 9 (fun K hK=> ?_);go_simp;refine(HSk.out _ _ y_3).mono ?_;rintro e v_4 ⟨bk,rfl,hb_4,sK_4,k_4⟩;have D_4:=D_3.then k_4;have o_4:=ai.keep o_3 k_4;go_wp2_with fail
   refine Ru.hd hK (HS.out _ D_4) (fun hHeld=> ?_);clear hK K;refine Ru.tk2 10 (.slice (some ⟨bk,0,none⟩) 2 2) hHeld ?_;refine Ru.tk2 11 (.bool qk) hHeld ?_;refine Ru.tk2 12 (.nilIface) hHeld ?_;refine Ru.rd 13 (fun K hK=> ?_);go_simp;refine(yF s (some ⟨bk,0,none⟩) 2 2 _ qk _ _ o_4).mono ?_;rintro e v_5 ⟨rfl,o_5,k_5⟩;have D_5:=D_4.trans k_5;have sL:=lK sK_4 k_5 (fun x hx=>by cases hx;have:=hb_4;have:=D_3.size;show ¬bk=s;omega);go_wp2_with fail
   refine Ru.hd hK (HS.out _ D_5) (fun hHeld=> ?_);clear hK K;refine Ru.tk2 14 (.slice (some ⟨bk,0,none⟩) 2 2) hHeld ?_;refine Ru.bI (by kernel_rfl) ?_;have n5:=Pd.dE nr D_5 om1;have b5:=br.trans (But.mono D_5 (fun q e=>Or.inl e));have o5:=o_5;rw [← HO.out] at o5;obtain⟨Y,hY⟩: ∃ Y,Y=vals 2 (gK P L d k):=⟨_,rfl⟩;obtain⟨X,hX⟩: ∃ X,X=aj 6 2 (mP 2 (gK P L d) p):=⟨_,rfl⟩;obtain⟨w5,hw5⟩: ∃ V,V=v_5:=⟨_,rfl⟩;rw [← hw5] at n5 b5 o5 sL ⊢;have hg3:Hid (w5.heap[go]?=some (.cells X.toArray 53 (0,0))):=by rw [hX];exact n5
   have HY:=Ud.hide hY;have HX:=Ud.hide hX;have SL:=Ud.hide sL;have O5:=Ud.hide o5;have B5:=Ud.hide b5;clear hY hX hw5 nr sr br n5 b5 o5 sL A0 A3 HSk HS;clear D_1 D_2 D_3 D_4 D_5
   go_wp2_with (first
    |(refine wpList_copy_splice rfl _ _ 27 27 rl1 2 Tryz.underlying27 qK _ _ _ _ _ _ rl1 rl1 go (p+2) X 53 hg3.out Y (by rw [HY.out,aK];exact(Nat.min_eq_left om1).symm) (fun h0=>⟨rfl,by rw [HY.out] at h0 ⊢;exact Sl.src SL.out (by rwa [aK] at h0)⟩) (by rw [HY.out,HX.out,aK,dG];omega) (by rw [HY.out];exact fK 2 _) go w5 (Below.refl _ _) (Nat.le_refl _) ?_)
    |fail)
   intro w6 hw6 hB6
   have n6:dU w6 go 6 2 (mP 2 (gK P L d) ((k+1)*2)):=by
    have e:=hw6.out;rw [HY.out,HX.out,qL _ _ _ _ p 2 om1] at e;exact(show dU w6 go 6 2 _ from e).congr (fun i _=>by rw [HP.out];exact GL i)
   have b56:But (fun q=>q=s\/go<=q) w5 w6:=⟨hB6.os,hB6.tape,hB6.output,hB6.size,fun i hi hn=>by
    exact hB6.block i om1⟩
   have o6:jS w6 s (o||dN (gO P L d) (k+1)):=by
    unfold jS ai;rw [hB6.block _ lgo];exact O5.out
   clear hw6 hB6;go_wp2;go_roundw
   case rel=>exact⟨k+1,om1,by go_num,n6,o6,B5.out.trans b56⟩
   case measure=>simp [intOf];omega
  ·obtain rfl:k=6:=om1;have rr:=Pd.dE r2 br om1;have bw:But (· =s) w wr:=b2.low br om1;have nz:dU wr go 6 2 (mz 6 2 (gK P L d)):=nr;clear nr br q2 m2 r2 b2
   go_wp2_with (first
    |(refine Hk.fP _ (by with_reducible rfl) _ _ _ _ rl1 (by with_reducible exact nz) (by kernel_rfl) ?_)
    |(refine aN rfl _ _ rl1 _ _ _ _ _ _ _ rl1 rl1 (by with_reducible exact rr) ?_)
    |fail)
   exact bodyPost_ret (dS Tryz.results80 _ _ (w.heap.size+1+1) _ _ _ rfl (rr.row _ _ _)) rfl ⟨rfl,ai.aY sr om1 _,bw.lJ _ om1⟩
end
section
open Go.RowKit Vc St Mt Pr Qn Ud Up Ld
attribute [local go_sem ↓] Go.wp_at_zero Go.wp_at_succ
namespace Up
def bF(K:Nat->Nat->Int):Nat->Nat->Int:=fun i j=>if j=0 then clamp (lF i 0- K i 0) else if j=3 then clamp (lF i 3- K i 1) else lF i j
def bG(K:Nat->Nat->Int)(i:Nat):Bool:=great (lF i 0- K i 0)||great (lF i 3- K i 1)
def bk(K:Nat->Nat->Int)(k:Nat):Nat->Nat->Int:=fun i j=>if i<k then bF K i j else lF i j
theorem MI{F:Nat->Nat->Int}{q:Nat}(h:q<36):mz 6 6 F q=F (q/6) (q%6):=by
 have e:=pI (n:=6) (c:=6) (F:=F) (i:=q/6) (j:=q%6) om1 om1;rwa [show q/6*6+q%6=q by omega] at e
theorem aae(K:Nat->Nat->Int):mz 6 6 (bk K 0)=mz 6 6 lF:=by
 funext q;exact pJ (fun i j _ _=>by unfold bk;rw [if_neg om1]) q
theorem bk_end(K:Nat->Nat->Int):mz 6 6 (bk K 6)=mz 6 6 (bF K):=by
 funext q;exact pJ (fun i j hi _=>by unfold bk;rw [if_pos hi]) q
theorem aaf(K:Nat->Nat->Int){k q:Nat}(hk:k<6)(hq:q<36):(if q=k*6+3 then clamp (lF k 3- K k 1) else if q=k*6 then clamp (lF k 0- K k 0) else mz 6 6 (bk K k) q)=mz 6 6 (bk K (k+1)) q:=by
 rw [MI hq,MI hq];by_cases e3:q=k*6+3
 · rw [if_pos e3];unfold bk bF;rw [show q/6=k by omega,show q%6=3 by omega,if_pos om1,if_neg om1,if_pos rfl]
 · rw [if_neg e3];by_cases e0:q=k*6
   · rw [if_pos e0];unfold bk bF;rw [show q/6=k by omega,show q%6=0 by omega,if_pos om1,if_pos rfl]
   · rw [if_neg e0];unfold bk;by_cases c:q/6<k
     · rw [if_pos c,if_pos om1]
     · rw [if_neg c];by_cases c2:q/6=k
       · rw [if_pos om1];unfold bF;rw [if_neg om1,if_neg om1]
       · rw [if_neg om1]
theorem V7(b p q e:Nat)(w:World)(h1:p<36)(h2:q=p+6)(h3:q<=36)(h4:e=p+2):
 (Instr.sliceAt 51 (.pointer (some ⟨b,2,none⟩)) (some (.int .i64 (p:Int))) (some (.int .i64 (q:Int))) none).run Tryz.prog w= .ok (.slice (some ⟨b,e,none⟩) 6 (36- p)) w:=by
 rw [Gz b p q w h1 om1 h3,h4,show q- p=6 by omega]
end Up
theorem Tc(s:Nat)(K:Nat->Nat->Int)(o:Bool)(w:World)(h:jS w s o)(bK:B2 K):
 Calls Tryz.prog 167 #[.pointer (some ⟨s,0,none⟩), .agg (aj 6 2 (mz 6 2 K)).toArray] w fun e w'=>e= .returned (.agg (aj 6 6 (mz 6 6 (bF K))).toArray)/\jS w' s (o||dN (bG K) 6)/\But (· =s) w w':=by
 have hs:=ai.lt h;have HA0:=Ud.hide (fun k (hk:k<6) g W (q:dU W g 6 2 (mz 6 2 K))=>pY g 6 2 k 0 K W q om1 om1 om1 om1 hk om1);have HA1:=Ud.hide (fun k (hk:k<6) g W (q:dU W g 6 2 (mz 6 2 K))=>pY g 6 2 k 1 K W q om1 om1 om1 om1 hk om1);have HT:=Ud.hide (fun W=>JL 6 2 (mz 6 2 K) W);have HY:=Ud.hide (fun W=>Vm 6 W om1 om1);have HB:=Ud.hide (fun k W=>nU (lF k 0) (K k 0) W (Dl k 0).1 (Dl k 0).2 (bK k 0).1 (bK k 0).2);have HC:=Ud.hide (fun k W=>nU (lF k 3) (K k 1) W (Dl k 3).1 (Dl k 3).2 (bK k 1).1 (bK k 1).2);obtain⟨z,hz⟩: ∃ z,z=mz 6 2 K:=⟨_,rfl⟩;obtain⟨zE,hzE⟩: ∃ z,z=mz 6 6 lF:=⟨_,rfl⟩;rw [← hz] at HA0 HA1 HT;rw [← hzE] at HY;rw [← hz];have HZ0:Hid (mz 6 6 (bk K 0)=zE):=by rw [hzE];exact aae K
 clear hz hzE bK;have t0:=(bJ w 6 2 z).alloc (.cells (aj 0 0 (fun _=>0)).toArray 53);have r0:=dR w (.cells (aj 6 2 z).toArray 53) 0 0 (fun _=>0);have B0:Below w.heap.size w ((w.alloc (.cells (aj 6 2 z).toArray 53)).alloc (.cells (aj 0 0 (fun _=>0)).toArray 53)):=af (af (Below.refl _ _) _) _;obtain⟨W,hW⟩: ∃ W,W=(w.alloc (.cells (aj 6 2 z).toArray 53)).alloc (.cells (aj 0 0 (fun _=>0)).toArray 53):=⟨_,rfl⟩;rw [← hW] at t0 r0 B0;have HW:=Ud.hide hW;have lr:=r0.lt;have s0:=ai.keep h B0;have b0:But (· =s) w W:=jb B0;clear hW h B0;go_enter Tryz.func167,Tryz.ntmps167
 go_wp2_with (first
  |(rw [dY,← HW.out];refine Hk.fP _ (by with_reducible rfl) _ _ _ _ rl1 (by with_reducible exact t0) (by kernel_rfl) ?_)
  |fail)
 refine(HT.out _).mono ?_;rintro e w1 ⟨rfl,q1,k1⟩;have lq:=q1.lt;have r1:=r0.keep k1;have s1:=ai.keep s0 k1;have b1:=b0.then k1;obtain⟨g,hg⟩: ∃ g,g=W.heap.size:=⟨_,rfl⟩;rw [← hg] at q1 lq lr;have HG:=Ud.hide hg;clear hg HW HT t0 r0 s0 b0 k1;go_wp2_with (first|(rw [← HG.out])|fail)
 refine(HY.out _).mono ?_;rintro e w2 ⟨rfl,k2⟩;have q2:=q1.keep k2;have r2:=r1.keep k2;have s2:=ai.keep s1 k2;have b2:=b1.then k2;have l2:=k2.size;have ls2:=b2.size;clear q1 r1 s1 b1 k2
 go_wp2_with (first
  |(rw [dY];refine Mt.aF rfl _ _ rl1 _ _ _ _ rl1 rl1 ?_;intro w3 n3 k3)
  |fail)
 have q3:=q2.keep k3;have r3:=r2.keep k3;have s3:=ai.keep s2 k3;have b3:=b2.then k3;obtain⟨go,hgo⟩: ∃ g,g=w2.heap.size:=⟨_,rfl⟩;rw [← hgo] at n3 l2 ls2 ⊢;have lgo:s<go:=om1;have lgg:g<go:=om1;have lgw:w.heap.size+1<go:=om1;clear hgo q2 r2 s2 b2 k3 HG;go_loopw [16] (fun i wr=> ∃ k:Nat,k<=6/\i= .int .i64 (k:Int)/\dU wr go 6 6 (mz 6 6 (bk K k))/\jS wr s (o||dN (bG K) k)/\But (fun q=>q=s\/go<=q) w3 wr) (fun i _=>6- (intOf i).toNat)
 case atStart=>exact⟨0,om1,rfl,by rw [HZ0.out];exact n3,by show jS w3 s (o||false);rw [Bool.or_false];exact s3,But.refl _ _⟩
 case round=>
  rename World=>wr;obtain⟨k,hk,rfl,nr,sr,br⟩:=hrel;by_cases h:k<6
  ·have A0:=Ud.hide (HA0.out k h);have A1:=Ud.hide (HA1.out k h);have H0:=Ud.hide (HB.out k);have H3:=Ud.hide (HC.out k)
   have HO:Hid ((o||dN (bG K) (k+1))=(((o||dN (bG K) k)||great (lF k 0- K k 0))||great (lF k 3- K k 1))):=by
    show(o||(dN (bG K) k||(great (lF k 0- K k 0)||great (lF k 3- K k 1))))=_;rw [Bool.or_assoc,Bool.or_assoc]
   have HN:Hid (∀ q,q<36->(if q=k*6+3 then clamp (lF k 3- K k 1) else if q=k*6 then clamp (lF k 0- K k 0) else mz 6 6 (bk K k) q)=mz 6 6 (bk K (k+1)) q):=fun q hq=>aaf K h hq;obtain⟨p,hp⟩: ∃ p:Nat,p=k*6:=⟨_,rfl⟩;obtain⟨q,hq⟩: ∃ q:Nat,q=p+6:=⟨_,rfl⟩;obtain⟨e,he⟩: ∃ e:Nat,e=p+2:=⟨_,rfl⟩;have hpi:(k:Int)*6=(p:Int):=om1;have hqi:((k:Int)+1)*6=(q:Int):=om1;have hsl: ∀ V,(Instr.sliceAt 51 (.pointer (some ⟨go,2,none⟩)) (some (.int .i64 (p:Int))) (some (.int .i64 (q:Int))) none).run Tryz.prog V= .ok (.slice (some ⟨go,e,none⟩) 6 (36- p)) V:=fun V=>V7 go p q e V om1 hq om1 he;have e0:mz 6 6 (bk K k) p=lF k 0:=by rw [MI om1,show p/6=k by omega,show p%6=0 by omega];unfold bk;rw [if_neg om1]
   have e3:mz 6 6 (bk K k) (p+3)=lF k 3:=by rw [MI om1,show(p+3)/6=k by omega,show(p+3)%6=3 by omega];unfold bk;rw [if_neg om1]
   rw [← hp] at HN;have hp30:p<=30:=om1;obtain⟨zk,hzk⟩: ∃ z,z=mz 6 6 (bk K k):=⟨_,rfl⟩;rw [← hzk] at nr HN e0 e3;obtain⟨E0,hE0⟩: ∃ z,z=lF k 0:=⟨_,rfl⟩;obtain⟨E3,hE3⟩: ∃ z,z=lF k 3:=⟨_,rfl⟩;obtain⟨k0,hk0⟩: ∃ z,z=K k 0:=⟨_,rfl⟩;obtain⟨k1,hk1⟩: ∃ z,z=K k 1:=⟨_,rfl⟩;rw [← hE0] at H0 HO HN e0;rw [← hE3] at H3 HO HN e3;rw [← hk0] at A0 H0 HO HN;rw [← hk1] at A1 H3 HO HN;obtain⟨y0,hy0⟩: ∃ z,z=clamp (E0- k0):=⟨_,rfl⟩;obtain⟨y3,hy3⟩: ∃ z,z=clamp (E3- k1):=⟨_,rfl⟩;obtain⟨g0,hg0⟩: ∃ z,z=great (E0- k0):=⟨_,rfl⟩;obtain⟨g3,hg3⟩: ∃ z,z=great (E3- k1):=⟨_,rfl⟩;rw [← hy0,← hg0] at H0;rw [← hy3,← hg3] at H3;rw [← hg0,← hg3] at HO;rw [← hy0,← hy3] at HN;obtain⟨ok,hok⟩: ∃ z,z=(o||dN (bG K) k):=⟨_,rfl⟩;rw [← hok] at sr HO;have HE:=Ud.hide he;have ce0:wr.cell? ⟨go,e,none⟩=some (.int .i64 E0):=by rw [← e0];exact nr.cell om1 he
   have ce3:wr.cell? ⟨go,e+3,none⟩=some (.int .i64 E3):=by rw [← e3];exact nr.cell om1 om1
   have HS:Hid (∀ V,But (· =s) wr V->(dU V g 6 2 z/\V.cell? ⟨go,e,none⟩=some (.int .i64 E0))):=fun V k'=>
    ⟨Pd.dE (Pd.dE q3 br om1) k' om1,k'.cell ce0 (by show ¬go=s;omega)⟩
   have lgr:=nr.lt;clear hp hq he hE0 hE3 hk0 hk1 hy0 hy3 hg0 hg3 hok hzk e0 e3 ce0;go_upto_region 7 with fail
   refine Ru.aS [13] (fun w'=>dU w' g 6 2 z/\w'.cell? ⟨go,e,none⟩=some (.int .i64 E0)) (by kernel_rfl) (HS.out _ ((But.refl (· =s) wr).drew)) (fun hHeld=> ?_);refine Ru.tk2 0 (.slice (some ⟨go,e,none⟩) 6 (36- p)) hHeld ?_;refine Ru.tk2 1 (.pointer (some ⟨s,0,none⟩)) hHeld ?_;refine Ru.tk2 2 (.slice (some ⟨go,e,none⟩) 6 (36- p)) hHeld ?_;refine Ru.tk2 3 (.pointer (some ⟨go,e,none⟩)) hHeld ?_;refine Ru.tk2 4 (.int .i64 E0) hHeld ?_;refine Ru.tk2 5 (atF g) hHeld ?_;refine Ru.tk2 6 (.int .i64 (k:Int)) hHeld ?_;refine Ru.rd 7 (fun K hK=> ?_);go_simp;refine(A0.out g _ (HS.out _ ((But.refl (· =s) wr).drew)).1).mono ?_;rintro e v_a1 ⟨rfl,k_a1⟩;have D_a1:=((But.refl (· =s) wr).drew).then k_a1
   have o_a1:=ai.keep (ai.drew sr) k_a1;go_wp2_with fail
   refine Ru.hd hK (HS.out _ D_a1) (fun hHeld=> ?_);clear hK K;refine Ru.rd 8 (fun K hK=> ?_);go_simp;refine(H0.out _).mono ?_;rintro e v_a2 ⟨rfl,k_a2⟩;have D_a2:=D_a1.then k_a2;have o_a2:=ai.keep o_a1 k_a2;go_wp2_with fail
   refine Ru.hd hK (HS.out _ D_a2) (fun hHeld=> ?_);clear hK K;refine Ru.tk2 9 (.int .i64 y0) hHeld ?_;refine Ru.tk2 10 (.bool g0) hHeld ?_;refine Ru.rd 11 (fun K hK=> ?_);go_simp;refine(jq s y0 _ g0 _ o_a2).mono ?_;rintro e v_a3 ⟨rfl,o_a3,k_a3⟩;have D_a3:=D_a2.trans k_a3;go_wp2_with fail
   refine Ru.hd hK (HS.out _ D_a3) (fun hHeld=> ?_);clear hK K;refine Ru.tk2 12 (.pointer (some ⟨go,e,none⟩)) hHeld ?_;have cS:=(HS.out _ D_a3).2;have nS:=Pd.dE nr D_a3 om1;have fS:=nS.free e;refine Ru.rd2 13 (fun K hK=> ?_);go_simp;refine hK.out _ _ ?_;clear hK K;try simp only [Act.put,List.getElem_toArray,List.getElem_cons_zero,List.getElem_cons_succ,List.setIfInBounds_toArray,List.set_cons_zero,List.set_cons_succ]
   refine wpAny_done (by kernel_rfl) ?_ _;have n5:=nS.set p y0 HE.out;have o5:jS (v_a3.setCell ⟨go,e,none⟩ (.int .i64 y0)) s (ok||g0):=ai.other o_a3 _ (by show s≠go;omega);have b5:But (fun q=>q=s\/go<=q) w3 (v_a3.setCell ⟨go,e,none⟩ (.int .i64 y0)):=(br.trans (But.mono D_a3 (fun q e=>Or.inl e))).set (p:=⟨go,e,none⟩) _ (Or.inr (Nat.le_refl _))
   have c5:(v_a3.setCell ⟨go,e,none⟩ (.int .i64 y0)).cell? ⟨go,e+3,none⟩=some (.int .i64 E3):=by
    have hh:=n5.cell (k:=p+3) (o:=e+3) om1 (by have:=HE.out;omega);rw [if_neg om1] at hh;have h2:=nr.cell (k:=p+3) (o:=e+3) om1 (by have:=HE.out;omega);rw [ce3] at h2;rw [hh];exact h2.symm
   obtain⟨w5,hw5⟩: ∃ V,V=v_a3.setCell ⟨go,e,none⟩ (.int .i64 y0):=⟨_,rfl⟩;rw [← hw5] at n5 o5 b5 c5 ⊢
   have HS5:Hid (∀ V,But (· =s) w5 V->(dU V g 6 2 z/\V.cell? ⟨go,e+3,none⟩=some (.int .i64 E3))):=fun V k'=>
    ⟨Pd.dE (Pd.dE q3 b5 om1) k' om1,k'.cell c5 (by show ¬go=s;omega)⟩
   clear hw5 nS cS fS nr sr br ce3 c5 HS A0 H0;clear D_a1 D_a2 D_a3;go_upto_region 8 with fail
   refine Ru.aS [13] (fun w'=>dU w' g 6 2 z/\w'.cell? ⟨go,e+3,none⟩=some (.int .i64 E3)) (by kernel_rfl) (HS5.out _ ((But.refl (· =s) w5).drew)) (fun hHeld=> ?_);refine Ru.tk2 0 (.slice (some ⟨go,e,none⟩) 6 (36- p)) hHeld ?_;refine Ru.tk2 1 (.pointer (some ⟨s,0,none⟩)) hHeld ?_;refine Ru.tk2 2 (.slice (some ⟨go,e,none⟩) 6 (36- p)) hHeld ?_;refine Ru.tk2 3 (.pointer (some ⟨go,e+3,none⟩)) hHeld ?_;refine Ru.tk2 4 (.int .i64 E3) hHeld ?_;refine Ru.tk2 5 (atF g) hHeld ?_;refine Ru.tk2 6 (.int .i64 (k:Int)) hHeld ?_;refine Ru.rd 7 (fun K hK=> ?_);go_simp;refine(A1.out g _ (HS5.out _ ((But.refl (· =s) w5).drew)).1).mono ?_;rintro e v_b1 ⟨rfl,k_b1⟩;have D_b1:=((But.refl (· =s) w5).drew).then k_b1
   have o_b1:=ai.keep (ai.drew o5) k_b1;go_wp2_with fail
   refine Ru.hd hK (HS5.out _ D_b1) (fun hHeld=> ?_);clear hK K;refine Ru.rd 8 (fun K hK=> ?_);go_simp;refine(H3.out _).mono ?_;rintro e v_b2 ⟨rfl,k_b2⟩;have D_b2:=D_b1.then k_b2;have o_b2:=ai.keep o_b1 k_b2;go_wp2_with fail
   refine Ru.hd hK (HS5.out _ D_b2) (fun hHeld=> ?_);clear hK K;refine Ru.tk2 9 (.int .i64 y3) hHeld ?_;refine Ru.tk2 10 (.bool g3) hHeld ?_;refine Ru.rd 11 (fun K hK=> ?_);go_simp;refine(jq s y3 _ g3 _ o_b2).mono ?_;rintro e v_b3 ⟨rfl,o_b3,k_b3⟩;have D_b3:=D_b2.trans k_b3;go_wp2_with fail
   refine Ru.hd hK (HS5.out _ D_b3) (fun hHeld=> ?_);clear hK K;refine Ru.tk2 12 (.pointer (some ⟨go,e+3,none⟩)) hHeld ?_;have cS:=(HS5.out _ D_b3).2;have nS:=Pd.dE n5 D_b3 om1;have fS:=nS.free (e+3);refine Ru.rd2 13 (fun K hK=> ?_);go_simp;refine hK.out _ _ ?_;clear hK K;try simp only [Act.put,List.getElem_toArray,List.getElem_cons_zero,List.getElem_cons_succ,List.setIfInBounds_toArray,List.set_cons_zero,List.set_cons_succ]
   refine wpAny_done (by kernel_rfl) ?_ _;have n6:=(nS.set (p+3) y3 (o:=e+3) (by have:=HE.out;omega)).congr (fun q hq=>HN.out q hq);have o6:jS (v_b3.setCell ⟨go,e+3,none⟩ (.int .i64 y3)) s ((ok||g0)||g3):=ai.other o_b3 _ (by show s≠go;omega);rw [← HO.out] at o6;have b6:But (fun q=>q=s\/go<=q) w3 (v_b3.setCell ⟨go,e+3,none⟩ (.int .i64 y3)):=(b5.trans (But.mono D_b3 (fun q e=>Or.inl e))).set (p:=⟨go,e+3,none⟩) _ (Or.inr (Nat.le_refl _));go_wp2;go_roundw
   case rel=>exact⟨k+1,om1,by go_num,n6,o6,b6⟩
   case measure=>simp [intOf];omega
  ·obtain rfl:k=6:=om1;have rr:=Pd.dE r3 br om1;have bw:But (· =s) w wr:=b3.low br om1;have nz:dU wr go 6 6 (mz 6 6 (bF K)):=by rw [← bk_end];exact nr
   clear nr br q3 r3 b3
   go_wp2_with (first
    |(refine Hk.fP _ (by with_reducible rfl) _ _ _ _ rl1 (by with_reducible exact nz) (by kernel_rfl) ?_)
    |(refine aN rfl _ _ rl1 _ _ _ _ _ _ _ rl1 rl1 (by with_reducible exact rr) ?_)
    |fail)
   exact bodyPost_ret (dS Tryz.results167 _ _ (w.heap.size+1) _ _ _ rfl (rr.row _ _ _)) rfl ⟨rfl,ai.aY sr om1 _,bw.lJ _ om1⟩
namespace Up
theorem is6':Is 50 6:=⟨by kernel_rfl,⟨_,Tryz.underlying50,rfl⟩⟩
theorem all2(g:Nat)(w:World):(Instr.sliceAt 159 (.pointer (some ⟨g,0,none⟩)) none none none).run Tryz.prog w= .ok (.slice (some ⟨g,0,none⟩) 2 2) w:=by kernel_rfl
def mD(K:Nat->Nat->Int)(V:Nat->Int):Nat->Int:=fun i=>clamp (CS K V 2 i)
def mS(X:Nat->Int)(K:Nat->Nat->Int)(V:Nat->Int):Nat->Int:=fun i=>clamp (X i+mD K V i)
def mG(X:Nat->Int)(K:Nat->Nat->Int)(V:Nat->Int):Nat->Bool:=fun i=>great (X i+mD K V i)
def mA(K:Nat->Nat->Int)(V:Nat->Int):Bool:=dN (fun i=>great (CS K V 2 i)) 6
def pt(X Y:Nat->Int)(k:Nat):Nat->Int:=fun i=>if i<k then X i else Y i
theorem uQ(X Y:Nat->Int)(i:Nat):Y i=pt X Y 0 i:=rfl
theorem Ri(X Y:Nat->Int)(k:Nat):pt X Y k k=Y k:=by unfold pt;rw [if_neg om1]
theorem jQ(X Y:Nat->Int)(k i:Nat):(if i=k then X k else pt X Y k i)=pt X Y (k+1) i:=by
 unfold pt;by_cases e:i=k
 · subst e;rw [if_pos rfl,if_pos om1]
 · rw [if_neg e];by_cases h:i<k
   · rw [if_pos h,if_pos om1]
   · rw [if_neg h,if_neg om1]
theorem BJ(X Y:Nat->Int){n i:Nat}(h:i<n):pt X Y n i=X i:=if_pos h
theorem zero6:(#[.int .i64 0, .int .i64 0, .int .i64 0, .int .i64 0, .int .i64 0, .int .i64 0]:Array Value)=(vals 6 (fun _=>0)).toArray:=by kernel_rfl
end Up
theorem OH(s:Nat)(X:Nat->Int)(KM:Nat->Nat->Int)(V:Nat->Int)(o:Bool)(w:World)(h:jS w s o)(bX:B64 X)(bK:B2 KM)(bV:B64 V):
 Calls Tryz.prog 81 #[.pointer (some ⟨s,0,none⟩), .agg (vals 6 X).toArray, .agg (aj 6 2 (mz 6 2 KM)).toArray, .agg (vals 2 V).toArray] w fun e w'=>e= .returned (.agg (vals 6 (mS X KM V)).toArray)/\jS w' s ((o||mA KM V)||dN (mG X KM V) 6)/\But (· =s) w w':=by
 have hs:=ai.lt h;have HA:Hid (∀ W,Sl W (some ⟨w.heap.size+1+1,0,none⟩) 2 2 V->Calls Tryz.prog 152 #[.agg (aj 6 2 (mz 6 2 KM)).toArray, .slice (some ⟨w.heap.size+1+1,0,none⟩) 2 2] W fun e w'=> ∃ co cc,e= .returned (.tuple #[.slice co 6 cc, .bool (mA KM V), .nilIface])/\Sl w' co 6 cc (mD KM V)/\vV W.heap.size co/\Below W.heap.size W w'):=fun W hx=>Ea 6 2 2 (some ⟨w.heap.size+1+1,0,none⟩) KM V W om1 om1 om1 om1 bK hx bV;have HD:=Ud.hide (fun k W=>nT (X k) (mD KM V k) W (bX k).1 (bX k).2 (BM (CS KM V 2 k)).1 (BM (CS KM V 2 k)).2);have al2:=fun W=>all2 (w.heap.size+1+1) W;obtain⟨z,hz⟩: ∃ z,z=mz 6 2 KM:=⟨_,rfl⟩;rw [← hz] at HA;rw [← hz];clear hz bX bK bV;have x0:=(((aH w 50 (vals 6 X)).alloc (.cells (aj 6 2 z).toArray 53)).alloc (.cells (vals 2 V).toArray 159)).alloc (.cells (vals 6 (fun _=>0)).toArray 50);have m0:=((dR w (.cells (vals 6 X).toArray 50) 6 2 z).alloc (.cells (vals 2 V).toArray 159)).alloc (.cells (vals 6 (fun _=>0)).toArray 50);have v0:=(dH w (.cells (vals 6 X).toArray 50) (.cells (aj 6 2 z).toArray 53) 159 (vals 2 V)).alloc (.cells (vals 6 (fun _=>0)).toArray 50);have r0:=qN w (.cells (vals 6 X).toArray 50) (.cells (aj 6 2 z).toArray 53) (.cells (vals 2 V).toArray 159) 50 (vals 6 (fun _=>0));have B0:Below w.heap.size w ((((w.alloc (.cells (vals 6 X).toArray 50)).alloc (.cells (aj 6 2 z).toArray 53)).alloc (.cells (vals 2 V).toArray 159)).alloc (.cells (vals 6 (fun _=>0)).toArray 50)):=af (af (af (af (Below.refl _ _) _) _) _) _;obtain⟨W,hW⟩: ∃ W,W=(((w.alloc (.cells (vals 6 X).toArray 50)).alloc (.cells (aj 6 2 z).toArray 53)).alloc (.cells (vals 2 V).toArray 159)).alloc (.cells (vals 6 (fun _=>0)).toArray 50):=⟨_,rfl⟩;rw [← hW] at x0 m0 v0 r0 B0;have HW:=Ud.hide hW;have lr:=ai.lt r0;have s0:=ai.keep h B0;have b0:But (· =s) w W:=jb B0;have HS:Hid (∀ U,But (· =s) W U->(dU U (w.heap.size+1) 6 2 z/\ai U (w.heap.size+1+1) 159 (vals 2 V))):=fun U k=>⟨Pd.dE m0 k om1,aT v0 k om1⟩;clear hW h B0;go_enter Tryz.func81,Tryz.ntmps81
 go_upto_region 1 with(first|(erw [Up.zero6,← HW.out])|fail)
 try erw [Up.zero6,← HW.out]
 refine Ru.aS [] (fun w'=>dU w' (w.heap.size+1) 6 2 z/\ai w' (w.heap.size+1+1) 159 (vals 2 V)) (by kernel_rfl) (HS.out _ ((But.refl (· =s) W).drew)) (fun hHeld=> ?_);refine Ru.tk2 0 (.pointer (some ⟨s,0,none⟩)) hHeld ?_;refine Ru.tk 1 (.agg (aj 6 2 z).toArray) rfl (Ru.mJ (by kernel_rfl) _ rl1 (w.heap.size+1) 6 2 z rl1 (fun w h=>h.1)) hHeld ?_;refine Ru.tk2 2 (.slice (some ⟨w.heap.size+1+1,0,none⟩) 2 2) hHeld ?_;refine Ru.tk2 9 (.int .i64 0) hHeld ?_;refine Ru.rd 3 (fun K hK=> ?_);go_simp;refine(HA.out _ (Ud.iF (HS.out _ ((But.refl (· =s) W).drew)).2 om1)).mono ?_;rintro e v_1 ⟨co,cc,rfl,sD_1,fD_1,k_1⟩;have D_1:=((But.refl (· =s) W).drew).then k_1
 have o_1:=ai.keep (ai.drew s0) k_1;go_wp2_with fail
 refine Ru.hd hK (HS.out _ D_1) (fun hHeld=> ?_);clear hK K;refine Ru.tk2 4 (.slice co 6 cc) hHeld ?_;refine Ru.tk2 5 (.bool (mA KM V)) hHeld ?_;refine Ru.tk2 6 (.nilIface) hHeld ?_;refine Ru.rd 7 (fun K hK=> ?_);go_simp;refine(yF s co 6 cc _ (mA KM V) _ _ o_1).mono ?_;rintro e v_2 ⟨rfl,o_2,k_2⟩;have D_2:=D_1.trans k_2;have sD:=lK sD_1 k_2 (fun x hx=>by have:=fD_1 x hx;have e:W.drew.heap.size=W.heap.size:=rfl;show ¬x.block=s;have:=b0.size;omega);have fD:vV W.heap.size co:=fD_1;go_wp2_with fail
 refine Ru.hd hK (HS.out _ D_2) (fun hHeld=> ?_);clear hK K;refine Ru.tk2 8 (.int .i64 6) hHeld ?_;refine Ru.bI (by kernel_rfl) ?_;obtain⟨w2,hw2⟩: ∃ U,U=v_2:=⟨_,rfl⟩;have s2:=o_2;have D2:=D_2;rw [← hw2] at sD s2 D2 ⊢;have x2:=aT x0 D2 om1;have r2:=aT r0 D2 om1;have b2:=b0.trans D2;have HF:=Ud.hide fD;have HSD:=Ud.hide sD;obtain⟨ca,hca,hcc⟩:=sD.get;obtain rfl:=hca om1;have lc1:=sD.le;have lc2:=sD.cap;have hcb:ca.block≠s/\ca.block≠w.heap.size:=by have:=fD ca rfl;have:=b0.size;omega
 have HCC:=Ud.hide hcc;have oq:jS w2 s (o||mA KM V):=s2;obtain⟨o1,ho1⟩: ∃ q,q=(o||mA KM V):=⟨_,rfl⟩;rw [← ho1] at oq;have HO1:=Ud.hide ho1;clear hw2 ho1 s2 sD hca hcc x0 m0 v0 r0 s0 HS HA HW al2 fD;clear D_1 D_2 sD_1 fD_1;go_wp2;go_loopw [20] (fun i wr=> ∃ k:Nat,k<=6/\i= .int .i64 (k:Int)/\ai wr w.heap.size 50 (vals 6 (Up.pt (mS X KM V) X k))/\jS wr s (o1||dN (mG X KM V) k)/\But (fun q=>q=s\/q=w.heap.size) w2 wr) (fun i _=>6- (intOf i).toNat)
 case atStart=>exact⟨0,om1,rfl,by rw [← dZ (fun i _=>Up.uQ (mS X KM V) X i)];exact x2,by show jS w2 s (o1||false);rw [Bool.or_false];exact oq,But.refl _ _⟩
 case round=>
  rename World=>wr;obtain⟨k,hk,rfl,xr,sr,br⟩:=hrel;by_cases h:k<6
  ·have cd:wr.cell? (ca.add k)=some (.int .i64 (mD KM V k)):=br.cell (HCC.out k h) (by rw [Ld.dL];omega)
   have cx:wr.cell? ⟨w.heap.size,k,none⟩=some (.int .i64 (X k)):=by
    have e:=ai.cell xr (dI (z:=Up.pt (mS X KM V) X k) h) rfl;rw [Up.Ri] at e;exact e
   have H1:=Ud.hide (HD.out k);have HO:Hid ((o1||dN (mG X KM V) (k+1))=((o1||dN (mG X KM V) k)||great (X k+mD KM V k))):=Iq o1 (mG X KM V) k;have HM:Hid (clamp (X k+mD KM V k)=mS X KM V k):=rfl;rw [HM.out] at H1;obtain⟨xk,hxk⟩: ∃ q,q=X k:=⟨_,rfl⟩;obtain⟨dk',hdk⟩: ∃ q,q=mD KM V k:=⟨_,rfl⟩;obtain⟨yk,hyk⟩: ∃ q,q=mS X KM V k:=⟨_,rfl⟩;rw [← hxk] at H1 cx HO;rw [← hdk] at H1 cd HO;rw [← hyk] at H1;obtain⟨gk,hgk⟩: ∃ q,q=great (xk+dk'):=⟨_,rfl⟩;rw [← hgk] at H1 HO;obtain⟨ok,hok⟩: ∃ q,q=(o1||dN (mG X KM V) k):=⟨_,rfl⟩;rw [← hok] at sr HO;have HYK:=Ud.hide hyk;have lx:=ai.lt xr;clear hxk hdk hyk hgk hok HM;go_wp2_with fail
   refine(H1.out _).mono ?_;rintro e w4 ⟨rfl,k4⟩;have s4:=ai.keep sr k4;have x4:=ai.keep xr k4;have b4:=br.then k4;go_wp2_with fail
   refine(jq s yk _ gk _ s4).mono ?_;rintro e w5 ⟨rfl,s5,k5⟩;rw [← HO.out] at s5;have x5:=aT x4 k5 om1;have b5:=b4.trans (But.mono k5 (fun q e=>Or.inl e));have c5:=ai.cell x5 (dI (z:=Up.pt (mS X KM V) X k) h) rfl;have f5:=ai.free x5 k;have x6:=ai.set x5 k (.int .i64 yk);rw [fG] at x6;rw [dZ (z:=fun j=>if j=k then yk else Up.pt (mS X KM V) X k j) (z':=Up.pt (mS X KM V) X (k+1)) (fun i _=>by show(if i=k then yk else Up.pt (mS X KM V) X k i)=_;rw [HYK.out];exact Up.jQ (mS X KM V) X k i)] at x6;have s6:jS (w5.setCell ⟨w.heap.size,k,none⟩ (.int .i64 yk)) s (o1||dN (mG X KM V) (k+1)):=ai.other s5 _ (by show s≠w.heap.size;omega);have b6:But (fun q=>q=s\/q=w.heap.size) w2 (w5.setCell ⟨w.heap.size,k,none⟩ (.int .i64 yk)):=b5.set (p:=⟨w.heap.size,k,none⟩) _ (Or.inr rfl);go_wp2;go_roundw
   case rel=>exact⟨k+1,om1,by go_num,x6,s6,b6⟩
   case measure=>simp [intOf];omega
  ·obtain rfl:k=6:=om1;have rr:=aT r2 br om1;have xz:ai wr w.heap.size 50 (vals 6 (mS X KM V)):=by rw [← dZ (fun i hi=>Up.BJ (mS X KM V) X hi)];exact xr
   have bw:But (· =s) w wr:=⟨br.os.trans b2.os,br.tape.trans b2.tape,br.output.trans b2.output,Nat.le_trans b2.size br.size,fun i hi hp=>(br.block i (Nat.lt_of_lt_of_le hi b2.size) (fun q=>by rcases q with q|q;exact hp q;omega)).trans (b2.block i hi hp)⟩;clear xr br x2 r2 b2
   go_wp2_with (first
    |(refine St.aI is6' rl1 _ rl1 _ _ rl1 (by with_reducible exact xz) (aK _ _) ?_)
    |(refine St.aU is6' rfl _ _ rl1 _ _ _ rl1 rl1 (by with_reducible exact rr) (aK _ _) (aK _ _) (fK _ _) ?_)
    |fail)
   exact bodyPost_ret (iV is6' Tryz.results81 _ _ (w.heap.size+1+1+1) _ rfl (ai.row rr _) (aK _ _)) rfl ⟨rfl,by rw [← HO1.out];exact ai.aY sr om1 _,bw.lJ _ om1⟩
end
section
open Go.RowKit Vc St Mt Pr Qn Ud Up Ld
attribute [local go_sem ↓] Go.wp_at_zero Go.wp_at_succ
namespace Up
def sW(P K R:Nat->Nat->Int):Nat->Nat->Int:=fun i j=>clamp (arV 6 (bF K) P i j+arV 2 K R i j)
def sWo(P K R:Nat->Nat->Int):Bool:=jK (fun i j=>great (arV 6 (bF K) P i j+arV 2 K R i j)) 6 6
def sE(P K R:Nat->Nat->Int):Nat->Nat->Int:=fun i j=>clamp (evR (sW P K R) i j)
def sEo(P K R:Nat->Nat->Int):Bool:=jK (fun i j=>great (evR (sW P K R) i j)) 6 6
theorem bF_b(K:Nat->Nat->Int):B2 (bF K):=fun i j=>by
 show _<=(if j=0 then clamp (lF i 0- K i 0) else if j=3 then clamp (lF i 3- K i 1) else lF i j)/\(if j=0 then clamp (lF i 0- K i 0) else if j=3 then clamp (lF i 3- K i 1) else lF i j)<=_
 split
 · exact BM _
 · split
   · exact BM _
   · exact Dl i j
end Up
theorem JP(s:Nat)(P G R:Nat->Nat->Int)(o:Bool)(w:World)(h:jS w s o)(bP:B2 P)(bG:B2 G)(bR:B2 R):
 Calls Tryz.prog 82 #[.pointer (some ⟨s,0,none⟩), .agg (aj 6 6 (mz 6 6 P)).toArray, .agg (aj 6 2 (mz 6 2 G)).toArray, .agg (aj 2 2 (mz 2 2 R)).toArray] w fun e w'=>e= .returned (.agg (aj 6 6 (mz 6 6 (nnF (sE P G R)))).toArray)/\jS w' s (((((o||dN (Up.bG G) 6)||(Dj 6 6 (bF G) P||Dk 6 6 (bF G) P))||(Dj 6 2 G R||Dk 6 2 G R))||sWo P G R)||sEo P G R)/\But (· =s) w w':=by
 have hs:=ai.lt h;have HK:=Ud.hide (fun o W (q:jS W s o)=>Tc s G o W q bG);have HL:=Ud.hide (fun o W (q:jS W s o)=>yG s 6 6 (bF G) P o W q om1 om1 om1 om1 (bF_b G) bP);have HT:=Ud.hide (fun o W (q:jS W s o)=>yG s 6 2 G R o W q om1 om1 om1 om1 bG bR);have HA:Hid (∀ W,Calls Tryz.prog 156 #[.agg (aj 6 6 (mz 6 6 (arV 6 (bF G) P))).toArray, .agg (aj 6 6 (mz 6 6 (arV 2 G R))).toArray] W fun e w'=>e= .returned (.tuple #[.agg (aj 6 6 (mz 6 6 (sW P G R))).toArray, .bool (sWo P G R), .nilIface])/\Below W.heap.size W w'):=fun W=>FC 6 6 (arV 6 (bF G) P) (arV 2 G R) W om1 om1 om1 om1 (Ic _) (Ic _);have HE:Hid (∀ W,Calls Tryz.prog 158 #[.agg (aj 6 6 (mz 6 6 (sW P G R))).toArray] W fun e w'=>e= .returned (.tuple #[.agg (aj 6 6 (mz 6 6 (sE P G R))).toArray, .bool (sEo P G R), .nilIface])/\Below W.heap.size W w'):=fun W=>Bl 6 (sW P G R) W om1 om1 (Ic _);have HN:=Ud.hide (fun W=>JO (sE P G R) W);obtain⟨zP,hzP⟩: ∃ z,z=mz 6 6 P:=⟨_,rfl⟩;obtain⟨zG,hzG⟩: ∃ z,z=mz 6 2 G:=⟨_,rfl⟩;obtain⟨zR,hzR⟩: ∃ z,z=mz 2 2 R:=⟨_,rfl⟩;obtain⟨zB,hzB⟩: ∃ z,z=mz 6 6 (bF G):=⟨_,rfl⟩;obtain⟨zL,hzL⟩: ∃ z,z=mz 6 6 (arV 6 (bF G) P):=⟨_,rfl⟩;obtain⟨zT,hzT⟩: ∃ z,z=mz 6 6 (arV 2 G R):=⟨_,rfl⟩;obtain⟨zW,hzW⟩: ∃ z,z=mz 6 6 (sW P G R):=⟨_,rfl⟩;obtain⟨zE,hzE⟩: ∃ z,z=mz 6 6 (sE P G R):=⟨_,rfl⟩;obtain⟨zN,hzN⟩: ∃ z,z=mz 6 6 (nnF (sE P G R)):=⟨_,rfl⟩;obtain⟨y1,hy1⟩: ∃ z,z=dN (Up.bG G) 6:=⟨_,rfl⟩;obtain⟨y2,hy2⟩: ∃ z,z=(Dj 6 6 (bF G) P||Dk 6 6 (bF G) P):=⟨_,rfl⟩;obtain⟨y3,hy3⟩: ∃ z,z=(Dj 6 2 G R||Dk 6 2 G R):=⟨_,rfl⟩;obtain⟨y4,hy4⟩: ∃ z,z=sWo P G R:=⟨_,rfl⟩;obtain⟨y5,hy5⟩: ∃ z,z=sEo P G R:=⟨_,rfl⟩;rw [← hzG,← hzB,← hy1] at HK;rw [← hzB,← hzP,← hzL,← hy2] at HL;rw [← hzG,← hzR,← hzT,← hy3] at HT;rw [← hzL,← hzT,← hzW,← hy4] at HA;rw [← hzW,← hzE,← hy5] at HE;rw [← hzE,← hzN] at HN;rw [← hzP,← hzG,← hzR,← hzN,← hy1,← hy2,← hy3,← hy4,← hy5];clear hzP hzG hzR hzB hzL hzT hzW hzE hzN hy1 hy2 hy3 hy4 hy5 bP bG bR;have p0:=(((bJ w 6 6 zP).alloc (.cells (aj 6 2 zG).toArray 53)).alloc (.cells (aj 2 2 zR).toArray 53)).alloc (.cells (aj 0 0 (fun _=>0)).toArray 53);have f0:=((dR w (.cells (aj 6 6 zP).toArray 53) 6 2 zG).alloc (.cells (aj 2 2 zR).toArray 53)).alloc (.cells (aj 0 0 (fun _=>0)).toArray 53);have q0:=(jE w (.cells (aj 6 6 zP).toArray 53) (.cells (aj 6 2 zG).toArray 53) 2 2 zR).alloc (.cells (aj 0 0 (fun _=>0)).toArray 53);have r0:=BF w (.cells (aj 6 6 zP).toArray 53) (.cells (aj 6 2 zG).toArray 53) (.cells (aj 2 2 zR).toArray 53) 0 0 (fun _=>0);have B0:Below w.heap.size w ((((w.alloc (.cells (aj 6 6 zP).toArray 53)).alloc (.cells (aj 6 2 zG).toArray 53)).alloc (.cells (aj 2 2 zR).toArray 53)).alloc (.cells (aj 0 0 (fun _=>0)).toArray 53)):=af (af (af (af (Below.refl _ _) _) _) _) _;obtain⟨W,hW⟩: ∃ W,W=(((w.alloc (.cells (aj 6 6 zP).toArray 53)).alloc (.cells (aj 6 2 zG).toArray 53)).alloc (.cells (aj 2 2 zR).toArray 53)).alloc (.cells (aj 0 0 (fun _=>0)).toArray 53):=⟨_,rfl⟩;rw [← hW] at p0 f0 q0 r0 B0;have HW:=Ud.hide hW;have s0:=ai.keep h B0;have b0:But (· =s) w W:=jb B0;clear hW h B0;go_enter Tryz.func82,Tryz.ntmps82
 go_wp2_with (first
  |(rw [dY,← HW.out];refine Hk.fP _ (by with_reducible rfl) _ _ _ _ rl1 (by with_reducible exact f0) (by kernel_rfl) ?_)
  |fail)
 refine(HK.out _ _ s0).mono ?_;rintro e w_1 ⟨rfl,z_1,k_1⟩;have p_1:=Pd.dE p0 k_1 om1;have f_1:=Pd.dE f0 k_1 om1;have q_1:=Pd.dE q0 k_1 om1;have r_1:=Pd.dE r0 k_1 om1;have b_1:=b0.trans k_1;clear p0 f0 q0 r0 b0;clear s0
 go_wp2_with (first
  |(rw [dY];refine Mt.aF rfl _ _ rl1 _ _ _ _ rl1 rl1 ?_;intro w_2 n_2 k_2;have ls2:=b_1.size;have p_2:=p_1.keep k_2;have f_2:=f_1.keep k_2;have q_2:=q_1.keep k_2;have r_2:=r_1.keep k_2;have s_2:=ai.keep z_1 k_2;have b_2:=b_1.then k_2;clear p_1 f_1 q_1 r_1 z_1 b_1)
  |(refine Hk.fP _ (by with_reducible rfl) _ _ _ _ rl1 (by with_reducible exact n_2) (by kernel_rfl) ?_)
  |(refine Hk.fP _ (by with_reducible rfl) _ _ _ _ rl1 (by with_reducible exact p_2) (by kernel_rfl) ?_)
  |fail)
 refine(HL.out _ _ s_2).mono ?_;rintro e w_3 ⟨rfl,z_3,k_3⟩;have f_3:=Pd.dE f_2 k_3 om1;have q_3:=Pd.dE q_2 k_3 om1;have r_3:=Pd.dE r_2 k_3 om1;have b_3:=b_2.trans k_3;clear n_2 p_2 f_2 q_2 r_2 b_2;clear s_2
 go_wp2_with (first
  |(rw [dY];refine Mt.aF rfl _ _ rl1 _ _ _ _ rl1 rl1 ?_;intro w_4 n_4 k_4;have ls4:=b_3.size;have f_4:=f_3.keep k_4;have q_4:=q_3.keep k_4;have r_4:=r_3.keep k_4;have s_4:=ai.keep z_3 k_4;have b_4:=b_3.then k_4;clear f_3 q_3 r_3 z_3 b_3)
  |(refine Hk.fP _ (by with_reducible rfl) _ _ _ _ rl1 (by with_reducible exact f_4) (by kernel_rfl) ?_)
  |(refine Hk.fP _ (by with_reducible rfl) _ _ _ _ rl1 (by with_reducible exact q_4) (by kernel_rfl) ?_)
  |fail)
 refine(HT.out _ _ s_4).mono ?_;rintro e w_5 ⟨rfl,z_5,k_5⟩;have r_5:=Pd.dE r_4 k_5 om1;have l_5:=Pd.dE n_4 k_5 om1;have b_5:=b_4.trans k_5;clear f_4 q_4 r_4 n_4 b_4;clear s_4
 go_wp2_with (first
  |(rw [dY];refine Mt.aF rfl _ _ rl1 _ _ _ _ rl1 rl1 ?_;intro w_6 n_6 k_6;have ls6:=b_5.size;have r_6:=r_5.keep k_6;have l_6:=l_5.keep k_6;have s_6:=ai.keep z_5 k_6;have b_6:=b_5.then k_6;clear r_5 l_5 z_5 b_5)
  |(refine Hk.fP _ (by with_reducible rfl) _ _ _ _ rl1 (by with_reducible exact l_6) (by kernel_rfl) ?_)
  |(refine Hk.fP _ (by with_reducible rfl) _ _ _ _ rl1 (by with_reducible exact n_6) (by kernel_rfl) ?_)
  |fail)
 refine(HA.out _).mono ?_;rintro e w_7 ⟨rfl,k_7⟩;have r_7:=r_6.keep k_7;have s_7:=ai.keep s_6 k_7;have b_7:=b_6.then k_7;clear l_6 n_6 r_6 s_6 b_6
 go_wp2_with (first
  |fail)
 refine(qg s 6 6 zW _ y4 _ _ s_7).mono ?_;rintro e w_8 ⟨rfl,z_8,k_8⟩;have r_8:=Pd.dE r_7 k_8 om1;have b_8:=b_7.trans k_8;clear r_7 b_7;clear s_7
 go_wp2_with (first
  |fail)
 refine(HE.out _).mono ?_;rintro e w_9 ⟨rfl,k_9⟩;have r_9:=r_8.keep k_9;have s_9:=ai.keep z_8 k_9;have b_9:=b_8.then k_9;clear r_8 z_8 b_8
 go_wp2_with (first
  |fail)
 refine(qg s 6 6 zE _ y5 _ _ s_9).mono ?_;rintro e w_10 ⟨rfl,z_10,k_10⟩;have r_10:=Pd.dE r_9 k_10 om1;have b_10:=b_9.trans k_10;clear r_9 b_9;clear s_9
 go_wp2_with (first
  |fail)
 refine(HN.out _).mono ?_;rintro e w_11 ⟨rfl,k_11⟩;have r_11:=r_10.keep k_11;have s_11:=ai.keep z_10 k_11;have b_11:=b_10.then k_11;clear r_10 z_10 b_10
 go_wp2_with (first
  |(refine aN rfl _ _ rl1 _ _ _ _ _ _ _ rl1 rl1 (by with_reducible exact r_11) ?_)
  |fail)
 exact bodyPost_ret (dS Tryz.results82 _ _ (w.heap.size+1+1+1) _ _ _ rfl (r_11.row _ _ _)) rfl ⟨rfl,ai.aY s_11 om1 _,b_11.lJ _ om1⟩
namespace Up
def dP(V:Nat->Int)(n:Int)(z d:Nat->Int):List Value:=vals 2 V++fB n z d
theorem dW(V:Nat->Int)(n:Int)(z d:Nat->Int):(dP V n z d).length=45:=by simp [dP,aK,dM]
theorem Td{V:Nat->Int}{n:Int}{z d:Nat->Int}{k:Nat}(h:k<2):(dP V n z d)[k]?=some (.int .i64 (V k)):=by
 unfold dP;rw [List.getElem?_append_left (by rw [aK];exact h)];exact dI h
theorem aag(V:Nat->Int)(n:Int)(z d:Nat->Int)(k:Nat):(dP V n z d)[k+2]?=(fB n z d)[k]?:=by
 unfold dP;rw [List.getElem?_append_right (by rw [aK];omega),aK,Nat.add_sub_cancel]
theorem kL(V:Nat->Int)(n:Int)(z d:Nat->Int): ∀ v∈dP V n z d,v.oneCell'=true:=by
 intro v hv;rcases List.mem_append.1 hv with hv|hv
 · obtain⟨k,_,rfl⟩:=List.mem_map.1 hv;rfl
 · exact lM _ _ _ v hv
theorem IX:Is 163 45:=⟨by kernel_rfl,⟨_,Tryz.underlying163,rfl⟩⟩
abbrev qj(w:World)(g:Nat)(V:Nat->Int)(n:Int)(z d:Nat->Int):Prop:=ai w g 163 (dP V n z d)
theorem qj.v{w:World}{g:Nat}{V:Nat->Int}{n:Int}{z d:Nat->Int}(h:qj w g V n z d){k o:Nat}(hk:k<2)(ho:o=k):w.cell? ⟨g,o,none⟩=some (.int .i64 (V k)):=h.cell (Td hk) ho
theorem qj.sl{w:World}{g:Nat}{V:Nat->Int}{n:Int}{z d:Nat->Int}(h:qj w g V n z d):Sl w (some ⟨g,0,none⟩) 2 2 V:=
 ⟨Nat.le_refl _,om1,fun k hk=>⟨_,rfl,by rw [Addr.add_lit];exact qj.v h hk om1⟩⟩
theorem qj.rv{w:World}{g:Nat}{V:Nat->Int}{n:Int}{z d:Nat->Int}(h:qj w g V n z d):w.rangeAt g 0 (vals 2 V):=ai.mid h (o:=0) fun j v hv=>by
 have hj:j<2:=by
  rcases Nat.lt_or_ge j 2 with k|k
  · exact k
  · rw [List.getElem?_eq_none (by rw [aK];exact k)] at hv;cases hv
 rw [dI hj] at hv;injection hv with hv
 rw [Nat.zero_add,Td hj,hv]
theorem qj.rf{w:World}{g:Nat}{V:Nat->Int}{n:Int}{z d:Nat->Int}(h:qj w g V n z d):w.rangeAt g 2 (fB n z d):=ai.mid h (o:=2) fun j v hv=>by
 rw [Nat.add_comm,aag];exact hv
end Up
theorem aah(V:Nat->Int)(n:Int)(z d:Nat->Int)(x:Int)(q:Bool)(f:Value)(w:World)
 (hF: ∀ g W,Sl W (some ⟨g,0,none⟩) 2 2 V->Calls Tryz.prog 265 #[.agg (fB n z d).toArray, .slice (some ⟨g,0,none⟩) 2 2] W fun e w'=>e= .returned (.tuple #[.int .i64 x, .bool q,f])/\Below W.heap.size W w'):
 Calls Tryz.prog 202 #[.agg (dP V n z d).toArray] w fun e w'=>e= .returned (.tuple #[.int .i64 x, .bool q,f])/\Below w.heap.size w w':=by
 have HF:=Ud.hide hF;have g0:=aH w 163 (dP V n z d);have B0:=af (Below.refl _ w) (.cells (dP V n z d).toArray 163);obtain⟨W,hW⟩: ∃ W,W=w.alloc (.cells (dP V n z d).toArray 163):=⟨_,rfl⟩;rw [← hW] at g0 B0;have HW:=Ud.hide hW;have al2:=fun W=>all2 w.heap.size W;have HS:Hid (∀ U,Below W.heap.size W U->qj U w.heap.size V n z d):=fun U k=>ai.keep g0 k;clear hW hF g0;go_enter Tryz.func202,Tryz.ntmps202
 go_upto_region 1 with(first|(rw [← HW.out])|fail)
 try rw [← HW.out]
 refine Ru.aS [] (fun w'=>qj w' w.heap.size V n z d) (by kernel_rfl) (HS.out _ (Vc.az _)) (fun hHeld=> ?_);refine Ru.tk1 0 (.pointer (some ⟨w.heap.size,2,none⟩)) hHeld ?_;refine Ru.tk 1 (.agg (fB n z d).toArray) rfl (Ud.tY isF (by kernel_rfl) _ rl1 w.heap.size 2 _ rl1 (fun w h=>qj.rf h) (dM _ _ _)) hHeld ?_;refine Ru.tk1 2 (.pointer (some ⟨w.heap.size,0,none⟩)) hHeld ?_;refine Ru.tk1 3 (.slice (some ⟨w.heap.size,0,none⟩) 2 2) hHeld ?_;refine Ru.rd 4 (fun K hK=> ?_);go_simp;refine(HF.out _ _ (qj.sl (HS.out _ (Vc.az _)))).mono ?_;rintro _ w1 ⟨rfl,k1⟩;have D1:=ae (Vc.az W) k1;go_wp2_with fail
 refine Ru.hd hK (HS.out _ D1) (fun hHeld=> ?_);clear hK K;refine Ru.tk1 5 (.int .i64 x) hHeld ?_;refine Ru.tk1 6 (.bool q) hHeld ?_;refine Ru.tk1 7 f hHeld ?_;refine Ru.tk1 8 (.int .i64 x) hHeld ?_;refine Ru.tk1 9 (.bool q) hHeld ?_;refine Ru.tk1 10 f hHeld ?_;refine Ru.bI (by kernel_rfl) ?_;go_wp2;go_ret3;exact⟨rfl,ae B0 D1⟩
end
section
open Go.RowKit Vc St Mt Pr Qn Ud Up Ld
attribute [local go_sem ↓] Go.wp_at_zero Go.wp_at_succ
namespace Up
theorem wY:(#[.int .i64 0, .int .i64 0, .int .i64 0, .int .i64 0, .int .i64 0, .int .i64 0, .int .i64 0, .int .i64 0, .int .i64 0, .int .i64 0, .int .i64 0, .int .i64 0, .int .i64 0, .int .i64 0, .int .i64 0, .int .i64 0, .int .i64 0, .int .i64 0, .int .i64 0, .int .i64 0, .int .i64 0, .int .i64 0, .int .i64 0, .int .i64 0, .int .i64 0, .int .i64 0, .int .i64 0, .int .i64 0, .int .i64 0, .int .i64 0, .int .i64 0, .int .i64 0, .int .i64 0, .int .i64 0, .int .i64 0, .int .i64 0, .int .i64 0, .int .i64 0, .int .i64 0, .int .i64 0, .int .i64 0, .int .i64 0, .int .i64 0, .int .i64 0, .int .i64 0]:Array Value)=(dP (fun _=>0) 0 (fun _=>0) (fun _=>0)).toArray:=by kernel_rfl
theorem aai:Tryz.prog.built 163 []=some (dP (fun _=>0) 0 (fun _=>0) (fun _=>0)).toArray:=by kernel_rfl
theorem aaj(V:Nat->Int)(n:Int)(z d:Nat->Int):Tryz.prog.built 163 [(0, .agg (vals 2 V).toArray),(1, .agg (fB n z d).toArray)]=some (dP V n z d).toArray:=by kernel_rfl
theorem JQ{ops:Array Oper}{rest:List Oper}{o:Oper}{a:Act}{w:World}{Q:Exit->Act->World->Prop}(ho:o.op= .build 163 #[])(hw:Region.wanted o (yielded ops a.tmps)=true)
 (h:wpList Tryz.prog ops Q rest (a.put o.dst (.agg (dP (fun _=>0) 0 (fun _=>0) (fun _=>0)).toArray)) w):wpList Tryz.prog ops Q (o::rest) a w:=
 wpList_want hw fun _ hK=>by
  unfold Oper.wp execOp
  have em:((#[]:Array (Nat×Operand)).map fun(i,x)=>(i,a.eval x)).toList= []:=by simp
  simp only [ho,Sem.run_bind,run_build w 163 _ _ (by rw [em];exact aai),Result.andThen_ok]
  exact hK _ _ h
theorem Tf{ops:Array Oper}{S:World->Prop}{o:Oper}{a:Act}(hw:Region.wanted o (yielded ops a.tmps)=true)(x y:Operand)(ho:o.op= .build 163 #[(0,x),(1,y)])
 (V:Nat->Int) (n:Int) (z d:Nat->Int) (hx:a.eval x= .agg (vals 2 V).toArray) (hy:a.eval y= .agg (fB n z d).toArray):YieldsIf Tryz.prog ops S o (.agg (dP V n z d).toArray) a:=
 .inl ⟨hw,fun w _=>by
  unfold execOp
  have em:((#[(0,x),(1,y)]:Array (Nat×Operand)).map fun(i,x)=>(i,a.eval x)).toList= [(0, .agg (vals 2 V).toArray),(1, .agg (fB n z d).toArray)]:=by simp [hx,hy]
  simp only [ho,Sem.run_bind,run_build w 163 _ _ (by rw [em];exact aaj V n z d),Result.andThen_ok,Sem.run_pure]⟩
end Up
theorem uof_chk(X:Nat->Int)(r c':Int)(z:Nat->Int)(x y a b c:Int)(w:World)(hC: ∀ W,Calls Tryz.prog 63 #[.agg (Pd.aB X r c' z).toArray] W fun e w'=>e= .returned (.iface 93 (.int .i64 1))/\Below W.heap.size W w'):
 Calls Tryz.prog 79 #[.agg (Pd.aB X r c' z).toArray, .agg (pv x y a b c).toArray] w fun e w'=>e= .returned (.tuple #[.agg (dP (fun _=>0) 0 (fun _=>0) (fun _=>0)).toArray, .bool false, .iface 93 (.int .i64 1)])/\Below w.heap.size w w':=by
 have HC:=Ud.hide hC;clear hC;have t0:=((aH w 55 (Pd.aB X r c' z)).alloc (.cells (pv x y a b c).toArray 69)).alloc (.cells (dP (fun _=>0) 0 (fun _=>0) (fun _=>0)).toArray 163);have m0:=(bU w (.cells (Pd.aB X r c' z).toArray 55) 69 (pv x y a b c)).alloc (.cells (dP (fun _=>0) 0 (fun _=>0) (fun _=>0)).toArray 163);have r0:=dH w (.cells (Pd.aB X r c' z).toArray 55) (.cells (pv x y a b c).toArray 69) 163 (dP (fun _=>0) 0 (fun _=>0) (fun _=>0));have B0:Below w.heap.size w (((w.alloc (.cells (Pd.aB X r c' z).toArray 55)).alloc (.cells (pv x y a b c).toArray 69)).alloc (.cells (dP (fun _=>0) 0 (fun _=>0) (fun _=>0)).toArray 163)):=af (af (af (Below.refl _ _) _) _) _;obtain⟨W,hW⟩: ∃ W,W=((w.alloc (.cells (Pd.aB X r c' z).toArray 55)).alloc (.cells (pv x y a b c).toArray 69)).alloc (.cells (dP (fun _=>0) 0 (fun _=>0) (fun _=>0)).toArray 163):=⟨_,rfl⟩;rw [← hW] at t0 m0 r0 B0;have HW:=Ud.hide hW;clear hW;go_enter Tryz.func79,Tryz.ntmps79
 go_wp2_with (first
  |(rw [wY,← HW.out];refine St.aI Pd.isS rl1 _ rl1 _ _ rl1 (by with_reducible exact t0) (Pd.aA _ _ _ _) ?_)
  |fail)
 refine(HC.out _).mono ?_;rintro e w1 ⟨rfl,k1⟩;have r1:=ai.keep r0 k1;have B1:=ae B0 k1
 go_wp2_with (first
  |(refine Up.JQ (by with_reducible rfl) (by kernel_rfl) ?_)
  |(refine St.aU IX rfl _ _ rl1 _ _ _ rl1 rl1 (by with_reducible exact r1) (dW _ _ _ _) (dW _ _ _ _) (kL _ _ _ _) ?_)
  |fail)
 exact bodyPost_ret (dJ IX Tryz.results79 _ _ (w.heap.size+1+1) _ rfl (ai.row r1 _) (dW _ _ _ _)) rfl ⟨rfl,St.aJ B1 om1 _⟩
theorem Ti(X:Nat->Int)(r c':Int)(z:Nat->Int)(x y a b c:Int)(w:World)(hC: ∀ W,Calls Tryz.prog 63 #[.agg (Pd.aB X r c' z).toArray] W fun e w'=>e= .returned (.nilIface)/\Below W.heap.size W w')(hp: ¬lT x y a b c):
 Calls Tryz.prog 79 #[.agg (Pd.aB X r c' z).toArray, .agg (pv x y a b c).toArray] w fun e w'=>e= .returned (.tuple #[.agg (dP (fun _=>0) 0 (fun _=>0) (fun _=>0)).toArray, .bool false, .iface 93 (.int .i64 1)])/\Below w.heap.size w w':=by
 have HC:=Ud.hide hC;have HP:=Ud.hide (fun W=>xZ x y a b c W);rw [decide_eq_false hp] at HP;clear hC hp;have t0:=((aH w 55 (Pd.aB X r c' z)).alloc (.cells (pv x y a b c).toArray 69)).alloc (.cells (dP (fun _=>0) 0 (fun _=>0) (fun _=>0)).toArray 163);have m0:=(bU w (.cells (Pd.aB X r c' z).toArray 55) 69 (pv x y a b c)).alloc (.cells (dP (fun _=>0) 0 (fun _=>0) (fun _=>0)).toArray 163);have r0:=dH w (.cells (Pd.aB X r c' z).toArray 55) (.cells (pv x y a b c).toArray 69) 163 (dP (fun _=>0) 0 (fun _=>0) (fun _=>0));have B0:Below w.heap.size w (((w.alloc (.cells (Pd.aB X r c' z).toArray 55)).alloc (.cells (pv x y a b c).toArray 69)).alloc (.cells (dP (fun _=>0) 0 (fun _=>0) (fun _=>0)).toArray 163)):=af (af (af (Below.refl _ _) _) _) _;obtain⟨W,hW⟩: ∃ W,W=((w.alloc (.cells (Pd.aB X r c' z).toArray 55)).alloc (.cells (pv x y a b c).toArray 69)).alloc (.cells (dP (fun _=>0) 0 (fun _=>0) (fun _=>0)).toArray 163):=⟨_,rfl⟩;rw [← hW] at t0 m0 r0 B0;have HW:=Ud.hide hW;clear hW;go_enter Tryz.func79,Tryz.ntmps79
 go_wp2_with (first
  |(rw [wY,← HW.out];refine St.aI Pd.isS rl1 _ rl1 _ _ rl1 (by with_reducible exact t0) (Pd.aA _ _ _ _) ?_)
  |fail)
 refine(HC.out _).mono ?_;rintro e w1 ⟨rfl,k1⟩;have r1:=ai.keep r0 k1;have m1:=ai.keep m0 k1;have B1:=ae B0 k1
 go_wp2_with (first
  |(refine St.aI Ph rl1 _ rl1 _ _ rl1 (by with_reducible exact m1) rfl ?_)
  |fail)
 refine(HP.out _).mono ?_;rintro e w2 ⟨rfl,k2⟩;have r2:=ai.keep r1 k2;have B2:=ae B1 k2
 go_wp2_with (first
  |(refine Up.JQ (by with_reducible rfl) (by kernel_rfl) ?_)
  |(refine St.aU IX rfl _ _ rl1 _ _ _ rl1 rl1 (by with_reducible exact r2) (dW _ _ _ _) (dW _ _ _ _) (kL _ _ _ _) ?_)
  |fail)
 exact bodyPost_ret (dJ IX Tryz.results79 _ _ (w.heap.size+1+1) _ rfl (ai.row r2 _) (dW _ _ _ _)) rfl ⟨rfl,St.aJ B2 om1 _⟩
theorem V8(X:Nat->Int)(P:Nat->Nat->Int)(x y a b c:Int)(w:World)(hm:oK X P)(hp:lT x y a b c)(bX:B64 X)(bP:B2 P)(hf: ¬ ∀ i,i<2->fine (oM P a b c) i):
 Calls Tryz.prog 79 #[.agg (Pd.aB X 6 6 (mz 6 6 P)).toArray, .agg (pv x y a b c).toArray] w fun e w'=>e= .returned (.tuple #[.agg (dP (fun _=>0) 0 (fun _=>0) (fun _=>0)).toArray, .bool false, .iface 93 (.int .i64 8)])/\Below w.heap.size w w':=by
 have ha: -9223372036854775808<=a/\a<=9223372036854775807:=by have:=hp.2.2.1;unfold InV at this;omega
 have hb: -9223372036854775808<=b/\b<=9223372036854775807:=by have:=hp.2.2.2.1;unfold InV at this;omega
 have hc: -9223372036854775808<=c/\c<=9223372036854775807:=by have:=hp.2.2.2.2.1;unfold InV at this;omega
 have HC:Hid (∀ W,Calls Tryz.prog 63 #[.agg (Pd.aB X 6 6 (mz 6 6 P)).toArray] W fun e w'=>e= .returned .nilIface/\Below W.heap.size W w'):=fun W=>jy X P true W ⟨fun _=>hm,fun _=>rfl⟩;have HP:=Ud.hide (fun W=>xZ x y a b c W);rw [decide_eq_true hp] at HP;have HU:=Ud.hide (fun s o W (q:jS W s o)=>Ip s P x y a b c o W q bP ha hb hc);have HL:=Ud.hide (fun W=>Rz 2 (oM P a b c) W om1 om1 (JE _ _ _) (g2_b (BM _) (BM _) (BM _)));rw [ofV_no hf] at HL;obtain⟨zP,hzP⟩: ∃ z,z=mz 6 6 P:=⟨_,rfl⟩;obtain⟨zM,hzM⟩: ∃ z,z=mz 2 2 (oM P a b c):=⟨_,rfl⟩;rw [← hzP] at HC HU;rw [← hzM] at HU HL;rw [← hzP];clear hzP hzM hm hp bX bP hf ha hb hc;have t0:=((aH w 55 (Pd.aB X 6 6 zP)).alloc (.cells (pv x y a b c).toArray 69)).alloc (.cells (dP (fun _=>0) 0 (fun _=>0) (fun _=>0)).toArray 163);have m0:=(bU w (.cells (Pd.aB X 6 6 zP).toArray 55) 69 (pv x y a b c)).alloc (.cells (dP (fun _=>0) 0 (fun _=>0) (fun _=>0)).toArray 163);have r0:=dH w (.cells (Pd.aB X 6 6 zP).toArray 55) (.cells (pv x y a b c).toArray 69) 163 (dP (fun _=>0) 0 (fun _=>0) (fun _=>0));have B0:Below w.heap.size w (((w.alloc (.cells (Pd.aB X 6 6 zP).toArray 55)).alloc (.cells (pv x y a b c).toArray 69)).alloc (.cells (dP (fun _=>0) 0 (fun _=>0) (fun _=>0)).toArray 163)):=af (af (af (Below.refl _ _) _) _) _;obtain⟨W,hW⟩: ∃ W,W=((w.alloc (.cells (Pd.aB X 6 6 zP).toArray 55)).alloc (.cells (pv x y a b c).toArray 69)).alloc (.cells (dP (fun _=>0) 0 (fun _=>0) (fun _=>0)).toArray 163):=⟨_,rfl⟩;rw [← hW] at t0 m0 r0 B0;have HW:=Ud.hide hW;clear hW;go_enter Tryz.func79,Tryz.ntmps79
 go_wp2_with (first
  |(rw [wY,← HW.out];refine St.aI Pd.isS rl1 _ rl1 _ _ rl1 (by with_reducible exact t0) (Pd.aA _ _ _ _) ?_)
  |fail)
 refine(HC.out _).mono ?_;rintro e w1 ⟨rfl,k1⟩;have t1:=ai.keep t0 k1;have r1:=ai.keep r0 k1;have m1:=ai.keep m0 k1;have B1:=ae B0 k1;clear t0 r0 m0 B0 k1 HC
 go_wp2_with (first
  |(refine St.aI Ph rl1 _ rl1 _ _ rl1 (by with_reducible exact m1) rfl ?_)
  |fail)
 refine(HP.out _).mono ?_;rintro e w2 ⟨rfl,k2⟩;have t2:=ai.keep t1 k2;have r2:=ai.keep r1 k2;have m2:=ai.keep m1 k2;have B2:=ae B1 k2;have s3:=aH w2 167 [.bool false];have k3:=af (Below.refl _ w2) (.cells [.bool false].toArray 167);have t3:=ai.keep t2 k3;have r3:=ai.keep r2 k3;have m3:=ai.keep m2 k3;have B3:=ae B2 k3;have l2:=ai.lt r2;obtain⟨w3,hw3⟩: ∃ w3,w3=w2.alloc (.cells [.bool false].toArray 167):=⟨_,rfl⟩;rw [← hw3] at s3 t3 r3 m3 B3;have H3:=Ud.hide hw3;obtain⟨s,hs⟩: ∃ s,s=w2.heap.size:=⟨_,rfl⟩;rw [← hs] at s3 l2;have Hs:=Ud.hide hs;have ls:=ai.lt s3;have rm3:=Pd.fH.rm t3;clear hw3 hs t1 r1 m1 B1 t2 r2 m2 B2 k2 k3 HP HW
 go_wp2_with (first
  |(rw [← H3.out,← Hs.out])
  |(refine St.dA Pd.Ie rl1 _ rl1 _ _ _ rl1 (by with_reducible exact rm3) (dG _ _ _) ?_)
  |(refine St.aI Ph rl1 _ rl1 _ _ rl1 (by with_reducible exact m3) rfl ?_)
  |fail)
 refine(HU.out s _ _ s3).mono ?_;rintro e w4 ⟨rfl,s4,k4⟩;have t4:=aT t3 k4 om1;have r4:=aT r3 k4 om1;have m4:=aT m3 k4 om1;have B4:=k4.below B3 B3.size (fun q e=>by omega);clear t3 r3 m3 B3 s3 rm3 H3 Hs;go_wp2_with fail
 refine(HL.out _).mono ?_;rintro e w5 ⟨rfl,k5⟩;have t5:=ai.keep t4 k5;have r5:=ai.keep r4 k5;have m5:=ai.keep m4 k5;have s5:=ai.keep s4 k5;have B5:=ae B4 k5;clear t4 r4 m4 s4 B4 k5
 go_wp2_with (first
  |(rw [QL];refine St.aF isF rfl _ _ rl1 _ _ _ rl1 rl1 (dM _ _ _) (dM _ _ _) (lM _ _ _) ?_;intro w6 n6 k6;have r6:=ai.keep r5 k6;have B6:=ae B5 k6;clear r5 B5)
  |(refine Up.JQ (by with_reducible rfl) (by kernel_rfl) ?_)
  |(refine St.aU IX rfl _ _ rl1 _ _ _ rl1 rl1 (by with_reducible exact r6) (dW _ _ _ _) (dW _ _ _ _) (kL _ _ _ _) ?_)
  |fail)
 exact bodyPost_ret (dJ IX Tryz.results79 _ _ (w.heap.size+1+1) _ rfl (ai.row r6 _) (dW _ _ _ _)) rfl ⟨rfl,St.aJ B6 om1 _⟩
end
section
open Go.RowKit Vc St Mt Pr Qn Ud Up Ld
attribute [local go_sem ↓] Go.wp_at_zero Go.wp_at_succ
namespace Up
theorem isU:Is 167 1:=⟨by kernel_rfl,⟨_,Tryz.underlying167,rfl⟩⟩
theorem builtU(b:Bool):Tryz.prog.built 167 [(0, .bool b)]=some [.bool b].toArray:=by kernel_rfl
theorem buildU{ops:Array Oper}{rest:List Oper}{o:Oper}{a:Act}{w:World}{Q:Exit->Act->World->Prop}(x:Operand)(ho:o.op= .build 167 #[(0,x)])(b:Bool)(hx:a.eval x= .bool b)(hw:Region.wanted o (yielded ops a.tmps)=true)
 (h:wpList Tryz.prog ops Q rest (a.put o.dst (.agg [.bool b].toArray)) w):wpList Tryz.prog ops Q (o::rest) a w:=
 wpList_want hw fun _ hK=>by
  unfold Oper.wp execOp
  have em:((#[(0,x)]:Array (Nat×Operand)).map fun(i,x)=>(i,a.eval x)).toList= [(0, .bool b)]:=by simp [hx]
  simp only [ho,Sem.run_bind,run_build w 167 _ _ (by rw [em];exact builtU b),Result.andThen_ok]
  exact hK _ _ h
theorem gK_b(P L:Nat->Nat->Int)(d:Nat->Int):B2 (gK P L d):=fun i=>Ld.lS (Ld.Hq _ (Ld.yB _ _) 2 2)
def unO(g:Bool)(X:Nat->Int)(P L:Nat->Nat->Int)(d V:Nat->Int)(R:Nat->Nat->Int):Bool:=
 ((((((((g||dN (gO P L d) 6)||mA (gK P L d) V)||dN (mG X (gK P L d) V) 6)||dN (bG (gK P L d)) 6)||(Dj 6 6 (bF (gK P L d)) P||Dk 6 6 (bF (gK P L d)) P))||(Dj 6 2 (gK P L d) R||Dk 6 2 (gK P L d) R))||sWo P (gK P L d) R)||sEo P (gK P L d) R)
end Up
theorem MJ{p:Prop}(h:p:=by
 rw [← hge] at nE oE rE bE gz gr ⊢;refine hK.out _ _ ?_;clear hK K;clear HS HR2 HB D0 o0 HM HR HP;generalize (World.setRow _ ge (Pd.aB Y 6 6 zN).toArray)=wE at*;try simp only [Act.put,List.getElem_toArray,List.getElem_cons_zero,List.getElem_cons_succ,List.setIfInBounds_toArray,List.set_cons_zero,List.set_cons_succ]
 refine wpAny_done (by kernel_rfl) ?_ _;have c5:=jS.o oE;go_upto_region 7 with fail
 refine Ru.aS [5] (fun w'=>Pd.fH w' ge Y 6 6 zN/\w'.cell? ⟨s,0,none⟩=some (.bool xb)) (by kernel_rfl) ⟨ai.drew nE,c5⟩ (fun hHeld=> ?_);refine Ru.tk 0 (.agg (Pd.aB Y 6 6 zN).toArray) rfl (Ru.fF Pd.isS (by kernel_rfl) _ rl1 ge _ rl1 (fun w h=>h.1) (Pd.aA _ _ _ _)) hHeld ?_;refine Ru.tk2 1 (.pointer (some ⟨s,0,none⟩)) hHeld ?_;refine Ru.tk2 2 (.bool xb) hHeld ?_;refine Ru.rd 3 (fun K hK=> ?_);refine Ru.kK Pd.isS (by kernel_rfl) _ _ rl1 (w.heap.size+1+1) _ (Pd.aB Y 6 6 zN) rl1 rl1 (ai.drew rE) (Pd.aA _ _ _ _) (Pd.aA _ _ _ _) (Pd.cZ _ _ _ _) ?_;have nF:Pd.fH (wE.drew.setRow (w.heap.size+1+1) (Pd.aB Y 6 6 zN).toArray) ge Y 6 6 zN:=ai.aY (ai.drew nE) om1 _;have oF:jS (wE.drew.setRow (w.heap.size+1+1) (Pd.aB Y 6 6 zN).toArray) s xb:=ai.aY (ai.drew oE) om1 _;have rF:Pd.fH (wE.drew.setRow (w.heap.size+1+1) (Pd.aB Y 6 6 zN).toArray) (w.heap.size+1+1) Y 6 6 zN:=ai.row (ai.drew rE) _;have bF:=St.aJ bE.drew (g:=w.heap.size+1+1) om1 (Pd.aB Y 6 6 zN).toArray;refine Ru.hd hK ⟨nF,jS.o oF⟩ (fun hHeld=> ?_);clear hK K;refine Ru.tk2 4 (.bool xb) hHeld ?_;refine Ru.rd2 5 (fun K hK=> ?_);go_simp;refine hK.out _ _ ?_;clear hK K;try simp only [Act.put,List.getElem_toArray,List.getElem_cons_zero,List.getElem_cons_succ,List.setIfInBounds_toArray,List.set_cons_zero,List.set_cons_succ]
 refine wpAny_done (by kernel_rfl) ?_ _;go_wp2
 exact bodyPost_ret (dJ Pd.isS Tryz.results32 _ _ (w.heap.size+1+1) _ rfl rF (Pd.aA _ _ _ _)) rfl ⟨rfl,bF⟩):p:=h
theorem Tj(X:Nat->Int)(P L:Nat->Nat->Int)(d V:Nat->Int)(x y a b c:Int)(g:Bool)(w:World)
 (hO: ∀ W,Calls Tryz.prog 79 #[.agg (Pd.aB X 6 6 (mz 6 6 P)).toArray, .agg (pv x y a b c).toArray] W fun e w'=>e= .returned (.tuple #[.agg (dP V 2 (mz 2 2 L) d).toArray, .bool g, .nilIface])/\Below W.heap.size W w')
 (hm:vg 2 (mz 2 2 L) d) (bX:B64 X) (bP:B2 P) (bL: ∀ a,B64 (L a)) (bV:B64 V) (bR:B2 (g2 a c b)):
 Calls Tryz.prog 32 #[.agg (Pd.aB X 6 6 (mz 6 6 P)).toArray, .agg (pv x y a b c).toArray] w fun e w'=>e= .returned (.tuple #[.agg (Pd.aB (mS X (gK P L d) V) 6 6 (mz 6 6 (nnF (sE P (gK P L d) (g2 a c b))))).toArray, .bool (unO g X P L d V (g2 a c b)), .nilIface])/\Below w.heap.size w w':=by
 have HO:=Ud.hide hO;have HG:=Ud.hide (fun s o W (q:jS W s o)=>SY s P L d o W q hm bP bL);have HM:=Ud.hide (fun s o W (q:jS W s o)=>OH s X (gK P L d) V o W q bX (gK_b P L d) bV);have HR:=Ud.hide (fun W=>yL x y a b c W);have HP:=Ud.hide (fun s o W (q:jS W s o)=>JP s P (gK P L d) (g2 a c b) o W q bP (gK_b P L d) bR);unfold unO;obtain⟨zP,hzP⟩: ∃ z,z=mz 6 6 P:=⟨_,rfl⟩;obtain⟨zL,hzL⟩: ∃ z,z=mz 2 2 L:=⟨_,rfl⟩;obtain⟨zK,hzK⟩: ∃ z,z=mz 6 2 (gK P L d):=⟨_,rfl⟩;obtain⟨zR,hzR⟩: ∃ z,z=mz 2 2 (g2 a c b):=⟨_,rfl⟩;obtain⟨zN,hzN⟩: ∃ z,z=mz 6 6 (nnF (sE P (gK P L d) (g2 a c b))):=⟨_,rfl⟩;obtain⟨Y,hY⟩: ∃ Y,Y=mS X (gK P L d) V:=⟨_,rfl⟩;obtain⟨x1,hx1⟩: ∃ q,q=dN (gO P L d) 6:=⟨_,rfl⟩;obtain⟨x2,hx2⟩: ∃ q,q=mA (gK P L d) V:=⟨_,rfl⟩;obtain⟨x3,hx3⟩: ∃ q,q=dN (mG X (gK P L d) V) 6:=⟨_,rfl⟩;obtain⟨x4,hx4⟩: ∃ q,q=dN (bG (gK P L d)) 6:=⟨_,rfl⟩;obtain⟨x5,hx5⟩: ∃ q,q=(Dj 6 6 (bF (gK P L d)) P||Dk 6 6 (bF (gK P L d)) P):=⟨_,rfl⟩;obtain⟨x6,hx6⟩: ∃ q,q=(Dj 6 2 (gK P L d) (g2 a c b)||Dk 6 2 (gK P L d) (g2 a c b)):=⟨_,rfl⟩;obtain⟨x7,hx7⟩: ∃ q,q=sWo P (gK P L d) (g2 a c b):=⟨_,rfl⟩;obtain⟨x8,hx8⟩: ∃ q,q=sEo P (gK P L d) (g2 a c b):=⟨_,rfl⟩;rw [← hzP,← hzL] at HO;rw [← hzP,← hzL,← hzK,← hx1] at HG;rw [← hzK,← hY,← hx2,← hx3] at HM;rw [← hzR] at HR;rw [← hzP,← hzK,← hzR,← hzN,← hx4,← hx5,← hx6,← hx7,← hx8] at HP;rw [← hzP,← hzN,← hY,← hx1,← hx2,← hx3,← hx4,← hx5,← hx6,← hx7,← hx8];obtain⟨xb,hxb⟩: ∃ q,q=((((((((g||x1)||x2)||x3)||x4)||x5)||x6)||x7)||x8):=⟨_,rfl⟩;rw [← hxb];have HXB:=Ud.hide hxb;clear hzP hzL hzK hzR hzN hY hx1 hx2 hx3 hx4 hx5 hx6 hx7 hx8 hxb hO hm bX bP bL bV bR;have t0:=((aH w 55 (Pd.aB X 6 6 zP)).alloc (.cells (pv x y a b c).toArray 69)).alloc (.cells (Pd.aB (fun _=>0) 0 0 (fun _=>0)).toArray 55);have m0:=(bU w (.cells (Pd.aB X 6 6 zP).toArray 55) 69 (pv x y a b c)).alloc (.cells (Pd.aB (fun _=>0) 0 0 (fun _=>0)).toArray 55);have r0:=dH w (.cells (Pd.aB X 6 6 zP).toArray 55) (.cells (pv x y a b c).toArray 69) 55 (Pd.aB (fun _=>0) 0 0 (fun _=>0));have B0:Below w.heap.size w (((w.alloc (.cells (Pd.aB X 6 6 zP).toArray 55)).alloc (.cells (pv x y a b c).toArray 69)).alloc (.cells (Pd.aB (fun _=>0) 0 0 (fun _=>0)).toArray 55)):=af (af (af (Below.refl _ _) _) _) _;obtain⟨W,hW⟩: ∃ W,W=((w.alloc (.cells (Pd.aB X 6 6 zP).toArray 55)).alloc (.cells (pv x y a b c).toArray 69)).alloc (.cells (Pd.aB (fun _=>0) 0 0 (fun _=>0)).toArray 55):=⟨_,rfl⟩;rw [← hW] at t0 m0 r0 B0;have HW:=Ud.hide hW;clear hW;go_enter Tryz.func32,Tryz.ntmps32
 go_wp2_with (first
  |(rw [Pd.zeroS,← HW.out];refine St.aI Pd.isS rl1 _ rl1 _ _ rl1 (by with_reducible exact t0) (Pd.aA _ _ _ _) ?_)
  |(refine St.aI Ph rl1 _ rl1 _ _ rl1 (by with_reducible exact m0) rfl ?_)
  |fail)
 refine(HO.out _).mono ?_;rintro e w1 ⟨rfl,k1⟩;have t1:=ai.keep t0 k1;have m1:=ai.keep m0 k1;have r1:=ai.keep r0 k1;have B1:=ae B0 k1;clear t0 m0 r0 B0 HW HO
 go_wp2_with (first
  |(rw [wY];refine St.aF IX rfl _ _ rl1 _ _ _ rl1 rl1 (dW _ _ _ _) (dW _ _ _ _) (kL _ _ _ _) ?_;intro w2 n2 k2;have t2:=ai.keep t1 k2;have m2:=ai.keep m1 k2;have r2:=ai.keep r1 k2;have B2:=ae B1 k2;have l1:=ai.lt r1;have l2:=ai.lt n2;clear t1 m1 r1 B1)
  |(refine Up.buildU _ (by with_reducible rfl) g rl1 (by kernel_rfl) ?_)
  |(refine St.aF isU rfl _ _ rl1 _ [.bool false] _ rl1 rl1 rfl rfl (by intro v hv;simp only [List.mem_cons,List.not_mem_nil,or_false] at hv;rw [hv];rfl) ?_;intro w3 s3 k3;have t3:=ai.keep t2 k3;have m3:=ai.keep m2 k3;have r3:=ai.keep r2 k3;have n3:=ai.keep n2 k3;have B3:=ae B2 k3;have rm3:=Pd.fH.rm t3;have rf3:=qj.rf n3;clear t2 m2 r2 n2 B2)
  |(refine St.dA Pd.Ie rl1 _ rl1 _ _ _ rl1 (by with_reducible exact rm3) (dG _ _ _) ?_)
  |(refine St.dA isF rl1 _ rl1 _ _ _ rl1 (by with_reducible exact rf3) (dM _ _ _) ?_)
  |fail)
 obtain⟨gg,hgg⟩: ∃ q,q=w1.heap.size:=⟨_,rfl⟩;rw [← hgg] at n3 l1 l2 rf3 ⊢;obtain⟨s,hs⟩: ∃ q,q=w2.heap.size:=⟨_,rfl⟩;rw [← hs] at s3 l2 ⊢;clear hgg hs k2 k3;refine(HG.out s _ _ s3).mono ?_;rintro e w4 ⟨rfl,s4,k4⟩;have ls:=ai.lt s3;have t4:=aT t3 k4 om1;have m4:=aT m3 k4 om1;have r4:=aT r3 k4 om1;have n4:=aT n3 k4 om1;have B4:=k4.below B3 B3.size (fun q e=>by omega);have l4:=k4.size;clear t3 m3 r3 n3 B3 rm3 rf3 s3 k4
 go_upto_region 6 with(first
  |(rw [dY];refine Mt.aF rfl _ _ rl1 _ _ _ _ rl1 rl1 ?_;intro w5 q5 k5)
  |fail)
 have t5:=ai.keep t4 k5;have m5:=ai.keep m4 k5;have r5:=ai.keep r4 k5;have n5:=ai.keep n4 k5;have s5:=ai.keep s4 k5;have B5:=ae B4 k5;have lq:=q5.lt;obtain⟨gq,hgq⟩: ∃ q,q=w4.heap.size:=⟨_,rfl⟩;rw [← hgq] at q5 l4 lq ⊢;have HS:Hid (∀ U,But (· =s) w5 U->(Pd.fH U w.heap.size X 6 6 zP/\dU U gq 6 2 zK/\qj U gg V 2 zL d/\ai U (w.heap.size+1) 69 (pv x y a b c))):=fun U k=>⟨aT t5 k om1,Pd.dE q5 k om1,aT n5 k om1,aT m5 k om1⟩;have HR2:Hid (∀ U,But (· =s) w5 U->Pd.fH U (w.heap.size+1+1) (fun _=>0) 0 0 (fun _=>0)):=fun U k=>aT r5 k om1;have HB:Hid (∀ U,But (· =s) w5 U->Below w.heap.size w U):=fun U k=>k.below B5 B5.size (fun q e=>by omega);have D0:But (· =s) w5 w5.drew:=(But.refl _ _).drew;have o0:jS w5.drew s (g||x1):=ai.drew s5;have z5:gq<w5.heap.size:=lq;clear hgq t4 m4 r4 n4 s4 B4 k5 t5 m5 r5 n5 s5 B5 q5 HG;refine Ru.aS [14] (fun w'=>Pd.fH w' w.heap.size X 6 6 zP/\dU w' gq 6 2 zK/\qj w' gg V 2 zL d/\ai w' (w.heap.size+1) 69 (pv x y a b c)) (by kernel_rfl) (HS.out _ D0) (fun hHeld=> ?_);refine Ru.tk4 0 (.pointer (some ⟨w.heap.size,0,none⟩)) hHeld ?_;refine Ru.tk 1 (.agg (vals 6 X).toArray) rfl (Pd.xY Pd.is6 (by kernel_rfl) _ rl1 w.heap.size 0 _ rl1 (fun w h=>Pd.fH.rx h.1) (aK _ _)) hHeld ?_;refine Ru.tk 2 (.agg (aj 6 2 zK).toArray) rfl (Ru.mJ (by kernel_rfl) _ rl1 gq 6 2 zK rl1 (fun w h=>h.2.1)) hHeld ?_;refine Ru.tk4 3 (.pointer (some ⟨gg,0,none⟩)) hHeld ?_;refine Ru.tk 4 (.agg (vals 2 V).toArray) rfl (Ud.tY is2 (by kernel_rfl) _ rl1 gg 0 _ rl1 (fun w h=>qj.rv h.2.2.1) (aK _ _)) hHeld ?_;refine Ru.tk4 6 (.pointer (some ⟨w.heap.size,6,none⟩)) hHeld ?_;refine Ru.tk 7 (.agg (aj 6 6 zP).toArray) rfl (Pd.xY Pd.Ie (by kernel_rfl) _ rl1 w.heap.size 6 _ rl1 (fun w h=>Pd.fH.rm h.1) (dG _ _ _)) hHeld ?_;refine Ru.tk 8 (.agg (aj 6 2 zK).toArray) rfl (Ru.mJ (by kernel_rfl) _ rl1 gq 6 2 zK rl1 (fun w h=>h.2.1)) hHeld ?_;refine Ru.tk 9 (.agg (pv x y a b c).toArray) rfl (Ru.fF Ph (by kernel_rfl) _ rl1 (w.heap.size+1) _ rl1 (fun w h=>h.2.2.2) rfl) hHeld ?_;refine Ru.rs [5,13] ?_;refine Ru.co (fun K hK=> ?_) ?_
 ·go_simp;refine(HM.out s _ _ o0).mono ?_;rintro e v_1 ⟨rfl,o_1,k_1⟩;have D_1:=D0.trans k_1;go_wp2_with fail
  refine Ru.hd hK (HS.out _ D_1) (fun hHeld=> ?_);clear hK K;refine Ru.rs [10,13] ?_;refine Ru.co (fun K hK=> ?_) ?_
  ·go_simp;refine(HR.out _).mono ?_;rintro e v_2 ⟨rfl,k_2⟩;have D_2:=D_1.then k_2;have o_2:=ai.keep o_1 k_2;go_wp2_with fail
   refine Ru.hd hK (HS.out _ D_2) (fun hHeld=> ?_);clear hK K;refine Ru.rs [11,13] ?_;refine Ru.co (fun K hK=> ?_) ?_
   ·go_simp;refine(HP.out s _ _ o_2).mono ?_;rintro e v_3 ⟨rfl,o_3,k_3⟩;have D_3:=D_2.trans k_3;go_wp2_with fail
    refine Ru.hd hK (HS.out _ D_3) (fun hHeld=> ?_);clear hK K;refine Ru.tk 12 (.agg (Pd.aB Y 6 6 zN).toArray) rfl (Pd.uT (by kernel_rfl) _ _ rl1 Y 6 6 zN rl1 rl1) hHeld ?_;refine Ru.rd 13 (fun K hK=> ?_);go_simp;try rw [Pd.zeroS]
    have n_4:ai (v_3.alloc (.cells (Pd.aB (fun _=>0) 0 0 (fun _=>0)).toArray 55)) (v_3.heap.size) 55 (Pd.aB (fun _=>0) 0 0 (fun _=>0)):=aH v_3 55 (Pd.aB (fun _=>0) 0 0 (fun _=>0));have a_4:=af (Below.refl _ v_3) (.cells (Pd.aB (fun _=>0) 0 0 (fun _=>0)).toArray 55);have D_4:=D_3.then a_4;have o_4:=ai.keep o_3 a_4;have g_4:=D_3.size;refine Ru.hd hK (HS.out _ D_4) (fun hHeld=> ?_);clear hK K;refine Ru.rd2 14 (fun K hK=> ?_);refine Ru.kK Pd.isS (by kernel_rfl) _ _ rl1 (v_3.heap.size) _ (Pd.aB Y 6 6 zN) rl1 rl1 n_4 (Pd.aA _ _ _ _) (Pd.aA _ _ _ _) (Pd.cZ _ _ _ _) ?_;have nE:=ai.row n_4 (Pd.aB Y 6 6 zN);have oE:=ai.aY o_4 (g:=v_3.heap.size) om1 (Pd.aB Y 6 6 zN).toArray;have rE:=ai.aY (HR2.out _ D_4) (g:=v_3.heap.size) om1 (Pd.aB Y 6 6 zN).toArray;have bE:=St.aJ (HB.out _ D_4) (g:=v_3.heap.size) om1 (Pd.aB Y 6 6 zN).toArray;have gz:s<v_3.heap.size:=om1;have gr:w.heap.size+1+1≠v_3.heap.size:=om1;rw [← HXB.out] at oE;obtain⟨ge,hge⟩: ∃ q,q=v_3.heap.size:=⟨_,rfl⟩;exact MJ
   refine Ru.co1 (fun K hK=> ?_);go_simp;try rw [Pd.zeroS]
   have n_5:ai (v_2.alloc (.cells (Pd.aB (fun _=>0) 0 0 (fun _=>0)).toArray 55)) (v_2.heap.size) 55 (Pd.aB (fun _=>0) 0 0 (fun _=>0)):=aH v_2 55 (Pd.aB (fun _=>0) 0 0 (fun _=>0));have a_5:=af (Below.refl _ v_2) (.cells (Pd.aB (fun _=>0) 0 0 (fun _=>0)).toArray 55);have D_5:=D_2.then a_5;have o_5:=ai.keep o_2 a_5;have g_5:=D_2.size;refine Ru.hd hK (HS.out _ D_5) (fun hHeld=> ?_);clear hK K;refine Ru.rd 11 (fun K hK=> ?_);go_simp;refine(HP.out s _ _ o_5).mono ?_;rintro e v_6 ⟨rfl,o_6,k_6⟩;have D_6:=D_5.trans k_6;have n_6:=aT n_5 k_6 om1;go_wp2_with fail
   refine Ru.hd hK (HS.out _ D_6) (fun hHeld=> ?_);clear hK K;refine Ru.tk 12 (.agg (Pd.aB Y 6 6 zN).toArray) rfl (Pd.uT (by kernel_rfl) _ _ rl1 Y 6 6 zN rl1 rl1) hHeld ?_;refine Ru.rd2 14 (fun K hK=> ?_);refine Ru.kK Pd.isS (by kernel_rfl) _ _ rl1 (v_2.heap.size) _ (Pd.aB Y 6 6 zN) rl1 rl1 n_6 (Pd.aA _ _ _ _) (Pd.aA _ _ _ _) (Pd.cZ _ _ _ _) ?_;have nE:=ai.row n_6 (Pd.aB Y 6 6 zN);have oE:=ai.aY o_6 (g:=v_2.heap.size) om1 (Pd.aB Y 6 6 zN).toArray;have rE:=ai.aY (HR2.out _ D_6) (g:=v_2.heap.size) om1 (Pd.aB Y 6 6 zN).toArray;have bE:=St.aJ (HB.out _ D_6) (g:=v_2.heap.size) om1 (Pd.aB Y 6 6 zN).toArray;have gz:s<v_2.heap.size:=om1;have gr:w.heap.size+1+1≠v_2.heap.size:=om1;rw [← HXB.out] at oE;obtain⟨ge,hge⟩: ∃ q,q=v_2.heap.size:=⟨_,rfl⟩;exact MJ
  refine Ru.co1 (fun K hK=> ?_);go_simp;try rw [Pd.zeroS]
  have n_7:ai (v_1.alloc (.cells (Pd.aB (fun _=>0) 0 0 (fun _=>0)).toArray 55)) (v_1.heap.size) 55 (Pd.aB (fun _=>0) 0 0 (fun _=>0)):=aH v_1 55 (Pd.aB (fun _=>0) 0 0 (fun _=>0));have a_7:=af (Below.refl _ v_1) (.cells (Pd.aB (fun _=>0) 0 0 (fun _=>0)).toArray 55);have D_7:=D_1.then a_7;have o_7:=ai.keep o_1 a_7;have g_7:=D_1.size;refine Ru.hd hK (HS.out _ D_7) (fun hHeld=> ?_);clear hK K;refine Ru.rd 10 (fun K hK=> ?_);go_simp;refine(HR.out _).mono ?_;rintro e v_8 ⟨rfl,k_8⟩;have D_8:=D_7.then k_8;have o_8:=ai.keep o_7 k_8;have n_8:=ai.keep n_7 k_8;go_wp2_with fail
  refine Ru.hd hK (HS.out _ D_8) (fun hHeld=> ?_);clear hK K;refine Ru.rd 11 (fun K hK=> ?_);go_simp;refine(HP.out s _ _ o_8).mono ?_;rintro e v_9 ⟨rfl,o_9,k_9⟩;have D_9:=D_8.trans k_9;have n_9:=aT n_8 k_9 om1;go_wp2_with fail
  refine Ru.hd hK (HS.out _ D_9) (fun hHeld=> ?_);clear hK K;refine Ru.tk 12 (.agg (Pd.aB Y 6 6 zN).toArray) rfl (Pd.uT (by kernel_rfl) _ _ rl1 Y 6 6 zN rl1 rl1) hHeld ?_;refine Ru.rd2 14 (fun K hK=> ?_);refine Ru.kK Pd.isS (by kernel_rfl) _ _ rl1 (v_1.heap.size) _ (Pd.aB Y 6 6 zN) rl1 rl1 n_9 (Pd.aA _ _ _ _) (Pd.aA _ _ _ _) (Pd.cZ _ _ _ _) ?_;have nE:=ai.row n_9 (Pd.aB Y 6 6 zN);have oE:=ai.aY o_9 (g:=v_1.heap.size) om1 (Pd.aB Y 6 6 zN).toArray;have rE:=ai.aY (HR2.out _ D_9) (g:=v_1.heap.size) om1 (Pd.aB Y 6 6 zN).toArray;have bE:=St.aJ (HB.out _ D_9) (g:=v_1.heap.size) om1 (Pd.aB Y 6 6 zN).toArray;have gz:s<v_1.heap.size:=om1;have gr:w.heap.size+1+1≠v_1.heap.size:=om1;rw [← HXB.out] at oE;obtain⟨ge,hge⟩: ∃ q,q=v_1.heap.size:=⟨_,rfl⟩;exact MJ
 refine Ru.co1 (fun K hK=> ?_);go_simp;try rw [Pd.zeroS]
 have n_10:ai (w5.drew.alloc (.cells (Pd.aB (fun _=>0) 0 0 (fun _=>0)).toArray 55)) (w5.heap.size) 55 (Pd.aB (fun _=>0) 0 0 (fun _=>0)):=aH w5.drew 55 (Pd.aB (fun _=>0) 0 0 (fun _=>0));have a_10:=af (Below.refl _ w5.drew) (.cells (Pd.aB (fun _=>0) 0 0 (fun _=>0)).toArray 55);have D_10:=D0.then a_10;have o_10:=ai.keep o0 a_10;have g_10:=D0.size;have e_10:w5.drew.heap.size=w5.heap.size:=rfl;refine Ru.hd hK (HS.out _ D_10) (fun hHeld=> ?_);clear hK K;refine Ru.rd 5 (fun K hK=> ?_);go_simp;refine(HM.out s _ _ o_10).mono ?_;rintro e v_11 ⟨rfl,o_11,k_11⟩;have D_11:=D_10.trans k_11;have n_11:=aT n_10 k_11 om1;go_wp2_with fail
 refine Ru.hd hK (HS.out _ D_11) (fun hHeld=> ?_);clear hK K;refine Ru.rd 10 (fun K hK=> ?_);go_simp;refine(HR.out _).mono ?_;rintro e v_12 ⟨rfl,k_12⟩;have D_12:=D_11.then k_12;have o_12:=ai.keep o_11 k_12;have n_12:=ai.keep n_11 k_12;go_wp2_with fail
 refine Ru.hd hK (HS.out _ D_12) (fun hHeld=> ?_);clear hK K;refine Ru.rd 11 (fun K hK=> ?_);go_simp;refine(HP.out s _ _ o_12).mono ?_;rintro e v_13 ⟨rfl,o_13,k_13⟩;have D_13:=D_12.trans k_13;have n_13:=aT n_12 k_13 om1;go_wp2_with fail
 refine Ru.hd hK (HS.out _ D_13) (fun hHeld=> ?_);clear hK K;refine Ru.tk 12 (.agg (Pd.aB Y 6 6 zN).toArray) rfl (Pd.uT (by kernel_rfl) _ _ rl1 Y 6 6 zN rl1 rl1) hHeld ?_;refine Ru.rd2 14 (fun K hK=> ?_);refine Ru.kK Pd.isS (by kernel_rfl) _ _ rl1 (w5.heap.size) _ (Pd.aB Y 6 6 zN) rl1 rl1 n_13 (Pd.aA _ _ _ _) (Pd.aA _ _ _ _) (Pd.cZ _ _ _ _) ?_;have nE:=ai.row n_13 (Pd.aB Y 6 6 zN);have oE:=ai.aY o_13 (g:=w5.heap.size) om1 (Pd.aB Y 6 6 zN).toArray;have rE:=ai.aY (HR2.out _ D_13) (g:=w5.heap.size) om1 (Pd.aB Y 6 6 zN).toArray;have bE:=St.aJ (HB.out _ D_13) (g:=w5.heap.size) om1 (Pd.aB Y 6 6 zN).toArray;have gz:s<w5.heap.size:=om1;have gr:w.heap.size+1+1≠w5.heap.size:=om1;rw [← HXB.out] at oE;obtain⟨ge,hge⟩: ∃ q,q=w5.heap.size:=⟨_,rfl⟩;exact MJ
end
section
open Go.RowKit Vc St Mt Pr Qn Ud Up Ld
namespace Up
theorem nA_is(q:Bool)(P:Nat->Nat->Int)(a b c:Int): ∀ k,nA q P a b c k=((q||dN (ko P a b c) k)||dN (bG (kr P a b c)) k)
 |0=>by show q=((q||false)||false);rw [Bool.or_false,Bool.or_false]
 |k+1=>by
  show(nA q P a b c k||ko P a b c k||bo0 P a b c k||bo3 P a b c k)=((q||(dN (ko P a b c) k||ko P a b c k))||(dN (bG (kr P a b c)) k||(bo0 P a b c k||bo3 P a b c k)))
  rw [nA_is q P a b c k]
  ac_rfl
theorem nB_is(q:Bool)(X:Nat->Int)(P:Nat->Nat->Int)(x y a b c:Int): ∀ k,nB q X P x y a b c k=(q||dN (mG X (kr P a b c) (v2 (ox X x) (oy X y))) k)
 |0=>by show q=(q||false);rw [Bool.or_false]
 |k+1=>by
  show(nB q X P x y a b c k||great (X k+dV X P x y a b c k))=(q||(dN (mG X (kr P a b c) (v2 (ox X x) (oy X y))) k||great (X k+dV X P x y a b c k)))
  rw [nB_is q X P x y a b c k]
  ac_rfl
theorem gK_is(P:Nat->Nat->Int)(a b c:Int):gK P (fL P a b c) (fD P a b c)=kr P a b c:=rfl
theorem gO_is(P:Nat->Nat->Int)(a b c:Int):gO P (fL P a b c) (fD P a b c)=ko P a b c:=rfl
theorem aak(P:Nat->Nat->Int)(a b c:Int):bF (kr P a b c)=br P a b c:=rfl
theorem mA_is(X:Nat->Int)(P:Nat->Nat->Int)(x y a b c:Int):mA (kr P a b c) (v2 (ox X x) (oy X y))=dO X P x y a b c:=rfl
theorem mS_is(X:Nat->Int)(P:Nat->Nat->Int)(x y a b c:Int):mS X (kr P a b c) (v2 (ox X x) (oy X y))=xN X P x y a b c:=rfl
theorem sW_is(P:Nat->Nat->Int)(a b c:Int):sW P (kr P a b c) (g2 a c b)=wN P a b c:=by unfold sW;rw [aak];rfl
theorem sWo_is(P:Nat->Nat->Int)(a b c:Int):sWo P (kr P a b c) (g2 a c b)=wO P a b c:=by unfold sWo;rw [aak];rfl
theorem sE_is(P:Nat->Nat->Int)(a b c:Int):sE P (kr P a b c) (g2 a c b)=zE P a b c:=by unfold sE;rw [sW_is];rfl
theorem sEo_is(P:Nat->Nat->Int)(a b c:Int):sEo P (kr P a b c) (g2 a c b)=zO P a b c:=by unfold sEo;rw [sW_is];rfl
theorem zN_is(P:Nat->Nat->Int)(a b c:Int):nnF (sE P (kr P a b c) (g2 a c b))=zN P a b c:=by rw [sE_is];rfl
theorem unO_is(X:Nat->Int)(P:Nat->Nat->Int)(x y a b c:Int):unO (og X P x y a b c) X P (fL P a b c) (fD P a b c) (v2 (ox X x) (oy X y)) (g2 a c b)=nO X P x y a b c:=by
 unfold unO nO;rw [gK_is,gO_is,aak,mA_is,sWo_is,sEo_is,nB_is,nA_is];ac_rfl
def OfYes(X:Nat->Int)(P:Nat->Nat->Int)(x y a b c:Int):Prop:= ∀ W,Calls Tryz.prog 79 #[.agg (Pd.aB X 6 6 (mz 6 6 P)).toArray, .agg (pv x y a b c).toArray] W fun e w'=>e= .returned (.tuple #[.agg (dP (v2 (ox X x) (oy X y)) 2 (mz 2 2 (fL P a b c)) (fD P a b c)).toArray, .bool (og X P x y a b c), .nilIface])/\Below W.heap.size W w'
theorem JR{P:Nat->Nat->Int}{a b c:Int}(hf: ∀ i,i<2->fine (oM P a b c) i):vg 2 (mz 2 2 (fL P a b c)) (fD P a b c):=may_st (n:=2) om1 om1 hf
theorem v_b(X:Nat->Int)(x y:Int):B64 (v2 (ox X x) (oy X y)):=v2_b (BM _) (BM _)
theorem r_b{x y a b c:Int}(hp:lT x y a b c):B2 (g2 a c b):=g2_b (by have:=hp.2.2.1;unfold InV at this;omega) (by have:=hp.2.2.2.2.1;unfold InV at this;omega) (by have:=hp.2.2.2.1;unfold InV at this;omega)
end Up
theorem V9(X:Nat->Int)(P:Nat->Nat->Int)(x y a b c:Int)(w:World)(hO:OfYes X P x y a b c)(hp:lT x y a b c)(hf: ∀ i,i<2->fine (oM P a b c) i)(bX:B64 X)(bP:B2 P):
 Calls Tryz.prog 32 #[.agg (Pd.aB X 6 6 (mz 6 6 P)).toArray, .agg (pv x y a b c).toArray] w fun e w'=>e= .returned (.tuple #[.agg (Pd.aB (xN X P x y a b c) 6 6 (mz 6 6 (zN P a b c))).toArray, .bool (nO X P x y a b c), .nilIface])/\Below w.heap.size w w':=by
 have h:=Tj X P (fL P a b c) (fD P a b c) (v2 (ox X x) (oy X y)) x y a b c (og X P x y a b c) w hO (JR hf) bX bP (fL_b P a b c) (v_b X x y) (r_b hp);rw [unO_is,gK_is,mS_is,zN_is] at h;exact h
theorem aal(X:Nat->Int)(P:Nat->Nat->Int)(x y a b c:Int)(w:World)(hf: ∀ i,i<2->fine (oM P a b c) i):
 Calls Tryz.prog 202 #[.agg (dP (v2 (ox X x) (oy X y)) 2 (mz 2 2 (fL P a b c)) (fD P a b c)).toArray] w fun e w'=>e= .returned (.tuple #[.int .i64 (wR (dQ (fL P a b c) (v2 (ox X x) (oy X y)) 2) (fD P a b c) 2), .bool (iT (fL P a b c) (v2 (ox X x) (oy X y)) 2||DW (dQ (fL P a b c) (v2 (ox X x) (oy X y)) 2) (fD P a b c) 2), .nilIface])/\Below w.heap.size w w':=
 aah _ _ _ _ _ _ _ w fun g W hs=>VV 2 (some ⟨g,0,none⟩) 2 (v2 (ox X x) (oy X y)) (fL P a b c) (fD P a b c) W (JR hf) hs (v_b X x y) (fL_b P a b c)
end
section
open Go.RowKit Vc St Mt Ud Up
namespace Up
end Up
end
section
open Go.RowKit Vc St Mt Pr Qn Ud Up Ld
attribute [local go_sem ↓] Go.wp_at_zero Go.wp_at_succ
theorem XU{p:Prop}(h:p:=by
 rw [← hge] at nE oE rE bE gz gr ⊢;refine hK.out _ _ ?_;clear hK K;clear HS HR2 HB D0 o0 HY;generalize (World.setRow _ ge (dP V 2 zL d).toArray)=wE at*;try simp only [Act.put,List.getElem_toArray,List.getElem_cons_zero,List.getElem_cons_succ,List.setIfInBounds_toArray,List.set_cons_zero,List.set_cons_succ]
 refine wpAny_done (by kernel_rfl) ?_ _;have c5:=jS.o oE;go_upto_region 8 with fail
 refine Ru.aS [5] (fun w'=>ai w' ge 163 (dP V 2 zL d)/\w'.cell? ⟨s,0,none⟩=some (.bool xb)) (by kernel_rfl) ⟨ai.drew nE,c5⟩ (fun hHeld=> ?_);refine Ru.tk 0 (.agg (dP V 2 zL d).toArray) rfl (Ru.fF IX (by kernel_rfl) _ rl1 ge _ rl1 (fun w h=>h.1) (dW _ _ _ _)) hHeld ?_;refine Ru.tk2 1 (.pointer (some ⟨s,0,none⟩)) hHeld ?_;refine Ru.tk2 2 (.bool xb) hHeld ?_;refine Ru.rd 3 (fun K hK=> ?_);refine Ru.kK IX (by kernel_rfl) _ _ rl1 (w.heap.size+1+1) _ (dP V 2 zL d) rl1 rl1 (ai.drew rE) (dW _ _ _ _) (dW _ _ _ _) (kL _ _ _ _) ?_;have nF:ai (wE.drew.setRow (w.heap.size+1+1) (dP V 2 zL d).toArray) ge 163 (dP V 2 zL d):=ai.aY (ai.drew nE) om1 _;have oF:jS (wE.drew.setRow (w.heap.size+1+1) (dP V 2 zL d).toArray) s xb:=ai.aY (ai.drew oE) om1 _;have rF:ai (wE.drew.setRow (w.heap.size+1+1) (dP V 2 zL d).toArray) (w.heap.size+1+1) 163 (dP V 2 zL d):=ai.row (ai.drew rE) _;have bF:=St.aJ bE.drew (g:=w.heap.size+1+1) om1 (dP V 2 zL d).toArray;refine Ru.hd hK ⟨nF,jS.o oF⟩ (fun hHeld=> ?_);clear hK K;refine Ru.tk2 4 (.bool xb) hHeld ?_;refine Ru.rd2 5 (fun K hK=> ?_);go_simp;refine hK.out _ _ ?_;clear hK K;try simp only [Act.put,List.getElem_toArray,List.getElem_cons_zero,List.getElem_cons_succ,List.setIfInBounds_toArray,List.set_cons_zero,List.set_cons_succ]
 refine wpAny_done (by kernel_rfl) ?_ _;go_wp2
 exact bodyPost_ret (dJ IX Tryz.results79 _ _ (w.heap.size+1+1) _ rfl rF (dW _ _ _ _)) rfl ⟨rfl,bF⟩):p:=h
theorem Tm(X:Nat->Int)(P:Nat->Nat->Int)(x y a b c:Int)(w:World)(hm:oK X P)(hp:lT x y a b c)(bX:B64 X)(bP:B2 P)(hf: ∀ i,i<2->fine (oM P a b c) i):
 Calls Tryz.prog 79 #[.agg (Pd.aB X 6 6 (mz 6 6 P)).toArray, .agg (pv x y a b c).toArray] w fun e w'=>e= .returned (.tuple #[.agg (dP (v2 (ox X x) (oy X y)) 2 (mz 2 2 (fL P a b c)) (fD P a b c)).toArray, .bool (og X P x y a b c), .nilIface])/\Below w.heap.size w w':=by
 have ha: -9223372036854775808<=a/\a<=9223372036854775807:=by have:=hp.2.2.1;unfold InV at this;omega
 have hb: -9223372036854775808<=b/\b<=9223372036854775807:=by have:=hp.2.2.2.1;unfold InV at this;omega
 have hc: -9223372036854775808<=c/\c<=9223372036854775807:=by have:=hp.2.2.2.2.1;unfold InV at this;omega
 have HC:Hid (∀ W,Calls Tryz.prog 63 #[.agg (Pd.aB X 6 6 (mz 6 6 P)).toArray] W fun e w'=>e= .returned .nilIface/\Below W.heap.size W w'):=fun W=>jy X P true W ⟨fun _=>hm,fun _=>rfl⟩;have HP:=Ud.hide (fun W=>xZ x y a b c W);rw [decide_eq_true hp] at HP;have HU:=Ud.hide (fun s o W (q:jS W s o)=>Ip s P x y a b c o W q bP ha hb hc);have HL:=Ud.hide (fun W=>Rz 2 (oM P a b c) W om1 om1 (JE _ _ _) (g2_b (BM _) (BM _) (BM _)));have hx: -9223372036854775808<=x/\x<=9223372036854775807:=by have:=hp.1;unfold InV at this;omega
 have hy: -9223372036854775808<=y/\y<=9223372036854775807:=by have:=hp.2.1;unfold InV at this;omega
 have HY:=Ud.hide (fun s o W (q:jS W s o)=>SQ s X 6 6 (mz 6 6 P) x y a b c o W q bX hx hy);rw [ZM hf] at HL;unfold fL fD;rw [og_is];obtain⟨zP,hzP⟩: ∃ z,z=mz 6 6 P:=⟨_,rfl⟩;obtain⟨zM,hzM⟩: ∃ z,z=mz 2 2 (oM P a b c):=⟨_,rfl⟩;obtain⟨zL,hzL⟩: ∃ z,z=mz 2 2 (st (oM P a b c) 2).1:=⟨_,rfl⟩;obtain⟨d,hd⟩: ∃ z,z=(st (oM P a b c) 2).2:=⟨_,rfl⟩;obtain⟨V,hV⟩: ∃ z,z=v2 (ox X x) (oy X y):=⟨_,rfl⟩;obtain⟨x1,hx1⟩: ∃ z,z=mo P a b c:=⟨_,rfl⟩;obtain⟨x2,hx2⟩: ∃ z,z=vo X x y:=⟨_,rfl⟩;rw [← hzP] at HC HU HY;rw [← hzM] at HU HL;rw [← hx1] at HU;rw [← hzL,← hd] at HL;rw [← hV,← hx2] at HY;rw [← hzP,← hzL,← hd,← hV,← hx1,← hx2];obtain⟨xb,hxb⟩: ∃ q,q=(x1||x2):=⟨_,rfl⟩;rw [← hxb];have HXB:Hid (xb=((false||x1)||x2)):=by show xb=((false||x1)||x2);rw [hxb,Bool.false_or]
 clear hzP hzM hzL hd hV hm hp bX bP hf ha hb hc hx hy hx1 hx2 hxb;have t0:=((aH w 55 (Pd.aB X 6 6 zP)).alloc (.cells (pv x y a b c).toArray 69)).alloc (.cells (dP (fun _=>0) 0 (fun _=>0) (fun _=>0)).toArray 163);have m0:=(bU w (.cells (Pd.aB X 6 6 zP).toArray 55) 69 (pv x y a b c)).alloc (.cells (dP (fun _=>0) 0 (fun _=>0) (fun _=>0)).toArray 163);have r0:=dH w (.cells (Pd.aB X 6 6 zP).toArray 55) (.cells (pv x y a b c).toArray 69) 163 (dP (fun _=>0) 0 (fun _=>0) (fun _=>0));have B0:Below w.heap.size w (((w.alloc (.cells (Pd.aB X 6 6 zP).toArray 55)).alloc (.cells (pv x y a b c).toArray 69)).alloc (.cells (dP (fun _=>0) 0 (fun _=>0) (fun _=>0)).toArray 163)):=af (af (af (Below.refl _ _) _) _) _;obtain⟨W,hW⟩: ∃ W,W=((w.alloc (.cells (Pd.aB X 6 6 zP).toArray 55)).alloc (.cells (pv x y a b c).toArray 69)).alloc (.cells (dP (fun _=>0) 0 (fun _=>0) (fun _=>0)).toArray 163):=⟨_,rfl⟩;rw [← hW] at t0 m0 r0 B0;have HW:=Ud.hide hW;clear hW;go_enter Tryz.func79,Tryz.ntmps79
 go_wp2_with (first
  |(rw [wY,← HW.out];refine St.aI Pd.isS rl1 _ rl1 _ _ rl1 (by with_reducible exact t0) (Pd.aA _ _ _ _) ?_)
  |fail)
 refine(HC.out _).mono ?_;rintro e w1 ⟨rfl,k1⟩;have t1:=ai.keep t0 k1;have r1:=ai.keep r0 k1;have m1:=ai.keep m0 k1;have B1:=ae B0 k1;clear t0 r0 m0 B0 k1 HC
 go_wp2_with (first
  |(refine St.aI Ph rl1 _ rl1 _ _ rl1 (by with_reducible exact m1) rfl ?_)
  |fail)
 refine(HP.out _).mono ?_;rintro e w2 ⟨rfl,k2⟩;have t2:=ai.keep t1 k2;have r2:=ai.keep r1 k2;have m2:=ai.keep m1 k2;have B2:=ae B1 k2;have s3:=aH w2 167 [.bool false];have k3:=af (Below.refl _ w2) (.cells [.bool false].toArray 167);have t3:=ai.keep t2 k3;have r3:=ai.keep r2 k3;have m3:=ai.keep m2 k3;have B3:=ae B2 k3;have l2:=ai.lt r2;obtain⟨w3,hw3⟩: ∃ w3,w3=w2.alloc (.cells [.bool false].toArray 167):=⟨_,rfl⟩;rw [← hw3] at s3 t3 r3 m3 B3;have H3:=Ud.hide hw3;obtain⟨s,hs⟩: ∃ s,s=w2.heap.size:=⟨_,rfl⟩;rw [← hs] at s3 l2;have Hs:=Ud.hide hs;have ls:=ai.lt s3;have rm3:=Pd.fH.rm t3;clear hw3 hs t1 r1 m1 B1 t2 r2 m2 B2 k2 k3 HP HW
 go_wp2_with (first
  |(rw [← H3.out,← Hs.out])
  |(refine St.dA Pd.Ie rl1 _ rl1 _ _ _ rl1 (by with_reducible exact rm3) (dG _ _ _) ?_)
  |(refine St.aI Ph rl1 _ rl1 _ _ rl1 (by with_reducible exact m3) rfl ?_)
  |fail)
 refine(HU.out s _ _ s3).mono ?_;rintro e w4 ⟨rfl,s4,k4⟩;have t4:=aT t3 k4 om1;have r4:=aT r3 k4 om1;have m4:=aT m3 k4 om1;have B4:=k4.below B3 B3.size (fun q e=>by omega);clear t3 r3 m3 B3 s3 rm3 H3 Hs;go_wp2_with fail
 refine(HL.out _).mono ?_;rintro e w5 ⟨rfl,k5⟩;have t5:=ai.keep t4 k5;have r5:=ai.keep r4 k5;have m5:=ai.keep m4 k5;have s5:=ai.keep s4 k5;have B5:=ae B4 k5;clear t4 r4 m4 s4 B4 k5
 go_upto_region 7 with(first
  |(rw [QL];refine St.aF isF rfl _ _ rl1 _ _ _ rl1 rl1 (dM _ _ _) (dM _ _ _) (lM _ _ _) ?_;intro w6 n6 k6)
  |fail)
 have t6:=ai.keep t5 k6;have m6:=ai.keep m5 k6;have r6:=ai.keep r5 k6;have s6:=ai.keep s5 k6;have B6:=ae B5 k6;have ln:=ai.lt n6;have l5:=ai.lt r5;have ls5:=ai.lt s5;obtain⟨gf,hgf⟩: ∃ q,q=w5.heap.size:=⟨_,rfl⟩;rw [← hgf] at n6 ln l5 ls5 ⊢;have HS:Hid (∀ U,But (· =s) w6 U->(Pd.fH U w.heap.size X 6 6 zP/\ai U (w.heap.size+1) 69 (pv x y a b c)/\gX U gf 2 zL d)):=fun U k=>⟨aT t6 k om1,aT m6 k om1,aT n6 k om1⟩;have HR2:Hid (∀ U,But (· =s) w6 U->ai U (w.heap.size+1+1) 163 (dP (fun _=>0) 0 (fun _=>0) (fun _=>0))):=fun U k=>aT r6 k om1;have HB:Hid (∀ U,But (· =s) w6 U->Below w.heap.size w U):=fun U k=>k.below B6 B6.size (fun q e=>by omega);have D0:But (· =s) w6 w6.drew:=(But.refl _ _).drew;have o0:jS w6.drew s (false||x1):=ai.drew s6;have lr:=ai.lt r6;have ls:=ai.lt s6;clear hgf t5 m5 r5 s5 B5 k6 HU HL t6 m6 r6 s6 B6 n6;refine Ru.aS [6] (fun w'=>Pd.fH w' w.heap.size X 6 6 zP/\ai w' (w.heap.size+1) 69 (pv x y a b c)/\gX w' gf 2 zL d) (by kernel_rfl) (HS.out _ D0) (fun hHeld=> ?_);refine Ru.tk 0 (.agg (Pd.aB X 6 6 zP).toArray) rfl (Ru.fF Pd.isS (by kernel_rfl) _ rl1 w.heap.size _ rl1 (fun w h=>h.1) (Pd.aA _ _ _ _)) hHeld ?_;refine Ru.tk 1 (.agg (pv x y a b c).toArray) rfl (Ru.fF Ph (by kernel_rfl) _ rl1 (w.heap.size+1) _ rl1 (fun w h=>h.2.1) rfl) hHeld ?_;refine Ru.tk 3 (.agg (fB 2 zL d).toArray) rfl (Ru.fF isF (by kernel_rfl) _ rl1 gf _ rl1 (fun w h=>h.2.2) (dM _ _ _)) hHeld ?_;refine Ru.rs [2,5] ?_;refine Ru.co (fun K hK=> ?_) ?_
 ·go_simp;refine(HY.out s _ _ o0).mono ?_;rintro e v_1 ⟨rfl,o_1,k_1⟩;have D_1:=D0.trans k_1;go_wp2_with fail
  refine Ru.hd hK (HS.out _ D_1) (fun hHeld=> ?_);clear hK K;refine Ru.tk 4 (.agg (dP V 2 zL d).toArray) rfl (Up.Tf (by kernel_rfl) _ _ rl1 V 2 zL d rl1 rl1) hHeld ?_;refine Ru.rd 5 (fun K hK=> ?_);go_simp;try rw [wY]
  have n_2:ai (v_1.alloc (.cells (dP (fun _=>0) 0 (fun _=>0) (fun _=>0)).toArray 163)) (v_1.heap.size) 163 (dP (fun _=>0) 0 (fun _=>0) (fun _=>0)):=aH v_1 163 (dP (fun _=>0) 0 (fun _=>0) (fun _=>0));have a_2:=af (Below.refl _ v_1) (.cells (dP (fun _=>0) 0 (fun _=>0) (fun _=>0)).toArray 163);have D_2:=D_1.then a_2;have o_2:=ai.keep o_1 a_2;have g_2:=D_1.size;refine Ru.hd hK (HS.out _ D_2) (fun hHeld=> ?_);clear hK K;refine Ru.rd2 6 (fun K hK=> ?_);refine Ru.kK IX (by kernel_rfl) _ _ rl1 (v_1.heap.size) _ (dP V 2 zL d) rl1 rl1 n_2 (dW _ _ _ _) (dW _ _ _ _) (kL _ _ _ _) ?_;have nE:=ai.row n_2 (dP V 2 zL d);have oE:=ai.aY o_2 (g:=v_1.heap.size) om1 (dP V 2 zL d).toArray;have rE:=ai.aY (HR2.out _ D_2) (g:=v_1.heap.size) om1 (dP V 2 zL d).toArray;have bE:=St.aJ (HB.out _ D_2) (g:=v_1.heap.size) om1 (dP V 2 zL d).toArray;have gz:s<v_1.heap.size:=om1;have gr:w.heap.size+1+1≠v_1.heap.size:=om1;rw [← HXB.out] at oE;obtain⟨ge,hge⟩: ∃ q,q=v_1.heap.size:=⟨_,rfl⟩;exact XU
 refine Ru.co1 (fun K hK=> ?_);go_simp;try rw [wY]
 have n_3:ai (w6.drew.alloc (.cells (dP (fun _=>0) 0 (fun _=>0) (fun _=>0)).toArray 163)) (w6.heap.size) 163 (dP (fun _=>0) 0 (fun _=>0) (fun _=>0)):=aH w6.drew 163 (dP (fun _=>0) 0 (fun _=>0) (fun _=>0));have a_3:=af (Below.refl _ w6.drew) (.cells (dP (fun _=>0) 0 (fun _=>0) (fun _=>0)).toArray 163);have D_3:=D0.then a_3;have o_3:=ai.keep o0 a_3;have g_3:=D0.size;have e_3:w6.drew.heap.size=w6.heap.size:=rfl;refine Ru.hd hK (HS.out _ D_3) (fun hHeld=> ?_);clear hK K;refine Ru.rd 2 (fun K hK=> ?_);go_simp;refine(HY.out s _ _ o_3).mono ?_;rintro e v_4 ⟨rfl,o_4,k_4⟩;have D_4:=D_3.trans k_4;have n_4:=aT n_3 k_4 om1;go_wp2_with fail
 refine Ru.hd hK (HS.out _ D_4) (fun hHeld=> ?_);clear hK K;refine Ru.tk 4 (.agg (dP V 2 zL d).toArray) rfl (Up.Tf (by kernel_rfl) _ _ rl1 V 2 zL d rl1 rl1) hHeld ?_;refine Ru.rd2 6 (fun K hK=> ?_);refine Ru.kK IX (by kernel_rfl) _ _ rl1 (w6.heap.size) _ (dP V 2 zL d) rl1 rl1 n_4 (dW _ _ _ _) (dW _ _ _ _) (kL _ _ _ _) ?_;have nE:=ai.row n_4 (dP V 2 zL d);have oE:=ai.aY o_4 (g:=w6.heap.size) om1 (dP V 2 zL d).toArray;have rE:=ai.aY (HR2.out _ D_4) (g:=w6.heap.size) om1 (dP V 2 zL d).toArray;have bE:=St.aJ (HB.out _ D_4) (g:=w6.heap.size) om1 (dP V 2 zL d).toArray;have gz:s<w6.heap.size:=om1;have gr:w.heap.size+1+1≠w6.heap.size:=om1;rw [← HXB.out] at oE;obtain⟨ge,hge⟩: ∃ q,q=w6.heap.size:=⟨_,rfl⟩;exact XU
end
section
open Go.RowKit Vc St Qn Dt Tg Ld Mt Mo
attribute [local go_sem ↓] Go.wp_at_zero Go.wp_at_succ
namespace Mo
end Mo
end
end Go.Proofs.YtcefcokpjbebhaaGreatDoor
