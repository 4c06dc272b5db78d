/-
  How things move (model): the noise.
-/
import Derived.Test.YtcefcokpjbebhaaGreatDoorM20
import Derived.Test.YtcefcokpjbebhaaGreatDoorRegU
import Derived.Deep.DeepCutAuto
import Derived.Deep.CutRange
set_option linter.unusedSimpArgs false
set_option linter.unusedVariables false
namespace Go.Proofs.YtcefcokpjbebhaaGreatDoor
open Go.RowKit Vc St Qn Dt Tg Ld Mt Mo
attribute [local go_sem ↓] Go.wp_at_zero Go.wp_at_succ
namespace Mo
theorem V6(b:Nat)(w:World): ∀ {i:Nat},i<3->(Instr.indexAt 151 (.pointer (some ⟨b,0,none⟩)) (.int .i64 (i:Int))).run Tryz.prog w= .ok (.pointer (some ⟨b,3*i,none⟩)) w
 |0,_=>by kernel_rfl
 |1,_=>by kernel_rfl
 |2,_=>by kernel_rfl
 |n+3,h=>by omega
theorem MG(b o:Nat)(w:World): ∀ {i:Nat},i<3->(Instr.indexAt 149 (.pointer (some ⟨b,o,none⟩)) (.int .i64 (i:Int))).run Tryz.prog w= .ok (.pointer (some ⟨b,o+i,none⟩)) w
 |0,_=>by kernel_rfl
 |1,_=>by kernel_rfl
 |2,_=>by kernel_rfl
 |n+3,h=>by omega
structure NSt(w wr:World)(g ba bo:Nat)(K R d N:Int)(z:Nat->Int):Prop where
 a:ai wr ba 149 (vals 3 (gv K d))
 m:ai wr w.heap.size 85 [.int .i64 K, .int .i64 R, .int .i64 N]
 r:jM wr (w.heap.size+1) (fun _=>0)
 o:jM wr bo z
 s:CU wr g
 b:Below w.heap.size w wr
 na:ba≠bo
 nm:w.heap.size≠bo
 nr:w.heap.size+1≠bo
 ns:g≠bo
 lo:w.heap.size<=bo
theorem NSt.keep{w wr w':World}{g ba bo:Nat}{K R d N:Int}{z:Nat->Int}(h:NSt w wr g ba bo K R d N z)(k:Below wr.heap.size wr w'):NSt w w' g ba bo K R d N z:=
 ⟨ai.keep h.a k,ai.keep h.m k,h.r.keep k,h.o.keep k,h.s.keep k,ae h.b k,h.na,h.nm,h.nr,h.ns,h.lo⟩
theorem NSt.set{w wr:World}{g ba bo:Nat}{K R d N:Int}{z:Nat->Int}(h:NSt w wr g ba bo K R d N z)(j:Nat)(x:Int):NSt w (wr.setCell ⟨bo,j,none⟩ (.int .i64 x)) g ba bo K R d N (fun k=>if k=j then x else z k):=
 ⟨ai.other h.a _ h.na,ai.other h.m _ h.nm,ai.other h.r _ h.nr,h.o.set j x,ai.other h.s _ h.ns,h.b.setCell h.lo _,h.na,h.nm,h.nr,h.ns,h.lo⟩
theorem NSt.congr{w wr:World}{g ba bo:Nat}{K R d N:Int}{z z':Nat->Int}(h:NSt w wr g ba bo K R d N z)(e: ∀ k,z k=z' k):NSt w wr g ba bo K R d N z':=⟨h.a,h.m,h.r,h.o.congr fun k _=>e k,h.s,h.b,h.na,h.nm,h.nr,h.ns,h.lo⟩
end Mo
set_option maxRecDepth 10000 in
set_option maxHeartbeats 4000000 in
theorem Oz(g:Nat)(K R d N:Int)(w:World)(h:CU w g)(ht:qU d)(hn:lT N):
 Calls Tryz.prog 75 #[.agg #[.int .i64 K, .int .i64 R, .int .i64 N], .int .i64 d, .pointer (some ⟨g,0,none⟩)] w fun e w'=>e= .returned (.agg (bl (nz K d N)).toArray)/\Below w.heap.size w w':=by
 have m0:=(aH w 85 [.int .i64 K, .int .i64 R, .int .i64 N]).alloc (.cells (vals 9 (fun _=>0)).toArray 151);have o0:jM _ _ _:=bU w (.cells #[.int .i64 K, .int .i64 R, .int .i64 N] 85) 151 (vals 9 (fun _=>0));have B0:Below w.heap.size w ((w.alloc (.cells #[.int .i64 K, .int .i64 R, .int .i64 N] 85)).alloc (.cells (vals 9 (fun _=>0)).toArray 151)):=af (af (Below.refl _ _) _) _;obtain⟨W,hW⟩: ∃ W,W=(w.alloc (.cells #[.int .i64 K, .int .i64 R, .int .i64 N] 85)).alloc (.cells (vals 9 (fun _=>0)).toArray 151):=⟨_,rfl⟩;have m0:ai W w.heap.size 85 [.int .i64 K, .int .i64 R, .int .i64 N]:=by rw [hW];exact m0
 have o0:jM W (w.heap.size+1) (fun _=>0):=by rw [hW];exact o0
 rw [← hW] at B0;have HW:=hide hW;have g0:=h.keep B0;have HH:=hide (FH g d W g0 ht);clear hW;go_enter Tryz.func75,Tryz.ntmps75
 go_wp2_with fail
 rw [zero9,← HW.out];refine HH.out.mono ?_;rintro e w1 ⟨rfl,k1⟩;have m1:=ai.keep m0 k1;have o1:=o0.keep k1;have g1:=g0.keep k1;have B1:=ae B0 k1;have c1:w1.cell? ⟨w.heap.size,0,none⟩=some (.int .i64 K):=ai.cell m1 (k:=0) rfl rfl;clear m0 o0 g0 B0 k1;have n0:w1.heap.size≠w.heap.size:=by have:=ai.lt m1;omega
 have lw:w.heap.size<=w1.heap.size:=B1.size;have c1':(w1.alloc (.cells #[.int .i64 (hf d), .int .i64 d, .int .i64 0] 149)).cell? ⟨w.heap.size,0,none⟩=some (.int .i64 K):=ah (af (Below.refl _ _) _) c1;go_upto_if 20 with fail
 go_cut [] (fun wx=>ai wx w1.heap.size 149 (vals 3 (gv K d))/\ai wx w.heap.size 85 [.int .i64 K, .int .i64 R, .int .i64 N]/\jM wx (w.heap.size+1) (fun _=>0)/\CU wx g/\Below w.heap.size w wx)
 case first=>
  have a1:=aH w1 149 [.int .i64 (hf d), .int .i64 d, .int .i64 0];have K1:=af (Below.refl _ w1) (.cells [.int .i64 (hf d), .int .i64 d, .int .i64 0].toArray 149);by_cases e:K=1
  ·subst e;go_wp2;go_meet;rw [V4 d];have a2:=aH w1 149 [.int .i64 (hf d), .int .i64 d, .int .i64 1048576];have K2:=af (Below.refl _ w1) (.cells [.int .i64 (hf d), .int .i64 d, .int .i64 1048576].toArray 149);exact⟨a2,ai.keep m1 K2,o1.keep K2,g1.keep K2,ae B1 K2⟩
  ·have e1:(K==1)=false:=beq_eq_false_iff_ne.2 e;go_wp2;go_meet;rw [ZJ K d e];exact⟨a1,ai.keep m1 K1,o1.keep K1,g1.keep K1,ae B1 K1⟩
 obtain⟨aC,mC,rC,sC,bC⟩:=hcut;have KC:=af (Below.refl _ wc) (.cells (vals 9 (fun _=>0)).toArray 151);have oX:jM (wc.alloc (.cells (vals 9 (fun _=>0)).toArray 151)) wc.heap.size (fun _=>0):=aH wc _ _
 have hN:NSt w (wc.alloc (.cells (vals 9 (fun _=>0)).toArray 151)) g w1.heap.size wc.heap.size K R d N (pt K d N 0 0):=
  NSt.congr ⟨ai.keep aC KC,ai.keep mC KC,rC.keep KC,oX,sC.keep KC,ae bC KC,by have:=ai.lt aC;omega,by have:=ai.lt mC;omega,by have:=ai.lt rC;omega,by have:=ai.lt sC;omega,by have:=ai.lt mC;omega⟩ (fun k=>(uQ K d N k).symm)
 obtain⟨X,hX⟩: ∃ X,X=wc.alloc (.cells (vals 9 (fun _=>0)).toArray 151):=⟨_,rfl⟩;rw [← hX] at hN;have HX:=hide hX;obtain⟨bo,hbo⟩: ∃ bo,bo=wc.heap.size:=⟨_,rfl⟩;obtain⟨ba,hba⟩: ∃ ba,ba=w1.heap.size:=⟨_,rfl⟩;rw [← hbo,← hba] at hN;have HBo:=hide hbo;have HBa:=hide hba;have HG:=hide (fun(W:World) (k:Nat) (hk:k<3)=>run_g (gv K d) W hk);have HgI:=hide (Rl K ht);have HggI:=hide (Zy K ht);have HngI:=hide (ng_in K ht hn);obtain⟨N1,N2⟩:=id hn;obtain⟨L,hL⟩: ∃ L,L=vals 3 (gv K d):=⟨_,rfl⟩;have HLn:Hid (L.length=3):=by rw [hL];exact aK _ _
 have HLe:=hide hL;rw [← hL] at HG;clear hX hL aC mC rC sC bC KC oX hbo hba c1 c1' m1 o1 g1 B1 n0 lw m0 o0 HH HW h
 go_wp2_with (first
  |(rw [zero9,← HX.out,← HBo.out,← HBa.out];refine St.aI isA3 rl1 _ rl1 _ L rl1 (by rw [HLe.out];exact hN.a) HLn.out ?_))
 go_loopw [23] (fun v wr=> ∃ i:Nat,i<=3/\v= .int .i64 (i:Int)/\NSt w wr g ba bo K R d N (pt K d N i 0)) (fun v _=>3- (intOf v).toNat)
 case atStart=>exact⟨0,om1,rfl,hN⟩
 case round=>
  rename World=>wo;obtain⟨i,hi,rfl,hO⟩:=hrel;by_cases h3:i<3
  ·have hidx:=fun(W:World)=>HG.out W i h3;obtain⟨A,hA⟩: ∃ A,A=gv K d i:=⟨_,rfl⟩;rw [← hA] at hidx;have HA:=hide hA;clear hA
   go_wp2_with (first
    |(refine St.aI isA3 rl1 _ rl1 _ L rl1 (by rw [HLe.out];exact hO.a) HLn.out ?_))
   go_loopw [28] (fun v wr=> ∃ j:Nat,j<=3/\v= .int .i64 (j:Int)/\NSt w wr g ba bo K R d N (pt K d N i j)) (fun v _=>3- (intOf v).toNat)
   case atStart=>exact⟨0,om1,rfl,hO⟩
   case round=>
    rename World=>wi;obtain⟨j,hj,rfl,hM⟩:=hrel;obtain⟨p1,hp1⟩: ∃ p,p=3*i:=⟨_,rfl⟩;have hx1:=fun(W:World)=>V6 bo W h3;rw [← hp1] at hx1;have HP1:=hide hp1;by_cases h4:j<3
    ·have hjdx:=fun(W:World)=>HG.out W j h4;have b1:=HgI.out i;have b2:=HgI.out j;have b3:=HggI.out i j;have b4:=HngI.out i j;have eR:Hid (ng K d N i j=ml (ml (gv K d i) (gv K d j)) N):=rfl;obtain⟨B,hB⟩: ∃ B,B=gv K d j:=⟨_,rfl⟩;rw [← HA.out] at b1 b3 b4 eR;rw [← hB] at hjdx b2 b3 b4 eR;clear hB;have H1:=hide (fun W (k:Below wi.heap.size wi W)=>tN g A B W (hM.s.keep k) om1 om1 om1 om1 b3.1);have H2:=hide (fun W (k:Below wi.heap.size wi W)=>tN g (ml A B) N W (hM.s.keep k) om1 om1 om1 om1 b4.1);rw [← eR.out] at H2;obtain⟨r,hr⟩: ∃ r,r=ng K d N i j:=⟨_,rfl⟩;rw [← hr] at H2;have Hr:=hide hr;clear hr eR b3 b4;generalize ml A B=AB at H1 H2;have cN:wi.cell? ⟨w.heap.size,2,none⟩=some (.int .i64 N):=ai.cell hM.m (k:=2) rfl rfl;obtain⟨p2,hp2⟩: ∃ p,p=p1+j:=⟨_,rfl⟩;have hx2:=fun(W:World)=>MG bo p1 W h4;rw [← hp2] at hx2;have hp9:p2<9:=om1;have HP2:=hide hp2;obtain⟨Z,hz⟩: ∃ Z,pt K d N i j p2=Z:=⟨_,rfl⟩;clear hp1 hp2;go_wp2;refine Ru.aS [12] (fun w'=>w'.cell? ⟨w.heap.size,2,none⟩=some (.int .i64 N)) (by kernel_rfl) cN (fun hHeld=> ?_);refine Ru.tk1 0 (.int .i64 (i:Int)) hHeld ?_;refine Ru.tk1 1 (.int .i64 (j:Int)) hHeld ?_;refine Ru.tk1 2 (.pointer (some ⟨g,0,none⟩)) hHeld ?_;refine Ru.tk1 3 (.pointer (some ⟨g,0,none⟩)) hHeld ?_;refine Ru.tk1 4 (.int .i64 A) hHeld ?_;refine Ru.tk1 5 (.int .i64 B) hHeld ?_;refine Ru.tk1 7 (.pointer (some ⟨w.heap.size,2,none⟩)) hHeld ?_;refine Ru.tk1 8 (.int .i64 N) hHeld ?_;refine Ru.tk1 10 (.pointer (some ⟨bo,p1,none⟩)) hHeld ?_;refine Ru.rd 6 (fun K hK=> ?_);go_simp;refine(H1.out _ (Vc.az _)).mono ?_;rintro e w5 ⟨rfl,k5⟩;have K5:=ae (Vc.az _) k5;go_wp2_with fail
     refine Ru.hd hK (ah K5 cN) (fun hHeld=> ?_);clear hK K;refine Ru.rd 9 (fun K hK=> ?_);go_simp;refine(H2.out _ K5).mono ?_;rintro e w6 ⟨rfl,k6⟩;have K6:=ae K5 k6;have n6:=hM.keep K6;have cO:=n6.o.cell hp9;have fO:=ai.free n6.o p2;rw [hz] at cO;go_wp2_with fail
     refine Ru.hd hK (ah K6 cN) (fun hHeld=> ?_);clear hK K;refine Ru.tk1 11 (.pointer (some ⟨bo,p2,none⟩)) hHeld ?_;refine Ru.rd2 12 (fun K hK=> ?_);go_simp;refine hK.out _ _ ?_;clear hK K;try simp only [Act.put,List.getElem_toArray,List.getElem_cons_zero,List.getElem_cons_succ,List.setIfInBounds_toArray,List.set_cons_zero,List.set_cons_succ]
     refine wpAny_done (by kernel_rfl) ?_ _;have hE:=(n6.set p2 r).congr (z':=pt K d N i (j+1)) (fun k=>by rw [Hr.out,HP2.out,HP1.out];exact Jz K d N h4 k);clear n6 cO fO;go_wp2;go_roundw
     case rel=>exact⟨j+1,om1,by go_num,hE⟩
     case measure=>simp [intOf];omega
    ·obtain rfl:j=3:=om1;obtain⟨p3,hp3⟩: ∃ p,p=p1+i:=⟨_,rfl⟩;have hx2:=fun(W:World)=>MG bo p1 W h3;rw [← hp3] at hx2;have hp9:p3<9:=om1;have HP3:=hide hp3;have b4:=(HngI.out i i).2.2;obtain⟨V,hV⟩: ∃ V,V=ng K d N i i:=⟨_,rfl⟩
     have cV:wi.cell? ⟨bo,p3,none⟩=some (.int .i64 V):=by
      have e:=hM.o.cell hp9;rw [hp3,hp1,Ri K d N h3,← hV,← hp1,← hp3] at e;exact e
     rw [← hV] at b4;have HV:=hide hV;have H3:=hide (fun W=>nT V 16 W om1 om1 om1 om1);rw [BG om1 om1,BH om1 om1] at H3;obtain⟨V16,hV16⟩: ∃ v,v=V+16:=⟨_,rfl⟩;rw [← hV16] at H3;have HV16:=hide hV16;have H4:=hide (fun W (k:Below wi.heap.size wi W)=>xQ g V16 W (hM.s.keep k));clear hp1 hp3 hV hV16 b4;go_wp2;refine Ru.aS [14] (fun w'=>w'.cell? ⟨bo,p3,none⟩=some (.int .i64 V)) (by kernel_rfl) cV (fun hHeld=> ?_);refine Ru.tk1 0 (.int .i64 (i:Int)) hHeld ?_;refine Ru.tk1 1 (.int .i64 (i:Int)) hHeld ?_;refine Ru.tk1 2 (.pointer (some ⟨g,0,none⟩)) hHeld ?_;refine Ru.tk1 3 (.int .i64 (i:Int)) hHeld ?_;refine Ru.tk1 4 (.int .i64 (i:Int)) hHeld ?_;refine Ru.tk1 5 (.pointer (some ⟨bo,p1,none⟩)) hHeld ?_;refine Ru.tk1 6 (.pointer (some ⟨bo,p3,none⟩)) hHeld ?_;refine Ru.tk1 7 (.int .i64 V) hHeld ?_;refine Ru.tk1 12 (.pointer (some ⟨bo,p1,none⟩)) hHeld ?_;refine Ru.rd 8 (fun K hK=> ?_);go_simp;refine(H3.out _).mono ?_;rintro e w5 ⟨rfl,k5⟩;have K5:=ae (Vc.az _) k5;go_wp2_with fail
     refine Ru.hd hK (ah K5 cV) (fun hHeld=> ?_);clear hK K;refine Ru.tk1 9 (.int .i64 V16) hHeld ?_;refine Ru.tk1 10 (.bool false) hHeld ?_;refine Ru.rd 11 (fun K hK=> ?_);go_simp;refine(H4.out _ K5).mono ?_;rintro e w6 ⟨rfl,k6⟩;have K6:=ae K5 k6;have n6:=hM.keep K6;have cO:=ah K6 cV;have fO:=ai.free n6.o p3;go_wp2_with fail
     refine Ru.hd hK (ah K6 cV) (fun hHeld=> ?_);clear hK K;refine Ru.tk1 13 (.pointer (some ⟨bo,p3,none⟩)) hHeld ?_;refine Ru.rd2 14 (fun K hK=> ?_);go_simp;refine hK.out _ _ ?_;clear hK K;try simp only [Act.put,List.getElem_toArray,List.getElem_cons_zero,List.getElem_cons_succ,List.setIfInBounds_toArray,List.set_cons_zero,List.set_cons_succ]
     refine wpAny_done (by kernel_rfl) ?_ _;have hE:=(n6.set p3 V16).congr (z':=pt K d N (i+1) 0) (fun k=>by rw [HV16.out,HV.out,HP3.out,HP1.out];exact pt_row K d N h3 k);clear n6 cO fO;go_wp2;go_roundw
     case rel=>exact⟨i+1,om1,by go_num,hE⟩
     case measure=>simp [intOf];omega
  ·obtain rfl:i=3:=om1;have e9:vals 9 (pt K d N 3 0)=bl (nz K d N):=dZ fun k hk=>BJ K d N k hk;have oE:ai wo bo 151 (bl (nz K d N)):=by rw [← e9];exact hO.o
   have rE:ai wo (w.heap.size+1) 151 (vals 9 (fun _=>0)):=hO.r;have bE:=hO.b;have HLb:=hide (XI (nz K d N));have HOb:Hid (∀ v∈bl (nz K d N),v.oneCell'=true):=fK _ _;obtain⟨Lb,hLb⟩: ∃ Lb,Lb=bl (nz K d N):=⟨_,rfl⟩;rw [← hLb] at oE HLb HOb;have HLB:=hide hLb;clear e9 hLb
   go_wp2_with (first
    |(refine St.aI isB9 rl1 _ rl1 _ Lb rl1 (by with_reducible exact oE) HLb.out ?_)
    |(refine St.aU isB9 rl1 _ _ rl1 _ (vals 9 (fun _=>0)) Lb rl1 rl1 (by with_reducible exact rE) rfl HLb.out HOb.out ?_))
   exact bodyPost_ret (v:= .agg Lb.toArray) (iV isB9 Tryz.results75 _ _ (w.heap.size+1) Lb rfl (ai.row rE _) HLb.out) rfl ⟨by rw [HLB.out],St.aJ bE om1 _⟩
end Go.Proofs.YtcefcokpjbebhaaGreatDoor
