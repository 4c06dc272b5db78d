/-
  The document's answer of layer 16 (radomeref16): in, Weights; by py/LkR.py.
-/
import Derived.Test.YtcefcokpjbebhaaGreatDoorM29
import Derived.Test.YtcefcokpjbebhaaGreatDoorM31
import Derived.Test.YtcefcokpjbebhaaGreatDoorM21
import Derived.Test.YtcefcokpjbebhaaGreatDoorM25
set_option linter.unusedSimpArgs false
set_option linter.unusedVariables false
set_option maxHeartbeats 8000000
set_option maxRecDepth 20000
namespace Go.Proofs.YtcefcokpjbebhaaGreatDoor
section
open Go.RowKit Vc Cn Lk
attribute [local go_sem ↓] Go.wp_at_zero Go.wp_at_succ
namespace Lk
theorem iH{p:Prop}(h:p):Hid p:=h
theorem aau{w w0 w1:World}{B B':Nat}{v:Value}{n:Nat}{z:Nat->Int}(h:Own B w1 w v n z)(b:Below B' w0 w1)(hB:B'<=B):Own B' w0 w v n z:=by
 have hb:=h.from b hB;obtain⟨⟨h1,h2⟩,_,h3⟩:=h;refine⟨⟨h1, ?_⟩,hb,om1⟩;rcases h2 with h2|⟨g,cap,cur,rfl,hb,hg,hn,hc,hs,ht⟩
 · exact Or.inl h2
 · exact Or.inr ⟨g,cap,cur,rfl,om1,hg,hn,hc,hs,ht⟩
theorem TS{ops:Array Oper}{o:Oper}{a:Act}{wr:World}{K:Act->World->Prop}{Q:Exit->Act->World->Prop}{E:Prop}(hgd:o.guard=none)(s x:Operand)
 (ho:o.op= .call { callee:= .builtin .append,args:= #[s,x],argTypes:= #[27,27] }) (B:Nat) (w0:World) (v:Value) (n:Nat) (z:Nat->Int) (hs:a.eval s=v) (hown:Own B w0 wr v n z) (hl:n<=2000000) (y:Int) (hy:y=z n)
 (hx:a.eval x= .slice (some ⟨wr.heap.size,0,none⟩) 1 1)
 (hK: ∀ v' w',Own B w0 w' v' (n+1) z->K (a.put o.dst v') w'):
 if Region.wanted o (yielded ops a.tmps)=true then Oper.wp Tryz.prog o a (wr.alloc (.cells #[.int .i64 y] 2)) K Q else E:=by
 obtain⟨i0,hi,hz0,hz1,hz2⟩:=info_parts iY;subst hy;have hb:B<=(wr.alloc (.cells #[.int .i64 (z n)] 2)).heap.size:=by have:=hown.base;simp;omega
 refine step_append_lies _ hgd s x 27 ho B 2 i0 (.int .i64 0) 1 8 Tryz.underlying27 hi hz0 hz1 hz2 rfl (by decide) v n (vals n z) hs (hown.row.alloc _) ⟨wr.heap.size,0,none⟩ 1 1 [.int .i64 (z n)] hx rfl (World.news_of_block (heap_alloc_new wr _)) (by intro u hu;simp at hu;subst hu;rfl) om1 (by unfold maxLen;omega) om1 hb _ rfl ?_;intro g cap w' h1 h2 h3 h4;rw [mY] at h1;exact hK _ w' ⟨h1,(hown.below.alloc hown.base _).grown h2 hb (fun k hk=>(hown.row.lt k hk).1),Nat.le_trans hb h2.size⟩
end Lk
open Lk
theorem TU(z:Int)(w:World)(h: -4611686018427387903<=z/\z<=4611686018427387903):Calls Tryz.prog 131 #[.int .i64 z] w fun e w'=>e= .returned (.bool true)/\w'=w:=by
 have e1:decide (z>= -4611686018427387903)=true:=decide_eq_true h.1;have e2:decide (z<=4611686018427387903)=true:=decide_eq_true h.2;go_enter Tryz.func131,Tryz.ntmps131
 go_wp2;go_ret;exact⟨rfl,rfl⟩
theorem rin16_no(z:Int)(w:World)(h: ¬(-4611686018427387903<=z/\z<=4611686018427387903)):Calls Tryz.prog 131 #[.int .i64 z] w fun e w'=>e= .returned (.bool false)/\w'=w:=by
 by_cases h1: -4611686018427387903<=z
 · have e1:decide (z>= -4611686018427387903)=true:=decide_eq_true h1;have e2:decide (z<=4611686018427387903)=false:=decide_eq_false om1;go_enter Tryz.func131,Tryz.ntmps131
   go_wp2;go_ret;exact⟨rfl,rfl⟩
 · have e1:decide (z>= -4611686018427387903)=false:=decide_eq_false om1;go_enter Tryz.func131,Tryz.ntmps131
   go_wp2;go_ret;exact⟨rfl,rfl⟩
theorem Iy(n cl cc:Nat)(lo co:Option Addr)(l c:Nat->Int)(fl:Int)(w:World)(hl:Sl w lo n cl l)(hc:Sl w co n cc c)(bl':B64 l)(bc':B64 c)(h:Qh n l c fl):
 Calls Tryz.prog 62 #[.slice lo n cl, .slice co n cc, .int .i64 fl] w fun e w'=> ∃ vo vc,e= .returned (.tuple #[.slice vo n vc, .bool (wo l c n n), .int .i64 0])/\Own w.heap.size w w' (.slice vo n vc) n (oc fl (wz l c n) n):=by
 obtain⟨xl,hlo,hcl⟩:=hl.get;obtain⟨xc,hco,hcc⟩:=hc.get;have n1:=h.ch.one;have n4:=h.ch.four;obtain rfl:=hlo om1;obtain rfl:=hco om1;have h2:=hl.cap;have h4:=hc.cap;have hl1:=hl.le;have hc1:=hc.le;have f0:=h.lo;have f1:=h.hi;have HCK:=iH (fun W (a:Sl W (some xc) n cc c)=>oz (some xc) n cc c 0 W a bc' true (by simp;exact h.ch) om1 om1);have HOF:=iH (fun vo vc W (a:Sl W vo n vc (wz l c n))=>TQ vo n vc (wz l c n) fl W a (fun k=>by have:=Qi h k;omega) om1 om1);have HM:=iH h;have HBL:=iH (Nz h);have HL:=iH hcl;have HC:=iH hcc;have HL0:=iH hl;have HC0:=iH hc;have BL:=iH bl';have BC:=iH bc';have e0:decide (fl<0)=false:=decide_eq_false om1;have e1:decide (fl>67108864)=false:=decide_eq_false om1;clear h hl hc hlo hco hcl hcc bl' bc' f0 f1;go_enter Tryz.func62,Tryz.ntmps62
 go_wp2_with fail
 refine(HCK.out _ (HC0.out)).mono ?_;rintro e w1 ⟨rfl,k1⟩;go_wp2;go_loopw [9,10] (fun b i wr=> ∃ k:Nat,k<=n/\i= .int .i64 (k:Int)/\b= .int .i64 (bl l c k)/\Below w.heap.size w wr) (fun _ i _=>n- (intOf i).toNat)
 case atStart=>exact⟨0,om1,rfl,rfl,k1⟩
 case round=>
  rename World=>wr;clear k1;obtain⟨k,hk,rfl,rfl,k1⟩:=hrel;by_cases hkn:k<n
  ·have kn:(k:Int)<n:=om1;have cl0:=ah k1 (HL.out k hkn);have cc0:=ah k1 (HC.out k hkn);have mk:=HM.out.each k hkn;have HI:=iH (fun W=>TU (l k) W mk);have hlo:=bl_lo l c k;have H1:=iH (bl_yes (l:=l) (c:=c) (k:=k));have H0:=iH (bl_no (l:=l) (c:=c) (k:=k));obtain⟨B,hB⟩: ∃ B,B=bl l c k:=⟨_,rfl⟩;rw [← hB] at H1 H0 hlo ⊢;obtain⟨P,hP⟩: ∃ P,P=l k:=⟨_,rfl⟩;obtain⟨Q,hQ⟩: ∃ Q,Q=c k:=⟨_,rfl⟩;rw [← hP] at cl0 HI H1 H0;rw [← hQ] at cc0 H1 H0;clear hB hP hQ mk;go_wp2_with fail
   refine(HI.out _).mono ?_;rintro e w2 ⟨rfl,q2⟩;obtain rfl:=q2.symm;by_cases h0:0<Q
   ·have g0:decide (Q>0)=true:=decide_eq_true h0;by_cases hb:B<0
    ·have g1:decide (B<0)=true:=decide_eq_true hb;have HE:=iH (H1.out h0 (Or.inl hb));clear H1 H0;go_upto_region 9 with fail
     go_quiet (fail)
     go_wp2;go_roundw
     all_goals first
      |(simp [intOf];omega)
      |exact⟨k+1,om1,by go_num,by rw [HE.out],Vc.below_drewN k1 _⟩
    ·have g1:decide (B<0)=false:=decide_eq_false hb;obtain⟨b,rfl⟩: ∃ b:Nat,B=(b:Int):=⟨B.toNat,om1⟩;have bn:(b:Int)<n:=om1;have cb:=ah k1 (HL.out b om1);rw [Int.toNat_natCast] at H1 H0;obtain⟨R,hR⟩: ∃ R,R=l b:=⟨_,rfl⟩;rw [← hR] at cb H1 H0;clear hR;by_cases hr:R<P
     ·have g2:decide (P>R)=true:=decide_eq_true hr;have HE:=iH (H1.out h0 (Or.inr hr));clear H1 H0;go_upto_region 9 with fail
      go_quiet (fail)
      go_wp2;go_roundw
      all_goals first
       |(simp [intOf];omega)
       |exact⟨k+1,om1,by go_num,by rw [HE.out],Vc.below_drewN k1 _⟩
     ·have g2:decide (P>R)=false:=decide_eq_false om1;have HE:=iH (H0.out (fun q=>by have:=q.2;omega));clear H1 H0;go_upto_region 9 with fail
      go_quiet (fail)
      go_wp2;go_roundw
      all_goals first
       |(simp [intOf];omega)
       |exact⟨k+1,om1,by go_num,by rw [HE.out],Vc.below_drewN k1 _⟩
   ·have g0:decide (Q>0)=false:=decide_eq_false h0;have HE:=iH (H0.out (fun q=>h0 q.1));clear H1 H0;go_upto_region 9 with fail
    go_quiet (fail)
    go_wp2;go_roundw
    all_goals first
     |(simp [intOf];omega)
     |exact⟨k+1,om1,by go_num,by rw [HE.out],Vc.below_drewN k1 _⟩
  ·obtain rfl:n=k:=om1;have hbn:=HBL.out;obtain⟨b,hb⟩: ∃ b:Nat,b=(bl l c n).toNat:=⟨_,rfl⟩;have hbe:bl l c n=(b:Int):=om1;rw [hbe];have bn:b<n:=om1;have bz:(b:Int)<n:=om1;go_wp2;go_loopw [11,12,13,14,15] (fun a v i _ _ wr=> ∃ k:Nat,k<=n/\i= .int .i64 (k:Int)/\a= .bool (wo l c n k)/\Own w.heap.size w wr v k (wz l c n)) (fun _ _ i _ _ _=>n- (intOf i).toNat)
   case atStart=>exact⟨0,om1,rfl,rfl,Own.nil k1 k1.size _⟩
   case round=>
    rename World=>wr;obtain⟨k,hk,rfl,rfl,hown⟩:=hrel;by_cases hkn:k<n
    ·have kn:(k:Int)<n:=om1;have B1:=hown.below;have cl0:=ah B1 (HL.out k hkn);have cb0:=ah B1 (HL.out b bn);have cc0:=ah B1 (HC.out k hkn);have pk:=HM.out.each k hkn;have pb:=HM.out.each b bn;have pc:=HM.out.ch.nn hkn;have hd:=fun h0=>YS HM.out (i:=k) hkn h0;have hwz:=Qi HM.out k
     have hw:wz l c n k=if c k=0 then 0 else Gw.ex (Qn.clamp (l k- l b))*c k:=by
      unfold wz;rw [← hb];by_cases h0:c k=0
      ·rw [if_pos h0,if_pos (Or.inl h0)]
      ·rw [if_neg h0,if_neg om1]
     have hwo:wo l c n (k+1)=(wo l c n k||(!decide (c k=0) && Qn.great (l k- l b))):=by rw [hb];rfl
     rw [← hb] at hd;have HW:=iH hw;have HO:=iH hwo;have HB0:=iH hown;obtain⟨T,hT⟩: ∃ T,T=wo l c n k:=⟨_,rfl⟩;rw [← hT] at HO ⊢;obtain⟨Z,hZ⟩: ∃ Z,Z=wz l c n:=⟨_,rfl⟩;obtain⟨P,hP⟩: ∃ P,P=l k:=⟨_,rfl⟩;obtain⟨R,hR⟩: ∃ R,R=l b:=⟨_,rfl⟩;obtain⟨Q,hQ⟩: ∃ Q,Q=c k:=⟨_,rfl⟩;rw [← hP,← hR,← hQ] at HO;rw [← hZ,← hP,← hR,← hQ] at HW;rw [← hP] at cl0 pk hd;rw [← hR] at cb0 pb hd;rw [← hQ] at cc0 pc hd;rw [← hZ] at hown HB0 hwz ⊢;clear hT hP hR hZ hw hwo hb hbe hbn;obtain⟨vo,vc,rfl,hs⟩:=hown.sl;by_cases h0:Q=0
     ·have HZ:Hid (0=Z k):=iH (by rw [HW.out,if_pos h0]);have HT:Hid (T=wo l c n (k+1)):=iH (by rw [HO.out,h0];simp);have e4:(Q==0)=true:=by simp [h0]
      clear hd HO HW pk pb pc hwz;go_wp2_with (at_builtin;refine dm rl1 (.tmp 80) (.tmp 81) rl1 w.heap.size w _ k Z rl1 hown om1 0 (by exact HZ.out) rl1 ?_)
      intro v' w' hown';go_wp2;go_roundw
      all_goals first
       |(simp [intOf];omega)
       |exact⟨k+1,om1,by go_num,by rw [← HT.out],hown'⟩
     ·have HD:=iH (hd h0);have HZ:Hid (Z k=Gw.ex (Qn.clamp (P- R))*Q):=iH (by rw [HW.out,if_neg h0]);have HT:Hid (wo l c n (k+1)=(T||Qn.great (P- R))):=iH (by rw [HO.out,decide_eq_false h0];simp);have e4:(Q==0)=false:=by simp [h0]
      have OA:=iH (fun W=>fJ P W om1 om1);have OB:=iH (fun W=>fJ R W om1 om1);have SB:=iH (fun va vb W=>xH va vb P R W (dX om1 om1) (dX om1 om1));have BD:=iH (fun v W=>pF v (P- R) W (dX om1 om1));have cb: -4611686018427387903<=Qn.clamp (P- R)/\Qn.clamp (P- R)<=4611686018427387903:=by unfold Qn.clamp;split<;>(try split)<;>omega
      have EX:=iH (fun W=>Wn (Qn.clamp (P- R)) W HD.out om1);have HWR:Hid (IntKind.i64.wrap (Gw.ex (Qn.clamp (P- R))*Q)=Z k):=iH (by rw [← HZ.out,IntKind.wrap_i64];omega);obtain⟨d,hd'⟩: ∃ d,d=Qn.clamp (P- R):=⟨_,rfl⟩;obtain⟨g,hg⟩: ∃ g,g=Qn.great (P- R):=⟨_,rfl⟩;obtain⟨D,hDD⟩: ∃ D,D=P- R:=⟨_,rfl⟩;obtain⟨M,hM⟩: ∃ M,M=Z k:=⟨_,rfl⟩;obtain⟨X,hX⟩: ∃ X,X=Gw.ex (Qn.clamp (P- R)):=⟨_,rfl⟩;rw [← hX,← hM] at HWR;rw [← hX,← hd'] at EX;rw [← hg] at HT BD;rw [← hd',← hDD] at BD;rw [← hDD] at SB;have HM':=iH hM;have HQ:=iH hQ;have HWR':IntKind.i64.wrap (X*Q)=M:=HWR.out;have HS:Hid (∀ V,Below wr.heap.size wr V->V.cell? (xl.add k)=some (.int .i64 P)/\V.cell? (xl.add b)=some (.int .i64 R)):=fun V q=>⟨ah q cl0,ah q cb0⟩;have HS2:Hid (∀ V,Below wr.heap.size wr V->V.cell? (xc.add k)=some (.int .i64 Q)):=fun V q=>ah q cc0;clear hd HO HW pk pb pc hwz hd' hg hDD hM hX HZ HD cb cl0 cb0 HWR hQ;go_upto_region 18 with fail
      have D1:=Vc.az wr;refine Ru.aS [] (fun w'=>w'.cell? (xl.add k)=some (.int .i64 P)/\w'.cell? (xl.add b)=some (.int .i64 R)) (by kernel_rfl) (HS.out _ D1) (fun hHeld=> ?_);refine Ru.tk2 0 (.slice (some xl) n cl) hHeld ?_;refine Ru.tk2 1 (.int .i64 (k:Int)) hHeld ?_;refine Ru.tk2 2 (.pointer (some (xl.add k))) hHeld ?_;refine Ru.tk2 3 (.int .i64 P) hHeld ?_;refine Ru.tk2 5 (.slice (some xl) n cl) hHeld ?_;refine Ru.tk2 6 (.int .i64 (b:Int)) hHeld ?_;refine Ru.tk2 7 (.pointer (some (xl.add b))) hHeld ?_;refine Ru.tk2 8 (.int .i64 R) hHeld ?_;refine Ru.rd 4 (fun K hK=> ?_);go_simp;refine(OA.out _).mono ?_;rintro _ w2 ⟨v2,rfl,i2,k2⟩;have D2:=ae D1 k2;go_wp2_with fail
      refine Ru.hd hK (HS.out _ D2) (fun hHeld=> ?_);clear hK K;refine Ru.rd 9 (fun K hK=> ?_);go_simp;refine(OB.out _).mono ?_;rintro _ w3 ⟨v3,rfl,i3,k3⟩;have i2':=i2.below k3;have D3:=ae D2 k3;go_wp2_with fail
      refine Ru.hd hK (HS.out _ D3) (fun hHeld=> ?_);clear hK K;refine Ru.rd 10 (fun K hK=> ?_);go_simp;refine(SB.out _ _ _ i2' i3).mono ?_;rintro _ w4 ⟨v4,rfl,i4,k4⟩;have D4:=ae D3 k4;go_wp2_with fail
      refine Ru.hd hK (HS.out _ D4) (fun hHeld=> ?_);clear hK K;refine Ru.rd 11 (fun K hK=> ?_);go_simp;refine(BD.out _ _ i4).mono ?_;rintro _ w5 ⟨rfl,k5⟩;have D5:=ae D4 k5;go_wp2_with fail
      refine Ru.hd hK (HS.out _ D5) (fun hHeld=> ?_);clear hK K;refine Ru.tk2 12 (.tuple #[.int .i64 d, .bool g]) hHeld ?_;refine Ru.tk2 13 (.int .i64 d) hHeld ?_;refine Ru.tk2 14 (.bool g) hHeld ?_;refine Ru.tk2 15 (.int .i64 d) hHeld ?_;refine Ru.tk2 16 (.bool g) hHeld ?_;refine Ru.bI (by kernel_rfl) ?_;have D5':=D5;have HB5:=iH (hown.keep D5);all_goals go_upto_region 20 with fail
      all_goals(
       refine Ru.aS [10] (fun w'=>w'.cell? (xc.add k)=some (.int .i64 Q)) (by kernel_rfl) (HS2.out _ (ae D5' (Vc.az _))) (fun hHeld=> ?_);refine Ru.tk1 1 (.int .i64 d) hHeld ?_;refine Ru.tk1 0 (.slice vo k vc) hHeld ?_;refine Ru.tk1 3 (.slice (some xc) n cc) hHeld ?_;refine Ru.tk1 4 (.int .i64 (k:Int)) hHeld ?_;refine Ru.tk1 5 (.pointer (some (xc.add k))) hHeld ?_;refine Ru.tk1 6 (.int .i64 Q) hHeld ?_;refine Ru.rd 2 (fun K hK=> ?_);go_simp;refine(EX.out _).mono ?_;rintro _ w6 ⟨rfl,k6⟩;have D6:=ae (ae D5' (Vc.az _)) k6;go_wp2_with fail
       refine Ru.hd hK (HS2.out _ D6) (fun hHeld=> ?_);clear hK K;refine Ru.tk1 7 (.int .i64 M) hHeld ?_;refine Ru.rd 8 (fun K hK=> ?_);go_simp;refine Ru.hd hK (HS2.out _ (af D6 _)) (fun hHeld=> ?_);clear hK K;refine Ru.rd 9 (fun K hK=> ?_);refine TS rl1 (.tmp 102) (.tmp 110) rl1 w.heap.size w _ k Z rl1 (HB5.out.keep (ae (Vc.az _) k6)) om1 M HM'.out rl1 ?_;intro v' w' hown';refine Ru.hd hK (by rw [HQ.out];exact ah hown'.below (HC.out k hkn)) (fun hHeld=> ?_);clear hK K;refine Ru.rd2 10 (fun K hK=> ?_);go_simp;refine hK.out _ _ ?_;clear hK K;try simp only [Act.put,List.getElem_toArray,List.getElem_cons_zero,List.getElem_cons_succ,List.setIfInBounds_toArray,List.set_cons_zero,List.set_cons_succ]
       refine wpAny_done (by kernel_rfl) ?_ _;go_wp2;go_roundw
       all_goals first
        |(simp [intOf];omega)
        |exact⟨k+1,om1,by go_num,by rw [HT.out];first|rfl|(simp;done)|(simp [*];done),hown'⟩)
    ·clear hb hbe hbn;obtain rfl:n=k:=om1;obtain⟨vo,vc,rfl,hs⟩:=hown.sl;go_wp2_with fail
     refine(HOF.out _ _ _ hs).mono ?_;rintro e w2 ⟨v,er,rfl,ho⟩;rcases ho with⟨q,_⟩|⟨_,q,_⟩|⟨_,_,rfl,ho⟩
     ·exact absurd (Xf HM.out) q
     ·exact absurd q (by have:=Xg HM.out;omega)
     ·obtain⟨v2,c2,rfl,_⟩:=ho.sl;go_wp2;go_ret3;exact⟨_,_,rfl,aau ho hown.below hown.base⟩
namespace Lk
end Lk
end
section
open Go.RowKit Vc Mt St Qn Dt Dec Ld
namespace Ld
theorem Wq(x:Addr)(n c i:Nat)(h:i<n)(hc:n<=c):(∀ w:World,(Instr.sliceAt 27 (.slice (some x) n c) (some (.int .i64 (i:Int))) (some (.int .i64 ((i:Int)+1))) none).run Tryz.prog w= .ok (.slice (some (x.add i)) 1 (c- i)) w)/\
 ∀ w:World,(Instr.slice 27 (.slice (some x) n c) (some (.int .i64 (i:Int))) (some (.int .i64 ((i:Int)+1))) none).run Tryz.prog w= .ok (.slice (some (x.add i)) 1 (c- i)) w:=by
 have hu:Tryz.prog.underlying 27=some (.slice (Tryz.prog.elem 27)):=by kernel_rfl
 have he:Tryz.prog.elem 27=2:=by kernel_rfl
 have key: ∀ w:World,(Instr.slice 27 (.slice (some x) n c) (some (.int .i64 (i:Int))) (some (.int .i64 ((i:Int)+1))) none).run Tryz.prog w= .ok (.slice (some (x.add i)) 1 (c- i)) w:=fun w=>by
  rw [run_slice_lh w 27 _ _ _ hu .i64 .i64 _ _ om1 om1 om1,he,iU];have e1:((i:Int)+1).toNat=i+1:=om1;simp only [Result.andThen_ok,sliced,Int.toNat_natCast,Nat.mul_one,e1];rw [if_neg om1,Option.map_some,Nat.add_sub_cancel_left]
 exact⟨fun w=>by rw [run_sliceAt_slice w 27 _ _ _ _ hu];exact key w,key⟩
theorem aav{w:World}{x:Addr}{a:Int}{c:Nat}(h:w.cell? x=some (.int .i64 a))(h1:1<=c)(h2:c<=9223372036854775807):Sl w (some x) 1 c (fun _=>a):=
 ⟨h1,h2,fun k hk=>⟨x,rfl,by
  match k,hk with
  |0,_=>exact h⟩⟩
theorem Iz{a:Int}(h: -4611686018427387903<=a/\a<=4611686018427387903):B64 (fun _=>a):=fun _=>⟨by show-9223372036854775808<=a;omega,by show a<=9223372036854775807;omega⟩
end Ld
theorem IA(n cl cd vc:Nat)(lo do' vo:Option Addr)(L:Nat->Nat->Int)(d v:Nat->Int)(w:World)(h1:1<=n)(hn:n<=6)(hL:Grid w lo n cl n L)(hd:Sl w do' n cd d)(hv:Sl w vo n vc v)(bL: ∀ a,B64 (L a))(bd: ∀ k,k<n->1<=d k/\d k<=4611686018427387903)(bv:B64 v):
 Calls Tryz.prog 212 #[.agg #[.slice lo n cl, .slice do' n cd], .slice vo n vc] w fun e w'=> ∃ co cc,e= .returned (.tuple #[.slice co n cc, .bool (iT L v n)])/\Sl w' co n cc (dQ L v n)/\Below w.heap.size w w':=by
 obtain⟨A,C,hs,hg⟩:=hL;obtain⟨xl,hlo,hlc⟩:=hs.get;obtain⟨xd,hdo,hdc⟩:=hd.get;obtain rfl:=hlo om1;obtain rfl:=hdo om1;have l1:=hs.le;have l2:=hs.cap;have l3:=hd.le;have l4:=hd.cap;have HLC:=Hid.mkV hlc;have HDC:=Hid.mkV hdc;have HGr:=Hid.mkV hg;have cG0:(w.alloc (.cells #[.slice (some xl) n cl, .slice (some xd) n cd] 124)).cell? ⟨w.heap.size,0,none⟩=some (.slice (some xl) n cl):=by go_simp
 have cG1:(w.alloc (.cells #[.slice (some xl) n cl, .slice (some xd) n cd] 124)).cell? ⟨w.heap.size,1,none⟩=some (.slice (some xd) n cd):=by go_simp
 have rG:qj (w.alloc (.cells #[.slice (some xl) n cl, .slice (some xd) n cd] 124)) w.heap.size (.slice (some xl) n cl) (.slice (some xd) n cd):=aH w _ _;have hB:=af (Below.refl _ w) (.cells #[.slice (some xl) n cl, .slice (some xd) n cd] 124);obtain⟨W,hW⟩: ∃ W,W=w.alloc (.cells #[.slice (some xl) n cl, .slice (some xd) n cd] 124):=⟨_,rfl⟩;rw [← hW] at cG0 cG1 hB rG;have HW:=Hid.mkV hW;clear hW;obtain⟨xv,hvo,hvc⟩:=hv.get;obtain rfl:=hvo om1;have l5:=hv.le;have l6:=hv.cap;have HVC:=Hid.mkV hvc;have HS:=Hid.mkV (fun k (hk:k<n) (ao bo:Option Addr) (ca cb:Nat) W (H1:Sl W ao k ca (L k)) (H2:Sl W bo k cb (dQ L v k))=>xX ao bo k ca cb (L k) (dQ L v k) 30 30 W rfl om1 H1 H2 (bL k) (lS (pM L v k)) om1);have HM:=Hid.mkV (fun k W=>wU (v k) (wL (L k) (dQ L v k) k) W (bv k).1 (bv k).2 (by have:=uP (L k) (dQ L v k) k;omega) (by have:=uP (L k) (dQ L v k) k;omega));have eS:Hid (∀ k,clamp (rne (dk (L k) (dQ L v k) k) (2^30))=wL (L k) (dQ L v k) k/\great (rne (dk (L k) (dQ L v k) k) (2^30))=IV (L k) (dQ L v k) k/\clamp (v k- wL (L k) (dQ L v k) k)=gY (v k) (L k) (dQ L v k) k):=fun k=>⟨rfl,rfl,rfl⟩;clear hs hg hd hlo hdo hlc hdc hv hvo hvc bL bd bv rG;go_enter Tryz.func212,Tryz.ntmps212
 go_wp2_with (first|(rw [← HW.out])|fail)
 go_loopw [6,7,8] (fun y an ix wr=> ∃ k:Nat,k<=n/\ix= .int .i64 (k:Int)/\an= .bool (iT L v k)/\Own W.heap.size W wr y k (dQ L v n)) (fun _ _ ix _=>n- (intOf ix).toNat)
 case atStart=>exact⟨0,om1,rfl,rfl,Own.nil (Below.refl _ _) (Nat.le_refl _) _⟩
 case round=>
  rename World=>wo;obtain⟨k,hk,rfl,rfl,hown⟩:=hrel;by_cases h:k<n
  ·obtain⟨yo,yc,rfl,ys⟩:=hown.sl;have ys':Sl wo yo k yc (dQ L v k):=ys.congr (fun j hj=>xM L v hj om1);have hb:=ae hB hown.below;have c1:=ah hown.below cG0;have c2:=ah hb (HLC.out k h);have rk:=(HGr.out k h).keep hb;have l7:=rk.le;have l8:=rk.cap;have rk':Sl wo (A k) k (C k) (L k):=⟨om1,rk.cap,fun j hj=>rk.at' j om1⟩;have c3:=ah hb (HVC.out k h);have HSk:=HS.out k h (A k) yo (C k) yc wo rk' ys';have HMk:=HM.out k;rw [(eS.out k).1,(eS.out k).2.1] at HSk;rw [(eS.out k).2.2] at HMk;have HSh:=Hid.mkV HSk;have HMh:=Hid.mkV HMk
   have HV:Hid (dQ L v n k=gY (v k) (L k) (dQ L v k) k):=by
    show dQ L v n k=_;rw [xM L v (j:=k+1) om1 om1];exact if_pos rfl
   have HA:Hid (iT L v (k+1)=(iT L v k||(IV (L k) (dQ L v k) k||great (v k- wL (L k) (dQ L v k) k)))):=rfl;obtain⟨SV,hSV⟩: ∃ t,t=wL (L k) (dQ L v k) k:=⟨_,rfl⟩;obtain⟨SO,hSO⟩: ∃ t,t=IV (L k) (dQ L v k) k:=⟨_,rfl⟩;obtain⟨LV,hLV⟩: ∃ t,t=gY (v k) (L k) (dQ L v k) k:=⟨_,rfl⟩;rw [← hSV,← hSO] at HSh HA;rw [← hSV,← hLV] at HMh;rw [← hLV] at HV;obtain⟨GO,hGO⟩: ∃ t,t=great (v k- SV):=⟨_,rfl⟩;rw [← hGO] at HMh HA;obtain⟨T,hT⟩: ∃ T,T=iT L v k:=⟨_,rfl⟩;rw [← hT] at HA ⊢;obtain⟨vk,hvk⟩: ∃ t,t=v k:=⟨_,rfl⟩;rw [← hvk] at HMh c3;obtain⟨Ak,hAk⟩: ∃ t,t=A k:=⟨_,rfl⟩;obtain⟨Ck,hCk⟩: ∃ t,t=C k:=⟨_,rfl⟩;rw [← hAk,← hCk] at c2 HSh;rw [← hCk] at l7 l8;clear hSV hSO hLV hGO hT hvk hAk hCk HSk HMk rk rk' ys ys' HS HM eS HGr;have i0:(0:Int)<=(k:Int):=om1;have i1:(k:Int)<(n:Int):=om1;have i2:(k:Int)<=(n:Int):=om1;have i3:(k:Int)<=(Ck:Int):=om1;go_wp2_with fail
   refine HSh.out.mono ?_;rintro e w2 ⟨rfl,k2⟩;have c3':=ah k2 c3;have hown2:=hown.keep k2;go_wp2_with fail
   refine(HMh.out _).mono ?_;rintro e w3 ⟨rfl,k3⟩;have hown3:=hown2.keep k3;clear hown hown2 c1 c2 c3 c3' k2 k3;go_wp2_with (at_builtin;refine dm rl1 (.tmp 40) (.tmp 42) rl1 W.heap.size W _ k (dQ L v n) rl1 hown3 om1 LV (by exact HV.out.symm) rl1 ?_)
   intro v' w' hown';cases T<;>cases SO<;>(go_wp2;go_roundw)
   all_goals first
    |(simp [intOf];omega)
    |exact⟨k+1,om1,by go_num,by rw [HA.out];rfl,hown'⟩
  ·obtain rfl:k=n:=om1;obtain⟨yo,yc,rfl,ys⟩:=hown.sl;obtain⟨T,hT⟩: ∃ T,T=iT L v k:=⟨_,rfl⟩;rw [← hT];have HT:=Hid.mkV hT;clear hT;go_wp2;go_ret2;exact⟨yo,yc,by rw [← HT.out];rfl,ys,ae hB hown.below⟩
theorem Ws(n cl cd vc:Nat)(lo do' vo:Option Addr)(L:Nat->Nat->Int)(d v:Nat->Int)(w:World)(h1:1<=n)(hn:n<=6)(hL:Grid w lo n cl n L)(hd:Sl w do' n cd d)(hv:Sl w vo n vc v)(bL: ∀ a,B64 (L a))(bd: ∀ k,k<n->1<=d k/\d k<=4611686018427387903)(bv:B64 v):
 Calls Tryz.prog 126 #[.agg #[.slice lo n cl, .slice do' n cd], .slice vo n vc] w fun e w'=>e= .returned (.tuple #[.int .i64 (wR (dQ L v n) d n), .bool (iT L v n||DW (dQ L v n) d n)])/\Below w.heap.size w w':=by
 have HDn:=Hid.mkV (fun W (H1:Grid W lo n cl n L) (H2:Sl W do' n cd d) (H3:Sl W vo n vc v)=>IA n cl cd vc lo do' vo L d v W h1 hn H1 H2 H3 bL bd bv);have HL:=Hid.mkV hL;have HDs:=Hid.mkV hd;have HVs:=Hid.mkV hv;obtain⟨A,C,hs,hg⟩:=hL;obtain⟨xl,hlo,hlc⟩:=hs.get;obtain⟨xd,hdo,hdc⟩:=hd.get;obtain rfl:=hlo om1;obtain rfl:=hdo om1;have l1:=hs.le;have l2:=hs.cap;have l3:=hd.le;have l4:=hd.cap;have HLC:=Hid.mkV hlc;have HDC:=Hid.mkV hdc;have HGr:=Hid.mkV hg;have cG0:(w.alloc (.cells #[.slice (some xl) n cl, .slice (some xd) n cd] 124)).cell? ⟨w.heap.size,0,none⟩=some (.slice (some xl) n cl):=by go_simp
 have cG1:(w.alloc (.cells #[.slice (some xl) n cl, .slice (some xd) n cd] 124)).cell? ⟨w.heap.size,1,none⟩=some (.slice (some xd) n cd):=by go_simp
 have rG:qj (w.alloc (.cells #[.slice (some xl) n cl, .slice (some xd) n cd] 124)) w.heap.size (.slice (some xl) n cl) (.slice (some xd) n cd):=aH w _ _;have hB:=af (Below.refl _ w) (.cells #[.slice (some xl) n cl, .slice (some xd) n cd] 124);obtain⟨W,hW⟩: ∃ W,W=w.alloc (.cells #[.slice (some xl) n cl, .slice (some xd) n cd] 124):=⟨_,rfl⟩;rw [← hW] at cG0 cG1 hB rG;have HW:=Hid.mkV hW;clear hW;have by':=pM L v n;obtain⟨y,hy⟩: ∃ y,y=dQ L v n:=⟨_,rfl⟩;rw [← hy] at HDn by' ⊢;have HM:=Hid.mkV (fun k (ao:Option Addr) (ca cb:Nat) W (H1:Sl W ao 1 ca (fun _=>y k)) (H2:Sl W ao 1 cb (fun _=>y k))=>xX ao ao 1 ca cb (fun _=>y k) (fun _=>y k) 20 20 W rfl om1 H1 H2 (Iz (by' k)) (Iz (by' k)) om1);have e1: ∀ k,dk (fun _=>y k) (fun _=>y k) 1=y k*y k:=fun k=>by show 0+y k*y k=_;omega
 have HQ:=Hid.mkV (fun k (hk:k<n) W=>y8 (clamp (rne (y k*y k) (2^20))) (d k) 20 W (by have:=ku (rne (y k*y k) (2^20));omega) (by have:=ku (rne (y k*y k) (2^20));omega) (by have:=bd k hk;omega) (by have:=bd k hk;omega) (by have:=bd k hk;omega) om1);have eQ:Hid (∀ x k,signed x (d k) (clamp (rne ((x.natAbs:Int)*2^20) ((d k).natAbs:Int)))=divV x (d k) 20/\great (rne ((x.natAbs:Int)*2^20) ((d k).natAbs:Int))=divO x (d k) 20):=fun x k=>⟨rfl,rfl⟩;have E1:=Hid.mkV e1;clear hs hg hd hlo hdo hlc hdc hv bL bd bv hy e1 by' HGr;go_enter Tryz.func126,Tryz.ntmps126
 go_wp2_with (first
  |(rw [← HW.out];refine St.aI isG rl1 _ rl1 _ _ rl1 (by with_reducible exact rG) rfl ?_)
  |fail)
 refine(HDn.out _ (HL.out.keep hB) (HDs.out.keep hB) (HVs.out.keep hB)).mono ?_;rintro e w1 ⟨yo,yc,rfl,ys,k1⟩;have B1:=ae hB k1;have c1:=ah k1 cG1;obtain⟨xy,hyo,hyc⟩:=ys.get;obtain rfl:=hyo om1;have l5:=ys.le;have l6:=ys.cap;have HYC:=Hid.mkV hyc;clear HDn HL HDs HVs rG cG0 cG1 hyo hyc ys k1;go_wp2;go_loopw [7,8,9] (fun an s ix wr=> ∃ k:Nat,k<=n/\ix= .int .i64 (k:Int)/\s= .int .i64 (wR y d k)/\an= .bool (iT L v n||DW y d k)/\Below w1.heap.size w1 wr) (fun _ _ ix _=>n- (intOf ix).toNat)
 case atStart=>exact⟨0,om1,rfl,rfl,by show _=Value.bool (iT L v n||false);rw [Bool.or_false],Below.refl _ _⟩
 case round=>
  rename World=>wo;obtain⟨k,hk,rfl,rfl,rfl,hb⟩:=hrel;by_cases h:k<n
  · have c2:=ah hb (HYC.out k h);have c3:=ah hb c1;have c4:=ah (ae B1 hb) (HDC.out k h);obtain⟨es1,es2⟩:=Wq xy n yc k h l5;have sl1:Sl wo (some (xy.add k)) 1 (yc- k) (fun _=>y k):=aav c2 om1 om1;have HMk:=HM.out k (some (xy.add k)) (yc- k) (yc- k);rw [E1.out k] at HMk;have HMh:=Hid.mkV HMk;have HQk:=HQ.out k h;rw [(eQ.out _ k).1,(eQ.out _ k).2] at HQk;have HQh:=Hid.mkV HQk;have bA:=Fv y d k;have bD:=Fj (clamp (rne (y k*y k) (2^20))) (d k) 20;have OA:=Hid.mkV (fun W=>fJ (wR y d k) W om1 om1);have OB:=Hid.mkV (fun W=>fJ (divV (clamp (rne (y k*y k) (2^20))) (d k) 20) W om1 om1);have AD:=Hid.mkV (fun va vb W=>add_any va vb (wR y d k) (divV (clamp (rne (y k*y k) (2^20))) (d k) 20) W (dX om1 om1) (dX om1 om1));have BO:=Hid.mkV (fun v W=>pF v (wR y d k+divV (clamp (rne (y k*y k) (2^20))) (d k) 20) W (dX om1 om1));have e3:Hid (wR y d (k+1)=clamp (wR y d k+divV (clamp (rne (y k*y k) (2^20))) (d k) 20)):=rfl;have e4:Hid (DW y d (k+1)=(DW y d k||(great (rne (y k*y k) (2^20))||divO (clamp (rne (y k*y k) (2^20))) (d k) 20||great (wR y d k+divV (clamp (rne (y k*y k) (2^20))) (d k) 20)))):=rfl;rw [← e3.out] at BO;obtain⟨P,hP⟩: ∃ P,P=clamp (rne (y k*y k) (2^20)):=⟨_,rfl⟩;obtain⟨p,hp⟩: ∃ P,P=great (rne (y k*y k) (2^20)):=⟨_,rfl⟩;rw [← hP] at HMh HQh OB AD BO e4;rw [← hp] at HMh e4;obtain⟨D,hD⟩: ∃ D,D=divV P (d k) 20:=⟨_,rfl⟩;obtain⟨q,hq⟩: ∃ q,q=divO P (d k) 20:=⟨_,rfl⟩;rw [← hD] at HQh OB AD BO e4;rw [← hq] at HQh e4;obtain⟨u,hu⟩: ∃ q,q=great (wR y d k+D):=⟨_,rfl⟩;rw [← hu] at BO e4;obtain⟨Sm,hSm⟩: ∃ A,A=wR y d k+D:=⟨_,rfl⟩;rw [← hSm] at AD BO;obtain⟨A',hA'⟩: ∃ A,A=wR y d (k+1):=⟨_,rfl⟩;rw [← hA'] at BO;obtain⟨Ak,hA⟩: ∃ A,A=wR y d k:=⟨_,rfl⟩;rw [← hA] at OA AD ⊢;obtain⟨T,hT⟩: ∃ T,T=(iT L v n||DW y d k):=⟨_,rfl⟩
    have e5:Hid ((iT L v n||DW y d (k+1))=(T||((p||q)||u))):=by
     show(iT L v n||DW y d (k+1))=_;rw [e4.out,hT];simp only [Bool.or_assoc]
    rw [← hT];obtain⟨dk',hdk⟩: ∃ q,q=d k:=⟨_,rfl⟩;rw [← hdk] at HQh c4;have HA':=Hid.mkV hA';clear hP hp hD hq hu hSm hA hA' hT hdk HMk HQk e3 e4 bA bD HM HQ eQ E1;have i0:(0:Int)<=(k:Int):=om1;have i1:(k:Int)<(n:Int):=om1;have w0:IntKind.i64.wrap ((k:Int)+1)=(k:Int)+1:=by rw [IntKind.wrap_i64];omega
    go_wp2
    go_region_with
     (first
       |(go_at_call 213;refine(HMh.out _ (sl1.keep (Vc.az _)) (sl1.keep (Vc.az _))).mono ?_;rintro e w2 ⟨rfl,k2'⟩
         have k2:Below wo.heap.size wo w2:=ae (Vc.az _) k2';have c3':=ah k2 c3;have c4':=ah k2 c4
         clear k2'))
    go_wp2_with fail
    refine(HQh.out _).mono ?_;rintro e w3 ⟨rfl,k3'⟩;have k3:Below w2.heap.size w2 w3:=by rw [k3'];exact Below.refl _ _
    clear k3';go_wp2_with fail
    refine(OA.out _).mono ?_;rintro e w4 ⟨va,rfl,i4,k4⟩;go_wp2_with fail
    refine(OB.out _).mono ?_;rintro e w5 ⟨vb,rfl,i5,k5⟩;go_wp2_with fail
    refine(AD.out _ _ _ (i4.below k5) i5).mono ?_;rintro e w6 ⟨vs,rfl,i6,k6⟩;go_wp2_with fail
    refine(BO.out _ _ i6).mono ?_;rintro e w7 ⟨rfl,k7⟩;have b7:=ae (ae (ae (ae (ae (ae hb k2) k3) k4) k5) k6) k7;clear c2 c3 c4 c3' c4' k2 k3 k4 k5 k6 k7 i4 i5 i6 hb;cases T<;>cases p<;>cases q<;>(go_wp2;go_roundw)
    all_goals first
     |(simp [intOf];omega)
     |exact⟨k+1,om1,by go_num,by rw [HA'.out],by rw [e5.out];rfl,b7⟩
  · obtain rfl:k=n:=om1;obtain⟨T,hT⟩: ∃ T,T=(iT L v k||DW y d k):=⟨_,rfl⟩;obtain⟨S,hS⟩: ∃ T,T=wR y d k:=⟨_,rfl⟩;rw [← hT,← hS];have HT:=Hid.mkV hT;have HS:=Hid.mkV hS;clear hT hS;go_wp2;go_ret2;exact⟨by rw [← HT.out,← HS.out];rfl,ae B1 hb⟩
theorem Wu(n cl cd:Nat)(lo do':Option Addr)(d:Nat->Int)(w:World)(h1:1<=n)(hn:n<=6)(hd:Sl w do' n cd d)(bd: ∀ k,k<n->1<=d k/\d k<=4611686018427387903):
 Calls Tryz.prog 127 #[.agg #[.slice lo n cl, .slice do' n cd]] w fun e w'=>e= .returned (.int .i64 (xP d n))/\Below w.heap.size w w':=by
 obtain⟨xd,hdo,hdc⟩:=hd.get;obtain rfl:=hdo om1;have l3:=hd.le;have l4:=hd.cap;have HDC:=Hid.mkV hdc;have cG1:(w.alloc (.cells #[.slice lo n cl, .slice (some xd) n cd] 124)).cell? ⟨w.heap.size,1,none⟩=some (.slice (some xd) n cd):=by go_simp
 have hB:=af (Below.refl _ w) (.cells #[.slice lo n cl, .slice (some xd) n cd] 124);obtain⟨W,hW⟩: ∃ W,W=w.alloc (.cells #[.slice lo n cl, .slice (some xd) n cd] 124):=⟨_,rfl⟩;rw [← hW] at cG1 hB;have HW:=Hid.mkV hW;have HL:=Hid.mkV (fun k (hk:k<n) W=>Wp (d k) 20 W (bd k hk).1 (bd k hk).2 om1);clear hW hd hdo hdc bd;go_enter Tryz.func127,Tryz.ntmps127
 go_wp2_with (first|(rw [← HW.out])|fail)
 go_loopw [3,4] (fun a ix wr=> ∃ k:Nat,k<=n/\ix= .int .i64 (k:Int)/\a= .int .i64 (xP d k)/\Below W.heap.size W wr) (fun _ ix _=>n- (intOf ix).toNat)
 case atStart=>exact⟨0,om1,rfl,rfl,Below.refl _ _⟩
 case round=>
  obtain⟨k,hk,rfl,rfl,hb⟩:=hrel;have c1:=ah hb cG1;by_cases h:k<n
  · have c2:=ah (ae hB hb) (HDC.out k h);have HLk:=Hid.mkV (HL.out k h);have e3:IntKind.i64.wrap (xP d k+Gw.lgb (d k) (Gw.dn (d k)) ((20:Nat):Int))=xP d (k+1):=rfl;obtain⟨A,hA⟩: ∃ A,A=xP d k:=⟨_,rfl⟩;obtain⟨A',hA'⟩: ∃ A,A=xP d (k+1):=⟨_,rfl⟩;obtain⟨V,hV⟩: ∃ A,A=Gw.lgb (d k) (Gw.dn (d k)) ((20:Nat):Int):=⟨_,rfl⟩;obtain⟨x,hx⟩: ∃ A,A=d k:=⟨_,rfl⟩;rw [← hV] at HLk e3;rw [← hA,← hA'] at e3;rw [← hA];rw [← hx] at HLk c2;have HA':=Hid.mkV hA';clear hA hA' hV hx;have i0:(0:Int)<=(k:Int):=om1;have i1:(k:Int)<(n:Int):=om1;go_wp2_with fail
    refine(HLk.out _).mono ?_;rintro e w2 ⟨rfl,k2⟩;go_wp2;go_roundw
    case rel=>exact⟨k+1,om1,by go_num,by rw [HA'.out],ae hb k2⟩
    case measure=>simp [intOf];omega
  · obtain rfl:k=n:=om1;go_wp2;go_ret;exact⟨rfl,ae hB hb⟩
end
section
open Go.RowKit Vc Mt St Qn Dt Ld
namespace Ld
theorem MV{w:World}{B:Nat}{t:TypeId}{s:Nat}{v:Value}{n:Nat}{xs:List Value}(h:w.ownsRow B t s v n xs):w.ownsRow 0 t s v n xs:=by
 obtain⟨h1,h2⟩:=h;refine⟨h1, ?_⟩;rcases h2 with h2|⟨g,cap,cur,rfl,hb,hg,hn,hc,hs,ht⟩
 · exact Or.inl h2
 · exact Or.inr ⟨g,cap,cur,rfl,Nat.zero_le _,hg,hn,hc,hs,ht⟩
theorem CW.zero{B:Nat}{w0 w:World}{o i n:Nat}{vL vD:Value}{L:Nat->Nat->Int}{d:Nat->Int}(h:CW B w0 w o vL vD i n L d):CW 0 w w o vL vD i n L d:=by
 obtain⟨S,h1,h2⟩:=h.two;exact⟨⟨S,⟨MV h1.x,MV h1.y,h1.apart,Below.refl _ _,Nat.zero_le _⟩,h2⟩,h.gl,h.gd,h.le⟩
def lenOf:Value->Nat
 | .slice _ n _=>n
 |_=>0
end Ld
theorem TV{p:Prop}(h:p:=by
 have g2':=aT gq b2 Ea0;have a0y:=qj.l g2';have a1y:=qj.d g2';have f0y:=ai.free g2' 0;have f1y:=ai.free g2' 1;refine Ru.hd hK ⟨b2.cell a0 Ea0,b2.cell a1 Ea1⟩ (fun hHeld=> ?_);clear hK K n2 q2 p2;refine Ru.rd2 11 (fun K hK=> ?_);go_simp;refine hK.out _ _ ?_;clear hK K;try simp only [Act.put,List.getElem_toArray,List.getElem_cons_zero,List.getElem_cons_succ,List.setIfInBounds_toArray,List.set_cons_zero,List.set_cons_succ]
 refine wpAny_ready (rs:= [12]) (by kernel_rfl) (by simp) ?_;refine AllReady.cons rfl (fun K hK=> ?_) AllReady.nil;go_simp;refine hK _ _ ?_;clear hK K;try simp only [Act.put,List.getElem_toArray,List.getElem_cons_zero,List.getElem_cons_succ,List.setIfInBounds_toArray,List.set_cons_zero,List.set_cons_succ]
 refine wpAny_ready (rs:= [13]) (by kernel_rfl) (by simp) ?_;refine AllReady.cons rfl (fun K hK=> ?_) AllReady.nil;go_simp;refine hK _ _ ?_;clear hK K;try simp only [Act.put,List.getElem_toArray,List.getElem_cons_zero,List.getElem_cons_succ,List.setIfInBounds_toArray,List.set_cons_zero,List.set_cons_succ]
 refine wpAny_done (by kernel_rfl) ?_ _;go_wp2;go_roundw
 case rel=>
  refine⟨i+1,om1,by go_num,rfl,ai.other (ai.other (aT rq b2 Ea3) _ (by show g2≠g3;omega)) _ (by show g2≠g3;omega),⟨_,_,ai.set (ai.set g2' 0 _) 1 _, ?_⟩,fun k hk=> ?_⟩
  · exact(RX HRo.out b2 (by rw [HX.out] at t2;exact t2) n1' n2' om1 HPs.out HAp.out gle gl gd).put (g:=g3) om1 om1 (((But.refl (fun x=>x=g3) w2).set _ rfl).set _ rfl)
  · rcases Nat.lt_or_ge k i with c|c
    · exact hok.out k c
    · obtain rfl:k=i:=om1;exact HFn.out
 case measure=>simp [intOf];omega):p:=h
theorem aaw(n cm:Nat)(lo:Option Addr)(F:Nat->Nat->Int)(w:World)(h1:1<=n)(hn:n<=6)(hg:Grid w lo n cm n F)(hF:B2 F):
 Calls Tryz.prog 125 #[.slice lo n cm] w fun e w'=>((¬Same n F/\e= .returned (.tuple #[.agg #[.slice none 0 0, .slice none 0 0], .int .i64 1]))\/
  (Same n F/\(¬ ∀ i,i<n->fine F i)/\e= .returned (.tuple #[.agg #[.slice none 0 0, .slice none 0 0], .int .i64 8]))\/
  (Same n F/\(∀ i,i<n->fine F i)/\ ∃ lo' cl do' cd,e= .returned (.tuple #[.agg #[.slice lo' n cl, .slice do' n cd], .int .i64 0])/\Grid w' lo' n cl n (st F n).1/\Sl w' do' n cd (st F n).2))/\Below w.heap.size w w':=by
 have HT:=Hid.mkV (fun W (H:Grid W lo n cm n F)=>Bc n n cm lo F W h1 hn h1 hn H);have hgW:=hg.keep (af (Below.refl _ w) (.cells #[.slice none 0 0, .slice none 0 0] 124));have rR:qj (w.alloc (.cells #[.slice none 0 0, .slice none 0 0] 124)) w.heap.size (.slice none 0 0) (.slice none 0 0):=aH w _ [.slice none 0 0, .slice none 0 0];have hB:=af (Below.refl _ w) (.cells #[.slice none 0 0, .slice none 0 0] 124);obtain⟨W,hW⟩: ∃ W,W=w.alloc (.cells #[.slice none 0 0, .slice none 0 0] 124):=⟨_,rfl⟩;rw [← hW] at rR hB hgW;have HW:=Hid.mkV hW;obtain⟨A,C,hs,hgr⟩:=hgW;obtain⟨xl,hlo,hlc⟩:=hs.get;obtain rfl:=hlo om1;have l1:=hs.le;have l2:=hs.cap;have HLC:=Hid.mkV hlc;have HGr:=Hid.mkV hgr;have HgW:=Hid.mkV (show Grid W (some xl) n cm n F from⟨A,C,hs,hgr⟩);have hg2w:w.heap.size<=w.heap.size:=Nat.le_refl _;obtain⟨g2,hg2⟩: ∃ g,g=w.heap.size:=⟨_,rfl⟩;have hg2w:w.heap.size<=g2:=om1;rw [← hg2] at rR;have HG2:=Hid.mkV hg2;have HFF:=Hid.mkV hF;clear hW hg hs hlo hlc hgr hF hg2;go_enter Tryz.func125,Tryz.ntmps125
 go_wp2_with (first|(rw [← HW.out,← HG2.out])|fail)
 refine(HT.out _ HgW.out).mono ?_;rintro e w1 ⟨to',tc,rfl,hT1,k1⟩;have R1:=ai.keep rR k1;have B1:=ae hB k1;obtain⟨A',C',hs',hgr'⟩:=hT1;obtain⟨xt,hto,htc⟩:=hs'.get;obtain rfl:=hto om1;have l3:=hs'.le;have l4:=hs'.cap;have HTC:=Hid.mkV htc;have HGt:=Hid.mkV hgr';have HLC1:Hid (∀ k,k<n->w1.cell? (xl.add k)=some (.slice (A k) n (C k))):=fun k hk=>ah k1 (HLC.out k hk);have HGr1:Hid (∀ k,k<n->Sl w1 (A k) n (C k) (F k)):=fun k hk=>(HGr.out k hk).keep k1;clear rR hB HT HgW HLC HGr hs' hto htc hgr' k1;go_wp2;go_loopw [5,6] (fun ix _ wr=> ∃ i:Nat,i<=n/\ix= .int .i64 (i:Int)/\Hid (∀ a b,a<i->b<n->F a b=F b a)/\Below w1.heap.size w1 wr) (fun ix _ _=>n- (intOf ix).toNat)
 case atStart=>exact⟨0,om1,rfl,fun a b ha=>by omega,Below.refl _ _⟩
 case round=>
  rename World=>wo;obtain⟨i,hi,rfl,hpre,br⟩:=hrel;by_cases h:i<n
  · go_wp2;go_loopw [6] (fun jx wr=> ∃ j:Nat,j<=n/\jx= .int .i64 (j:Int)/\Hid (∀ b,b<j->F i b=F b i)/\Below w1.heap.size w1 wr) (fun jx _=>n- (intOf jx).toNat)
    case atStart=>exact⟨0,om1,rfl,fun b hb=>by omega,br⟩
    case round=>
     rename World=>wp;obtain⟨j,hj,rfl,hpre2,br2⟩:=hrel;by_cases h2:j<n
     · have c1:=ah br2 (HLC1.out i h);have c2:=ah br2 (HTC.out i h);have r1:=(HGr1.out i h).keep br2;have r2:=(HGt.out i h).keep br2;obtain⟨x1,o1,d1⟩:=r1.get;obtain⟨x2,o2,d2⟩:=r2.get;have l5:=r1.le;have l6:=r1.cap;have l7:=r2.le;have l8:=r2.cap;rw [o1 om1] at c1;rw [o2 om1] at c2;have c3:=d1 j h2;have c4:=d2 j h2;obtain⟨P,hP⟩: ∃ q,q=F i j:=⟨_,rfl⟩;obtain⟨Q,hQ⟩: ∃ q,q=F j i:=⟨_,rfl⟩;rw [← hP] at c3;rw [← hQ] at c4;obtain⟨Ci,hCi⟩: ∃ q,q=C i:=⟨_,rfl⟩;obtain⟨Di,hDi⟩: ∃ q,q=C' i:=⟨_,rfl⟩;rw [← hCi] at c1 l5 l6;rw [← hDi] at c2 l7 l8;have HP:=Hid.mkV hP;have HQ:=Hid.mkV hQ;clear hP hQ hCi hDi r1 r2 o1 o2 d1 d2;have i0:(0:Int)<=(i:Int):=om1;have i1:(i:Int)<(n:Int):=om1;have i2:(0:Int)<=(j:Int):=om1;have i3:(j:Int)<(n:Int):=om1;by_cases hPQ:P=Q
       · have e1:(P !=Q)=false:=by simp [hPQ]
         have HPQ:=Hid.mkV hPQ;clear hPQ;go_wp2;go_quiet (fail)
         go_wp2;go_roundw
         case rel=>exact⟨j+1,om1,by go_num,fun b hb=>by
          rcases Nat.lt_or_ge b j with c|c
          · exact hpre2.out b c
          · obtain rfl:b=j:=om1
            rw [← HP.out,← HQ.out];exact HPQ.out,Vc.below_drewN br2 _⟩
         case measure=>simp [intOf];omega
       · have e1:(P !=Q)=true:=by simp [hPQ]
         have Rp:=ai.keep R1 (Vc.below_drewN br2 0);have hne: ¬Same n F:=fun hs=>hPQ (by rw [HP.out,HQ.out];exact hs i j h h2);have HNE:=Hid.mkV hne;have Rr:=ai.keep R1 br2;clear hPQ hne Rp;go_wp2;go_quiet (fail)
         have Rn:qj (wp.drewN nq) g2 (.slice none 0 0) (.slice none 0 0):=Rr;have Bn:=Vc.below_drewN (ae B1 br2) nq;obtain⟨wn,hwn⟩: ∃ x,x=wp.drewN nq:=⟨_,rfl⟩;rw [← hwn] at Rn Bn ⊢;clear hwn c1 c2 c3 c4 Rr
         go_wp2_with (first
          |(refine St.aU isG rfl _ _ rl1 _ _ _ rl1 rl1 (by with_reducible exact Rn) rfl rfl (by intro v hv;simp at hv;rcases hv with rfl|rfl<;>rfl) ?_)
          |fail)
         exact bodyPost_ret (St.iD isG Tryz.results125 _ _ g2 _ rfl (ai.row Rn _) rfl) rfl ⟨Or.inl ⟨HNE.out,rfl⟩,St.aJ Bn hg2w _⟩
     · obtain rfl:j=n:=om1;go_wp2;go_roundw
       case rel=>exact⟨i+1,om1,by go_num,fun a b ha hb=>by
        rcases Nat.lt_or_ge a i with c|c
        · exact hpre.out a b c hb
        · obtain rfl:a=i:=om1
          exact hpre2.out b hb,br2⟩
       case measure=>simp [intOf];omega
  · obtain rfl:n=i:=om1;have HSame:Hid (Same n F):=fun a b ha hb=>hpre.out a b ha hb;have R2:=ai.keep R1 br;have B2:=ae B1 br;have HLC2:Hid (∀ k,k<n->wo.cell? (xl.add k)=some (.slice (A k) n (C k))):=fun k hk=>ah br (HLC1.out k hk);have HGr2:Hid (∀ k,k<n->Sl wo (A k) n (C k) (F k)):=fun k hk=>(HGr1.out k hk).keep br;have R3:=ai.alloc R2 (.cells #[.slice none 0 0, .slice none 0 0] 124);have O3:qj (wo.alloc (.cells #[.slice none 0 0, .slice none 0 0] 124)) wo.heap.size (.slice none 0 0) (.slice none 0 0):=aH wo _ [.slice none 0 0, .slice none 0 0];have k3:=af (Below.refl _ wo) (.cells #[.slice none 0 0, .slice none 0 0] 124);obtain⟨w3,hw3⟩: ∃ x,x=wo.alloc (.cells #[.slice none 0 0, .slice none 0 0] 124):=⟨_,rfl⟩;obtain⟨g3,hg3⟩: ∃ x,x=wo.heap.size:=⟨_,rfl⟩;have hs3:w3.heap.size=g3+1:=by rw [hw3,hg3];simp
    rw [← hw3] at R3 O3 k3;rw [← hg3] at O3;have d23:g2<g3:=by have:=R2.lt;omega
    have hwg:wo.heap.size<=g3:=om1;have T3:CW wo.heap.size wo w3 (g3+1) (.slice none 0 0) (.slice none 0 0) 0 n (st F n).1 (st F n).2:=CW.nil k3 k3.size om1 _ _;have HW3:=Hid.mkV hw3;have HG3:=Hid.mkV hg3;have hFi: ∀ i j,-9223372036854775808<=F i j/\F i j<=9223372036854775807:=fun i j=>HFF.out i j;have HFi:=Hid.mkV hFi;clear hpre R1 B1 HLC1 HGr1 br R2 k3 hw3 hg3 HTC HGt HFF hFi;go_wp2;rw [← HW3.out,← HG3.out];go_loopw [8,9] (fun an ix wr=> ∃ i:Nat,i<=n/\ix= .int .i64 (i:Int)/\an= .bool false/\qj wr g2 (.slice none 0 0) (.slice none 0 0)/\(∃ vL vD,qj wr g3 vL vD/\CW wo.heap.size wo wr (g3+1) vL vD i n (st F n).1 (st F n).2)/\Hid (∀ k,k<i->fine F k)) (fun _ ix _=>n- (intOf ix).toNat)
    case atStart=>exact⟨0,om1,rfl,rfl,R3,⟨_,_,O3,T3⟩,fun k hk=>by omega⟩
    case round=>
     rename World=>wa;obtain⟨i,hi,rfl,rfl,ra,⟨vL,vD,ga,tr⟩,hok⟩:=hrel;obtain⟨lo3,cl,do3,cd,rfl,rfl,gG,gS⟩:=tr.grid;have ba:=ae B2 tr.below;by_cases h:i<n
     · have gG':Grid wa lo3 i cl n (st F i).1:=gG.congr (fun a b ha hb=>wQ F ha om1);have gS':Sl wa do3 i cd (st F i).2:=gS.congr (fun a ha=>Fq F ha om1)
       have dpos: ∀ k,k<i->1<=(st F i).2 k/\(st F i).2 k<=4611686018427387903:=fun k hk=>by
        have h2:=DN F i k;have h3:=(hok.out k hk).2;rw [abe F hk] at h2 ⊢;omega
       have C2:=ah tr.below (HLC2.out i h);have ri:=(HGr2.out i h).keep tr.below;obtain⟨xi,oi,di'⟩:=ri.get;rw [oi om1] at C2;have l5:=ri.le;have l6:=ri.cap;have HDI:=Hid.mkV di';obtain⟨Ci,hCi⟩: ∃ q,q=C i:=⟨_,rfl⟩;rw [← hCi] at C2 l5 l6;have A0:=qj.l ga;have A1:=qj.d ga;have hbx: ∀ j,B64 (iI (F i) (st F i).1 (st F i).2 j):=fun j=>lS (Fp _ _ _ j);have HbL:Hid (∀ a,B64 ((st F i).1 a)):=fun a=>lS (Hf F i a);have HbD:Hid (B64 ((st F i).2)):=lS (DN F i);have HDP:=Hid.mkV dpos;have HGG:=Hid.mkV gG';have HGS:=Hid.mkV gS'
       have HRow:Hid (∀ j k,k<j->j<=i->(st F n).1 i k=iI (F i) (st F i).1 (st F i).2 j k):=fun j k hk hj=>by
        rw [st_low F h om1,He _ _ _ hk hj]
       clear hCi oi di' ri dpos gG' gS' gG gS;have i0:(0:Int)<=(i:Int):=om1;have i1:(i:Int)<(n:Int):=om1;go_wp2;go_loopw [8,10,11] (fun an ps jx ws=> ∃ j:Nat,j<=i/\jx= .int .i64 (j:Int)/\an= .bool (LY (F i) (st F i).1 (st F i).2 j)/\Own wa.heap.size wa ws ps j ((st F n).1 i)) (fun _ _ jx _=>i- (intOf jx).toNat)
       case atStart=>exact⟨0,om1,rfl,rfl,Own.nil (Below.refl _ _) (Nat.le_refl _) _⟩
       case round=>
        rename World=>ws;obtain⟨j,hj,rfl,rfl,hown⟩:=hrel;obtain⟨ro,rc,rfl,rs⟩:=hown.sl;have kb:=hown.below;have rs':Sl ws ro j rc (iI (F i) (st F i).1 (st F i).2 j):=rs.congr (fun k hk=>HRow.out j k hk hj);have e0:=ah kb A0;have e1:=ah kb A1;have e2:=ah kb C2;have e3:=ah kb (HDI.out j om1);by_cases h2:j<i
        · have HRs:=Hid.mkV (fun W (b:Below ws.heap.size ws W)=>RU i j n cl cd j rc lo3 do3 ro (st F i).1 (st F i).2 (iI (F i) (st F i).1 (st F i).2 j) (F i j) W (HGG.out.keep (ae kb b)) (HGS.out.keep (ae kb b)) (rs'.keep b) h2 (Nat.le_refl _) hi hn HbL.out HbD.out (hbx j) (HFi.out i j).1 (HFi.out i j).2);have bR:=wP (F i j) (iI (F i) (st F i).1 (st F i).2 j) (wv ((st F i).1 j) (st F i).2) j;have HQ:=fun W=>y8 (gY (F i j) (iI (F i) (st F i).1 (st F i).2 j) (wv ((st F i).1 j) (st F i).2) j) ((st F i).2 j) 30 W om1 om1 (by have:=HDP.out j h2;omega) (by have:=HDP.out j h2;omega) (by have:=HDP.out j h2;omega) om1;have eq1: ∀ x y:Int,signed x y (clamp (rne ((x.natAbs:Int)*2^30) (y.natAbs:Int)))=divV x y 30:=fun _ _=>rfl;have eq2: ∀ x y:Int,great (rne ((x.natAbs:Int)*2^30) (y.natAbs:Int))=divO x y 30:=fun _ _=>rfl;rw [eq1,eq2] at HQ;have HQh:=Hid.mkV HQ;have HV:Hid ((st F n).1 i j=divV (gY (F i j) (iI (F i) (st F i).1 (st F i).2 j) (wv ((st F i).1 j) (st F i).2) j) ((st F i).2 j) 30):=(HRow.out (j+1) j om1 om1).trans (if_pos rfl);have HA:Hid (LY (F i) (st F i).1 (st F i).2 (j+1)=(LY (F i) (st F i).1 (st F i).2 j||(dN (wg ((st F i).1 j) (st F i).2) j||kM (F i j) (iI (F i) (st F i).1 (st F i).2 j) (wv ((st F i).1 j) (st F i).2) j||divO (gY (F i j) (iI (F i) (st F i).1 (st F i).2 j) (wv ((st F i).1 j) (st F i).2) j) ((st F i).2 j) 30))):=rfl;have c5:=(HGS.out.keep kb);obtain⟨xd,od,dd⟩:=c5.get;have ld:=c5.le;have ld2:=c5.cap;have DC:=dd j h2;rw [od om1] at e1 HRs A1;have HOD:=Hid.mkV (od om1);obtain⟨R,hR⟩: ∃ q,q=gY (F i j) (iI (F i) (st F i).1 (st F i).2 j) (wv ((st F i).1 j) (st F i).2) j:=⟨_,rfl⟩;obtain⟨O1,hO1⟩: ∃ q,q=(dN (wg ((st F i).1 j) (st F i).2) j||kM (F i j) (iI (F i) (st F i).1 (st F i).2 j) (wv ((st F i).1 j) (st F i).2) j):=⟨_,rfl⟩;rw [← hR,← hO1] at HRs;rw [← hR] at HQh HV HA;rw [← hO1] at HA;obtain⟨X,hX⟩: ∃ q,q=divV R ((st F i).2 j) 30:=⟨_,rfl⟩;obtain⟨O2,hO2⟩: ∃ q,q=divO R ((st F i).2 j) 30:=⟨_,rfl⟩;rw [← hX,← hO2] at HQh;rw [← hX] at HV;rw [← hO2] at HA;obtain⟨T,hT⟩: ∃ q,q=LY (F i) (st F i).1 (st F i).2 j:=⟨_,rfl⟩;rw [← hT] at HA ⊢;obtain⟨M,hM⟩: ∃ q,q=F i j:=⟨_,rfl⟩;rw [← hM] at HRs e3;obtain⟨dj,hdj⟩: ∃ q,q=(st F i).2 j:=⟨_,rfl⟩;rw [← hdj] at HQh DC;clear hR hO1 hX hO2 hT hM hdj HQ eq1 eq2 bR od dd c5 rs rs';have j0:(0:Int)<=(j:Int):=om1;have j1:(j:Int)<(n:Int):=om1;have j2:(j:Int)<(i:Int):=om1;go_wp2
          go_region_held3 (fun w'=>w'.cell? ⟨g3,0,none⟩=some (.slice lo3 i cl)/\w'.cell? ⟨g3,1,none⟩=some (.slice (some xd) i cd)/\w'.cell? (xl.add i)=some (.slice (some xi) n Ci)/\w'.cell? (xi.add j)=some (.int .i64 M))
           (first
             |with_reducible exact⟨e0,e1,e2,e3⟩
             |with_reducible exact⟨ah (Vc.az _) e0,ah (Vc.az _) e1,ah (Vc.az _) e2,ah (Vc.az _) e3⟩
             |with_reducible exact⟨ah kz e0,ah kz e1,ah kz e2,ah kz e3⟩)
           (first
             |(go_at_call 211;refine(HRs.out _ (Vc.az _)).mono ?_;rintro e wz ⟨rfl,kz'⟩
               have kz:Below ws.heap.size ws wz:=ae (Vc.az _) kz'
               clear kz'))
          have f1:=ah kz e1;have f2:=ah kz DC;have hown2:=hown.keep kz;clear e0 e1 e2 e3 DC;go_wp2_with fail
          refine(HQh.out _).mono ?_;rintro e wy ⟨rfl,hwy⟩;have hown3:Own wa.heap.size wa wy (.slice ro j rc) j ((st F n).1 i):=by rw [hwy];exact hown2
          clear hwy f1 f2 hown hown2 kb;go_wp2_with (at_builtin;refine dm rl1 (.tmp 84) (.tmp 86) rl1 wa.heap.size wa _ j ((st F n).1 i) rl1 hown3 om1 X (by exact HV.out.symm) rl1 ?_)
          intro v' w' hown';cases T<;>cases O1<;>(go_wp2;go_roundw)
          all_goals first
           |(simp [intOf];omega)
           |exact⟨j+1,om1,by go_num,by rw [HA.out];rfl,hown'⟩
        · obtain rfl:i=j:=om1;have HRs:=Hid.mkV (fun W (b:Below ws.heap.size ws W)=>RV i i n cl cd i rc lo3 do3 ro (st F i).1 (st F i).2 (iI (F i) (st F i).1 (st F i).2 i) (F i i) W (HGG.out.keep (ae kb b)) (HGS.out.keep (ae kb b)) (rs'.keep b) rfl (Nat.le_refl _) hi hn HbL.out HbD.out (hbx i) (HFi.out i i).1 (HFi.out i i).2);have HFi2:Hid (fine F i↔(LY (F i) (st F i).1 (st F i).2 i||(dN (wg (iI (F i) (st F i).1 (st F i).2 i) (st F i).2) i||kM (F i i) (iI (F i) (st F i).1 (st F i).2 i) (wv (iI (F i) (st F i).1 (st F i).2 i) (st F i).2) i))=false/\0<gY (F i i) (iI (F i) (st F i).1 (st F i).2 i) (wv (iI (F i) (st F i).1 (st F i).2 i) (st F i).2) i):=Iff.rfl;have HXd:Hid ((st F n).2 i=gY (F i i) (iI (F i) (st F i).1 (st F i).2 i) (wv (iI (F i) (st F i).1 (st F i).2 i) (st F i).2) i):=abe F h;obtain⟨D,hD⟩: ∃ q,q=gY (F i i) (iI (F i) (st F i).1 (st F i).2 i) (wv (iI (F i) (st F i).1 (st F i).2 i) (st F i).2) i:=⟨_,rfl⟩;obtain⟨O,hO⟩: ∃ q,q=(dN (wg (iI (F i) (st F i).1 (st F i).2 i) (st F i).2) i||kM (F i i) (iI (F i) (st F i).1 (st F i).2 i) (wv (iI (F i) (st F i).1 (st F i).2 i) (st F i).2) i):=⟨_,rfl⟩;rw [← hD,← hO] at HRs HFi2;rw [← hD] at HXd;obtain⟨T,hT⟩: ∃ q,q=LY (F i) (st F i).1 (st F i).2 i:=⟨_,rfl⟩;rw [← hT] at HFi2 ⊢;obtain⟨M,hM⟩: ∃ q,q=F i i:=⟨_,rfl⟩;rw [← hM] at HRs e3;have HX:Hid (D=(st F n).2 i):=HXd.out.symm;have HV1:Hid ((st F n).1 i i=1073741824):=XA F h;have HV0:Hid (∀ k,i<k->(st F n).1 i k=0):=fun k hk=>st_up F h hk;clear hD hO hT hM HXd rs rs' HGG HGS HbL HbD HDP HRow HDI hbx;go_wp2
          go_region_held3 (fun w'=>w'.cell? ⟨g3,0,none⟩=some (.slice lo3 i cl)/\w'.cell? ⟨g3,1,none⟩=some (.slice do3 i cd)/\w'.cell? (xl.add i)=some (.slice (some xi) n Ci)/\w'.cell? (xi.add i)=some (.int .i64 M))
           (first
             |with_reducible exact⟨e0,e1,e2,e3⟩
             |with_reducible exact⟨ah (Vc.az _) e0,ah (Vc.az _) e1,ah (Vc.az _) e2,ah (Vc.az _) e3⟩
             |with_reducible exact⟨ah kz e0,ah kz e1,ah kz e2,ah kz e3⟩)
           (first
             |(go_at_call 211;refine(HRs.out _ (Vc.az _)).mono ?_;rintro e wz ⟨rfl,kz'⟩
               have kz:Below ws.heap.size ws wz:=ae (Vc.az _) kz'
               clear kz'))
          have kaz:=ae kb kz;have raz:=ai.keep ra kaz;have gaz:=ai.keep ga kaz;have taz:=tr.keep kaz;have baz:=ae ba kaz;have hown2:=hown.keep kz;clear e0 e1 e2 e3 hown kb HRs A0 A1 C2 kaz;by_cases hD:D<=0
          · have q1:decide (D<=0)=true:=decide_eq_true hD
            go_wp2_with (first
             |(refine St.aU isG rfl _ _ rl1 _ _ _ rl1 rl1 (by with_reducible exact raz) rfl rfl (by intro v hv;simp at hv;rcases hv with rfl|rfl<;>rfl) ?_)
             |fail)
            exact bodyPost_ret (St.iD isG Tryz.results125 _ _ g2 _ rfl (ai.row raz _) rfl) rfl ⟨Or.inr (Or.inl ⟨HSame.out,fun hall=>(by have hz:=HFi2.out.1 (hall i h);have hy:=hz.2;omega),rfl⟩),St.aJ baz hg2w _⟩
          · have q1:decide (D<=0)=false:=decide_eq_false hD;cases O with
            |true=>
             go_wp2_with (first
              |(refine St.aU isG rfl _ _ rl1 _ _ _ rl1 rl1 (by with_reducible exact raz) rfl rfl (by intro v hv;simp at hv;rcases hv with rfl|rfl<;>rfl) ?_)
              |fail)
             exact bodyPost_ret (St.iD isG Tryz.results125 _ _ g2 _ rfl (ai.row raz _) rfl) rfl ⟨Or.inr (Or.inl ⟨HSame.out,⟨i,h,fun hfi=>(by have hz:=HFi2.out.1 hfi;have hy:=hz.1;cases T<;>cases hy)⟩,rfl⟩),St.aJ baz hg2w _⟩
            |false=>
             cases T with
             |true=>
              go_wp2_with (first
               |(refine St.aU isG rfl _ _ rl1 _ _ _ rl1 rl1 (by with_reducible exact raz) rfl rfl (by intro v hv;simp at hv;rcases hv with rfl|rfl<;>rfl) ?_)
               |fail)
              exact bodyPost_ret (St.iD isG Tryz.results125 _ _ g2 _ rfl (ai.row raz _) rfl) rfl ⟨Or.inr (Or.inl ⟨HSame.out,⟨i,h,fun hfi=>(by have hz:=HFi2.out.1 hfi;have hy:=hz.1;cases hy)⟩,rfl⟩),St.aJ baz hg2w _⟩
             |false=>
              have HFn:Hid (fine F i):=HFi2.out.2 ⟨rfl,om1⟩;clear hD HFi2;go_wp2_with (at_builtin;refine dm rl1 (.tmp 118) (.tmp 119) rl1 wa.heap.size wa _ i ((st F n).1 i) rl1 hown2 om1 1073741824 (by exact HV1.out.symm) rl1 ?_)
              intro v1' w1' hown3;clear hown2 raz gaz taz baz kz;go_wp2;go_loopw [10] (fun ps wr=> ∃ j:Nat,i+1<=j/\j<=n/\Own wa.heap.size wa wr ps j ((st F n).1 i)) (fun ps _=>n- lenOf ps)
              case atStart=>exact⟨i+1,om1,om1,hown3⟩
              case round=>
               rename World=>wq;obtain⟨j,hj1,hj2,hown4⟩:=hrel;obtain⟨po,pc,rfl,hps,hpf⟩:=mZ hown4;have l7:=hps.le;have l8:=hps.cap;by_cases h4:j<n
               · go_wp2_with (at_builtin;refine dm rl1 (.tmp 126) (.tmp 127) rl1 wa.heap.size wa _ j ((st F n).1 i) rl1 hown4 om1 0 (by exact(HV0.out j om1).symm) rl1 ?_)
                 intro v4 w4 hown5;obtain⟨ro5,rc5,rfl,_⟩:=hown5.sl;go_wp2;go_roundw
                 case rel=>exact⟨j+1,om1,om1,hown5⟩
                 case measure=>show n- (j+1)<n- j;omega
               · obtain rfl:n=j:=om1;have hap:=tr.apart hpf;have rq:=ai.keep ra hown4.below;have gq:=ai.keep ga hown4.below;have tq:=tr.keep hown4.below;obtain⟨SS,hT,hrows⟩:=tq.two;have gl:=tq.gl;have gd:=tq.gd;have gle:=tq.le;have a0:=qj.l gq;have a1:=qj.d gq
                 have Ea0: ¬((Value.slice lo3 i cl).ownBlock=some g3\/(Value.slice do3 i cd).ownBlock=some g3):=fun e=>by
                  rcases e with e|e
                  · have:=gl _ e;omega
                  · have:=gd _ e;omega
                 have Ea1:=Ea0
                 have Ea3: ¬((Value.slice lo3 i cl).ownBlock=some g2\/(Value.slice do3 i cd).ownBlock=some g2):=fun e=>by
                  rcases e with e|e
                  · have:=gl _ e;omega
                  · have:=gd _ e;omega
                 have HRo:=Hid.mkV hrows;have HAp:=Hid.mkV hap;have HPs:=Hid.mkV hps;have hTd:=hT.drew;have hBd:=(But.refl (fun q=>(Value.slice lo3 i cl).ownBlock=some q\/(Value.slice do3 i cd).ownBlock=some q) wq).drew;clear hrows hap hps hown4 tq tr ga ra hpf hown3 HLC2 HGr2 HV0 HV1;go_wp2;refine Ru.aS [11,13] (fun w'=>w'.cell? ⟨g3,0,none⟩=some (.slice lo3 i cl)/\w'.cell? ⟨g3,1,none⟩=some (.slice do3 i cd)) (by kernel_rfl) ⟨a0,a1⟩ (fun hHeld=> ?_);refine Ru.tk2 0 (.pointer (some ⟨g3,0,none⟩)) hHeld ?_;refine Ru.tk2 1 (.slice lo3 i cl) hHeld ?_;refine Ru.tk2 2 (.slice po n pc) hHeld ?_;refine Ru.tk2 5 (.pointer (some ⟨g3,1,none⟩)) hHeld ?_;refine Ru.tk2 6 (.slice do3 i cd) hHeld ?_;refine Ru.tk2 7 (.int .i64 D) hHeld ?_;refine Ru.rs [3,8] ?_;refine Ru.co (fun K hK=> ?_) ?_
                 · go_simp;have tw1:=Vg.Two.alloc hTd (.cells #[.slice po n pc] 27);have bu1:=But.al hBd (.cells #[.slice po n pc] 27);have pe1:=Vg.jY (b:=wq.heap.size) hTd (.slice po n pc) 27 (by simp);refine Ru.hd hK ⟨bu1.cell a0 Ea0,bu1.cell a1 Ea1⟩ (fun hHeld=> ?_);clear hK K;refine Ru.rs [4,8] ?_;refine Ru.co (fun K hK=> ?_) ?_
                   · refine Vg.qi elS rl1 (.tmp 130) (.tmp 132) rl1 tw1 rl1 om1 (by unfold maxLen;omega) rl1 pe1 rl1 ?_;intro v1 w2 t2 p2 q2 n2;obtain⟨l1,c1,rfl⟩:=ui t2.x;have bu2:But (fun q=>(Value.slice lo3 i cl).ownBlock=some q\/(Value.slice do3 i cd).ownBlock=some q) wq w2:=bu1.trans (jo q2 (fun b e=>Or.inl e));have n1': ∀ q,q<wq.heap.size->(Value.slice lo3 i cl).ownBlock≠some q->(Value.slice l1 (i+1) c1).ownBlock≠some q:=fun q hq=>n2 q (Nat.lt_of_lt_of_le hq bu1.size);refine Ru.hd hK ⟨bu2.cell a0 Ea0,bu2.cell a1 Ea1⟩ (fun hHeld=> ?_);clear hK K n2 q2 p2;refine Ru.tk2 10 (.pointer (some ⟨g3,0,none⟩)) hHeld ?_;refine Ru.rd 8 (fun K hK=> ?_);go_simp;have tw3:=Vg.Two.alloc t2 (.cells #[.int .i64 D] 2);have bu3:=But.al bu2 (.cells #[.int .i64 D] 2);have pe3:=Vg.jY (b:=w2.heap.size) t2 (.int .i64 D) 2 (by simp);refine Ru.hd hK ⟨bu3.cell a0 Ea0,bu3.cell a1 Ea1⟩ (fun hHeld=> ?_);clear hK K;refine Ru.rd 9 (fun K hK=> ?_);refine Vg.uA elI rl1 (.tmp 135) (.tmp 137) rl1 tw3 rl1 om1 (by unfold maxLen;omega) rl1 pe3 rl1 ?_;intro v2 w2 t2 p2 q2 n2;obtain⟨l2,c2,rfl⟩:=ui t2.y;have b2:But (fun q=>(Value.slice lo3 i cl).ownBlock=some q\/(Value.slice do3 i cd).ownBlock=some q) wq w2:=bu3.trans (jo q2 (fun b e=>Or.inr e));have n2': ∀ q,q<wq.heap.size->(Value.slice do3 i cd).ownBlock≠some q->(Value.slice l2 (i+1) c2).ownBlock≠some q:=fun q hq=>n2 q (Nat.lt_of_lt_of_le hq bu3.size);exact TV
                   refine Ru.co1 (fun K hK=> ?_);go_simp;have tw5:=Vg.Two.alloc tw1 (.cells #[.int .i64 D] 2);have bu5:=But.al bu1 (.cells #[.int .i64 D] 2);have pe5:=Vg.jY (b:=wq.heap.size+1) tw1 (.int .i64 D) 2 (by simp);have pk5_3:=Vg.mr.alloc pe1 (.cells #[.int .i64 D] 2);refine Ru.hd hK ⟨bu5.cell a0 Ea0,bu5.cell a1 Ea1⟩ (fun hHeld=> ?_);clear hK K;refine Ru.rd 4 (fun K hK=> ?_);refine Vg.qi elS rl1 (.tmp 130) (.tmp 132) rl1 tw5 rl1 om1 (by unfold maxLen;omega) rl1 pk5_3 rl1 ?_;intro v1 w6 t6 p6 q6 n6;obtain⟨l1,c1,rfl⟩:=ui t6.x;have bu6:But (fun q=>(Value.slice lo3 i cl).ownBlock=some q\/(Value.slice do3 i cd).ownBlock=some q) wq w6:=bu5.trans (jo q6 (fun b e=>Or.inl e));have n1': ∀ q,q<wq.heap.size->(Value.slice lo3 i cl).ownBlock≠some q->(Value.slice l1 (i+1) c1).ownBlock≠some q:=fun q hq=>n6 q (Nat.lt_of_lt_of_le hq bu5.size);have pk6_8:=p6 _ _ _ pe5;refine Ru.hd hK ⟨bu6.cell a0 Ea0,bu6.cell a1 Ea1⟩ (fun hHeld=> ?_);clear hK K n6 q6 p6;refine Ru.tk2 10 (.pointer (some ⟨g3,0,none⟩)) hHeld ?_;refine Ru.rd 9 (fun K hK=> ?_);refine Vg.uA elI rl1 (.tmp 135) (.tmp 137) rl1 t6 rl1 om1 (by unfold maxLen;omega) rl1 pk6_8 rl1 ?_;intro v2 w2 t2 p2 q2 n2;obtain⟨l2,c2,rfl⟩:=ui t2.y;have b2:But (fun q=>(Value.slice lo3 i cl).ownBlock=some q\/(Value.slice do3 i cd).ownBlock=some q) wq w2:=bu6.trans (jo q2 (fun b e=>Or.inr e));have n2': ∀ q,q<wq.heap.size->(Value.slice do3 i cd).ownBlock≠some q->(Value.slice l2 (i+1) c2).ownBlock≠some q:=fun q hq=>n2 q (Nat.lt_of_lt_of_le hq bu6.size);exact TV
                 refine Ru.co1 (fun K hK=> ?_);go_simp;have tw8:=Vg.Two.alloc hTd (.cells #[.int .i64 D] 2);have bu8:=But.al hBd (.cells #[.int .i64 D] 2);have pe8:=Vg.jY (b:=wq.heap.size) hTd (.int .i64 D) 2 (by simp);refine Ru.hd hK ⟨bu8.cell a0 Ea0,bu8.cell a1 Ea1⟩ (fun hHeld=> ?_);clear hK K;refine Ru.rd 3 (fun K hK=> ?_);go_simp;have tw9:=Vg.Two.alloc tw8 (.cells #[.slice po n pc] 27);have bu9:=But.al bu8 (.cells #[.slice po n pc] 27);have pe9:=Vg.jY (b:=wq.heap.size+1) tw8 (.slice po n pc) 27 (by simp);have pk9_8:=Vg.mr.alloc pe8 (.cells #[.slice po n pc] 27);refine Ru.hd hK ⟨bu9.cell a0 Ea0,bu9.cell a1 Ea1⟩ (fun hHeld=> ?_);clear hK K;refine Ru.rd 4 (fun K hK=> ?_);refine Vg.qi elS rl1 (.tmp 130) (.tmp 132) rl1 tw9 rl1 om1 (by unfold maxLen;omega) rl1 pe9 rl1 ?_;intro v1 w10 t10 p10 q10 n10;obtain⟨l1,c1,rfl⟩:=ui t10.x;have bu10:But (fun q=>(Value.slice lo3 i cl).ownBlock=some q\/(Value.slice do3 i cd).ownBlock=some q) wq w10:=bu9.trans (jo q10 (fun b e=>Or.inl e));have n1': ∀ q,q<wq.heap.size->(Value.slice lo3 i cl).ownBlock≠some q->(Value.slice l1 (i+1) c1).ownBlock≠some q:=fun q hq=>n10 q (Nat.lt_of_lt_of_le hq bu9.size);have pk10_8:=p10 _ _ _ pk9_8;refine Ru.hd hK ⟨bu10.cell a0 Ea0,bu10.cell a1 Ea1⟩ (fun hHeld=> ?_);clear hK K n10 q10 p10;refine Ru.tk2 10 (.pointer (some ⟨g3,0,none⟩)) hHeld ?_;refine Ru.rd 9 (fun K hK=> ?_);refine Vg.uA elI rl1 (.tmp 135) (.tmp 137) rl1 t10 rl1 om1 (by unfold maxLen;omega) rl1 pk10_8 rl1 ?_;intro v2 w2 t2 p2 q2 n2;obtain⟨l2,c2,rfl⟩:=ui t2.y;have b2:But (fun q=>(Value.slice lo3 i cl).ownBlock=some q\/(Value.slice do3 i cd).ownBlock=some q) wq w2:=bu10.trans (jo q2 (fun b e=>Or.inr e));have n2': ∀ q,q<wq.heap.size->(Value.slice do3 i cd).ownBlock≠some q->(Value.slice l2 (i+1) c2).ownBlock≠some q:=fun q hq=>n2 q (Nat.lt_of_lt_of_le hq bu10.size);exact TV
     · obtain rfl:n=i:=om1
       go_wp2_with (first
        |(refine St.aI isG rl1 _ rl1 _ _ rl1 (by with_reducible exact ga) rfl ?_)
        |(refine St.aU isG rfl _ _ rl1 _ _ _ rl1 rl1 (by with_reducible exact ra) rfl rfl (by intro v hv;simp at hv;rcases hv with rfl|rfl<;>rfl) ?_)
        |fail)
       have tr':=CW.put tr.zero (g:=g2) om1 (Nat.zero_le _) (gp wa g2 ([.slice lo3 n cl, .slice do3 n cd]:List Value).toArray);obtain⟨lo2,cl2,do2,cd2,e1,e2,hg2',hs2⟩:=tr'.grid;cases e1
       cases e2
       exact bodyPost_ret (St.iD isG Tryz.results125 _ _ g2 _ rfl (ai.row ra _) rfl) rfl ⟨Or.inr (Or.inr ⟨HSame.out,hok.out,_,_,_,_,rfl,hg2',hs2⟩),St.aJ ba hg2w _⟩
end
section
open Go.RowKit Vc St Mt Dt Pr
attribute [local go_sem ↓] Go.wp_at_zero Go.wp_at_succ
namespace Ud
theorem xe:Is 126 3:=⟨by kernel_rfl,⟨_,Tryz.underlying126,rfl⟩⟩
theorem OL:Is 124 2:=⟨by kernel_rfl,⟨_,Tryz.underlying124,rfl⟩⟩
theorem X6:Is 60 2:=⟨by kernel_rfl,⟨_,Tryz.underlying60,rfl⟩⟩
theorem Wv(a b c:Option Addr)(i j k l m n:Nat):Tryz.prog.built 126 [(0, .slice a i j),(1, .agg #[.slice b k l, .slice c m n])]=some #[.slice a i j, .slice b k l, .slice c m n]:=by kernel_rfl
theorem Wx{ops:Array Oper}{rest:List Oper}{o:Oper}{ac:Act}{w:World}{Q:Exit->Act->World->Prop}(x y:Operand)(ho:o.op= .build 126 #[(0,x),(1,y)])(a b c:Option Addr)(i j k l m n:Nat)(hx:ac.eval x= .slice a i j)(hy:ac.eval y= .agg #[.slice b k l, .slice c m n])(hw:Region.wanted o (yielded ops ac.tmps)=true)
 (h:wpList Tryz.prog ops Q rest (ac.put o.dst (.agg #[.slice a i j, .slice b k l, .slice c m n])) w):wpList Tryz.prog ops Q (o::rest) ac w:=
 wpList_want hw fun _ hK=>by
  unfold Oper.wp execOp
  have em:((#[(0,x),(1,y)]:Array (Nat×Operand)).map fun(i,x)=>(i,ac.eval x)).toList= [(0, .slice a i j),(1, .agg #[.slice b k l, .slice c m n])]:=by simp [hx,hy]
  simp only [ho,Sem.run_bind,run_build w 126 _ _ (by rw [em];exact Wv a b c i j k l m n),Result.andThen_ok]
  exact hK _ _ h
end Ud
open Ud
theorem Ud.addr0(a:Addr):a.add 0=a:=by
 cases a
 unfold Addr.add;split<;>simp_all
theorem aax(xo po:Option Addr)(n xc pc:Nat)(x y a b c:Int)(w:World)(hM: ∀ W,Below w.heap.size w W->Calls Tryz.prog 25 #[.agg #[.slice xo 6 xc, .slice po n pc]] W fun e w'=>e= .returned (.bool false)/\Below W.heap.size W w'):
 Calls Tryz.prog 59 #[.agg #[.slice xo 6 xc, .slice po n pc], .agg (pv x y a b c).toArray] w fun e w'=>e= .returned (.tuple #[.agg #[.slice none 0 0, .slice none 0 0, .slice none 0 0], .bool false, .int .i64 1])/\Below w.heap.size w w':=by
 have t0:=((aH w 60 [.slice xo 6 xc, .slice po n pc]).alloc (.cells (pv x y a b c).toArray 67)).alloc (.cells [.slice none 0 0, .slice none 0 0, .slice none 0 0].toArray 126);have m0:=(bU w (.cells [.slice xo 6 xc, .slice po n pc].toArray 60) 67 (pv x y a b c)).alloc (.cells [.slice none 0 0, .slice none 0 0, .slice none 0 0].toArray 126);have r0:=dH w (.cells [.slice xo 6 xc, .slice po n pc].toArray 60) (.cells (pv x y a b c).toArray 67) 126 [.slice none 0 0, .slice none 0 0, .slice none 0 0];have B0:Below w.heap.size w (((w.alloc (.cells [.slice xo 6 xc, .slice po n pc].toArray 60)).alloc (.cells (pv x y a b c).toArray 67)).alloc (.cells [.slice none 0 0, .slice none 0 0, .slice none 0 0].toArray 126)):=af (af (af (Below.refl _ _) _) _) _;obtain⟨W,hW⟩: ∃ W,W=((w.alloc (.cells [.slice xo 6 xc, .slice po n pc].toArray 60)).alloc (.cells (pv x y a b c).toArray 67)).alloc (.cells [.slice none 0 0, .slice none 0 0, .slice none 0 0].toArray 126):=⟨_,rfl⟩;rw [← hW] at t0 m0 r0 B0;have HW:=hide hW;clear hW;have HM:=hide (hM W B0);clear hM;go_enter Tryz.func59,Tryz.ntmps59
 go_wp2_with (first
  |(erw [← HW.out];(refine St.aI X6 rl1 _ rl1 _ _ rl1 (by with_reducible exact t0) rfl ?_))
  |fail)
 refine HM.out.mono ?_;rintro e w1 ⟨rfl,k1⟩;have r1:=ai.keep r0 k1;have B1:=ae B0 k1
 go_wp2_with (first
  |(refine St.aU xe rfl _ _ rl1 _ _ [.slice none 0 0, .slice none 0 0, .slice none 0 0] rl1 rl1 (by with_reducible exact r1) rfl rfl (by intro v hv;simp only [List.mem_cons,List.not_mem_nil,or_false] at hv;rcases hv with rfl|rfl|rfl<;>rfl) ?_)
  |fail)
 exact bodyPost_ret (dJ xe Tryz.results59 _ _ (w.heap.size+1+1) _ rfl (ai.row r1 _) rfl) rfl ⟨rfl,St.aJ B1 om1 _⟩
theorem JZ(xo po:Option Addr)(n xc pc:Nat)(x y a b c:Int)(w:World)(hM: ∀ W,Below w.heap.size w W->Calls Tryz.prog 25 #[.agg #[.slice xo 6 xc, .slice po n pc]] W fun e w'=>e= .returned (.bool true)/\Below W.heap.size W w')(h: ¬lT x y a b c):
 Calls Tryz.prog 59 #[.agg #[.slice xo 6 xc, .slice po n pc], .agg (pv x y a b c).toArray] w fun e w'=>e= .returned (.tuple #[.agg #[.slice none 0 0, .slice none 0 0, .slice none 0 0], .bool false, .int .i64 1])/\Below w.heap.size w w':=by
 have t0:=((aH w 60 [.slice xo 6 xc, .slice po n pc]).alloc (.cells (pv x y a b c).toArray 67)).alloc (.cells [.slice none 0 0, .slice none 0 0, .slice none 0 0].toArray 126);have m0:=(bU w (.cells [.slice xo 6 xc, .slice po n pc].toArray 60) 67 (pv x y a b c)).alloc (.cells [.slice none 0 0, .slice none 0 0, .slice none 0 0].toArray 126);have r0:=dH w (.cells [.slice xo 6 xc, .slice po n pc].toArray 60) (.cells (pv x y a b c).toArray 67) 126 [.slice none 0 0, .slice none 0 0, .slice none 0 0];have B0:Below w.heap.size w (((w.alloc (.cells [.slice xo 6 xc, .slice po n pc].toArray 60)).alloc (.cells (pv x y a b c).toArray 67)).alloc (.cells [.slice none 0 0, .slice none 0 0, .slice none 0 0].toArray 126)):=af (af (af (Below.refl _ _) _) _) _;obtain⟨W,hW⟩: ∃ W,W=((w.alloc (.cells [.slice xo 6 xc, .slice po n pc].toArray 60)).alloc (.cells (pv x y a b c).toArray 67)).alloc (.cells [.slice none 0 0, .slice none 0 0, .slice none 0 0].toArray 126):=⟨_,rfl⟩;rw [← hW] at t0 m0 r0 B0;have HW:=hide hW;clear hW;have HM:=hide (hM W B0);have HN:=hide (fun W=>Ee x y a b c W);rw [decide_eq_false h] at HN;clear hM h;go_enter Tryz.func59,Tryz.ntmps59
 go_wp2_with (first
  |(erw [← HW.out];(refine St.aI X6 rl1 _ rl1 _ _ rl1 (by with_reducible exact t0) rfl ?_))
  |fail)
 refine HM.out.mono ?_;rintro e w1 ⟨rfl,k1⟩;have r1:=ai.keep r0 k1;have m1:=ai.keep m0 k1;have B1:=ae B0 k1
 go_wp2_with (first
  |(refine St.aI qm rl1 _ rl1 _ _ rl1 (by with_reducible exact m1) rfl ?_)
  |fail)
 refine(HN.out _).mono ?_;rintro e w2 ⟨rfl,k2⟩;have r2:=ai.keep r1 k2;have B2:=ae B1 k2
 go_wp2_with (first
  |(refine St.aU xe rfl _ _ rl1 _ _ [.slice none 0 0, .slice none 0 0, .slice none 0 0] rl1 rl1 (by with_reducible exact r2) rfl rfl (by intro v hv;simp only [List.mem_cons,List.not_mem_nil,or_false] at hv;rcases hv with rfl|rfl|rfl<;>rfl) ?_)
  |fail)
 exact bodyPost_ret (dJ xe Tryz.results59 _ _ (w.heap.size+1+1) _ rfl (ai.row r2 _) rfl) rfl ⟨rfl,St.aJ B2 om1 _⟩
theorem IB{p:Prop}(h:p:=by
 go_wp2_with (first
  |(rw [← HV.out])
  |(refine St.aI OL rl1 _ rl1 _ _ rl1 (by with_reducible exact f10) rfl ?_)
  |(refine Ud.Wx _ _ (by with_reducible rfl) _ _ _ _ _ _ _ _ _ rl1 rl1 (by kernel_rfl) ?_)
  |(refine St.aU xe rfl _ _ rl1 _ _ [.slice (some ⟨w9.heap.size,0,none⟩) 2 2, .slice lo 2 cl, .slice do' 2 cd] rl1 rl1 (by with_reducible exact r10) rfl rfl (by intro v hv;simp only [List.mem_cons,List.not_mem_nil,or_false] at hv;rcases hv with rfl|rfl|rfl<;>rfl) ?_)
  |fail)
 exact bodyPost_ret (dJ xe Tryz.results59 _ _ (w.heap.size+1+1) _ rfl rE rfl) rfl ⟨Or.inr ⟨HFi.out,_,_,_,_,_,rfl,sV',gE',sE'⟩,BE⟩):p:=h
theorem IC(xo po:Option Addr)(xc pc:Nat)(X:Nat->Int)(P:Nat->Nat->Int)(x y a b c:Int)(w:World)(hX:Sl w xo 6 xc X)(hP:Grid w po 6 pc 6 P)(hm:oK X P)(hp:lT x y a b c):
 Calls Tryz.prog 59 #[.agg #[.slice xo 6 xc, .slice po 6 pc], .agg (pv x y a b c).toArray] w fun e w'=>
  (((¬ ∀ i,i<2->Ld.fine (oM P a b c) i)/\e= .returned (.tuple #[.agg #[.slice none 0 0, .slice none 0 0, .slice none 0 0], .bool false, .int .i64 8]))\/
   ((∀ i,i<2->Ld.fine (oM P a b c) i)/\ ∃ gv lo cl do' cd,e= .returned (.tuple #[.agg #[.slice (some ⟨gv,0,none⟩) 2 2, .slice lo 2 cl, .slice do' 2 cd], .bool (og X P x y a b c), .int .i64 0])/\Sl w' (some ⟨gv,0,none⟩) 2 2 (v2 (ox X x) (oy X y))/\Grid w' lo 2 cl 2 (Ld.st (oM P a b c) 2).1/\Sl w' do' 2 cd (Ld.st (oM P a b c) 2).2))/\Below w.heap.size w w':=by
 obtain⟨xa,hxa,hxc⟩:=hX.get;obtain rfl:=hxa om1;have HX0:=hX;have HP0:=hP;obtain⟨A,C,hs,hr⟩:=hP;obtain⟨pa,hpa,hpc⟩:=hs.get;obtain rfl:=hpa om1;obtain⟨ra,hra,hrc⟩:=(hr 0 om1).get;obtain⟨rb,hrb,hrd⟩:=(hr 3 om1).get;have e0:=hpc 0 om1;have e3:=hpc 3 om1;rw [hra om1] at e0;rw [hrb om1] at e3;have e00:=hrc 0 om1;have e03:=hrc 3 om1;have e33:=hrd 3 om1;have ex0:=hxc 0 om1;have ex3:=hxc 3 om1;rw [Ud.addr0] at e0 e00 ex0;obtain⟨rc,hrc'⟩: ∃ q,q=C 0:=⟨_,rfl⟩;obtain⟨rd,hrd'⟩: ∃ q,q=C 3:=⟨_,rfl⟩;rw [← hrc'] at e0;rw [← hrd'] at e3;have l1:=hX.le;have l2:=hX.cap;have l3:=hs.le;have l4:=hs.cap;have l5:=(hr 0 om1).le;have l6:=(hr 0 om1).cap;have l7:=(hr 3 om1).le;have l8:=(hr 3 om1).cap;rw [← hrc'] at l5 l6;rw [← hrd'] at l7 l8;have t0:=((aH w 60 [.slice (some xa) 6 xc, .slice (some pa) 6 pc]).alloc (.cells (pv x y a b c).toArray 67)).alloc (.cells [.slice none 0 0, .slice none 0 0, .slice none 0 0].toArray 126);have m0:=(bU w (.cells [.slice (some xa) 6 xc, .slice (some pa) 6 pc].toArray 60) 67 (pv x y a b c)).alloc (.cells [.slice none 0 0, .slice none 0 0, .slice none 0 0].toArray 126);have r0:=dH w (.cells [.slice (some xa) 6 xc, .slice (some pa) 6 pc].toArray 60) (.cells (pv x y a b c).toArray 67) 126 [.slice none 0 0, .slice none 0 0, .slice none 0 0];have B0:Below w.heap.size w (((w.alloc (.cells [.slice (some xa) 6 xc, .slice (some pa) 6 pc].toArray 60)).alloc (.cells (pv x y a b c).toArray 67)).alloc (.cells [.slice none 0 0, .slice none 0 0, .slice none 0 0].toArray 126)):=af (af (af (Below.refl _ _) _) _) _;obtain⟨W,hW⟩: ∃ W,W=((w.alloc (.cells [.slice (some xa) 6 xc, .slice (some pa) 6 pc].toArray 60)).alloc (.cells (pv x y a b c).toArray 67)).alloc (.cells [.slice none 0 0, .slice none 0 0, .slice none 0 0].toArray 126):=⟨_,rfl⟩;rw [← hW] at t0 m0 r0 B0;have HW:=hide hW;clear hW;have hS: ∀ V,Below W.heap.size W V->(V.cell? ⟨w.heap.size,0,none⟩=some (.slice (some xa) 6 xc)/\V.cell? ⟨w.heap.size,1,none⟩=some (.slice (some pa) 6 pc)/\V.cell? pa=some (.slice (some ra) 6 rc)/\V.cell? (pa.add 3)=some (.slice (some rb) 6 rd)/\V.cell? ra=some (.int .i64 (P 0 0))/\V.cell? (ra.add 3)=some (.int .i64 (P 0 3))/\V.cell? (rb.add 3)=some (.int .i64 (P 3 3))/\V.cell? xa=some (.int .i64 (X 0))/\V.cell? (xa.add 3)=some (.int .i64 (X 3))/\V.cell? ⟨w.heap.size+1,0,none⟩=some (.int .i64 x)/\V.cell? ⟨w.heap.size+1,1,none⟩=some (.int .i64 y)/\V.cell? ⟨w.heap.size+1,2,none⟩=some (.int .i64 a)/\V.cell? ⟨w.heap.size+1,3,none⟩=some (.int .i64 b)/\V.cell? ⟨w.heap.size+1,4,none⟩=some (.int .i64 c)):=fun V k=>⟨ai.cell (ai.keep t0 k) (k:=0) rfl rfl,ai.cell (ai.keep t0 k) (k:=1) rfl rfl,ah (ae B0 k) e0,ah (ae B0 k) e3,ah (ae B0 k) e00,ah (ae B0 k) e03,ah (ae B0 k) e33,ah (ae B0 k) ex0,ah (ae B0 k) ex3,ai.cell (ai.keep m0 k) (k:=0) rfl rfl,ai.cell (ai.keep m0 k) (k:=1) rfl rfl,ai.cell (ai.keep m0 k) (k:=2) rfl rfl,ai.cell (ai.keep m0 k) (k:=3) rfl rfl,ai.cell (ai.keep m0 k) (k:=4) rfl rfl⟩;have i0:=(hm 0 om1);have i3:=(hm 3 om1);have HA:=hide (fun W=>wW (P 0 0) a W (by have:=(i0.2.2 0 om1).1.1;omega) (by have:=(i0.2.2 0 om1).1.2;omega) (by have:=hp.2.2.1.1;omega) (by have:=hp.2.2.1.2;omega));have HB:=hide (fun W=>wW (P 0 3) c W (by have:=(i0.2.2 3 om1).1.1;omega) (by have:=(i0.2.2 3 om1).1.2;omega) (by have:=hp.2.2.2.2.1.1;omega) (by have:=hp.2.2.2.2.1.2;omega));have HC:=hide (fun W=>wW (P 3 3) b W (by have:=(i3.2.2 3 om1).1.1;omega) (by have:=(i3.2.2 3 om1).1.2;omega) (by have:=hp.2.2.2.1.1;omega) (by have:=hp.2.2.2.1.2;omega));have HX:=hide (fun W=>tZ x (X 0) W (by have:=hp.1.1;omega) (by have:=hp.1.2;omega) (by have:=i0.1.1;omega) (by have:=i0.1.2;omega));have HY:=hide (fun W=>tZ y (X 3) W (by have:=hp.2.1.1;omega) (by have:=hp.2.1.2;omega) (by have:=i3.1.1;omega) (by have:=i3.1.2;omega));have HM:=hide (pK true (some xa) (some pa) xc pc X P W (HX0.keep B0) (HP0.keep B0) ⟨fun _=>hm,fun _=>rfl⟩);have HN:=hide (fun W=>Ee x y a b c W);rw [decide_eq_true hp] at HN
 have HF:=hide (fun lo cm W (g:Grid W lo 2 cm 2 (oM P a b c))=>aaw 2 cm lo (oM P a b c) W om1 om1 g (g2_b (BM _) (BM _) (BM _)));have eG:Hid (og X P x y a b c=(Qn.great (P 0 0+a)||Qn.great (P 0 3+c)||Qn.great (P 3 3+b)||Qn.great (x- X 0)||Qn.great (y- X 3))):=rfl;have eM:Hid (oM P a b c=g2 (Qn.clamp (P 0 0+a)) (Qn.clamp (P 0 3+c)) (Qn.clamp (P 3 3+b))):=rfl;have eX:Hid (ox X x=Qn.clamp (x- X 0)):=rfl;have eY:Hid (oy X y=Qn.clamp (y- X 3)):=rfl;have hSame:=JE (oa P a) (ob P c) (oc P b);have HSm:Hid (Ld.Same 2 (oM P a b c)):=hSame;obtain⟨va,hva⟩: ∃ z,z=Qn.clamp (P 0 0+a):=⟨_,rfl⟩;obtain⟨vb,hvb⟩: ∃ z,z=Qn.clamp (P 0 3+c):=⟨_,rfl⟩;obtain⟨vc,hvc⟩: ∃ z,z=Qn.clamp (P 3 3+b):=⟨_,rfl⟩;obtain⟨vx,hvx⟩: ∃ z,z=Qn.clamp (x- X 0):=⟨_,rfl⟩;obtain⟨vy,hvy⟩: ∃ z,z=Qn.clamp (y- X 3):=⟨_,rfl⟩;obtain⟨qa,hqa⟩: ∃ z,z=Qn.great (P 0 0+a):=⟨_,rfl⟩;obtain⟨qb,hqb⟩: ∃ z,z=Qn.great (P 0 3+c):=⟨_,rfl⟩;obtain⟨qc,hqc⟩: ∃ z,z=Qn.great (P 3 3+b):=⟨_,rfl⟩;obtain⟨qx,hqx⟩: ∃ z,z=Qn.great (x- X 0):=⟨_,rfl⟩;obtain⟨qy,hqy⟩: ∃ z,z=Qn.great (y- X 3):=⟨_,rfl⟩;rw [← hva,← hqa] at HA;rw [← hvb,← hqb] at HB;rw [← hvc,← hqc] at HC;rw [← hvx,← hqx] at HX;rw [← hvy,← hqy] at HY;rw [← hqa,← hqb,← hqc,← hqx,← hqy] at eG;rw [← hva,← hvb,← hvc] at eM;rw [← hvx] at eX;rw [← hvy] at eY;rw [eG.out,eX.out,eY.out];obtain⟨Mx,hMx⟩: ∃ M,M=oM P a b c:=⟨_,rfl⟩;rw [← hMx] at HF eM HSm ⊢;obtain⟨p00,hp00⟩: ∃ z,z=P 0 0:=⟨_,rfl⟩;obtain⟨p03,hp03⟩: ∃ z,z=P 0 3:=⟨_,rfl⟩;obtain⟨p33,hp33⟩: ∃ z,z=P 3 3:=⟨_,rfl⟩;obtain⟨x0,hx0⟩: ∃ z,z=X 0:=⟨_,rfl⟩;obtain⟨x3,hx3⟩: ∃ z,z=X 3:=⟨_,rfl⟩;rw [← hp00] at HA hS;rw [← hp03] at HB hS;rw [← hp33] at HC hS;rw [← hx0] at HX hS;rw [← hx3] at HY hS;have HS:=hide hS;have HR:Hid (∀ V,Below W.heap.size W V->ai V (w.heap.size+1+1) 126 [.slice none 0 0, .slice none 0 0, .slice none 0 0]):=fun V k=>ai.keep r0 k;have m0':=m0;clear hS hxa hxc hs hr hpa hpc hra hrc hrb hrd e0 e3 e00 e03 e33 ex0 ex3 i0 i3 hSame hva hvb hvc hvx hvy hqa hqb hqc hqx hqy hMx hp00 hp03 hp33 hx0 hx3 hrc' hrd' HX0 HP0 hX hm hp eG eX eY r0;go_enter Tryz.func59,Tryz.ntmps59
 go_wp2_with (first
  |(erw [← HW.out];(refine St.aI X6 rl1 _ rl1 _ _ rl1 (by with_reducible exact t0) rfl ?_))
  |fail)
 refine HM.out.mono ?_;rintro e w1 ⟨rfl,k1⟩;have m1:=ai.keep m0 k1
 go_wp2_with (first
  |(refine St.aI qm rl1 _ rl1 _ _ rl1 (by with_reducible exact m1) rfl ?_)
  |fail)
 refine(HN.out _).mono ?_;rintro e w2 ⟨rfl,k2⟩;have D2:=ae k1 k2;clear m0 m0' m1 k1 k2 HM HN HW t0;go_upto_region 3 with fail
 refine Ru.aS [] (fun w'=>w'.cell? ⟨w.heap.size,0,none⟩=some (.slice (some xa) 6 xc)/\w'.cell? ⟨w.heap.size,1,none⟩=some (.slice (some pa) 6 pc)/\w'.cell? pa=some (.slice (some ra) 6 rc)/\w'.cell? (pa.add 3)=some (.slice (some rb) 6 rd)/\w'.cell? ra=some (.int .i64 p00)/\w'.cell? (ra.add 3)=some (.int .i64 p03)/\w'.cell? (rb.add 3)=some (.int .i64 p33)/\w'.cell? xa=some (.int .i64 x0)/\w'.cell? (xa.add 3)=some (.int .i64 x3)/\w'.cell? ⟨w.heap.size+1,0,none⟩=some (.int .i64 x)/\w'.cell? ⟨w.heap.size+1,1,none⟩=some (.int .i64 y)/\w'.cell? ⟨w.heap.size+1,2,none⟩=some (.int .i64 a)/\w'.cell? ⟨w.heap.size+1,3,none⟩=some (.int .i64 b)/\w'.cell? ⟨w.heap.size+1,4,none⟩=some (.int .i64 c)) (by kernel_rfl) (HS.out _ (ae D2 (Vc.az _))) (fun hHeld=> ?_);refine Ru.kN 0 (.pointer (some ⟨w.heap.size,1,none⟩)) hHeld ?_;refine Ru.kN 1 (.slice (some pa) 6 pc) hHeld ?_;refine Ru.kN 2 (.pointer (some pa)) hHeld ?_;refine Ru.kN 3 (.slice (some ra) 6 rc) hHeld ?_;refine Ru.kN 4 (.pointer (some ra)) hHeld ?_;refine Ru.kN 5 (.int .i64 p00) hHeld ?_;refine Ru.kN 6 (.pointer (some ⟨w.heap.size+1,2,none⟩)) hHeld ?_;refine Ru.kN 7 (.int .i64 a) hHeld ?_;refine Ru.rd 8 (fun K hK=> ?_);go_simp;refine(HA.out _).mono ?_;rintro _ w3 ⟨rfl,k3⟩;have D3:=ae (ae D2 (Vc.az _)) k3;go_wp2_with fail
 refine Ru.hd hK (HS.out _ D3) (fun hHeld=> ?_);clear hK K;refine Ru.kN 9 (.tuple #[.int .i64 va, .bool qa]) hHeld ?_;refine Ru.kN 10 (.int .i64 va) hHeld ?_;refine Ru.kN 11 (.bool qa) hHeld ?_;refine Ru.kN 12 (.int .i64 va) hHeld ?_;refine Ru.kN 13 (.bool qa) hHeld ?_;refine Ru.bI (by kernel_rfl) ?_;go_upto_region 4 with fail
 refine Ru.aS [] (fun w'=>w'.cell? ⟨w.heap.size,0,none⟩=some (.slice (some xa) 6 xc)/\w'.cell? ⟨w.heap.size,1,none⟩=some (.slice (some pa) 6 pc)/\w'.cell? pa=some (.slice (some ra) 6 rc)/\w'.cell? (pa.add 3)=some (.slice (some rb) 6 rd)/\w'.cell? ra=some (.int .i64 p00)/\w'.cell? (ra.add 3)=some (.int .i64 p03)/\w'.cell? (rb.add 3)=some (.int .i64 p33)/\w'.cell? xa=some (.int .i64 x0)/\w'.cell? (xa.add 3)=some (.int .i64 x3)/\w'.cell? ⟨w.heap.size+1,0,none⟩=some (.int .i64 x)/\w'.cell? ⟨w.heap.size+1,1,none⟩=some (.int .i64 y)/\w'.cell? ⟨w.heap.size+1,2,none⟩=some (.int .i64 a)/\w'.cell? ⟨w.heap.size+1,3,none⟩=some (.int .i64 b)/\w'.cell? ⟨w.heap.size+1,4,none⟩=some (.int .i64 c)) (by kernel_rfl) (HS.out _ (ae D3 (Vc.az _))) (fun hHeld=> ?_);refine Ru.kN 0 (.pointer (some ⟨w.heap.size,1,none⟩)) hHeld ?_;refine Ru.kN 1 (.slice (some pa) 6 pc) hHeld ?_;refine Ru.kN 2 (.pointer (some pa)) hHeld ?_;refine Ru.kN 3 (.slice (some ra) 6 rc) hHeld ?_;refine Ru.kN 4 (.pointer (some (ra.add 3))) hHeld ?_;refine Ru.tk 5 (.int .i64 p03) rfl (Ud.xU (by kernel_rfl) _ rl1 (ra.add 3) _ rl1 (fun w h=>h.2.2.2.2.2.1)) hHeld ?_;refine Ru.kN 6 (.pointer (some ⟨w.heap.size+1,4,none⟩)) hHeld ?_;refine Ru.kN 7 (.int .i64 c) hHeld ?_;refine Ru.rd 8 (fun K hK=> ?_);go_simp;refine(HB.out _).mono ?_;rintro _ w4 ⟨rfl,k4⟩;have D4:=ae (ae D3 (Vc.az _)) k4;go_wp2_with fail
 refine Ru.hd hK (HS.out _ D4) (fun hHeld=> ?_);clear hK K;refine Ru.kN 9 (.tuple #[.int .i64 vb, .bool qb]) hHeld ?_;refine Ru.kN 10 (.int .i64 vb) hHeld ?_;refine Ru.kN 11 (.bool qb) hHeld ?_;refine Ru.kN 12 (.int .i64 vb) hHeld ?_;refine Ru.kN 13 (.bool qb) hHeld ?_;refine Ru.bI (by kernel_rfl) ?_;go_upto_region 5 with fail
 refine Ru.aS [] (fun w'=>w'.cell? ⟨w.heap.size,0,none⟩=some (.slice (some xa) 6 xc)/\w'.cell? ⟨w.heap.size,1,none⟩=some (.slice (some pa) 6 pc)/\w'.cell? pa=some (.slice (some ra) 6 rc)/\w'.cell? (pa.add 3)=some (.slice (some rb) 6 rd)/\w'.cell? ra=some (.int .i64 p00)/\w'.cell? (ra.add 3)=some (.int .i64 p03)/\w'.cell? (rb.add 3)=some (.int .i64 p33)/\w'.cell? xa=some (.int .i64 x0)/\w'.cell? (xa.add 3)=some (.int .i64 x3)/\w'.cell? ⟨w.heap.size+1,0,none⟩=some (.int .i64 x)/\w'.cell? ⟨w.heap.size+1,1,none⟩=some (.int .i64 y)/\w'.cell? ⟨w.heap.size+1,2,none⟩=some (.int .i64 a)/\w'.cell? ⟨w.heap.size+1,3,none⟩=some (.int .i64 b)/\w'.cell? ⟨w.heap.size+1,4,none⟩=some (.int .i64 c)) (by kernel_rfl) (HS.out _ (ae D4 (Vc.az _))) (fun hHeld=> ?_);refine Ru.kN 0 (.pointer (some ⟨w.heap.size,1,none⟩)) hHeld ?_;refine Ru.kN 1 (.slice (some pa) 6 pc) hHeld ?_;refine Ru.kN 2 (.pointer (some (pa.add 3))) hHeld ?_;refine Ru.tk 3 (.slice (some rb) 6 rd) rfl (Ud.JF (by kernel_rfl) _ rl1 (pa.add 3) _ rl1 (fun w h=>h.2.2.2.1)) hHeld ?_;refine Ru.kN 4 (.pointer (some (rb.add 3))) hHeld ?_;refine Ru.tk 5 (.int .i64 p33) rfl (Ud.xU (by kernel_rfl) _ rl1 (rb.add 3) _ rl1 (fun w h=>h.2.2.2.2.2.2.1)) hHeld ?_;refine Ru.kN 6 (.pointer (some ⟨w.heap.size+1,3,none⟩)) hHeld ?_;refine Ru.kN 7 (.int .i64 b) hHeld ?_;refine Ru.rd 8 (fun K hK=> ?_);go_simp;refine(HC.out _).mono ?_;rintro _ w5 ⟨rfl,k5⟩;have D5:=ae (ae D4 (Vc.az _)) k5;go_wp2_with fail
 refine Ru.hd hK (HS.out _ D5) (fun hHeld=> ?_);clear hK K;refine Ru.kN 9 (.tuple #[.int .i64 vc, .bool qc]) hHeld ?_;refine Ru.kN 10 (.int .i64 vc) hHeld ?_;refine Ru.kN 11 (.bool qc) hHeld ?_;refine Ru.kN 12 (.int .i64 vc) hHeld ?_;refine Ru.kN 13 (.bool qc) hHeld ?_;refine Ru.bI (by kernel_rfl) ?_;go_upto_region 6 with fail
 refine Ru.aS [] (fun w'=>w'.cell? ⟨w.heap.size,0,none⟩=some (.slice (some xa) 6 xc)/\w'.cell? ⟨w.heap.size,1,none⟩=some (.slice (some pa) 6 pc)/\w'.cell? pa=some (.slice (some ra) 6 rc)/\w'.cell? (pa.add 3)=some (.slice (some rb) 6 rd)/\w'.cell? ra=some (.int .i64 p00)/\w'.cell? (ra.add 3)=some (.int .i64 p03)/\w'.cell? (rb.add 3)=some (.int .i64 p33)/\w'.cell? xa=some (.int .i64 x0)/\w'.cell? (xa.add 3)=some (.int .i64 x3)/\w'.cell? ⟨w.heap.size+1,0,none⟩=some (.int .i64 x)/\w'.cell? ⟨w.heap.size+1,1,none⟩=some (.int .i64 y)/\w'.cell? ⟨w.heap.size+1,2,none⟩=some (.int .i64 a)/\w'.cell? ⟨w.heap.size+1,3,none⟩=some (.int .i64 b)/\w'.cell? ⟨w.heap.size+1,4,none⟩=some (.int .i64 c)) (by kernel_rfl) (HS.out _ (ae D5 (Vc.az _))) (fun hHeld=> ?_);refine Ru.kN 0 (.pointer (some ⟨w.heap.size+1,0,none⟩)) hHeld ?_;refine Ru.kN 1 (.int .i64 x) hHeld ?_;refine Ru.kN 2 (.pointer (some ⟨w.heap.size,0,none⟩)) hHeld ?_;refine Ru.kN 3 (.slice (some xa) 6 xc) hHeld ?_;refine Ru.kN 4 (.pointer (some xa)) hHeld ?_;refine Ru.kN 5 (.int .i64 x0) hHeld ?_;refine Ru.rd 6 (fun K hK=> ?_);go_simp;refine(HX.out _).mono ?_;rintro _ w6 ⟨rfl,k6⟩;have D6:=ae (ae D5 (Vc.az _)) k6;go_wp2_with fail
 refine Ru.hd hK (HS.out _ D6) (fun hHeld=> ?_);clear hK K;refine Ru.kN 7 (.tuple #[.int .i64 vx, .bool qx]) hHeld ?_;refine Ru.kN 8 (.int .i64 vx) hHeld ?_;refine Ru.kN 9 (.bool qx) hHeld ?_;refine Ru.kN 10 (.int .i64 vx) hHeld ?_;refine Ru.kN 11 (.bool qx) hHeld ?_;refine Ru.bI (by kernel_rfl) ?_;go_upto_region 7 with fail
 refine Ru.aS [] (fun w'=>w'.cell? ⟨w.heap.size,0,none⟩=some (.slice (some xa) 6 xc)/\w'.cell? ⟨w.heap.size,1,none⟩=some (.slice (some pa) 6 pc)/\w'.cell? pa=some (.slice (some ra) 6 rc)/\w'.cell? (pa.add 3)=some (.slice (some rb) 6 rd)/\w'.cell? ra=some (.int .i64 p00)/\w'.cell? (ra.add 3)=some (.int .i64 p03)/\w'.cell? (rb.add 3)=some (.int .i64 p33)/\w'.cell? xa=some (.int .i64 x0)/\w'.cell? (xa.add 3)=some (.int .i64 x3)/\w'.cell? ⟨w.heap.size+1,0,none⟩=some (.int .i64 x)/\w'.cell? ⟨w.heap.size+1,1,none⟩=some (.int .i64 y)/\w'.cell? ⟨w.heap.size+1,2,none⟩=some (.int .i64 a)/\w'.cell? ⟨w.heap.size+1,3,none⟩=some (.int .i64 b)/\w'.cell? ⟨w.heap.size+1,4,none⟩=some (.int .i64 c)) (by kernel_rfl) (HS.out _ (ae D6 (Vc.az _))) (fun hHeld=> ?_);refine Ru.kN 0 (.pointer (some ⟨w.heap.size+1,1,none⟩)) hHeld ?_;refine Ru.kN 1 (.int .i64 y) hHeld ?_;refine Ru.kN 2 (.pointer (some ⟨w.heap.size,0,none⟩)) hHeld ?_;refine Ru.kN 3 (.slice (some xa) 6 xc) hHeld ?_;refine Ru.kN 4 (.pointer (some (xa.add 3))) hHeld ?_;refine Ru.tk 5 (.int .i64 x3) rfl (Ud.xU (by kernel_rfl) _ rl1 (xa.add 3) _ rl1 (fun w h=>h.2.2.2.2.2.2.2.2.1)) hHeld ?_;refine Ru.rd 6 (fun K hK=> ?_);go_simp;refine(HY.out _).mono ?_;rintro _ w7 ⟨rfl,k7⟩;have D7:=ae (ae D6 (Vc.az _)) k7;go_wp2_with fail
 refine Ru.hd hK (HS.out _ D7) (fun hHeld=> ?_);clear hK K;refine Ru.kN 7 (.tuple #[.int .i64 vy, .bool qy]) hHeld ?_;refine Ru.kN 8 (.int .i64 vy) hHeld ?_;refine Ru.kN 9 (.bool qy) hHeld ?_;refine Ru.kN 10 (.int .i64 vy) hHeld ?_;refine Ru.kN 11 (.bool qy) hHeld ?_;refine Ru.bI (by kernel_rfl) ?_;have x1:ai (w7.alloc (.cells #[.int .i64 va, .int .i64 vb] 2)) w7.heap.size 2 (vals 2 (v2 va vb)):=aH w7 2 (vals 2 (v2 va vb));have x2:ai ((w7.alloc (.cells #[.int .i64 va, .int .i64 vb] 2)).alloc (.cells #[.int .i64 vb, .int .i64 vc] 2)) (w7.heap.size+1) 2 (vals 2 (v2 vb vc)):=bU w7 (.cells #[.int .i64 va, .int .i64 vb] 2) 2 (vals 2 (v2 vb vc));have x3:ai (((w7.alloc (.cells #[.int .i64 va, .int .i64 vb] 2)).alloc (.cells #[.int .i64 vb, .int .i64 vc] 2)).alloc (.cells #[.slice (some ⟨w7.heap.size,0,none⟩) 2 2, .slice (some ⟨w7.heap.size+1,0,none⟩) 2 2] 27)) (w7.heap.size+1+1) 27 [.slice (some ⟨w7.heap.size,0,none⟩) 2 2, .slice (some ⟨w7.heap.size+1,0,none⟩) 2 2]:=dH w7 (.cells #[.int .i64 va, .int .i64 vb] 2) (.cells #[.int .i64 vb, .int .i64 vc] 2) 27 _;have g8:=ZN x3 ((x1.alloc (.cells #[.int .i64 vb, .int .i64 vc] 2)).alloc (.cells #[.slice (some ⟨w7.heap.size,0,none⟩) 2 2, .slice (some ⟨w7.heap.size+1,0,none⟩) 2 2] 27)) (x2.alloc (.cells #[.slice (some ⟨w7.heap.size,0,none⟩) 2 2, .slice (some ⟨w7.heap.size+1,0,none⟩) 2 2] 27));have g8':Grid (((w7.alloc (.cells #[.int .i64 va, .int .i64 vb] 2)).alloc (.cells #[.int .i64 vb, .int .i64 vc] 2)).alloc (.cells #[.slice (some ⟨w7.heap.size,0,none⟩) 2 2, .slice (some ⟨w7.heap.size+1,0,none⟩) 2 2] 27)) (some ⟨w7.heap.size+1+1,0,none⟩) 2 2 2 Mx:=g8.congr (fun i j hi hj=>by rw [eM.out];exact JG va vb vc i j hi hj);have K8:Below w7.heap.size w7 (((w7.alloc (.cells #[.int .i64 va, .int .i64 vb] 2)).alloc (.cells #[.int .i64 vb, .int .i64 vc] 2)).alloc (.cells #[.slice (some ⟨w7.heap.size,0,none⟩) 2 2, .slice (some ⟨w7.heap.size+1,0,none⟩) 2 2] 27)):=af (af (af (Below.refl _ _) _) _) _;have HG8:=hide g8';clear x1 x2 x3 g8 g8';go_wp2_with fail
 refine(HF.out _ _ _ HG8.out).mono ?_;rintro e w8 ⟨hcase,k8⟩;have D8:=ae (ae D7 K8) k8;clear k8 K8 HG8 HF;rcases hcase with⟨hn,_⟩|⟨_,hnf,rfl⟩|⟨_,hf,lo,cl,do',cd,rfl,gL,sD⟩
 · exact absurd HSm.out hn
 · have HNF:=hide hnf;clear hnf
   go_wp2_with (first
    |(refine St.aF OL rfl _ _ rl1 _ [.slice none 0 0, .slice none 0 0] [.slice none 0 0, .slice none 0 0] rl1 rl1 rfl rfl (by intro v hv;simp only [List.mem_cons,List.not_mem_nil,or_false] at hv;rcases hv with rfl|rfl<;>rfl) ?_;intro w9 f9 k9;have D9:=ae D8 k9;have r9:=HR.out _ D9)
    |(refine St.aU xe rfl _ _ rl1 _ _ [.slice none 0 0, .slice none 0 0, .slice none 0 0] rl1 rl1 (by with_reducible exact r9) rfl rfl (by intro v hv;simp only [List.mem_cons,List.not_mem_nil,or_false] at hv;rcases hv with rfl|rfl|rfl<;>rfl) ?_)
    |fail)
   exact bodyPost_ret (dJ xe Tryz.results59 _ _ (w.heap.size+1+1) _ rfl (ai.row r9 _) rfl) rfl ⟨Or.inl ⟨HNF.out,rfl⟩,St.aJ (ae B0 D9) om1 _⟩
 · have HFi:=hide hf;have HGL:=hide gL;have HSD:=hide sD;clear hf gL sD
   go_upto_region 11 with(first
    |(refine St.aF OL rfl _ _ rl1 _ [.slice none 0 0, .slice none 0 0] [.slice lo 2 cl, .slice do' 2 cd] rl1 rl1 rfl rfl (by intro v hv;simp only [List.mem_cons,List.not_mem_nil,or_false] at hv;rcases hv with rfl|rfl<;>rfl) ?_;intro w9 f9 k9;have D9:=ae D8 k9;have r9:=HR.out _ D9)
    |fail)
   have v0:ai (w9.alloc (.cells #[.int .i64 vx, .int .i64 vy] 2)) w9.heap.size 2 (vals 2 (v2 vx vy)):=aH w9 2 (vals 2 (v2 vx vy));have k10:=af (Below.refl _ w9) (.cells #[.int .i64 vx, .int .i64 vy] 2);obtain⟨wv,hwv⟩: ∃ W,W=w9.alloc (.cells #[.int .i64 vx, .int .i64 vy] 2):=⟨_,rfl⟩;rw [← hwv] at v0 k10;have HV:=hide hwv;have f10:=ai.keep f9 k10;have D10:=ae D9 k10;have r10:=HR.out _ D10;have sV:=iF v0 om1;have gE:=(HGL.out.keep k9).keep k10;have sE:=(HSD.out.keep k9).keep k10;have lt1:=ai.lt r10;have lt2:=ai.lt v0;clear hwv f9 k9 k10 D9 r9 HGL HSD;have nI: ∀ z,Value.int .i64 z∉([.slice none 0 0, .slice none 0 0, .slice none 0 0]:List Value):=fun z h=>by simp at h
   have nL: ∀ q c,Value.slice q 2 c∉([.slice none 0 0, .slice none 0 0, .slice none 0 0]:List Value):=fun q c h=>by simp at h
   have kE:=gp wv (w.heap.size+1+1) ([.slice (some ⟨w9.heap.size,0,none⟩) 2 2, .slice lo 2 cl, .slice do' 2 cd]:List Value).toArray;have sV':=mF r10 nI sV om1 kE;have gE':=qX r10 nI nL gE om1 kE;have sE':=mF r10 nI sE om1 kE;have rE:=ai.row r10 [.slice (some ⟨w9.heap.size,0,none⟩) 2 2, .slice lo 2 cl, .slice do' 2 cd];have BE:=St.aJ (ae B0 D10) (g:=w.heap.size+1+1) om1 ([.slice (some ⟨w9.heap.size,0,none⟩) 2 2, .slice lo 2 cl, .slice do' 2 cd]:List Value).toArray;clear nI nL kE sV gE sE lt1 lt2;cases qa with
   |true=>
    exact IB
   |false=>
    cases qb with
    |true=>
     exact IB
    |false=>
     cases qc with
     |true=>
      exact IB
     |false=>
      cases qx with
      |true=>
       exact IB
      |false=>
       exact IB
end
section
open Go.RowKit Vc St Mt Dt Pr Lk
attribute [local go_sem ↓] Go.wp_at_zero Go.wp_at_succ
namespace Lk
def ofF(L:Nat->Nat->Int)(d v:Nat->Int):Int:=Ld.wR (Ld.dQ L v 2) d 2
def ofS(L:Nat->Nat->Int)(d v:Nat->Int):Int:=Qn.clamp (ofF L d v+Ld.xP d 2)
def ofN(L:Nat->Nat->Int)(d v:Nat->Int):Int:=Qn.clamp (Qn.rne (ofS L d v* -524288) (2^20))
def ofO(L:Nat->Nat->Int)(d v:Nat->Int):Bool:=((Ld.iT L v 2||Ld.DW (Ld.dQ L v 2) d 2)||Qn.great (ofF L d v+Ld.xP d 2))||Qn.great (Qn.rne (ofS L d v* -524288) (2^20))
theorem IE{w:World}{g:Nat}{u v z:Value}(h:ai w g 126 [u,v,z]):w.rangeAt g 1 [v,z]:=ai.mid h fun j x hx=>by
 match j,hx with
 |0,h=>exact h
 |1,h=>exact h
 |_+2,h=>simp at h
theorem X7(d:Nat->Int): -9223372036854775808<=Ld.xP d 2/\Ld.xP d 2<=9223372036854775807:=by
 show-9223372036854775808<=IntKind.i64.wrap _/\IntKind.i64.wrap _<=9223372036854775807;rw [IntKind.wrap_i64];omega
theorem aay(n:Int): -4611686018427387903<=Qn.clamp n/\Qn.clamp n<=4611686018427387903:=by unfold Qn.clamp;split<;>(try split)<;>omega
end Lk
theorem TY(gv lo do':Option Addr)(gc cl cd:Nat)(v:Nat->Int)(L:Nat->Nat->Int)(d:Nat->Int)(w:World)(hv:Sl w gv 2 gc v)(hL:Grid w lo 2 cl 2 L)(hd:Sl w do' 2 cd d)(bL: ∀ a,B64 (L a))(bd: ∀ k,k<2->1<=d k/\d k<=4611686018427387903)(bv:B64 v):
 Calls Tryz.prog 60 #[.agg #[.slice gv 2 gc, .slice lo 2 cl, .slice do' 2 cd]] w fun e w'=>e= .returned (.tuple #[.int .i64 (ofN L d v), .bool (ofO L d v)])/\Below w.heap.size w w':=by
 have HF:Hid (∀ W,Below w.heap.size w W->Calls Tryz.prog 126 #[.agg #[.slice lo 2 cl, .slice do' 2 cd], .slice gv 2 gc] W fun e w'=>e= .returned (.tuple #[.int .i64 (ofF L d v), .bool (Ld.iT L v 2||Ld.DW (Ld.dQ L v 2) d 2)])/\Below W.heap.size W w'):=fun W b=>Ws 2 cl cd gc lo do' gv L d v W om1 om1 (hL.keep b) (hd.keep b) (hv.keep b) bL bd bv;have HG:Hid (∀ W,Below w.heap.size w W->Calls Tryz.prog 127 #[.agg #[.slice lo 2 cl, .slice do' 2 cd]] W fun e w'=>e= .returned (.int .i64 (Ld.xP d 2))/\Below W.heap.size W w'):=fun W b=>Wu 2 cl cd lo do' d W om1 om1 (hd.keep b) bd;have f: -4611686018427387903<=ofF L d v/\ofF L d v<=4611686018427387903:=Ld.Fv (Ld.dQ L v 2) d 2;have g:=X7 d;have OA:=iH (fun W=>fJ (ofF L d v) W om1 om1);have OB:=iH (fun W=>fJ (Ld.xP d 2) W om1 om1);have AD:=iH (fun va vb W=>add_any va vb (ofF L d v) (Ld.xP d 2) W (dX om1 om1) (dX om1 om1));have BD:=iH (fun v' W=>pF v' (ofF L d v+Ld.xP d 2) W (dX om1 om1));have s:=aay (ofF L d v+Ld.xP d 2);have DT:=iH (fun W=>MQ (ofS L d v) (-524288) 20 W (by unfold ofS;omega) (by unfold ofS;omega) om1 om1 om1);have HN:Hid (ofN L d v=Qn.clamp (Qn.rne (ofS L d v* -524288) (2^20))):=rfl;have HO:Hid (ofO L d v=(((Ld.iT L v 2||Ld.DW (Ld.dQ L v 2) d 2)||Qn.great (ofF L d v+Ld.xP d 2))||Qn.great (Qn.rne (ofS L d v* -524288) (2^20)))):=rfl;have HSd:Hid (ofS L d v=Qn.clamp (ofF L d v+Ld.xP d 2)):=rfl;obtain⟨n,hn⟩: ∃ n,n=ofN L d v:=⟨_,rfl⟩;obtain⟨o,ho⟩: ∃ n,n=ofO L d v:=⟨_,rfl⟩;rw [← hn] at HN ⊢;rw [← ho] at HO ⊢;rw [← HN.out] at DT;rw [← HSd.out] at BD;obtain⟨F,hF⟩: ∃ F,F=ofF L d v:=⟨_,rfl⟩;obtain⟨G,hG⟩: ∃ F,F=Ld.xP d 2:=⟨_,rfl⟩;obtain⟨S,hS⟩: ∃ F,F=ofS L d v:=⟨_,rfl⟩;obtain⟨o1,ho1⟩: ∃ F,F=(Ld.iT L v 2||Ld.DW (Ld.dQ L v 2) d 2):=⟨_,rfl⟩;rw [← hF,← ho1] at HF;rw [← hG] at HG OB;rw [← hF] at OA;rw [← hF,← hG] at AD BD;rw [← hS] at BD DT;rw [← hF,← hG,← hS,← ho1] at HO;obtain⟨o2,ho2⟩: ∃ F',F'=Qn.great (F+G):=⟨_,rfl⟩;obtain⟨o3,ho3⟩: ∃ F',F'=Qn.great (Qn.rne (S* -524288) (2^20)):=⟨_,rfl⟩;rw [← ho2,← ho3] at HO;rw [← ho2] at BD;rw [← ho3] at DT;obtain⟨D,hD⟩: ∃ F',F'=F+G:=⟨_,rfl⟩;rw [← hD] at AD BD;have m0:=aH w 126 [.slice gv 2 gc, .slice lo 2 cl, .slice do' 2 cd];have B0:=af (Below.refl _ w) (.cells [Value.slice gv 2 gc, .slice lo 2 cl, .slice do' 2 cd].toArray 126);obtain⟨W,hW⟩: ∃ W,W=w.alloc (.cells [Value.slice gv 2 gc, .slice lo 2 cl, .slice do' 2 cd].toArray 126):=⟨_,rfl⟩;rw [← hW] at m0 B0;have HW:=iH hW;have c0:W.cell? ⟨w.heap.size,0,none⟩=some (.slice gv 2 gc):=ai.cell m0 (k:=0) rfl rfl;have HR:=iH (IE m0);have HM0:=iH m0;have zW:w.heap.size<W.heap.size:=ai.lt m0;clear hW m0 hn ho hF hG hS ho1 ho2 ho3 hD HN HSd f g s hv hL hd bL bd bv;go_enter Tryz.func60,Tryz.ntmps60
 go_wp2_with (first
  |(rw [← HW.out])
  |((with_reducible show wpList _ _ _ _ _ _);refine St.dA Ud.OL (by kernel_rfl) _ rl1 _ _ _ rl1 (by with_reducible exact HR.out) rfl ?_)
  |fail)
 refine(HF.out _ B0).mono ?_;rintro e w1 ⟨rfl,k1⟩;have B1:=ae B0 k1;have m1:=HM0.out.keep k1;have HM1:=iH m1;have HS':Hid (∀ V,Below w1.heap.size w1 V->ai V w.heap.size 126 [.slice gv 2 gc, .slice lo 2 cl, .slice do' 2 cd]):=fun V q=>HM1.out.keep q;clear m1;go_upto_region 2 with fail
 have D1:=Vc.az w1;refine Ru.aS [] (fun w'=>ai w' w.heap.size 126 [.slice gv 2 gc, .slice lo 2 cl, .slice do' 2 cd]) (by kernel_rfl) (HS'.out _ D1) (fun hHeld=> ?_);refine Ru.tk1 0 (.int .i64 F) hHeld ?_;refine Ru.tk1 2 (.pointer (some ⟨w.heap.size,1,none⟩)) hHeld ?_;refine Ru.tk 3 (.agg #[.slice lo 2 cl, .slice do' 2 cd]) rfl (Ud.tY Ud.OL (by kernel_rfl) _ rl1 w.heap.size 1 [.slice lo 2 cl, .slice do' 2 cd] rl1 (fun w h=>IE h) rfl) hHeld ?_;refine Ru.rd 1 (fun K hK=> ?_);go_simp;refine(OA.out _).mono ?_;rintro _ w2 ⟨v2,rfl,i2,k2⟩;have D2:=ae D1 k2;go_wp2_with fail
 refine Ru.hd hK (HS'.out _ D2) (fun hHeld=> ?_);clear hK K;refine Ru.rd 4 (fun K hK=> ?_);go_simp;refine(HG.out _ (ae B1 D2)).mono ?_;rintro _ w3 ⟨rfl,k3⟩;have i2':=i2.below k3;have D3:=ae D2 k3;go_wp2_with fail
 refine Ru.hd hK (HS'.out _ D3) (fun hHeld=> ?_);clear hK K;refine Ru.rd 5 (fun K hK=> ?_);go_simp;refine(OB.out _).mono ?_;rintro _ w4 ⟨v4,rfl,i4,k4⟩;have i2'':=i2'.below k4;have D4:=ae D3 k4;go_wp2_with fail
 refine Ru.hd hK (HS'.out _ D4) (fun hHeld=> ?_);clear hK K;refine Ru.rd 6 (fun K hK=> ?_);go_simp;refine(AD.out _ _ _ i2'' i4).mono ?_;rintro _ w5 ⟨v5,rfl,i5,k5⟩;have D5:=ae D4 k5;go_wp2_with fail
 refine Ru.hd hK (HS'.out _ D5) (fun hHeld=> ?_);clear hK K;refine Ru.rd 7 (fun K hK=> ?_);go_simp;refine(BD.out _ _ i5).mono ?_;rintro _ w7 ⟨rfl,k7⟩;have D7:=ae D5 k7;go_wp2_with fail
 refine Ru.hd hK (HS'.out _ D7) (fun hHeld=> ?_);clear hK K;refine Ru.tk1 8 (.tuple #[.int .i64 S, .bool o2]) hHeld ?_;refine Ru.tk1 9 (.int .i64 S) hHeld ?_;refine Ru.tk1 10 (.bool o2) hHeld ?_;refine Ru.tk1 11 (.int .i64 S) hHeld ?_;refine Ru.tk1 12 (.bool o2) hHeld ?_;refine Ru.bI (by kernel_rfl) ?_;have B7:=ae B1 D7;go_wp2_with fail
 refine(DT.out _).mono ?_;rintro e w8 ⟨rfl,k8⟩;have B8:=ae B7 k8;cases o1<;>cases o2
 all_goals go_wp2
 all_goals go_ret2
 all_goals exact⟨by rw [HO.out];first|rfl|simp,B8⟩
end
section
open Go.RowKit Vc Mt Cn Mx
namespace Im
structure qw(n q:Nat)(K V N:Nat->Int)(L:Nat->Nat)(R:Nat->Nat->Int)(fl:Int):Prop where
 one:1<=n
 four:n<=4
 rows:q=n
 lo:0<=fl
 hi:fl<=67108864
 each: ∀ i,i<n->Mo.CV (K i) (V i) (N i)/\L i=n/\Ch n (R i) 0
theorem qw.mx{n q:Nat}{K V N:Nat->Int}{L:Nat->Nat}{R:Nat->Nat->Int}{fl:Int}(h:qw n q K V N L R fl){ch:Nat->Int}(hc:Ch n ch 0):I9 n ch q L R:=
 ⟨hc,h.rows,fun i hi=>(h.each i hi).2⟩
section
variable (K V N:Nat->Int) (d:Int) (n:Nat) (ch:Nat->Int) (R:Nat->Nat->Int) (X:Nat->Nat->Int) (P:Nat->Nat->Nat->Int)
def aX(k:Nat):Nat->Int:=Pr.nX (Mo.pU (K k) (V k) d) (jX n (shr n ch R k) X)
def aP(k:Nat):Nat->Nat->Int:=Pr.nP (Mo.pU (K k) (V k) d) (jP n (shr n ch R k) X P) (Mo.tw (Mo.nz (K k) d (N k)))
def aG(k:Nat):Bool:=Pr.oP (Mo.pU (K k) (V k) d) (jX n (shr n ch R k) X) (jP n (shr n ch R k) X P) (Mo.tw (Mo.nz (K k) d (N k)))
def aO:Bool:=Mx.aO n ch R X P||dN (aG K V N d n ch R X P) n
end
section
variable (n:Nat) (ch:Nat->Int) (fl:Int) (X:Nat->Nat->Int) (P:Nat->Nat->Nat->Int) (x y a b c:Int)
def sF(k:Nat):Prop:= ∀ i,i<2->Ld.fine (Ud.oM (P k) a b c) i
def sX(k:Nat):Nat->Int:=Ud.xN (X k) (P k) x y a b c
def sP(k:Nat):Nat->Nat->Int:=Ud.zN (P k) a b c
def sL(k:Nat):Int:=Lk.ofN (Ud.fL (P k) a b c) (Ud.fD (P k) a b c) (Ud.v2 (Ud.ox (X k) x) (Ud.oy (X k) y))
def sG(k:Nat):Bool:=Ud.og (X k) (P k) x y a b c||Lk.ofO (Ud.fL (P k) a b c) (Ud.fD (P k) a b c) (Ud.v2 (Ud.ox (X k) x) (Ud.oy (X k) y))||Ud.nO (X k) (P k) x y a b c
def sO:Bool:=dN (sG X P x y a b c) n||Lk.wo (sL X P x y a b c) ch n n
def sC:Nat->Int:=oc fl (Lk.wz (sL X P x y a b c) ch n) n
end
theorem sL_in(X:Nat->Nat->Int)(P:Nat->Nat->Nat->Int)(x y a b c:Int)(k:Nat): -4611686018427387903<=sL X P x y a b c k/\sL X P x y a b c k<=4611686018427387903:=by
 unfold sL Lk.ofN;exact GZ _
theorem sL_b(X:Nat->Nat->Int)(P:Nat->Nat->Nat->Int)(x y a b c:Int):B64 (sL X P x y a b c):=fun k=>by have:=sL_in X P x y a b c k;omega
theorem X8{n:Nat}{ch:Nat->Int}{fl:Int}(hc:Ch n ch 0)(h0:0<=fl)(h1:fl<=67108864)(X:Nat->Nat->Int)(P:Nat->Nat->Nat->Int)(x y a b c:Int):Lk.Qh n (sL X P x y a b c) ch fl:=
 ⟨hc,h0,h1,fun k _=>sL_in X P x y a b c k⟩
end Im
end
section
open Go.RowKit Vc Mt St Qn Dt Dec Ld
namespace Ld
theorem TZ(g:Nat->Bool)(n:Nat):dN (fun s=>g (n- 1- s)) n=dN g n:=by
 cases e:dN g n with
 |false=>exact jT.2 fun k hk=>jT.1 e _ om1
 |true=>
  cases e2:dN (fun s=>g (n- 1- s)) n with
  |true=>rfl
  |false=>
   have:dN g n=false:=jT.2 fun k hk=>by
    have:=jT.1 e2 (n- 1- k) om1;rwa [show n- 1- (n- 1- k)=k by omega] at this
   rw [this] at e;cases e
end Ld
theorem OM(n cl cd vc:Nat)(lo do' vo:Option Addr)(L:Nat->Nat->Int)(d v:Nat->Int)(w:World)(h1:1<=n)(hn:n<=6)(hL:Grid w lo n cl n L)(hd:Sl w do' n cd d)(hv:Sl w vo n vc v)(bL: ∀ a,B64 (L a))(bd: ∀ k,k<n->1<=d k/\d k<=4611686018427387903)(bv:B64 v):
 Calls Tryz.prog 128 #[.agg #[.slice lo n cl, .slice do' n cd], .slice vo n vc] w fun e w'=> ∃ b,e= .returned (.tuple #[.slice (some ⟨b,0,none⟩) n n, .bool (UL n L d v)])/\w.heap.size<=b/\Sl w' (some ⟨b,0,none⟩) n n (VT n L d v)/\Below w.heap.size w w':=by
 have HDn:=Hid.mkV (fun W (H1:Grid W lo n cl n L) (H2:Sl W do' n cd d) (H3:Sl W vo n vc v)=>IA n cl cd vc lo do' vo L d v W h1 hn H1 H2 H3 bL bd bv);have HL:=Hid.mkV hL;have HDs:=Hid.mkV hd;have HVs:=Hid.mkV hv;obtain⟨A,C,hs,hg⟩:=hL;obtain⟨xl,hlo,hlc⟩:=hs.get;obtain⟨xd,hdo,hdc⟩:=hd.get;obtain rfl:=hlo om1;obtain rfl:=hdo om1;have l1:=hs.le;have l2:=hs.cap;have l3:=hd.le;have l4:=hd.cap;have HLC:=Hid.mkV hlc;have HDC:=Hid.mkV hdc;have HGr:=Hid.mkV hg;have cG0:(w.alloc (.cells #[.slice (some xl) n cl, .slice (some xd) n cd] 124)).cell? ⟨w.heap.size,0,none⟩=some (.slice (some xl) n cl):=by go_simp
 have cG1:(w.alloc (.cells #[.slice (some xl) n cl, .slice (some xd) n cd] 124)).cell? ⟨w.heap.size,1,none⟩=some (.slice (some xd) n cd):=by go_simp
 have rG:qj (w.alloc (.cells #[.slice (some xl) n cl, .slice (some xd) n cd] 124)) w.heap.size (.slice (some xl) n cl) (.slice (some xd) n cd):=aH w _ _;have hB:=af (Below.refl _ w) (.cells #[.slice (some xl) n cl, .slice (some xd) n cd] 124);obtain⟨W,hW⟩: ∃ W,W=w.alloc (.cells #[.slice (some xl) n cl, .slice (some xd) n cd] 124):=⟨_,rfl⟩;rw [← hW] at cG0 cG1 hB rG;have HW:=Hid.mkV hW;clear hW;have by':=pM L v n;have l9:=hv.le;have l10:=hv.cap;obtain⟨y,hy⟩: ∃ y,y=dQ L v n:=⟨_,rfl⟩;have eV:Hid (VT n L d v=upV L (byV y d) n n):=by rw [hy];rfl
 have eO:Hid (UL n L d v=(iT L v n||(dN (fun s=>byO y d (n- 1- s)) n||upO L (byV y d) n n))):=by
  show UL n L d v=_;rw [TZ,hy];rfl
 rw [← hy] at HDn by';have HQ:=Hid.mkV (fun k (hk:k<n) W=>y8 (y k) (d k) 20 W (by have:=by' k;omega) (by have:=by' k;omega) (by have:=bd k hk;omega) (by have:=bd k hk;omega) (by have:=bd k hk;omega) om1);have eQ:Hid (∀ k,signed (y k) (d k) (clamp (rne (((y k).natAbs:Int)*2^20) ((d k).natAbs:Int)))=byV y d k/\great (rne (((y k).natAbs:Int)*2^20) ((d k).natAbs:Int))=byO y d k):=fun k=>⟨rfl,rfl⟩;have bz: ∀ t,B64 (upV L (byV y d) n t):=fun t=>lS (Hq L (yB _ _) n t);have HS:=Hid.mkV (fun t (ht:t<n) i (ao bo:Option Addr) (ca cb:Nat) W (H1:Sl W ao t ca (fun j=>L (i+1+j) i)) (H2:Sl W bo t cb (fun j=>upV L (byV y d) n t (i+1+j)))=>xX ao bo t ca cb _ _ 30 30 W rfl om1 H1 H2 (fun k=>bL _ _) (fun k=>bz t _) om1);have HM:=Hid.mkV (fun t i W=>wU (byV y d i) (wL (fun j=>L (i+1+j) i) (fun j=>upV L (byV y d) n t (i+1+j)) t) W (by have:=yB y d i;omega) (by have:=yB y d i;omega) (by have:=uP (fun j=>L (i+1+j) i) (fun j=>upV L (byV y d) n t (i+1+j)) t;omega) (by have:=uP (fun j=>L (i+1+j) i) (fun j=>upV L (byV y d) n t (i+1+j)) t;omega))
 have eS:Hid (∀ t i,clamp (rne (dk (fun j=>L (i+1+j) i) (fun j=>upV L (byV y d) n t (i+1+j)) t) (2^30))=wL (fun j=>L (i+1+j) i) (fun j=>upV L (byV y d) n t (i+1+j)) t/\great (rne (dk (fun j=>L (i+1+j) i) (fun j=>upV L (byV y d) n t (i+1+j)) t) (2^30))=IV (fun j=>L (i+1+j) i) (fun j=>upV L (byV y d) n t (i+1+j)) t/\
  clamp (byV y d i- wL (fun j=>L (i+1+j) i) (fun j=>upV L (byV y d) n t (i+1+j)) t)=gY (byV y d i) (fun j=>L (i+1+j) i) (fun j=>upV L (byV y d) n t (i+1+j)) t):=fun t i=>⟨rfl,rfl,rfl⟩
 obtain⟨X,hX⟩: ∃ X,X=VT n L d v:=⟨_,rfl⟩;obtain⟨O,hO⟩: ∃ O,O=UL n L d v:=⟨_,rfl⟩;rw [← hX] at eV ⊢;rw [← hO] at eO ⊢;obtain⟨i0,hi,hz0,hz1,hz2⟩:=info_parts iY;clear hs hg hd hlo hdo hlc hdc hv bL bd bv hy by' bz hX hO;go_enter Tryz.func128,Tryz.ntmps128
 go_wp2_with (first
  |(rw [← HW.out];refine St.aI isG rl1 _ rl1 _ _ rl1 (by with_reducible exact rG) rfl ?_)
  |fail)
 refine(HDn.out _ (HL.out.keep hB) (HDs.out.keep hB) (HVs.out.keep hB)).mono ?_;rintro e w1 ⟨yo,yc,rfl,ys,k1⟩;have B1:=ae hB k1;have G0:=ah k1 cG0;have G1:=ah k1 cG1;obtain⟨xy,hyo,hyc⟩:=ys.get;obtain rfl:=hyo om1;have l5:=ys.le;have l6:=ys.cap;have HYC:=Hid.mkV hyc;obtain⟨g,hg⟩: ∃ g,g=w.heap.size:=⟨_,rfl⟩;rw [← hg] at G0 G1;rw [← hg];clear HDn HL HDs HVs rG cG0 cG1 hyo hyc ys k1 hg;go_wp2_with (at_make;refine wpList_make_full _ rfl _ _ 27 rfl w1.heap.size 2 i0 (.int .i64 0) 1 Tryz.underlying27 hi hz0 hz1 _ _ _ _ n rfl rfl om1 om1 (by rw [hz2];omega) (by unfold maxLen;omega) (Nat.le_refl _) ?_)
 intro w2 hown2 hgrow2;have hO2:=iR hown2 hgrow2 (Nat.le_refl _);have N2:jM w2 w1.heap.size n (fun _=>0):=qJ hO2;have k2:=hO2.below;obtain⟨b,hb⟩: ∃ b,b=w1.heap.size:=⟨_,rfl⟩;rw [← hb] at N2;have hbw:w1.heap.size<=b:=om1;have hbw2:w.heap.size<=b:=by have:=B1.size;omega
 rw [← hb];have wn:IntKind.i64.wrap ((n:Int)- 1)=(n:Int)- 1:=by rw [IntKind.wrap_i64];omega
 clear hown2 hgrow2 hO2 hb;go_wp2;go_loopw [7,10] (fun an ix wr=> ∃ t:Nat,∃ j:Int,t<=n/\ix= .int .i64 j/\Hid (j=(n:Int)- 1- (t:Int))/\an= .bool (iT L v n||(dN (fun s=>byO y d (n- 1- s)) t||upO L (byV y d) n t))/\(∃ Z,jM wr b n Z/\Hid (∀ k,n- t<=k->k<n->Z k=upV L (byV y d) n t k))/\Below w1.heap.size w1 wr) (fun _ ix _=>(intOf ix+1).toNat)
 case atStart=>exact⟨0,(n:Int)- 1,om1,by first|rfl|go_num,by show(n:Int)- 1=(n:Int)- 1- ((0:Nat):Int);omega,by show _=Value.bool (iT L v n||(false||false));simp,⟨_,N2,fun k h1 h2=>by omega⟩,k2⟩
 case round=>
  rename World=>wo;obtain⟨t,j,ht,rfl,hj,rfl,⟨Z,nr,hZ⟩,br⟩:=hrel;by_cases h:t<n
  · obtain⟨i,rfl⟩: ∃ i:Nat,j=(i:Int):=⟨j.toNat,by have:=hj.out;omega⟩;have hik:n=i+1+t:=by have:=hj.out;omega
    have hin:i<n:=om1;have c1:=ah br (HYC.out i hin);have c2:=ah br G1;have c3:=ah (ae B1 br) (HDC.out i hin);have C0:=ah br G0;have HQk:=HQ.out i hin;rw [(eQ.out i).1,(eQ.out i).2] at HQk;have HQh:=Hid.mkV HQk;have HSk:=HS.out t h i;rw [(eS.out t i).1,(eS.out t i).2.1] at HSk;have HMk:=HM.out t i;rw [(eS.out t i).2.2] at HMk;have HSh:=Hid.mkV HSk;have HMh:=Hid.mkV HMk;have e1:n- t=i+1:=om1;have e2:n- 1- t=i:=om1
    have e3:Hid (∀ q,upV L (byV y d) n (t+1) q=if q=i then gY (byV y d i) (fun j=>L (i+1+j) i) (fun j=>upV L (byV y d) n t (i+1+j)) t else upV L (byV y d) n t q):=fun q=>by
     show(if q=n- 1- t then gY (byV y d (n- 1- t)) (fun j=>L (n- t+j) (n- 1- t)) (fun j=>upV L (byV y d) n t (n- t+j)) t else upV L (byV y d) n t q)=_;rw [e1,e2]
    have e4:Hid ((iT L v n||(dN (fun s=>byO y d (n- 1- s)) (t+1)||upO L (byV y d) n (t+1)))=((iT L v n||(dN (fun s=>byO y d (n- 1- s)) t||upO L (byV y d) n t))||(byO y d i||(IV (fun j=>L (i+1+j) i) (fun j=>upV L (byV y d) n t (i+1+j)) t||great (byV y d i- wL (fun j=>L (i+1+j) i) (fun j=>upV L (byV y d) n t (i+1+j)) t))))):=by
     show(iT L v n||((dN (fun s=>byO y d (n- 1- s)) t||byO y d (n- 1- t))||(upO L (byV y d) n t||kM (byV y d (n- 1- t)) (fun j=>L (n- t+j) (n- 1- t)) (fun j=>upV L (byV y d) n t (n- t+j)) t)))=_;rw [e1,e2];unfold kM;generalize iT L v n=a1;generalize dN (fun s=>byO y d (n- 1- s)) t=a2;generalize byO y d i=a3;generalize upO L (byV y d) n t=a4;cases a1<;>cases a2<;>cases a3<;>cases a4<;>simp
    have HZ2:Hid (∀ q,i+1<=q->q<n->Z q=upV L (byV y d) n t q):=fun q h1 h2=>hZ.out q om1 h2;obtain⟨U,hU⟩: ∃ U,U=upV L (byV y d) n t:=⟨_,rfl⟩;obtain⟨zl,hzl⟩: ∃ z:Nat->Int,z=fun j=>L (i+1+j) i:=⟨_,rfl⟩;obtain⟨zr,hzr⟩: ∃ z:Nat->Int,z=fun j=>upV L (byV y d) n t (i+1+j):=⟨_,rfl⟩;rw [← hzl,← hzr] at HSh HMh e3 e4;obtain⟨SV,hSV⟩: ∃ q,q=wL zl zr t:=⟨_,rfl⟩;obtain⟨SO,hSO⟩: ∃ q,q=IV zl zr t:=⟨_,rfl⟩;rw [← hSV] at HSh HMh e4;rw [← hSO] at HSh e4;obtain⟨LV,hLV⟩: ∃ q,q=gY (byV y d i) zl zr t:=⟨_,rfl⟩;rw [← hLV] at HMh e3;obtain⟨GO,hGO⟩: ∃ q,q=great (byV y d i- SV):=⟨_,rfl⟩;rw [← hGO] at HMh e4;obtain⟨D,hD⟩: ∃ q,q=byV y d i:=⟨_,rfl⟩;obtain⟨o,ho⟩: ∃ q,q=byO y d i:=⟨_,rfl⟩;rw [← hD] at HQh HMh;rw [← ho] at HQh e4;obtain⟨T,hT⟩: ∃ T,T=(iT L v n||(dN (fun s=>byO y d (n- 1- s)) t||upO L (byV y d) n t)):=⟨_,rfl⟩;rw [← hT] at e4 ⊢;obtain⟨yi,hyi⟩: ∃ q,q=y i:=⟨_,rfl⟩;obtain⟨di,hdi⟩: ∃ q,q=d i:=⟨_,rfl⟩;rw [← hyi] at HQh c1;rw [← hdi] at HQh c3;have HZL:=Hid.mkV hzl;have HZR:=Hid.mkV hzr;have Hik:=Hid.mkV hik;have hit:i+1+t=n:=om1;have HIT:=Hid.mkV hit;have ii0:(0:Int)<=(i:Int):=om1;have ii1:(i:Int)<(n:Int):=om1;have w1':IntKind.i64.wrap ((i:Int)+1)=(i:Int)+1:=by rw [IntKind.wrap_i64];omega
    have w2':IntKind.i64.wrap ((i:Int)- 1)=(i:Int)- 1:=by rw [IntKind.wrap_i64];omega
    clear hU hzl hzr hSV hSO hLV hGO hD ho hT hyi hdi HQk HSk HMk hik hit e1 e2 hZ HQ eQ HS HM eS;go_wp2;go_quiet (first|(go_at_call 194;refine Calls.quiet_of_same (HQh.out _)))
    have nra:jM (wo.drewN nq) b n Z:=nr;have bra:=Vc.below_drewN br nq;have C0a:(wo.drewN nq).cell? ⟨g,0,none⟩=some (.slice (some xl) n cl):=C0;obtain⟨wa,hwa⟩: ∃ W,W=wo.drewN nq:=⟨_,rfl⟩;rw [← hwa] at nra bra C0a ⊢;clear hwa nr br C0 c1 c2 c3;go_wp2;go_loopw [13,14,15] (fun vx vy jx ws=> ∃ c:Nat,c<=t/\jx= .int .i64 ((i:Int)+1+(c:Int))/\Two wa.heap.size wa ws vx c zl vy c zr) (fun _ _ jx _=>n- (intOf jx).toNat)
    case atStart=>exact⟨0,om1,by simp,⟨Own.nil (Below.refl _ _) (Nat.le_refl _) _,Own.nil (Below.refl _ _) (Nat.le_refl _) _,fun g h=>by cases h⟩⟩
    case round=>
     rename World=>wq;obtain⟨c,hc,rfl,hT⟩:=hrel;have hit:=HIT.out;by_cases h3:c<t
     · have C1:=ah (ae B1 bra) (HLC.out (i+1+c) om1);have rk:=(HGr.out (i+1+c) om1).keep (ae B1 bra);obtain⟨xa,hao,hac⟩:=rk.get;have l7:=rk.le;have l8:=rk.cap;have C2:=hac i hin;rw [hao om1] at C1;have C3:=jM.at nra (k:=i+1+c) om1;rw [HZ2.out (i+1+c) om1 om1] at C3;have eX:Hid (L (i+1+c) i=zl c):=by show L (i+1+c) i=zl c;rw [HZL.out]
       have eY:Hid (upV L (byV y d) n t (i+1+c)=zr c):=by show upV L (byV y d) n t (i+1+c)=zr c;rw [HZR.out]
       obtain⟨X1,hX1⟩: ∃ q,q=L (i+1+c) i:=⟨_,rfl⟩;obtain⟨Y1,hY1⟩: ∃ q,q=upV L (byV y d) n t (i+1+c):=⟨_,rfl⟩;obtain⟨Cj,hCj⟩: ∃ q,q=C (i+1+c):=⟨_,rfl⟩;rw [← hX1] at C2 eX;rw [← hY1] at C3 eY;rw [← hCj] at C1 l7 l8;have d0:=ah hT.x.below C0a;have d1:=ah hT.x.below C1;have d2:=ah hT.x.below C2;have d3:=ah hT.x.below C3;have j0:(0:Int)<=(i:Int)+1+(c:Int):=om1;have j1:(i:Int)+1+(c:Int)<(n:Int):=om1;have j2:((i:Int)+1+(c:Int)).toNat=i+1+c:=om1;have j3:decide ((i:Int)+1+(c:Int)<(n:Int))=true:=decide_eq_true om1;have w3':IntKind.i64.wrap ((i:Int)+1+(c:Int)+1)=(i:Int)+1+(c:Int)+1:=by rw [IntKind.wrap_i64];omega
       clear hX1 hY1 hCj rk hao hac HQh HSh HMh hit;go_wp2
       go_region_held3 (fun w'=>w'.cell? ⟨g,0,none⟩=some (.slice (some xl) n cl)/\w'.cell? (xl.add (i+1+c))=some (.slice (some xa) n Cj)/\w'.cell? (xa.add i)=some (.int .i64 X1)/\w'.cell? ⟨b,i+1+c,none⟩=some (.int .i64 Y1)) (first
        |with_reducible exact⟨d0,d1,d2,d3⟩
        |with_reducible exact⟨ah t2.x.below C0a,ah t2.x.below C1,ah t2.x.below C2,ah t2.x.below C3⟩
        |with_reducible exact⟨ah t1.x.below C0a,ah t1.x.below C1,ah t1.x.below C2,ah t1.x.below C3⟩
        |with_reducible exact⟨ah (t1.alloc _).x.below C0a,ah (t1.alloc _).x.below C1,ah (t1.alloc _).x.below C2,ah (t1.alloc _).x.below C3⟩
        |with_reducible exact⟨ah hT.drew.x.below C0a,ah hT.drew.x.below C1,ah hT.drew.x.below C2,ah hT.drew.x.below C3⟩
        |with_reducible exact⟨ah (hT.alloc _).x.below C0a,ah (hT.alloc _).x.below C1,ah (hT.alloc _).x.below C2,ah (hT.alloc _).x.below C3⟩
        |with_reducible exact⟨ah (hT.alloc _).drew.x.below C0a,ah (hT.alloc _).drew.x.below C1,ah (hT.alloc _).drew.x.below C2,ah (hT.alloc _).drew.x.below C3⟩
        |with_reducible exact⟨ah ((hT.alloc _).drew.alloc _).x.below C0a,ah ((hT.alloc _).drew.alloc _).x.below C1,ah ((hT.alloc _).drew.alloc _).x.below C2,ah ((hT.alloc _).drew.alloc _).x.below C3⟩
        |with_reducible exact⟨ah ((hT.alloc _).alloc _).x.below C0a,ah ((hT.alloc _).alloc _).x.below C1,ah ((hT.alloc _).alloc _).x.below C2,ah ((hT.alloc _).alloc _).x.below C3⟩
        |with_reducible exact⟨ah ((hT.alloc _).alloc _).drew.x.below C0a,ah ((hT.alloc _).alloc _).drew.x.below C1,ah ((hT.alloc _).alloc _).drew.x.below C2,ah ((hT.alloc _).alloc _).drew.x.below C3⟩
        |go_keep)
        (first
          |(refine qi rl1 (.tmp 56) (.tmp 65) rl1 (B:=wa.heap.size) (w0:=wa) (vx:=u13) (vy:=u14) (nx:=c) (ny:=c) (zx:=zl) (zy:=zr) (by repeat(first|with_reducible exact hT|with_reducible exact t1|with_reducible exact t2|with_reducible refine Two.alloc ?_ _|with_reducible refine Two.drew ?_)) rl1 om1 (y:=X1) rl1 (by repeat(first|(with_reducible refine jY (B:=wa.heap.size) (w0:=wa) (vx:=u13) (nx:=c) (ny:=c) (zx:=zl) (zy:=zr) ?_ _ (by simp))|(with_reducible refine jY (B:=wa.heap.size) (w0:=wa) (vx:=v1) (nx:=c+1) (ny:=c) (zx:=zl) (zy:=zr) ?_ _ (by simp))|with_reducible exact hT|with_reducible exact t1|with_reducible refine Two.alloc ?_ _|with_reducible refine Two.drew ?_|with_reducible refine mr.alloc ?_ _|with_reducible refine mr.drew ?_|with_reducible refine p1 _ _ ?_)) (by exact eX.out) ?_;intro v1 w1 t1 p1)
          |(refine uA rl1 (.tmp 67) (.tmp 72) rl1 (B:=wa.heap.size) (w0:=wa) (vx:=v1) (vy:=u14) (nx:=c+1) (ny:=c) (zx:=zl) (zy:=zr) (by repeat(first|with_reducible exact hT|with_reducible exact t1|with_reducible exact t2|with_reducible refine Two.alloc ?_ _|with_reducible refine Two.drew ?_)) rl1 om1 (y:=Y1) rl1 (by repeat(first|(with_reducible refine jY (B:=wa.heap.size) (w0:=wa) (vx:=u13) (nx:=c) (ny:=c) (zx:=zl) (zy:=zr) ?_ _ (by simp))|(with_reducible refine jY (B:=wa.heap.size) (w0:=wa) (vx:=v1) (nx:=c+1) (ny:=c) (zx:=zl) (zy:=zr) ?_ _ (by simp))|with_reducible exact hT|with_reducible exact t1|with_reducible refine Two.alloc ?_ _|with_reducible refine Two.drew ?_|with_reducible refine mr.alloc ?_ _|with_reducible refine mr.drew ?_|with_reducible refine p1 _ _ ?_)) (by exact eY.out) ?_;intro v2 w2 t2 p2))
       all_goals go_wp2
       all_goals go_roundw
       all_goals first
        |(simp [intOf];omega)
        |exact⟨c+1,om1,by go_num,t2⟩
        |trace_state
     · obtain rfl:c=t:=om1;have j3:decide ((i:Int)+1+(c:Int)<(n:Int))=false:=decide_eq_false om1;obtain⟨ax,cx,rfl,sx⟩:=hT.x.sl;obtain⟨ay,cy,rfl,sy⟩:=hT.y.sl;have hb:=hT.x.below;have HSq:=Hid.mkV (HSh.out ax ay cx cy _ sx sy);have nrq:=ai.keep nra hb;have brq:=ae bra hb;clear hT sx sy HSh hit HQh nra bra hb C0a;go_wp2_with fail
       refine HSq.out.mono ?_;rintro e w5 ⟨rfl,k5⟩;go_wp2_with fail
       refine(HMh.out _).mono ?_;rintro e w6 ⟨rfl,k6⟩;have n6:=ai.keep (ai.keep nrq k5) k6;have b6:=ae (ae brq k5) k6;have f6:=ai.free n6 i;have c6:=jM.at n6 hin;clear nrq brq k5 k6 HSq HMh;cases T<;>cases o<;>cases SO<;>(go_wp2;go_roundw)
       all_goals first
        |(show((i:Int)- 1+1).toNat<((i:Int)+1).toNat;omega)
        |(refine⟨c+1,(i:Int)- 1,om1,by first|rfl|go_num,by have:=Hik.out;show(i:Int)- 1=(n:Int)- 1- ((c+1:Nat):Int);omega,by rw [e4.out];rfl,⟨_,jM.set n6 i LV,fun q h7 h8=> ?_⟩,b6.setCell hbw _⟩
          have:=HIT.out;rw [e3.out];show(if q=i then LV else Z q)=_;by_cases e:q=i
          · rw [if_pos e,if_pos e]
          · rw [if_neg e,if_neg e];exact HZ2.out q om1 h8)
  · obtain rfl:t=n:=om1;obtain rfl:j= -1:=by have:=hj.out;omega
    rw [← eO.out];go_wp2;go_ret2;refine⟨b,rfl,hbw2,(jM.all nr (Nat.le_refl _) om1).congr (fun k hk=> ?_),ae B1 br⟩;rw [eV.out];exact hZ.out k om1 hk
end
section
open Go.RowKit Vc St Mt Dt Pr Ud
attribute [local go_sem ↓] Go.wp_at_zero Go.wp_at_succ
namespace Ud
theorem aaz{B g:Nat}{w0 w w':World}{L cm n m:Nat}{G C:Nat->Nat}{F:Nat->Nat->Int}(h:ni B w0 w L cm G C n m F)(hg:g<B)(k:Ld.But (· =g) w w'):Grid w' (some ⟨L,0,none⟩) n cm m F:=by
 obtain⟨cur,h1,h2⟩:=h.list;have e:ni B w' w' L cm G C n m F:=⟨⟨cur,(k.block _ (uK h1) (by have:=h.ownL;omega)).trans h1,h2⟩,fun j hj=>(h.row j hj).of (k.block _ (h.row j hj).lt (by have:=h.own j hj;omega)),h.room,h.far,h.off,h.own,h.ownL,Below.refl _ _,Nat.le_trans h.base k.size,h.cap,h.cap2⟩;exact e.grid
theorem MW{B g:Nat}{w w':World}{R:World->Prop}(h:El.Free B w R)(hg:g<B)(k:Ld.But (· =g) w w'):El.Free B w' R:=fun W r=>h W fun b hb hn=>(r b (Nat.lt_of_lt_of_le hb k.size) hn).trans (k.block b hb om1)
theorem aaA{w:World}{g:Nat}{u v z:Value}(h:ai w g 126 [u,v,z]):w.rangeAt g 1 [v,z]:=ai.mid h fun j x hx=>by
 match j,hx with
 |0,h=>exact h
 |1,h=>exact h
 |_+2,h=>simp at h
end Ud
theorem IG{p:Prop}(h:p:=by
 repeat(first
  |((with_reducible show wpList _ _ _ _ _ _);refine Ud.iG X6 _ (by with_reducible rfl) _ _ rl1 (by with_reducible exact n6) rfl (by kernel_rfl) ?_)
  |((with_reducible show wpList _ _ _ _ _ _);refine Ud.Eb X6 _ _ (by with_reducible rfl) _ _ [.slice yo 6 yc, .slice (some ⟨L,0,none⟩) 6 cm] rl1 rl1 (by with_reducible exact r6) rfl rfl (by intro v hv;simp only [List.mem_cons,List.not_mem_nil,or_false] at hv;rcases hv with rfl|rfl<;>rfl) rfl ?_)
  |go_step)
 exact bodyPost_ret (dJ X6 Tryz.results61 _ _ (w.heap.size+1+1) _ rfl rE rfl) rfl ⟨_,_,_,_,by rw [HNO.out];rfl,sF,gF,BE,FF.out⟩):p:=h
theorem J3(xo po:Option Addr)(xc pc:Nat)(X:Nat->Int)(P:Nat->Nat->Int)(x y a b c:Int)(w:World)(hX:Sl w xo 6 xc X)(hP:Grid w po 6 pc 6 P)(hm:oK X P)(hp:lT x y a b c)(hf: ∀ i,i<2->Ld.fine (oM P a b c) i)(bX:B64 X)(bP:B2 P):
 Calls Tryz.prog 61 #[.agg #[.slice xo 6 xc, .slice po 6 pc], .agg (pv x y a b c).toArray] w fun e w'=> ∃ yo yc ro rc,e= .returned (.tuple #[.agg #[.slice yo 6 yc, .slice ro 6 rc], .bool (nO X P x y a b c), .int .i64 0])/\Sl w' yo 6 yc (xN X P x y a b c)/\Grid w' ro 6 rc 6 (zN P a b c)/\Below w.heap.size w w'/\El.Free w.heap.size w' (fun W=>Sl W yo 6 yc (xN X P x y a b c)/\Grid W ro 6 rc 6 (zN P a b c)):=by
 have t0:=((aH w 60 [.slice xo 6 xc, .slice po 6 pc]).alloc (.cells (pv x y a b c).toArray 67)).alloc (.cells [.slice none 0 0, .slice none 0 0].toArray 60);have m0:=(bU w (.cells [.slice xo 6 xc, .slice po 6 pc].toArray 60) 67 (pv x y a b c)).alloc (.cells [.slice none 0 0, .slice none 0 0].toArray 60);have r0:=dH w (.cells [.slice xo 6 xc, .slice po 6 pc].toArray 60) (.cells (pv x y a b c).toArray 67) 60 [.slice none 0 0, .slice none 0 0];have B0:Below w.heap.size w (((w.alloc (.cells [.slice xo 6 xc, .slice po 6 pc].toArray 60)).alloc (.cells (pv x y a b c).toArray 67)).alloc (.cells [.slice none 0 0, .slice none 0 0].toArray 60)):=af (af (af (Below.refl _ _) _) _) _;obtain⟨W,hW⟩: ∃ W,W=((w.alloc (.cells [.slice xo 6 xc, .slice po 6 pc].toArray 60)).alloc (.cells (pv x y a b c).toArray 67)).alloc (.cells [.slice none 0 0, .slice none 0 0].toArray 60):=⟨_,rfl⟩;rw [← hW] at t0 m0 r0 B0;have HW:=hide hW;have X0:=hX.keep B0;have P0:=hP.keep B0;have HO:=hide (IC xo po xc pc X P x y a b c W X0 P0 hm hp);have HSo:=hide (fun i lo cl do' cd g V (h1:Grid V lo 2 cl 2 (fL P a b c)) (h2:Sl V do' 2 cd (fD P a b c)) (h3:Sl V (some ⟨g,0,none⟩) 2 2 (v2 (P i 0) (P i 3)))=>OM 2 cl cd 2 lo do' (some ⟨g,0,none⟩) (fL P a b c) (fD P a b c) (v2 (P i 0) (P i 3)) V om1 om1 h1 h2 h3 (fL_b P a b c) (fD_b hf) (v2_b (bP i 0) (bP i 3)));have HK:Hid (∀ i,Ld.VT 2 (fL P a b c) (fD P a b c) (v2 (P i 0) (P i 3))=kr P a b c i/\Ld.UL 2 (fL P a b c) (fD P a b c) (v2 (P i 0) (P i 3))=ko P a b c i):=fun i=>⟨rfl,rfl⟩;have HKb:=hide (kr_b P a b c);have HFi:=hide hf;have HP0:=hide P0;obtain⟨A,C,sP,rP⟩:=P0;obtain⟨pa,hpa,hpc⟩:=sP.get;obtain rfl:=hpa om1;obtain⟨xa,hxa,hxc⟩:=X0.get;obtain rfl:=hxa om1;have l1:=X0.le;have l2:=X0.cap;have l3:=sP.le;have l4:=sP.cap;have HPC:=hide hpc;have HRP:=hide rP;have HXC:=hide hxc;have HX0:=hide X0;have t0':=hide t0;have m0':=hide m0;have r0':=hide r0;clear hW hX hP hpa hxa hpc hxc X0 sP rP hf;go_enter Tryz.func61,Tryz.ntmps61
 go_wp2_with (first
  |(erw [← HW.out];refine St.aI X6 rl1 _ rl1 _ _ rl1 (by with_reducible exact t0) rfl ?_)
  |(refine St.aI qm rl1 _ rl1 _ _ rl1 (by with_reducible exact m0) rfl ?_)
  |fail)
 refine HO.out.mono ?_;rintro e w1 ⟨hc,k1⟩;rcases hc with⟨hn,_⟩|⟨_,gv,lo,cl,do',cd,rfl,sV,gL,sD⟩
 ·exact absurd HFi.out hn
 have HV1:=hide sV;have HL1:=hide gL;have HD1:=hide sD;clear sV gL sD HO HW t0 m0
 go_wp2_with (first
  |(refine St.aF xe rfl _ _ rl1 _ [.slice none 0 0, .slice none 0 0, .slice none 0 0] [.slice (some ⟨gv,0,none⟩) 2 2, .slice lo 2 cl, .slice do' 2 cd] rl1 rl1 rfl rfl (by intro v hv;simp only [List.mem_cons,List.not_mem_nil,or_false] at hv;rcases hv with rfl|rfl|rfl<;>rfl) ?_;intro w2 n2 k2;have K2:=ae k1 k2)
  |fail)
 have l5:=ai.lt n2;obtain⟨g7,hg7⟩: ∃ g,g=w1.heap.size:=⟨_,rfl⟩;rw [← hg7] at n2 l5 ⊢;obtain⟨q0,hq0⟩: ∃ q,q=og X P x y a b c:=⟨_,rfl⟩;have HQ0:Hid (og X P x y a b c=q0):=hq0.symm;rw [← hq0];have HN2:=hide n2;have HK2:=hide K2;have HVL:Hid (∀ V,Below w2.heap.size w2 V->Sl V (some ⟨gv,0,none⟩) 2 2 (v2 (ox X x) (oy X y))/\Grid V lo 2 cl 2 (fL P a b c)/\Sl V do' 2 cd (fD P a b c)):=fun V k=>⟨HV1.out.keep (ae k2 k),HL1.out.keep (ae k2 k),HD1.out.keep (ae k2 k)⟩;clear n2 K2 k1 k2 hg7 hq0 HV1 HL1 HD1;go_loopw [8,10,11,12] (fun q vk vb i wr=> ∃ k:Nat,k<=6/\i= .int .i64 (k:Int)/\q= .bool (nA q0 P a b c k)/\Ls.Tws w2.heap.size wr vk vb k k 2 6 (kr P a b c) (br P a b c)/\Below w2.heap.size w2 wr) (fun _ _ _ i _=>6- (intOf i).toNat)
 case atStart=>exact⟨0,om1,rfl,rfl,Ls.Tws.nil (Nat.le_refl _) _ _ _ _,Below.refl _ _⟩
 case round=>
  rename World=>wr;obtain⟨k,hk,rfl,rfl,zr,Kr⟩:=hrel;by_cases h:k<6
  ·have KW:=ae HK2.out Kr;have c1:wr.cell? ⟨w.heap.size,1,none⟩=some (.slice (some pa) 6 pc):=ai.cell (ai.keep t0'.out KW) (k:=1) rfl rfl;have cr:=ah KW (HPC.out k h);have sr:=(HRP.out k h).keep KW;obtain⟨ra,hra,hrc⟩:=sr.get;rw [hra om1] at cr;have e0:=hrc 0 om1;have e3:=hrc 3 om1;rw [Ud.addr0] at e0;have l6:=sr.le;have l7:=sr.cap;obtain⟨rc,hrc'⟩: ∃ q,q=C k:=⟨_,rfl⟩;rw [← hrc'] at cr l6 l7;have HSk:=hide (HSo.out k);rw [(HK.out k).1,(HK.out k).2] at HSk;obtain⟨p0,hp0⟩: ∃ z,z=P k 0:=⟨_,rfl⟩;obtain⟨p3,hp3⟩: ∃ z,z=P k 3:=⟨_,rfl⟩;rw [← hp0] at e0 HSk;rw [← hp3] at e3 HSk;have gr:=ai.keep HN2.out Kr;obtain⟨q1,hq1⟩: ∃ q,q=ko P a b c k:=⟨_,rfl⟩;rw [← hq1] at HSk;have HQ1:=hide hq1;have hS: ∀ V,Below wr.heap.size wr V->(V.cell? ⟨w.heap.size,1,none⟩=some (.slice (some pa) 6 pc)/\V.cell? (pa.add k)=some (.slice (some ra) 6 rc)/\V.cell? ra=some (.int .i64 p0)/\V.cell? (ra.add 3)=some (.int .i64 p3)/\ai V g7 126 [.slice (some ⟨gv,0,none⟩) 2 2, .slice lo 2 cl, .slice do' 2 cd]):=fun V k=>⟨ah k c1,ah k cr,ah k e0,ah k e3,ai.keep gr k⟩;have HS:=hide hS;have k6:(k:Int)<6:=om1;clear hS hra hrc hrc' hp0 hp3 c1 cr e0 e3 gr sr hq1;go_upto_region 8 with fail
   refine Ru.aS [] (fun w'=>w'.cell? ⟨w.heap.size,1,none⟩=some (.slice (some pa) 6 pc)/\w'.cell? (pa.add k)=some (.slice (some ra) 6 rc)/\w'.cell? ra=some (.int .i64 p0)/\w'.cell? (ra.add 3)=some (.int .i64 p3)/\ai w' g7 126 [.slice (some ⟨gv,0,none⟩) 2 2, .slice lo 2 cl, .slice do' 2 cd]) (by kernel_rfl) (HS.out _ (Vc.az _)) (fun hHeld=> ?_);refine Ru.tk5 0 (.pointer (some ⟨g7,1,none⟩)) hHeld ?_;refine Ru.tk 1 (.agg #[.slice lo 2 cl, .slice do' 2 cd]) rfl (Ud.tY OL (by kernel_rfl) _ rl1 g7 1 [.slice lo 2 cl, .slice do' 2 cd] rl1 (fun w h=>aaA h.2.2.2.2) rfl) hHeld ?_;refine Ru.tk5 2 (.pointer (some ⟨w.heap.size,1,none⟩)) hHeld ?_;refine Ru.tk5 3 (.slice (some pa) 6 pc) hHeld ?_;refine Ru.tk5 4 (.int .i64 (k:Int)) hHeld ?_;refine Ru.tk5 5 (.pointer (some (pa.add k))) hHeld ?_;refine Ru.tk 6 (.slice (some ra) 6 rc) rfl (Ud.JF (by kernel_rfl) _ rl1 (pa.add k) _ rl1 (fun w h=>h.2.1)) hHeld ?_;refine Ru.tk5 7 (.pointer (some ra)) hHeld ?_;refine Ru.tk5 8 (.int .i64 p0) hHeld ?_;refine Ru.tk5 9 (.pointer (some ⟨w.heap.size,1,none⟩)) hHeld ?_;refine Ru.tk5 10 (.slice (some pa) 6 pc) hHeld ?_;refine Ru.tk5 11 (.int .i64 (k:Int)) hHeld ?_;refine Ru.tk5 12 (.pointer (some (pa.add k))) hHeld ?_;refine Ru.tk 13 (.slice (some ra) 6 rc) rfl (Ud.JF (by kernel_rfl) _ rl1 (pa.add k) _ rl1 (fun w h=>h.2.1)) hHeld ?_;refine Ru.tk5 14 (.pointer (some (ra.add 3))) hHeld ?_;refine Ru.tk 15 (.int .i64 p3) rfl (Ud.xU (by kernel_rfl) _ rl1 (ra.add 3) _ rl1 (fun w h=>h.2.2.2.1)) hHeld ?_;refine Ru.rd 16 (fun K hK=> ?_);go_simp;have x1:ai (wr.drew.alloc (.cells #[.int .i64 p0, .int .i64 p3] 2)) wr.heap.size 2 (vals 2 (v2 p0 p3)):=aH wr.drew 2 (vals 2 (v2 p0 p3));have D1:=ae (Vc.az wr) (af (Below.refl _ wr.drew) (.cells #[.int .i64 p0, .int .i64 p3] 2));refine Ru.hd hK (HS.out _ D1) (fun hHeld=> ?_);clear hK K;refine Ru.rd 17 (fun K hK=> ?_);go_simp;have s1:=Ud.iF x1 om1;have vl:=HVL.out _ (ae Kr D1);refine(HSk.out _ _ _ _ _ _ vl.2.1 vl.2.2 s1).mono ?_;rintro _ w3 ⟨bk,rfl,hbk,sK,k3⟩;have D3:=ae D1 k3;have hbw:wr.heap.size<=bk:=Nat.le_trans D1.size hbk;go_wp2_with fail
   refine Ru.hd hK (HS.out _ D3) (fun hHeld=> ?_);clear hK K;refine Ru.tk5 18 (.tuple #[.slice (some ⟨bk,0,none⟩) 2 2, .bool q1]) hHeld ?_;refine Ru.tk5 19 (.slice (some ⟨bk,0,none⟩) 2 2) hHeld ?_;refine Ru.tk5 20 (.bool q1) hHeld ?_;refine Ru.tk5 21 (.slice (some ⟨bk,0,none⟩) 2 2) hHeld ?_;refine Ru.tk5 22 (.bool q1) hHeld ?_;refine Ru.bI (by kernel_rfl) ?_;have z3:=zr.keep D3;have HAP:=hide (zr.apart (ra:=some ⟨bk,0,none⟩) (fun x hx=>by cases hx;exact hbw));have HSK:=hide sK;have K3:=ae Kr D3;clear sK k3 D1 D3 x1 s1 vl zr hbk HS HSk
   go_wp2_with (first
    |(at_builtin;refine Ls.pushK rl1 _ _ rl1 w2.heap.size _ _ k k 2 6 (kr P a b c) (br P a b c) rl1 z3 om1 om1 om1 (some ⟨bk,0,none⟩) 2 HSK.out HAP.out rl1 ?_)
    |fail)
   intro v1 w4 z4 b4 sK4;have K4:=b4.below K3 K3.size (fun q e=>e);clear z3 HAP HSK b4 K3;go_wp2_with fail
   refine(VC 6 _ om1 om1).mono ?_;rintro e w5 ⟨L,cm,G,rfl,hA⟩;have k5:=hA.below;have sK5:=sK4.keep k5;have cL:=hA.cellL h;have f0:=hA.cell h (j:=0) om1;have f3:=hA.cell h (j:=3) om1;have hgo:=hA.own k h;have hrow:ai w5 (G k) 2 (vals 6 (lF k)):=hA.row k h;have lc1:=hA.cap;have lc2:=hA.cap2;obtain⟨g,hg⟩: ∃ g,g=G k:=⟨_,rfl⟩;rw [← hg] at cL f0 f3 hgo hrow
   have g0:w5.cell? ⟨bk,0,none⟩=some (.int .i64 (kr P a b c k 0)):=by
    obtain⟨x,hx,hc⟩:=sK5.at' 0 om1;cases hx
    exact hc
   have g1:w5.cell? ⟨bk,1,none⟩=some (.int .i64 (kr P a b c k 1)):=by
    obtain⟨x,hx,hc⟩:=sK5.at' 1 om1;cases hx
    exact hc
   have HA0:=hide (fun W=>tZ (lF k 0) (kr P a b c k 0) W (Dl k 0).1 (Dl k 0).2 (HKb.out k 0).1 (HKb.out k 0).2);have HA3:=hide (fun W=>tZ (lF k 3) (kr P a b c k 1) W (Dl k 3).1 (Dl k 3).2 (HKb.out k 1).1 (HKb.out k 1).2);obtain⟨y0,hy0⟩: ∃ z,z=Qn.clamp (lF k 0- kr P a b c k 0):=⟨_,rfl⟩;obtain⟨y3,hy3⟩: ∃ z,z=Qn.clamp (lF k 3- kr P a b c k 1):=⟨_,rfl⟩;obtain⟨q2,hq2⟩: ∃ z,z=Qn.great (lF k 0- kr P a b c k 0):=⟨_,rfl⟩;obtain⟨q3,hq3⟩: ∃ z,z=Qn.great (lF k 3- kr P a b c k 1):=⟨_,rfl⟩;rw [← hy0,← hq2] at HA0;rw [← hy3,← hq3] at HA3
   have hbr:Hid (∀ j,j<6->(if j=3 then y3 else if j=0 then y0 else lF k j)=br P a b c k j):=fun j hj=>by
    unfold br;rw [← hy0,← hy3];by_cases e0:j=0
    ·subst e0;rfl
    ·by_cases e3:j=3
     ·subst e3;rfl
     ·rw [if_neg e3,if_neg e0,if_neg e0,if_neg e3]
   have hnA:Hid (nA q0 P a b c (k+1)=(nA q0 P a b c k||q1||q2||q3)):=by
    show(nA q0 P a b c k||ko P a b c k||bo0 P a b c k||bo3 P a b c k)=_;rw [HQ1.out,hq2,hq3];rfl
   obtain⟨E0,hE0⟩: ∃ z,z=lF k 0:=⟨_,rfl⟩;obtain⟨E3,hE3⟩: ∃ z,z=lF k 3:=⟨_,rfl⟩;obtain⟨k0,hk0⟩: ∃ z,z=kr P a b c k 0:=⟨_,rfl⟩;obtain⟨k1,hk1⟩: ∃ z,z=kr P a b c k 1:=⟨_,rfl⟩;rw [← hE0,← hk0] at HA0;rw [← hE3,← hk1] at HA3;rw [← hE0] at f0;rw [← hE3] at f3;rw [← hk0] at g0;rw [← hk1] at g1;have hS2: ∀ V,Below w5.heap.size w5 V->(V.cell? ⟨g,0,none⟩=some (.int .i64 E0)/\V.cell? ⟨g,3,none⟩=some (.int .i64 E3)/\V.cell? ⟨bk,0,none⟩=some (.int .i64 k0)/\V.cell? ⟨bk,1,none⟩=some (.int .i64 k1)):=fun V k=>⟨ah k f0,ah k f3,ah k g0,ah k g1⟩;have HS2:=hide hS2;have HRow:=hide hrow;clear hS2 hrow hE0 hE3 hk0 hk1 hy0 hy3 hq2 hq3 hg f0 f3 g0 g1 sK4 sK5 hA HQ1;have D5:Below w5.heap.size w5 w5:=Below.refl _ _;go_upto_region 11 with fail
   refine Ru.aS [] (fun w'=>w'.cell? ⟨g,0,none⟩=some (.int .i64 E0)/\w'.cell? ⟨g,3,none⟩=some (.int .i64 E3)/\w'.cell? ⟨bk,0,none⟩=some (.int .i64 k0)/\w'.cell? ⟨bk,1,none⟩=some (.int .i64 k1)) (by kernel_rfl) (HS2.out _ (ae D5 (Vc.az _))) (fun hHeld=> ?_);refine Ru.tk4 0 (.slice (some ⟨g,0,none⟩) 6 6) hHeld ?_;refine Ru.tk4 1 (.pointer (some ⟨g,0,none⟩)) hHeld ?_;refine Ru.tk4 2 (.int .i64 E0) hHeld ?_;refine Ru.tk4 3 (.slice (some ⟨bk,0,none⟩) 2 2) hHeld ?_;refine Ru.tk4 4 (.pointer (some ⟨bk,0,none⟩)) hHeld ?_;refine Ru.tk4 5 (.int .i64 k0) hHeld ?_;refine Ru.rd 6 (fun K hK=> ?_);go_simp;refine(HA0.out _).mono ?_;rintro _ w6 ⟨rfl,kw6⟩;have D6:=ae (ae D5 (Vc.az _)) kw6;go_wp2_with fail
   refine Ru.hd hK (HS2.out _ D6) (fun hHeld=> ?_);clear hK K;refine Ru.tk4 7 (.tuple #[.int .i64 y0, .bool q2]) hHeld ?_;refine Ru.tk4 8 (.int .i64 y0) hHeld ?_;refine Ru.tk4 9 (.bool q2) hHeld ?_;refine Ru.tk4 10 (.int .i64 y0) hHeld ?_;refine Ru.tk4 11 (.bool q2) hHeld ?_;refine Ru.bI (by kernel_rfl) ?_;go_upto_region 12 with fail
   refine Ru.aS [] (fun w'=>w'.cell? ⟨g,0,none⟩=some (.int .i64 E0)/\w'.cell? ⟨g,3,none⟩=some (.int .i64 E3)/\w'.cell? ⟨bk,0,none⟩=some (.int .i64 k0)/\w'.cell? ⟨bk,1,none⟩=some (.int .i64 k1)) (by kernel_rfl) (HS2.out _ (ae D6 (Vc.az _))) (fun hHeld=> ?_);refine Ru.tk4 0 (.slice (some ⟨g,0,none⟩) 6 6) hHeld ?_;refine Ru.tk4 1 (.pointer (some ⟨g,3,none⟩)) hHeld ?_;refine Ru.tk4 2 (.int .i64 E3) hHeld ?_;refine Ru.tk4 3 (.slice (some ⟨bk,0,none⟩) 2 2) hHeld ?_;refine Ru.tk4 4 (.pointer (some ⟨bk,1,none⟩)) hHeld ?_;refine Ru.tk4 5 (.int .i64 k1) hHeld ?_;refine Ru.rd 6 (fun K hK=> ?_);go_simp;refine(HA3.out _).mono ?_;rintro _ w7 ⟨rfl,kw7⟩;have D7:=ae (ae D6 (Vc.az _)) kw7;go_wp2_with fail
   refine Ru.hd hK (HS2.out _ D7) (fun hHeld=> ?_);clear hK K;refine Ru.tk4 7 (.tuple #[.int .i64 y3, .bool q3]) hHeld ?_;refine Ru.tk4 8 (.int .i64 y3) hHeld ?_;refine Ru.tk4 9 (.bool q3) hHeld ?_;refine Ru.tk4 10 (.int .i64 y3) hHeld ?_;refine Ru.tk4 11 (.bool q3) hHeld ?_;refine Ru.bI (by kernel_rfl) ?_;have m7:=ai.keep HRow.out D7;have f70:=ai.free m7 0;have f73:=ai.free m7 3;have c70:w7.cell? ⟨g,0,none⟩=some (.int .i64 E0):=(HS2.out _ D7).1;have c73:w7.cell? ⟨g,3,none⟩=some (.int .i64 E3):=(HS2.out _ D7).2.1;have m8:=ai.set (ai.set m7 0 (.int .i64 y0)) 3 (.int .i64 y3);rw [fG,fG] at m8;have k7:=ae k5 D7;have k8:Below w4.heap.size w4 ((w7.setCell ⟨g,0,none⟩ (.int .i64 y0)).setCell ⟨g,3,none⟩ (.int .i64 y3)):=(k7.trans (St.dB (x:=⟨g,0,none⟩) k7.size hgo _)).trans (St.dB (x:=⟨g,3,none⟩) (by simp;exact k7.size) hgo _);have c83:(w7.setCell ⟨g,0,none⟩ (.int .i64 y0)).cell? ⟨g,3,none⟩=some (.int .i64 E3):=ai.cell (ai.set m7 0 (.int .i64 y0)) (k:=3) (by have e:=ai.cell m7 (k:=3) (v:= .int .i64 (lF k 3)) (dI om1) rfl;rw [c73] at e;rw [e,fG];exact dI om1) rfl;have f83:=ai.free (ai.set m7 0 (.int .i64 y0)) 3;obtain⟨w8,hw8⟩: ∃ W,W=(w7.setCell ⟨g,0,none⟩ (.int .i64 y0)).setCell ⟨g,3,none⟩ (.int .i64 y3):=⟨_,rfl⟩;rw [← hw8] at m8 k8;have H8:=hide hw8;have s8:=(Ud.iF m8 om1).congr (fun j hj=>hbr.out j hj);have z8:=(z4.keep k8).swap;have HAP2:=hide (z4.swap.apart (ra:=some ⟨g,0,none⟩) (fun x hx=>by cases hx;exact hgo));have HS8:=hide s8;have K8:=ae K4 k8;clear hw8 m7 m8 s8 z4 k5 k7 k8 K4 HRow hbr HS2 D7 D5 HA0 HA3
   go_wp2_with (first
    |(rw [← H8.out])
    |(at_builtin;refine Ls.pushK rl1 _ _ rl1 w2.heap.size _ _ k (k+1) 6 2 (br P a b c) (kr P a b c) rl1 z8 om1 om1 om1 (some ⟨g,0,none⟩) 6 HS8.out HAP2.out rl1 ?_)
    |fail)
   intro v2 w9 z9 b9 _;have z10:=z9.swap;have K9:=b9.below K8 K8.size (fun q e=>e);obtain⟨qn,hqn⟩: ∃ q,q=nA q0 P a b c k:=⟨_,rfl⟩;rw [← hqn] at hnA ⊢;clear hqn z9 b9 z8 HAP2 HS8 K8 H8;cases qn with
   |true=>
    go_wp2;go_roundw
    case rel=>exact⟨k+1,om1,by go_num,by rw [hnA.out];rfl,z10,K9⟩
    case measure=>simp [intOf];omega
   |false=>
    cases q1 with
    |true=>
     go_wp2;go_roundw
     case rel=>exact⟨k+1,om1,by go_num,by rw [hnA.out];rfl,z10,K9⟩
     case measure=>simp [intOf];omega
    |false=>
     cases q2 with
     |true=>
      go_wp2;go_roundw
      case rel=>exact⟨k+1,om1,by go_num,by rw [hnA.out];rfl,z10,K9⟩
      case measure=>simp [intOf];omega
     |false=>
      go_wp2;go_roundw
      case rel=>exact⟨k+1,om1,by go_num,by rw [hnA.out];rfl,z10,K9⟩
      case measure=>simp [intOf];omega
  ·obtain rfl:k=6:=om1;obtain⟨lk,ck,rfl,gK⟩:=zr.gridK;obtain⟨lb,cb,rfl,gB⟩:=zr.gridB;have HAp:=hide (fun W lo cl vo vc (h1:Grid W lo 6 cl 2 (kr P a b c)) (h2:Sl W vo 2 vc (v2 (ox X x) (oy X y)))=>DL 6 2 cl vc lo vo (kr P a b c) (v2 (ox X x) (oy X y)) W om1 om1 h1 h2 HKb.out (v2_b (BM _) (BM _)));have c7:wr.cell? ⟨g7,0,none⟩=some (.slice (some ⟨gv,0,none⟩) 2 2):=ai.cell (ai.keep HN2.out Kr) (k:=0) rfl rfl;have sv:=(HVL.out _ Kr).1;have hdO:dN (fun i=>Qn.great (Qn.rne (dk (kr P a b c i) (v2 (ox X x) (oy X y)) 2) (2^20))) 6=dO X P x y a b c:=rfl;have hdV:(fun i=>Qn.clamp (Qn.rne (dk (kr P a b c i) (v2 (ox X x) (oy X y)) 2) (2^20)))=dV X P x y a b c:=rfl;rw [hdO,hdV] at HAp;obtain⟨qa,hqa⟩: ∃ q,q=nA q0 P a b c 6:=⟨_,rfl⟩;obtain⟨qd,hqd⟩: ∃ q,q=dO X P x y a b c:=⟨_,rfl⟩;rw [← hqa];rw [← hqd] at HAp;have HQA:=hide hqa;have HQD:=hide hqd;have HGK:=hide gK;have HGB:=hide gB;clear hdO hdV hqa hqd zr h gK gB HSo HK HVL;go_wp2_with fail
   refine(HAp.out _ _ _ _ _ HGK.out sv).mono ?_;rintro e w10 ⟨co,cc,rfl,hOd⟩;have k10:=hOd.below;obtain⟨_,_,e1,sd,fd⟩:=mZ hOd;injection e1 with ea _ ec
   subst ea ec;obtain⟨da,hda,hdc⟩:=sd.get;obtain rfl:=hda om1;have K10:=ae Kr k10;have ld1:=sd.le;have ld2:=sd.cap;have HDC:=hide hdc;obtain⟨qs,hqs⟩: ∃ q,(qa||qd)=q:=⟨_,rfl⟩;have HQS:=hide hqs;have KW:=hide (ae HK2.out K10);have HGK1:=hide (HGK.out.keep k10);have HGB1:=hide (HGB.out.keep k10);clear sd fd hOd hda hdc c7 sv HAp Kr k10 HGK HGB hqs;go_upto_region 17 with fail
   go_cut [8] (fun v wx=>v= .bool qs/\wx=w10)
   case first=>
    cases qa with
    |true=>
     go_wp2;go_meet;exact⟨by rw [← HQS.out];rfl,rfl⟩
    |false=>
     go_wp2;go_meet;exact⟨by rw [← HQS.out];rfl,rfl⟩
   obtain⟨rfl,rfl⟩:=hcut;rename World=>w11
   go_wp2_with (first
    |(refine St.aF X6 rfl _ _ rl1 _ [.slice none 0 0, .slice none 0 0] [.slice none 0 0, .slice none 0 0] rl1 rl1 rfl rfl (by intro v hv;simp only [List.mem_cons,List.not_mem_nil,or_false] at hv;rcases hv with rfl|rfl<;>rfl) ?_;intro w12 n12 k12)
    |fail)
   have l12:=ai.lt n12;obtain⟨gs,hgs⟩: ∃ g,g=w11.heap.size:=⟨_,rfl⟩;rw [← hgs] at n12 l12 ⊢;obtain⟨o2,ho2⟩: ∃ o,o=w12.heap.size:=⟨_,rfl⟩;rw [← ho2] at l12;have z12:Ls.Sts o2 w12 (.slice none 0 0) (.slice none 0 0) 0 0 6 (xN X P x y a b c) (fun _ _=>0):=Ls.Sts.nil om1 _ _ _;have HE:Hid (∀ V,Ld.But (fun q=>q=gs\/o2<=q) w12 V->Below w11.heap.size w11 V):=fun V k=>k.below k12 (by have:=k12.size;omega) (by rintro q (e|e)<;>omega)
   have HGS:Hid (w11.heap.size<=gs):=by show _<=_;omega
   have HL0:=ai.lt r0'.out;have HGW:w.heap.size+1+1<gs:=by have:=KW.out.size;omega
   clear k12 hgs ho2 HL0;go_loopw [8,23] (fun q i wl=> ∃ (k:Nat) (vX:Value),k<=6/\i= .int .i64 (k:Int)/\q= .bool (nB qs X P x y a b c k)/\ai wl gs 60 [vX, .slice none 0 0]/\Ls.Sts o2 wl vX (.slice none 0 0) k 0 6 (xN X P x y a b c) (fun _ _=>0)/\Ld.But (fun q=>q=gs\/o2<=q) w12 wl) (fun _ i _=>6- (intOf i).toNat)
   case atStart=>exact⟨0,_,om1,rfl,rfl,n12,z12,Ld.But.refl _ _⟩
   case round=>
    rename World=>wl;obtain⟨k,vX,hk,rfl,rfl,nl,zl,bl⟩:=hrel;by_cases h:k<6
    ·have El:=HE.out _ bl;have KL:=ae KW.out El;have c0:wl.cell? ⟨w.heap.size,0,none⟩=some (.slice (some xa) 6 xc):=ai.cell (ai.keep t0'.out KL) (k:=0) rfl rfl;have cx:=ah KL (HXC.out k h);have cd:=ah El (HDC.out k h);have HA:=hide (fun W=>wW (X k) (dV X P x y a b c k) W (bX k).1 (bX k).2 (BM _).1 (BM _).2);have k6:(k:Int)<6:=om1;have hx1:Qn.clamp (X k+dV X P x y a b c k)=xN X P x y a b c k:=rfl;have hnB:Hid (nB qs X P x y a b c (k+1)=(nB qs X P x y a b c k||Qn.great (X k+dV X P x y a b c k))):=rfl;rw [hx1] at HA;obtain⟨xk,hxk⟩: ∃ z,z=X k:=⟨_,rfl⟩;obtain⟨dk',hdk⟩: ∃ z,z=dV X P x y a b c k:=⟨_,rfl⟩;obtain⟨y1,hy1⟩: ∃ z,z=xN X P x y a b c k:=⟨_,rfl⟩;rw [← hxk,← hdk] at HA hnB;rw [← hy1] at HA;rw [← hxk] at cx;rw [← hdk] at cd;obtain⟨q1,hq1⟩: ∃ z,z=Qn.great (xk+dk'):=⟨_,rfl⟩;rw [← hq1] at HA hnB;have HY1:=hide hy1;have hS: ∀ V,Below wl.heap.size wl V->(V.cell? ⟨w.heap.size,0,none⟩=some (.slice (some xa) 6 xc)/\V.cell? (xa.add k)=some (.int .i64 xk)/\V.cell? (da.add k)=some (.int .i64 dk')):=fun V k=>⟨ah k c0,ah k cx,ah k cd⟩;have HS:=hide hS;clear hS c0 cx cd hxk hdk hy1 hq1 hx1;go_upto_region 22 with fail
     refine Ru.aS [] (fun w'=>w'.cell? ⟨w.heap.size,0,none⟩=some (.slice (some xa) 6 xc)/\w'.cell? (xa.add k)=some (.int .i64 xk)/\w'.cell? (da.add k)=some (.int .i64 dk')) (by kernel_rfl) (HS.out _ (Vc.az _)) (fun hHeld=> ?_);refine Ru.tk3 0 (.pointer (some ⟨w.heap.size,0,none⟩)) hHeld ?_;refine Ru.tk3 1 (.slice (some xa) 6 xc) hHeld ?_;refine Ru.tk3 2 (.int .i64 (k:Int)) hHeld ?_;refine Ru.tk3 3 (.pointer (some (xa.add k))) hHeld ?_;refine Ru.tk 4 (.int .i64 xk) rfl (Ud.xU (by kernel_rfl) _ rl1 (xa.add k) _ rl1 (fun w h=>h.2.1)) hHeld ?_;refine Ru.tk3 5 (.slice (some da) 6 cc) hHeld ?_;refine Ru.tk3 6 (.int .i64 (k:Int)) hHeld ?_;refine Ru.tk3 7 (.pointer (some (da.add k))) hHeld ?_;refine Ru.tk 8 (.int .i64 dk') rfl (Ud.xU (by kernel_rfl) _ rl1 (da.add k) _ rl1 (fun w h=>h.2.2)) hHeld ?_;refine Ru.rd 9 (fun K hK=> ?_);go_simp;refine(HA.out _).mono ?_;rintro _ w15 ⟨rfl,kw15⟩;have D2:=ae (Vc.az wl) kw15;go_wp2_with fail
     refine Ru.hd hK (HS.out _ D2) (fun hHeld=> ?_);clear hK K;refine Ru.tk3 10 (.tuple #[.int .i64 y1, .bool q1]) hHeld ?_;refine Ru.tk3 11 (.int .i64 y1) hHeld ?_;refine Ru.tk3 12 (.bool q1) hHeld ?_;refine Ru.tk3 13 (.int .i64 y1) hHeld ?_;refine Ru.tk3 14 (.bool q1) hHeld ?_;refine Ru.bI (by kernel_rfl) ?_;have z2:=zl.keep D2;have n2:=ai.keep nl D2;have b2:=bl.then D2;have c2:w15.cell? ⟨gs,0,none⟩=some vX:=ai.cell n2 (k:=0) rfl rfl;clear HS zl nl bl El KL D2 kw15
     go_wp2_with (first
      |(at_builtin;refine Ls.pushX rl1 _ _ rl1 o2 _ _ k 0 6 (xN X P x y a b c) (fun _ _=>0) rl1 z2 om1 om1 y1 HY1.out rl1 ?_)
      |fail)
     intro v' w16 z3 b3;obtain⟨lo',cm',hv',_⟩:=z3.sl;subst hv';have n3:=Ld.aT n2 b3 om1;have c3:w16.cell? ⟨gs,0,none⟩=some vX:=ai.cell n3 (k:=0) rfl rfl;have f3:=ai.free n3 0;have n4:=ai.set n3 0 (.slice lo' (k+1) cm');have b4:=(b2.trans (b3.mono fun q e=>Or.inr e)).set (p:=⟨gs,0,none⟩) (.slice lo' (k+1) cm') (Or.inl rfl);have z4:=z3.put (g:=gs) l12 ((Ld.But.refl (· =gs) w16).set (p:=⟨gs,0,none⟩) (.slice lo' (k+1) cm') rfl);clear z2 n2 b2 c2 z3 b3 n3 HY1;obtain⟨qn,hqn⟩: ∃ q,q=nB qs X P x y a b c k:=⟨_,rfl⟩;rw [← hqn] at hnB ⊢;clear hqn;cases qn with
     |true=>
      go_wp2;go_roundw
      case rel=>exact⟨k+1,_,om1,by go_num,by rw [hnB.out];rfl,n4,z4,b4⟩
      case measure=>simp [intOf];omega
     |false=>
      go_wp2;go_roundw
      case rel=>exact⟨k+1,_,om1,by go_num,by rw [hnB.out];rfl,n4,z4,b4⟩
      case measure=>simp [intOf];omega
    ·obtain rfl:k=6:=om1;obtain⟨yo,yc,rfl,sX⟩:=zl.sl;have HFX:=hide (El.Own.free' (B:=o2) (w0:=wl) ⟨zl.x,Below.refl _ _,zl.le⟩);have El:=HE.out _ bl;have KL:=ae KW.out El;have BL:=ae B0 KL;have gB:=HGB1.out.keep El;have gK:=HGK1.out.keep El;have gP:=HP0.out.keep KL;have c1:wl.cell? ⟨w.heap.size,1,none⟩=some (.slice (some pa) 6 pc):=ai.cell (ai.keep t0'.out KL) (k:=1) rfl rfl;have HR1:=hide (fun W (h1:Grid W lb 6 cb 6 (br P a b c)) (h2:Grid W (some pa) 6 pc 6 P)=>BU 6 6 cb pc lb (some pa) (br P a b c) P W om1 om1 om1 om1 h1 h2 (br_b P a b c) bP);have HR2:=hide (fun W ro rc (h1:Grid W lk 6 ck 2 (kr P a b c)) (h2:Grid W ro 2 rc 2 (g2 a c b))=>BU 6 2 ck rc lk ro (kr P a b c) (g2 a c b) W om1 om1 om1 om1 h1 h2 HKb.out (g2_b (by have:=hp.2.2.1;unfold InV at this;omega) (by have:=hp.2.2.2.2.1;unfold InV at this;omega) (by have:=hp.2.2.2.1;unfold InV at this;omega)));have HR3:Hid (∀ W uo uc vo vc,Grid W uo 6 uc 6 (arV 6 (br P a b c) P)->Grid W vo 6 vc 6 (arV 2 (kr P a b c) (g2 a c b))->Calls Tryz.prog 103 #[.slice uo 6 uc, .slice vo 6 vc, .bool false] W fun e w'=> ∃ lo cm,e= .returned (.tuple #[.slice lo 6 cm, .bool (wO P a b c)])/\Grid w' lo 6 cm 6 (wN P a b c)/\Below W.heap.size W w'):=fun W uo uc vo vc h1 h2=>Vz 6 6 uc vc uo vo (arV 6 (br P a b c) P) (arV 2 (kr P a b c) (g2 a c b)) W om1 om1 om1 om1 h1 h2 (Ic _) (Ic _);have HR4:Hid (∀ W lo cm,Grid W lo 6 cm 6 (wN P a b c)->Calls Tryz.prog 104 #[.slice lo 6 cm] W fun e w'=> ∃ L' cm' G' C',e= .returned (.tuple #[.slice (some ⟨L',0,none⟩) 6 cm', .bool (zO P a b c)])/\ni W.heap.size W w' L' cm' G' C' 6 6 (zE P a b c)):=fun W lo cm h1=>QR 6 cm lo (wN P a b c) W om1 om1 h1 (Ic _)
     have HNO:Hid (nO X P x y a b c=(nB qs X P x y a b c 6||(Dj 6 6 (br P a b c) P||Dk 6 6 (br P a b c) P)||(Dj 6 2 (kr P a b c) (g2 a c b)||Dk 6 2 (kr P a b c) (g2 a c b))||wO P a b c||zO P a b c)):=by
      show nO X P x y a b c=_;rw [← HQS.out,HQA.out,HQD.out,← HQ0.out];rfl
     have HEn:Hid (∀ i j,i<6->nD (zE P a b c) 6 i j=zN P a b c i j):=fun i j hi=>nD_end _ j hi;obtain⟨E,hE⟩: ∃ E,E=zE P a b c:=⟨_,rfl⟩;rw [← hE] at HR4 HEn;obtain⟨qf,hqf⟩: ∃ q,q=nB qs X P x y a b c 6:=⟨_,rfl⟩;obtain⟨u1,hu1⟩: ∃ q,q=(Dj 6 6 (br P a b c) P||Dk 6 6 (br P a b c) P):=⟨_,rfl⟩;obtain⟨u2,hu2⟩: ∃ q,q=(Dj 6 2 (kr P a b c) (g2 a c b)||Dk 6 2 (kr P a b c) (g2 a c b)):=⟨_,rfl⟩;obtain⟨u3,hu3⟩: ∃ q,q=wO P a b c:=⟨_,rfl⟩;obtain⟨u4,hu4⟩: ∃ q,q=zO P a b c:=⟨_,rfl⟩;rw [← hqf,← hu1,← hu2,← hu3,← hu4] at HNO;rw [← hqf];rw [← hu1] at HR1;rw [← hu2] at HR2;rw [← hu3] at HR3;rw [← hu4] at HR4;have ml:=ai.keep m0'.out KL;have rl:=ai.keep r0'.out KL;have HSX:=hide sX;have lgs:w11.heap.size<=gs:=HGS.out;clear hqf hu1 hu2 hu3 hu4 hE zl bl h KL sX;go_wp2_with fail
     refine(HR1.out _ gB gP).mono ?_;rintro e w20 ⟨lu,cu,rfl,gU,k20⟩;have gK20:=gK.keep k20;have nl20:=ai.keep nl k20;have ml20:=ai.keep ml k20;have rl20:=ai.keep rl k20;have B20:=ae BL k20;have sX20:=HSX.out.keep k20;have HFX:=hide (HFX.out.keep k20);have s2:w20.cell? ⟨w.heap.size+1,2,none⟩=some (.int .i64 a):=ai.cell ml20 (k:=2) rfl rfl;have s3:w20.cell? ⟨w.heap.size+1,3,none⟩=some (.int .i64 b):=ai.cell ml20 (k:=3) rfl rfl;have s4:w20.cell? ⟨w.heap.size+1,4,none⟩=some (.int .i64 c):=ai.cell ml20 (k:=4) rfl rfl;have x1:ai (w20.alloc (.cells #[.int .i64 a, .int .i64 c] 2)) w20.heap.size 2 (vals 2 (v2 a c)):=aH w20 2 (vals 2 (v2 a c));have x2:ai ((w20.alloc (.cells #[.int .i64 a, .int .i64 c] 2)).alloc (.cells #[.int .i64 c, .int .i64 b] 2)) (w20.heap.size+1) 2 (vals 2 (v2 c b)):=bU w20 (.cells #[.int .i64 a, .int .i64 c] 2) 2 (vals 2 (v2 c b));have x3:ai (((w20.alloc (.cells #[.int .i64 a, .int .i64 c] 2)).alloc (.cells #[.int .i64 c, .int .i64 b] 2)).alloc (.cells #[.slice (some ⟨w20.heap.size,0,none⟩) 2 2, .slice (some ⟨w20.heap.size+1,0,none⟩) 2 2] 27)) (w20.heap.size+1+1) 27 [.slice (some ⟨w20.heap.size,0,none⟩) 2 2, .slice (some ⟨w20.heap.size+1,0,none⟩) 2 2]:=dH w20 (.cells #[.int .i64 a, .int .i64 c] 2) (.cells #[.int .i64 c, .int .i64 b] 2) 27 _;have g8:=(ZN x3 ((x1.alloc (.cells #[.int .i64 c, .int .i64 b] 2)).alloc (.cells #[.slice (some ⟨w20.heap.size,0,none⟩) 2 2, .slice (some ⟨w20.heap.size+1,0,none⟩) 2 2] 27)) (x2.alloc (.cells #[.slice (some ⟨w20.heap.size,0,none⟩) 2 2, .slice (some ⟨w20.heap.size+1,0,none⟩) 2 2] 27))).congr (fun i j hi hj=>JG a c b i j hi hj);have K20:Below w20.heap.size w20 (((w20.alloc (.cells #[.int .i64 a, .int .i64 c] 2)).alloc (.cells #[.int .i64 c, .int .i64 b] 2)).alloc (.cells #[.slice (some ⟨w20.heap.size,0,none⟩) 2 2, .slice (some ⟨w20.heap.size+1,0,none⟩) 2 2] 27)):=af (af (af (Below.refl _ _) _) _) _;have s4a:(w20.alloc (.cells #[.int .i64 a, .int .i64 c] 2)).cell? ⟨w.heap.size+1,4,none⟩=some (.int .i64 c):=ah (af (Below.refl _ w20) _) s4;have s3a:(w20.alloc (.cells #[.int .i64 a, .int .i64 c] 2)).cell? ⟨w.heap.size+1,3,none⟩=some (.int .i64 b):=ah (af (Below.refl _ w20) _) s3;have gK21:=gK20.keep K20;have gU21:=gU.keep K20;have nl21:=ai.keep nl20 K20;have rl21:=ai.keep rl20 K20;have B21:=ae B20 K20;have sX21:=sX20.keep K20;have HFX:=hide (HFX.out.keep K20);have HG8:=hide g8;clear x1 x2 x3 g8 gB gP gK gK20 gU nl nl20 ml ml20 rl rl20 B20 sX20 HSX HR1 c1 BL k20;go_wp2_with fail
     refine(HR2.out _ _ _ gK21 HG8.out).mono ?_;rintro e w21 ⟨lv,cv,rfl,gV,k21⟩;have gU22:=gU21.keep k21;have nl22:=ai.keep nl21 k21;have rl22:=ai.keep rl21 k21;have B22:=ae B21 k21;have sX22:=sX21.keep k21;have HFX:=hide (HFX.out.keep k21);clear gK21 gU21 nl21 rl21 B21 sX21 HG8 HR2 K20 k21 s2 s3 s4 s3a s4a;go_wp2_with fail
     refine(HR3.out _ _ _ _ _ gU22 gV).mono ?_;rintro e w22 ⟨lw,cw,rfl,gW,k22⟩;have nl23:=ai.keep nl22 k22;have rl23:=ai.keep rl22 k22;have B23:=ae B22 k22;have sX23:=sX22.keep k22;have HFX:=hide (HFX.out.keep k22);clear gU22 gV nl22 rl22 B22 sX22 HR3 k22;go_wp2_with fail
     have hR6:=hide (ai.lt nl23);have BW22:=hide B23.size;refine(HR4.out _ _ _ gW).mono ?_;rintro e w23 ⟨L,cm,G,Cc,rfl,hR⟩;have R6:=hR.congr (F':=nD E 0) (fun i j _ _=>Y7 E i j);have capL:=hR.cap;have capL2:=hR.cap2;clear hR gW HR4;go_wp2;go_loopw [34] (fun v wz=> ∃ k:Nat,k<=6/\v= .int .i64 (k:Int)/\ni w22.heap.size w22 wz L cm G Cc 6 6 (nD E k)) (fun v _=>6- (intOf v).toNat)
     case atStart=>exact⟨0,om1,rfl,R6⟩
     case round=>
      rename World=>wo;obtain⟨k,hk,rfl,hO⟩:=hrel;by_cases h:k<6
      ·have l0:=hO.cellL h;have a0:=hO.cell h h;have fr:=hO.free h k;have s0:=hO.set h h 0;have rm:=hO.room k h;rw [nD_at] at a0;have k6':(k:Int)<6:=om1;obtain⟨g0,hg0⟩: ∃ g,g=G k:=⟨_,rfl⟩;obtain⟨ckk,hck⟩: ∃ c,c=Cc k:=⟨_,rfl⟩;rw [← hg0] at l0 a0 fr s0;rw [← hck] at l0 rm;obtain⟨r6,r7⟩:=rm;by_cases hn:E k k<0
       ·have s1:=s0.congr (fun i j _ _=>nD_put E k hn i j);obtain⟨V,hV⟩: ∃ V,V=E k k:=⟨_,rfl⟩;rw [← hV] at a0 hn;clear s0 hO hg0 hck hV;go_wp2;go_roundw
        case rel=>exact⟨k+1,om1,by go_num,s1⟩
        case measure=>simp [intOf];omega
       ·have s1:=hO.congr (fun i j _ _=>Y8 E k hn i j);obtain⟨V,hV⟩: ∃ V,V=E k k:=⟨_,rfl⟩;rw [← hV] at a0 hn;clear s0 hO hg0 hck hV;go_wp2;go_roundw
        case rel=>exact⟨k+1,om1,by go_num,s1⟩
        case measure=>simp [intOf];omega
      ·obtain rfl:k=6:=om1;have kz:=hO.below;have n5:=ai.keep nl23 kz;have r5:=ai.keep rl23 kz;have sX5:=sX23.keep kz;have HFX:=hide (HFX.out.keep kz);have B5:=ae B23 kz;have lg:=ai.lt nl23;have c51:wo.cell? ⟨gs,1,none⟩=some (.slice none 0 0):=ai.cell n5 (k:=1) rfl rfl;have f51:=ai.free n5 1;have bs:=(Ld.But.refl (· =gs) wo).set (p:=⟨gs,1,none⟩) (.slice (some ⟨L,0,none⟩) 6 cm) rfl;have gE:=(aaz hO lg bs).congr (fun i j hi hj=>HEn.out i j hi);have hZ:=hO.congr (fun i j hi hj=>HEn.out i j hi);have lW:=(hR6.out:gs<w22.heap.size);have FX6:=MW HFX.out l12 bs;have FP6:=MW (Go.Proofs.YtcefcokpjbebhaaGreatDoor.El.ni.free' hZ) lW bs;have sE:=mF n5 (fun z h=>by simp at h) sX5 om1 bs;have n6:=ai.set n5 1 (.slice (some ⟨L,0,none⟩) 6 cm);have lr:w.heap.size+1+1≠gs:=om1;have r6:=ai.other r5 (p:=⟨gs,1,none⟩) (.slice (some ⟨L,0,none⟩) 6 cm) lr;have B6:=B5.trans (St.dB (x:=⟨gs,1,none⟩) B5.size (by show w.heap.size<=gs;omega) (.slice (some ⟨L,0,none⟩) 6 cm));obtain⟨w6,hw6⟩: ∃ W,W=wo.setCell ⟨gs,1,none⟩ (.slice (some ⟨L,0,none⟩) 6 cm):=⟨_,rfl⟩;rw [← hw6] at gE sE n6 r6 B6 FX6 FP6;have H6:=hide hw6;have kE:=gp w6 (w.heap.size+1+1) ([.slice yo 6 yc, .slice (some ⟨L,0,none⟩) 6 cm]:List Value).toArray;have sF:=mF r6 (fun z h=>by simp at h) sE om1 kE;have gF:=qX r6 (fun z h=>by simp at h) (fun q c h=>by simp at h) gE om1 kE;have rE:=ai.row r6 [.slice yo 6 yc, .slice (some ⟨L,0,none⟩) 6 cm];have FF:=hide (((FX6.row (g:=w.heap.size+1+1) om1 ([.slice yo 6 yc, .slice (some ⟨L,0,none⟩) 6 cm]:List Value).toArray).less (B':=w.heap.size) om1).and ((FP6.row (g:=w.heap.size+1+1) om1 ([.slice yo 6 yc, .slice (some ⟨L,0,none⟩) 6 cm]:List Value).toArray).less (B':=w.heap.size) (by have:=BW22.out;omega)));have BE:=St.aJ B6 (g:=w.heap.size+1+1) om1 ([.slice yo 6 yc, .slice (some ⟨L,0,none⟩) 6 cm]:List Value).toArray;clear FX6 FP6 hZ lW hw6 hO kz nl23 rl23 sX23 B23 n5 r5 sX5 B5 bs gE sE kE h R6;go_upto_region 35 with(first|(rw [← H6.out])|fail)
       try rw [← H6.out]
       cases qf with
       |true=>
        exact IG
       |false=>
        cases u1 with
        |true=>
         exact IG
        |false=>
         cases u2 with
         |true=>
          exact IG
         |false=>
          cases u3 with
          |true=>
           exact IG
          |false=>
           exact IG
end
section
open Go.RowKit Vc St Mt Dt Pr Ud
attribute [local go_sem ↓] Go.wp_at_zero Go.wp_at_succ
end
end Go.Proofs.YtcefcokpjbebhaaGreatDoor
