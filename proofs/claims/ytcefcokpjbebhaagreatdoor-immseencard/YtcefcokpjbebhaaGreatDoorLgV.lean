/-
  The document's division, bit by bit (radomeref03.Div).
-/
import Derived.Test.YtcefcokpjbebhaaGreatDoorM15
import Derived.Deep.DeepCutAuto
import Derived.Deep.CutRange
set_option linter.unusedSimpArgs false
set_option linter.unusedVariables false
namespace Go.Proofs.YtcefcokpjbebhaaGreatDoor
open Go.RowKit
attribute [local go_sem ↓] Go.wp_at_zero Go.wp_at_succ
namespace Lg
def dvQ(M d:Int)(k:Nat):Int:=M/2^k/d
def dvR(M d:Int)(k:Nat):Int:=M/2^k%d
theorem MN(M:Int)(k:Nat):M/2^(k+1)=M/2^k/2:=by
 rw [Int.pow_succ,Int.ediv_ediv_of_nonneg (Int.pow_nonneg om1)]
theorem aas{M d:Int}(k:Nat)(hd:0<d):
 (d<=2*dvR M d (k+1)+M/2^k%2->dvQ M d k=2*dvQ M d (k+1)+1/\dvR M d k=2*dvR M d (k+1)+M/2^k%2- d)/\
 (2*dvR M d (k+1)+M/2^k%2<d->dvQ M d k=2*dvQ M d (k+1)/\dvR M d k=2*dvR M d (k+1)+M/2^k%2):=by
 unfold dvQ dvR;rw [MN];obtain⟨X,hX⟩: ∃ X,X=M/2^k:=⟨_,rfl⟩;rw [← hX];have e:=Int.mul_ediv_add_emod (X/2) d;have r0:=Int.emod_nonneg (X/2) (show d≠0 by omega);have r1:=Int.emod_lt_of_pos (X/2) hd;obtain⟨q,hq⟩: ∃ q,q=X/2/d:=⟨_,rfl⟩;obtain⟨r,hr⟩: ∃ r,r=X/2%d:=⟨_,rfl⟩;rw [← hq,← hr] at e ⊢;rw [← hr] at r0 r1
 have u: ∀ (Y y:Int),0<=y->y<d->X=y+d*Y->X/d=Y/\X%d=y:=fun Y y h0 h1 h2=>by
  have:=(Int.ediv_emod_unique hd (r:=y) (q:=Y) (a:=X)).2 ⟨h2.symm,h0,h1⟩;exact this
 constructor
 · intro h;refine u _ _ om1 om1 ?_;rw [Int.mul_add,show d*(2*q)=2*(d*q) by rw [← Int.mul_assoc,Int.mul_comm d 2,Int.mul_assoc]];omega
 · intro h;refine u _ _ om1 om1 ?_;rw [show d*(2*q)=2*(d*q) by rw [← Int.mul_assoc,Int.mul_comm d 2,Int.mul_assoc]];omega
theorem bit_up(N:Int)(p j:Nat)(h:p<=j):N*2^p/2^j%2=N/2^(j- p)%2:=by
 have:(2:Int)^j=2^p*2^(j- p):=by rw [← Int.pow_add];congr 1;omega
 rw [this,← Int.ediv_ediv_of_nonneg (Int.pow_nonneg om1),Int.mul_ediv_cancel _ (Int.ne_of_gt (Int.pow_pos om1))]
theorem aat(N:Int)(p j:Nat)(h:j<p):N*2^p/2^j%2=0:=by
 have:(2:Int)^p=2*2^(p- j- 1)*2^j:=by rw [Int.mul_assoc,← Int.pow_add,show(2:Int)*2^(p- j- 1+j)=2^(p- j- 1+j+1) by rw [Int.pow_succ,Int.mul_comm]];congr 1;omega
 rw [this,← Int.mul_assoc,Int.mul_ediv_cancel _ (Int.ne_of_gt (Int.pow_pos om1)),← Int.mul_assoc,Int.mul_comm N 2,Int.mul_assoc];omega
theorem Wj{N d:Int}(p:Nat)(h0:0<=N)(h1:N<18446744073709551616)(hd:0<d):dvQ (N*2^p) d (64+p)=0/\dvR (N*2^p) d (64+p)=0:=by
 have:N*2^p/2^(64+p)=0:=by
  refine Int.ediv_eq_zero_of_lt (Int.mul_nonneg h0 (Int.pow_nonneg om1)) ?_;rw [Int.pow_add];exact Int.mul_lt_mul_of_pos_right h1 (Int.pow_pos om1)
 unfold dvQ dvR;rw [this];simp
theorem dv_end(M d:Int):dvQ M d 0=M/d/\dvR M d 0=M%d:=by unfold dvQ dvR;simp
theorem dvR_bd(M:Int){d:Int}(k:Nat)(hd:0<d):0<=dvR M d k/\dvR M d k<d:=⟨Int.emod_nonneg _ om1,Int.emod_lt_of_pos _ hd⟩
theorem dvQ_nn{M d:Int}(k:Nat)(hM:0<=M)(hd:0<d):0<=dvQ M d k:=Int.ediv_nonneg (Int.ediv_nonneg hM (Int.pow_nonneg om1)) om1
theorem Wl{M d B:Int}(j:Nat)(hM:0<=M)(hd:0<d)(hB:M/2^j%2=B):
 (dvQ M d j=if d<=2*dvR M d (j+1)+B then 2*dvQ M d (j+1)+1 else 2*dvQ M d (j+1))/\(dvR M d j=if d<=2*dvR M d (j+1)+B then 2*dvR M d (j+1)+B- d else 2*dvR M d (j+1)+B):=by
 have h:=aas (M:=M) j hd;rw [hB] at h;split
 · exact h.1 (by assumption)
 · exact h.2 om1
end Lg
open Lg Qn
theorem MO{p:Prop}(h:p:=by
 go_wp2;all_goals go_roundw
 case rel=>
  have hQ:=HQ.out;have hQn:=HQn.out;refine⟨j,om1,by go_num, ?_, ?_, ?_,trivial⟩
  · rw [Hr.out.1]<;>(refine congrArg (Value.int IntKind.u64) ?_;(try simp only [IntKind.wrap_u64]);omega)
  · rw [Hr.out.2]<;>(refine congrArg (Value.int IntKind.u64) ?_;(try simp only [IntKind.wrap_u64]);omega)
  · rw [Hr.out.1,decide_eq_true om1]
 case measure=>simp [intOf]<;>omega):p:=h
theorem TR{p:Prop}(h:p:=by
 rcases Int.lt_or_le a 0 with sa|sa<;>rcases Int.lt_or_le b 0 with sb|sb
 · have da:decide (a<0)=true:=decide_eq_true om1;have db:decide (b<0)=true:=decide_eq_true om1;have HS:Hid (∀ n:Int,signed a b n=n):=fun n=>by unfold signed;rw [da,db];rfl
   go_wp2;all_goals go_ret2
   all_goals exact⟨by rw [HS.out,HC.out.1,HC.out.2];rfl,rfl⟩
 · have da:decide (a<0)=true:=decide_eq_true om1;have db:decide (b<0)=false:=decide_eq_false om1;have HS:Hid (∀ n:Int,signed a b n= -n):=fun n=>by unfold signed;rw [da,db];rfl
   go_wp2;all_goals go_ret2
   all_goals exact⟨by rw [HS.out,HC.out.1,HC.out.2];rfl,rfl⟩
 · have da:decide (a<0)=false:=decide_eq_false om1;have db:decide (b<0)=true:=decide_eq_true om1;have HS:Hid (∀ n:Int,signed a b n= -n):=fun n=>by unfold signed;rw [da,db];rfl
   go_wp2;all_goals go_ret2
   all_goals exact⟨by rw [HS.out,HC.out.1,HC.out.2];rfl,rfl⟩
 · have da:decide (a<0)=false:=decide_eq_false om1;have db:decide (b<0)=false:=decide_eq_false om1;have HS:Hid (∀ n:Int,signed a b n=n):=fun n=>by unfold signed;rw [da,db];rfl
   go_wp2;all_goals go_ret2
   all_goals exact⟨by rw [HS.out,HC.out.1,HC.out.2];rfl,rfl⟩):p:=h
theorem MP{p:Prop}(h:p:=by
 go_wp2;all_goals go_roundw
 case rel=>
  have hQ:=HQ.out;have hQn:=HQn.out;refine⟨j,om1,by go_num, ?_, ?_, ?_,trivial⟩
  · rw [Hr.out.1]<;>(refine congrArg (Value.int IntKind.u64) ?_;(try simp only [IntKind.wrap_u64]);omega)
  · rw [Hr.out.2]<;>(refine congrArg (Value.int IntKind.u64) ?_;(try simp only [IntKind.wrap_u64]);omega)
  · rw [Hr.out.1,decide_eq_false om1]
 case measure=>simp [intOf]<;>omega):p:=h
theorem X3{p:Prop}(h:p:=by
 by_cases c5:d<=2*R+B
 · have hr:dvQ M d j=2*Q+1/\dvR M d j=2*R+B- d:=by
    have h:=HR.out;rw [if_pos c5,if_pos c5] at h;exact h
   have Hr:=Hid.mk'' hr;clear hr HR;have c6:decide (d<=2*R+B)=true:=decide_eq_true om1;exact MO
 · have hr:dvQ M d j=2*Q/\dvR M d j=2*R+B:=by
    have h:=HR.out;rw [if_neg c5,if_neg c5] at h;exact h
   have Hr:=Hid.mk'' hr;clear hr HR;have c6:decide (d<=2*R+B)=false:=decide_eq_false om1
   exact MO):p:=h
theorem X4{p:Prop}(h:p:=by
 by_cases c5:d<=2*R+B
 · have hr:dvQ M d j=2*Q+1/\dvR M d j=2*R+B- d:=by
    have h:=HR.out;rw [if_pos c5,if_pos c5] at h;exact h
   have Hr:=Hid.mk'' hr;clear hr HR;have c6:decide (d<=2*R)=true:=decide_eq_true om1;exact MO
 · have hr:dvQ M d j=2*Q/\dvR M d j=2*R+B:=by
    have h:=HR.out;rw [if_neg c5,if_neg c5] at h;exact h
   have Hr:=Hid.mk'' hr;clear hr HR;have c6:decide (d<=2*R)=false:=decide_eq_false om1
   exact MO):p:=h
theorem X5{p:Prop}(h:p:=by
 have hx:Hid (rne M d=Q+1):=by show rne M d=_;rw [HX.out,if_neg om1]
 clear HX hq2;go_wp2_with fail
 all_goals go_meet
 all_goals refine⟨?_,rfl⟩
 all_goals rw [hx.out]
 all_goals first|(simp;done)|(simp;omega)|(trace_state;fail)):p:=h
set_option maxRecDepth 20000 in
set_option maxHeartbeats 2000000 in
theorem y8(a b:Int)(p:Nat)(w:World)(ha0: -9223372036854775808<=a)(ha1:a<=9223372036854775807)(hb0: -9223372036854775808<=b)(hb1:b<=9223372036854775807)(hb:b≠0)(hp:p<=62):
 Calls Tryz.prog 194 #[.int .i64 a, .int .i64 b, .int .i64 p] w fun e w'=>e= .returned (.tuple #[.int .i64 (signed a b (clamp (rne ((a.natAbs:Int)*2^p) b.natAbs))), .bool (great (rne ((a.natAbs:Int)*2^p) b.natAbs))])/\w'=w:=by
 obtain⟨N,hN⟩: ∃ N:Int,N=(a.natAbs:Int):=⟨_,rfl⟩;obtain⟨d,hd⟩: ∃ d:Int,d=(b.natAbs:Int):=⟨_,rfl⟩;have HSa:=Hid.mk'' (fun W=>oO a W ha0 ha1);have HSb:=Hid.mk'' (fun W=>oO b W hb0 hb1);rw [← hN] at HSa;rw [← hd] at HSb;have hN0:0<=N:=om1;have hN1:N<=9223372036854775808:=om1;have hd0:0<d:=om1;have hd1:d<=9223372036854775808:=om1;rw [← hN,← hd];obtain⟨M,hM⟩: ∃ M:Int,M=N*2^p:=⟨_,rfl⟩;have hM0:0<=M:=by rw [hM];exact Int.mul_nonneg hN0 (Int.pow_nonneg om1)
 have HS0:=Hid.mk'' (Wj (N:=N) (d:=d) p hN0 om1 hd0);have HU:=Hid.mk'' (fun j (h:p<=j)=>bit_up N p j h);have HL:=Hid.mk'' (fun j (h:j<p)=>aat N p j h);rw [← hM] at HS0 HU HL;rw [← hM];clear hM hN hd hb;go_enter Tryz.func194,Tryz.ntmps194
 go_wp2_with fail
 refine(HSa.out _).mono ?_;rintro e w1 ⟨rfl,rfl⟩;go_wp2_with fail
 refine(HSb.out _).mono ?_;rintro e w2 ⟨rfl,rfl⟩;go_wp2;go_loopw [10,11,12,13] (fun q r g i wr=> ∃ k:Nat,k<=64+p/\i= .int .i64 ((k:Int)- 1)/\q= .int .u64 (dvQ M d k%18446744073709551616)/\r= .int .u64 (dvR M d k)/\g= .bool (decide (9223372036854775808<=dvQ M d k))/\wr=w2) (fun _ _ _ i _=>(intOf i+1).toNat)
 case atStart=>
  refine⟨64+p,om1, ?_, ?_, ?_, ?_,rfl⟩
  · simp;omega
  · rw [HS0.out.1];rfl
  · rw [HS0.out.2]
  · rw [HS0.out.1];rfl
 case round=>
  obtain⟨k,hk,rfl,rfl,rfl,rfl,rfl⟩:=hrel;cases k with
  |zero=>
   have e:=dv_end M d;rw [e.1,e.2,show((0:Nat):Int)- 1= -1 from rfl];clear hk;have hX:rne M d=if 2*(M%d)<d\/2*(M%d)=d/\M/d%2=0 then M/d else M/d+1:=rfl
   have hR0:=Int.emod_nonneg M (show d≠0 by omega);have hR1:=Int.emod_lt_of_pos M hd0;have hQ0:0<=M/d:=Int.ediv_nonneg hM0 om1;obtain⟨Q,hQ⟩: ∃ Q,Q=M/d:=⟨_,rfl⟩;obtain⟨R,hR⟩: ∃ R,R=M%d:=⟨_,rfl⟩;rw [← hQ,← hR] at hX;rw [← hQ] at hQ0;rw [← hR] at hR0 hR1;rw [← hQ,← hR];obtain⟨q,hq⟩: ∃ q,q=Q%18446744073709551616:=⟨_,rfl⟩;have hq0:0<=q:=om1;have hq1:q<18446744073709551616:=om1;have hq2:q%2=Q%2:=om1;rw [← hq];have HQ:=Hid.mk'' hq;have HX:=Hid.mk'' hX;have HQ0:=Hid.mk'' hQ0;obtain⟨g,hg⟩: ∃ g,g=decide (9223372036854775808<=Q):=⟨_,rfl⟩;rw [← hg];have HG:=Hid.mk'' hg;clear hQ hR e HS0 HU HL HSa HSb hM0 hq hX hQ0 hg;go_upto_region 17 with fail
   go_cut [75] (fun v wx=>v= .bool (decide (rne M d=Q+1))/\wx=wr)
   case first=>
    rcases Int.lt_or_le d (2*R) with c|c
    · skip;have f1:decide (d- R<R)=true:=decide_eq_true om1;exact X5
    · rcases Int.lt_or_le (2*R) d with c2|c2
      · skip;have f1:decide (d- R<R)=false:=decide_eq_false om1;have f2:(R==d- R)=false:=by simp;omega
        have hx:Hid (rne M d=Q):=by show rne M d=_;rw [HX.out,if_pos om1]
        clear HX hq2;go_wp2_with fail
        all_goals go_meet
        all_goals refine⟨?_,rfl⟩
        all_goals rw [hx.out]
        all_goals first|(simp;done)|(simp;omega)|(trace_state;fail)
      · by_cases c3:q%2=1
        · skip;have f1:decide (d- R<R)=false:=decide_eq_false om1;have f2:(R==d- R)=true:=by simp;omega
          have f3:(q%2==1)=true:=by simp;omega
          exact X5
        · skip;have f1:decide (d- R<R)=false:=decide_eq_false om1;have f2:(R==d- R)=true:=by simp;omega
          have f3:(q%2==1)=false:=by simp;omega
          have hx:Hid (rne M d=Q):=by show rne M d=_;rw [HX.out,if_pos om1]
          clear HX hq2;go_wp2_with fail
          all_goals go_meet
          all_goals refine⟨?_,rfl⟩
          all_goals rw [hx.out]
          all_goals first|(simp;done)|(simp;omega)|(trace_state;fail)
   case rest=>
    obtain⟨rfl,rfl⟩:=hcut;obtain⟨up,hup⟩: ∃ up,up=decide (rne M d=Q+1):=⟨_,rfl⟩;rw [← hup];have HUp:=Hid.mk'' hup;clear hup;go_upto_if 75 with fail
    go_cut [10] (fun v wx=>v= .int .u64 (rne M d%18446744073709551616)/\wx=wc)
    case first=>
     cases up with
     |true=>
      have hx:Hid (rne M d=Q+1):=by show rne M d=Q+1;exact of_decide_eq_true HUp.out.symm
      clear HUp HX;go_wp2_with fail
      all_goals go_meet
      all_goals refine⟨?_,rfl⟩
      all_goals rw [hx.out]
      all_goals have:=HQ.out
      all_goals refine congrArg (Value.int IntKind.u64) ?_
      all_goals simp only [IntKind.wrap_u64]
      all_goals omega
     |false=>
      have hx:Hid (rne M d=Q):=by
       have h1:=HUp.out;have h2: ¬rne M d=Q+1:=of_decide_eq_false h1.symm;have h3:=HX.out;show rne M d=Q;split at h3
       · exact h3
       · exact absurd h3 h2
      clear HUp HX;go_wp2_with fail
      all_goals go_meet
      all_goals refine⟨?_,rfl⟩
      all_goals rw [hx.out,HQ.out]
    case rest=>
     clear HUp;obtain⟨rfl,rfl⟩:=hcut;have hX:=HX.out;have hQ0:=HQ0.out;have hXQ:Q<=rne M d/\rne M d<=Q+1:=by rw [hX];split<;>omega
     obtain⟨X,hx⟩: ∃ X,X=rne M d:=⟨_,rfl⟩;rw [← hx] at hXQ ⊢;have Hx:=Hid.mk'' hx;clear hX HX HQ0 hx;by_cases c:9223372036854775808<=Q
     · have hc:clamp X=4611686018427387903/\great X=true:=by
        unfold clamp great;rw [if_pos om1,decide_eq_true (show 4611686018427387903<X by omega)];exact⟨rfl,rfl⟩
       rw [Hx.out] at hc;have hgt:g=true:=by rw [HG.out];exact decide_eq_true c
       obtain⟨y,hy⟩: ∃ y,y=X%18446744073709551616:=⟨_,rfl⟩;rw [← hy];have HC:=Hid.mk'' hc;clear hc HG c hy hXQ Hx;subst hgt;exact TR
     · have hgt:g=false:=by rw [HG.out];exact decide_eq_false c
       have hy:X%18446744073709551616=X:=om1;rw [hy];subst hgt;by_cases c2:4611686018427387903<X
       · have hc:clamp X=4611686018427387903/\great X=true:=by
          unfold clamp great;rw [if_pos om1,decide_eq_true (show 4611686018427387903<X by omega)];exact⟨rfl,rfl⟩
         rw [Hx.out] at hc;have HC:=Hid.mk'' hc;clear hc HG c hy Hx;exact TR
       · have hc:clamp X=X/\great X=false:=by
          have:great X=false:=vz.2 ⟨om1,om1⟩;exact⟨KP this,this⟩
         have HC:Hid (clamp (rne M d)=X/\great (rne M d)=false):=by rw [← Hx.out];exact hc
         clear hc HG c hy Hx;exact TR
  |succ j=>
   have eB: ∃ B,M/2^j%2=B:=⟨_,rfl⟩;obtain⟨B,hB⟩:=eB;have hr:=Wl j hM0 hd0 hB;have hB0:0<=B/\B<=1:=om1;have hRb:=dvR_bd M (j+1) hd0;have hQn:=dvQ_nn (j+1) hM0 hd0;obtain⟨Q,hQ⟩: ∃ Q,Q=dvQ M d (j+1):=⟨_,rfl⟩;obtain⟨R,hR⟩: ∃ R,R=dvR M d (j+1):=⟨_,rfl⟩;rw [← hQ,← hR] at hr;rw [← hR] at hRb;rw [← hQ] at hQn;rw [← hQ,← hR,show((j+1:Nat):Int)- 1=(j:Int) by omega];obtain⟨q,hq⟩: ∃ q,q=Q%18446744073709551616:=⟨_,rfl⟩;have hq0:0<=q:=om1;have hq1:q<18446744073709551616:=om1;rw [← hq];have HQ:=Hid.mk'' hq;have HR:=Hid.mk'' hr;have HQn:=Hid.mk'' hQn;clear hr hQ hR hq HS0 HSa HSb;obtain⟨g,hg⟩: ∃ g,g=decide (9223372036854775808<=Q):=⟨_,rfl⟩;rw [← hg];have HG:=Hid.mk'' hg;clear hg;have t0:decide (9223372036854775808<=R)=false:=decide_eq_false om1;have hj0:(0:Int)<=(j:Int):=om1;have HB:=Hid.mk'' hB;clear hB hM0;by_cases hpj:p<=j
   · obtain⟨s,hs⟩: ∃ s:Nat,s=j- p:=⟨_,rfl⟩;have hs1:(j:Int)- (p:Int)=(s:Int):=om1;have hs2:s<64:=om1;have hb1':=HU.out j hpj;rw [HB.out,← hs] at hb1';obtain⟨D,hD⟩: ∃ D,(2:Int)^s=D:=⟨_,rfl⟩;rw [hD] at hb1';have hD0:0<D:=by rw [← hD];exact Int.pow_pos om1
     have hB':(N/D).tmod 2=B:=by rw [Int.tmod_eq_emod_of_nonneg (Int.ediv_nonneg hN0 om1)];exact hb1'.symm
     have hs3:(0:Int)<=(s:Int):=om1;have hs4:(s:Int)<64:=om1;clear hb1' hs HU HL;by_cases c1:9223372036854775808<=Q
     · have g1:g=true:=by rw [HG.out];exact decide_eq_true c1
       clear HG;subst g1;exact X3
     · have g1:g=false:=by rw [HG.out];exact decide_eq_false c1
       clear HG;subst g1;by_cases c4:4611686018427387904<=Q
       · have g2:decide (4611686018427387904<=q)=true:=decide_eq_true (by have:=HQ.out;omega);exact X3
       · have g2:decide (4611686018427387904<=q)=false:=decide_eq_false (by have:=HQ.out;omega);by_cases c5:d<=2*R+B
         · have hr:dvQ M d j=2*Q+1/\dvR M d j=2*R+B- d:=by
            have h:=HR.out;rw [if_pos c5,if_pos c5] at h;exact h
           have Hr:=Hid.mk'' hr;clear hr HR;have c6:decide (d<=2*R+B)=true:=decide_eq_true om1;exact MP
         · have hr:dvQ M d j=2*Q/\dvR M d j=2*R+B:=by
            have h:=HR.out;rw [if_neg c5,if_neg c5] at h;exact h
           have Hr:=Hid.mk'' hr;clear hr HR;have c6:decide (d<=2*R+B)=false:=decide_eq_false om1;exact MP
   · have hb1':=HL.out j om1;rw [HB.out] at hb1';have hjp:(j:Int)<(p:Int):=om1;clear HU HL;by_cases c1:9223372036854775808<=Q
     · have g1:g=true:=by rw [HG.out];exact decide_eq_true c1
       clear HG;subst g1;exact X4
     · have g1:g=false:=by rw [HG.out];exact decide_eq_false c1
       clear HG;subst g1;by_cases c4:4611686018427387904<=Q
       · have g2:decide (4611686018427387904<=q)=true:=decide_eq_true (by have:=HQ.out;omega);exact X4
       · have g2:decide (4611686018427387904<=q)=false:=decide_eq_false (by have:=HQ.out;omega);by_cases c5:d<=2*R+B
         · have hr:dvQ M d j=2*Q+1/\dvR M d j=2*R+B- d:=by
            have h:=HR.out;rw [if_pos c5,if_pos c5] at h;exact h
           have Hr:=Hid.mk'' hr;clear hr HR;have c6:decide (d<=2*R)=true:=decide_eq_true om1;exact MP
         · have hr:dvQ M d j=2*Q/\dvR M d j=2*R+B:=by
            have h:=HR.out;rw [if_neg c5,if_neg c5] at h;exact h
           have Hr:=Hid.mk'' hr;clear hr HR;have c6:decide (d<=2*R)=false:=decide_eq_false om1;exact MP
end Go.Proofs.YtcefcokpjbebhaaGreatDoor
