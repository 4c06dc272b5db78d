/-
  Go's own division of two words by one.
-/
import Derived.Test.YtcefcokpjbebhaaGreatDoorM13
import Derived.Test.YtcefcokpjbebhaaGreatDoorQL
import Derived.Test.YtcefcokpjbebhaaGreatDoorM1
import Derived.Test.YtcefcokpjbebhaaGreatDoorM3
import Derived.Test.YtcefcokpjbebhaaGreatDoorM2
import Derived.Laws.BitsAllLaws
import Derived.Deep.RegionWith
import Derived.Lib.BitFns
import Derived.Test.YtcefcokpjbebhaaGreatDoorM7
import Derived.Deep.RegionHeld3
set_option linter.unusedSimpArgs false
set_option linter.unusedVariables false
set_option maxHeartbeats 2000000
set_option maxRecDepth 20000
namespace Go.Proofs.YtcefcokpjbebhaaGreatDoor
section
open Go.RowKit Qn
theorem zeros64_any(x:Int)(w:World)(h0:0<x)(h1:x<=18446744073709551615):
 Calls Tryz.prog 272 #[.int .u64 x] w fun e w'=> ∃ s:Nat,e= .returned (.int .i64 (s:Int))/\s<=63/\9223372036854775808<=x*2^s/\x*2^s<18446744073709551616/\w'=w:=by
 obtain⟨s,e1,e2,e3,e4⟩:=zeros_spec x.toNat (by omega) (by omega);have hx:((x.toNat:Nat):Int)=x:=by omega
 have hc:x*2^s=((x.toNat*2^s:Nat):Int):=by rw [Int.natCast_mul,hx,Int.natCast_pow];rfl
 have e3':9223372036854775808<=x*2^s:=by rw [hc];omega
 have e4':x*2^s<18446744073709551616:=by rw [hc];omega
 have E1:Hid (s+Lib.bitLen x.toNat=64):=e1;clear e1 e3 e4 hx hc;go_enter Tryz.func272,Tryz.ntmps272
 go_wp2_with (go_at_call 294;refine(len64_int x _ (by omega) h1).mono ?_;rintro e w' ⟨rfl,rfl⟩)
 go_ret;refine⟨s,congrArg Ending.returned (congrArg (Value.int IntKind.i64) ?_),e2,e3',e4',rfl⟩;have:=E1.out;simp only [wrap64,IntKind.wrap_i64];omega
namespace Qn
theorem or_up(a b D:Int)(s:Nat)(hD:(2:Int)^s=D)(hb0:0<=b)(hb:b<D)(ha0:0<=a)(ha1:a<18446744073709551616)(hDW:D<=18446744073709551616)(hk: ∃ k:Int,0<=k/\a=D*k):bits .or .u64 a b=a+b:=by
 obtain⟨k,hk0,hk⟩:=hk;obtain⟨A,rfl⟩:=Int.eq_ofNat_of_zero_le ha0;obtain⟨B,rfl⟩:=Int.eq_ofNat_of_zero_le hb0;obtain⟨K,rfl⟩:=Int.eq_ofNat_of_zero_le hk0;have hD':D=((2^s:Nat):Int):=by rw [← hD];simp
 subst hD';rw [bits_or_u64_nat A B (by omega) (by omega)];have hA:A=2^s*K:=by have:=hk;rw [← Int.natCast_mul] at this;omega
 rw [nat_join s A B (by rw [hA];exact Nat.mul_mod_right _ _) (by omega)];omega
theorem mask_half(x:Int)(h0:0<=x)(h1:x<=18446744073709551615):bits .and .u64 x 4294967295=x%4294967296:=by
 obtain⟨X,rfl⟩:=Int.eq_ofNat_of_zero_le h0;rw [mask32 X (by omega)];omega
end Qn
namespace Qn
structure DivNames(h l y D E Y Y1 Y0 U L u1 u0:Int):Prop where
 a1:y*D=Y
 a2:Y/4294967296=Y1
 a3:bits .and .u64 Y 4294967295=Y0
 a5:bits .or .u64 (IntKind.u64.wrap (h*D)) (l/E)=U
 a6:IntKind.u64.wrap (l*D)=L
 a7:L/4294967296=u1
 a8:bits .and .u64 L 4294967295=u0
 y1l:2147483648<=Y1
 y1h:Y1<4294967296
 y0l:0<=Y0
 y0h:Y0<4294967296
 yy:Y=Y1*4294967296+Y0
 ul:0<=U
 uh:U<Y
 ll:0<=L
 lh:L<18446744073709551616
 u1l:0<=u1
 u1h:u1<4294967296
 u0l:0<=u0
 u0h:u0<4294967296
 lu:L=u1*4294967296+u0
 qq:(U*18446744073709551616+L)/Y=(h*18446744073709551616+l)/y
 rr:(U*18446744073709551616+L)%Y/D=(h*18446744073709551616+l)%y
theorem div_names(h l y D E:Int)(s t:Nat)(h0:0<=h)(h1:h<y)(l0:0<=l)(l1:l<=18446744073709551615)(hst:s+t=64)(hD:(2:Int)^s=D)(hE:(2:Int)^t=E)(e3:9223372036854775808<=y*D)(e4:y*D<18446744073709551616):
 ∃ Y Y1 Y0 U L u1 u0,DivNames h l y D E Y Y1 Y0 U L u1 u0:=by
 have hD0:0<D:=by rw [← hD];exact Int.pow_pos (by omega)
 have hE0:0<E:=by rw [← hE];exact Int.pow_pos (by omega)
 have hDE:D*E=18446744073709551616:=by rw [← hD,← hE,← Int.pow_add,hst];rfl
 have hDW:D<=18446744073709551616:=by
  have:D*1<=D*E:=Int.mul_le_mul_of_nonneg_left (by omega) (by omega);omega
 have hhD:h*D+D<=y*D:=by
  have:(h+1)*D<=y*D:=Int.mul_le_mul_of_nonneg_right (by omega) (by omega);rw [Int.add_mul,Int.one_mul] at this;exact this
 have hhD0:0<=h*D:=Int.mul_nonneg h0 (by omega);have hle0:0<=l/E:=Int.ediv_nonneg l0 (by omega);have hle1:l/E<D:=Int.ediv_lt_of_lt_mul hE0 (by rw [hDE];omega);have hw:IntKind.u64.wrap (h*D)=h*D:=by rw [IntKind.wrap_u64];omega
 have hor:bits .or .u64 (IntKind.u64.wrap (h*D)) (l/E)=h*D+l/E:=by
  rw [hw];exact or_up _ _ D s hD hle0 hle1 hhD0 (by omega) hDW ⟨h,h0,Int.mul_comm _ _⟩
 have hL:IntKind.u64.wrap (l*D)=l*D%18446744073709551616:=by rw [IntKind.wrap_u64]
 have hL0:0<=l*D%18446744073709551616:=by omega
 have hL1:l*D%18446744073709551616<18446744073709551616:=by omega
 obtain⟨k1,k2⟩:=shifted (h:=h) (l:=l) (y:=y) (U:=h*D+l/E) (L:=l*D%18446744073709551616) (by omega) hD0 hE0 hDE l0 rfl rfl;generalize hLn:l*D%18446744073709551616=L at*;generalize hYn:y*D=Y at*;exact⟨Y,Y/4294967296,Y%4294967296,h*D+l/E,L,L/4294967296,L%4294967296,{ a1:=hYn,a2:=rfl,a3:=mask_half Y (by omega) (by omega),a5:=hor,a6:=hL,a7:=rfl,a8:=mask_half L hL0 (by omega),y1l:=by omega,y1h:=by omega,y0l:=by omega,y0h:=by omega,yy:=by omega,ul:=by omega,uh:=by omega,ll:=hL0,lh:=hL1,u1l:=by omega,u1h:=by omega,u0l:=by omega,u0h:=by omega,lu:=by omega,qq:=k1,rr:=k2 }⟩
end Qn
theorem qgFa2{p:Prop}(h:p:=by
 unfold Hid;rw [← HN.out.qq,← HN.out.rr];obtain⟨k1,k2⟩:=two_digits (V:=U*18446744073709551616+L) (U:=U) (u1:=u1) (u0:=u0) (Y:=Y) (by omega) (by have:=HN.out.lu;omega);rw [hR,hT] at k2;rw [hR,← hZY.out,← hQY.out] at k1;rw [k1,k2]
 exact⟨rfl,rfl⟩):p:=h
theorem qgFa3{p:Prop}(h:p:=by
 by_cases c2:rh3+Y1<4294967296
 · go_wp2;go_round
   case rel=>exact⟨q3- 1,rh3+Y1,rfl,rfl,c2,hd⟩
   case measure=>simp [intOf];omega
 · have hq0:Hid (q3- 1=(R*4294967296+u0)/(Y1*4294967296+Y0)):=dAt_done hd.out y1l y0l (dAt_break hd.out (by omega) y0l y0h u0l (by omega));obtain⟨Zv,hqv⟩: ∃ Zv,q3- 1=Zv:=⟨_,rfl⟩;rw [hqv] at hq0;have hZ:=hq0;clear hd hq0;have hZY:Hid (Zv=(R*4294967296+u0)/Y):=by unfold Hid;rw [hZ.out,← HN.out.yy]
   have zb:=dig_lt R0 R1 u0l u0h;rw [← hZY.out] at zb
   have f2:IntKind.u64.wrap (IntKind.u64.wrap (IntKind.u64.wrap (R*4294967296)+u0)- IntKind.u64.wrap (Zv*Y))=T:=by
    have:=dig_rest (un:=R) (u1:=u0) (Y:=Y) (q:=Zv) (by omega) yyc hZY.out;rw [hT] at this;simp only [IntKind.wrap_u64];omega
   have HF:Hid (Qv*4294967296+Zv=(h*18446744073709551616+l)/y/\T/D=(h*18446744073709551616+l)%y):=by
    exact qgFa2
   clear hZ hZY hT hR;go_wp2;go_ret2
   exact⟨ret_ii HF.out.1 HF.out.2,0,rfl⟩):p:=h
theorem qgFa1{p:Prop}(h:p:=by
 by_cases c2:rh+Y1<4294967296
 ·go_wp2;go_round
  case rel=>exact⟨q2- 1,rh+Y1,rfl,rfl,c2,hd⟩
  case measure=>simp [intOf];omega
 ·have hq0:Hid (q2- 1=(U*4294967296+u1)/(Y1*4294967296+Y0)):=dAt_done hd.out y1l y0l (dAt_break hd.out (by omega) y0l y0h u1l (by omega));obtain⟨Qv,hqv⟩: ∃ Qv,q2- 1=Qv:=⟨_,rfl⟩;rw [hqv] at hq0;have hQ:=hq0;clear hd hq0;have hQY:Hid (Qv=(U*4294967296+u1)/Y):=by unfold Hid;rw [hQ.out,← HN.out.yy]
  have qb:=dig_lt ul uh u1l u1h;rw [← hQY.out] at qb;obtain⟨R,hR⟩: ∃ R,(U*4294967296+u1)%Y=R:=⟨_,rfl⟩;have R0:0<=R:=by rw [← hR];exact Int.emod_nonneg _ (by omega)
  have R1:R<Y:=by rw [← hR];exact Int.emod_lt_of_pos _ (by omega)
  have f1:IntKind.u64.wrap (IntKind.u64.wrap (IntKind.u64.wrap (U*4294967296)+u1)- IntKind.u64.wrap (Qv*Y))=R:=by
   have:=dig_rest (un:=U) (u1:=u1) (Y:=Y) (q:=Qv) (by omega) yyc hQY.out;rw [hR] at this;simp only [IntKind.wrap_u64];omega
  have RY:Hid (R<Y1*4294967296+Y0):=(by have:=HN.out.yy;unfold Hid;omega);have st2:=dAt_start R0 y1l y1h y0l y0h u0l u0h RY.out;obtain⟨z,hz2⟩: ∃ z,R/Y1=z:=⟨_,rfl⟩;rw [hz2] at st2;obtain⟨m2,hm2⟩: ∃ m2,z*Y1=m2:=⟨_,rfl⟩;rw [hm2] at st2;have ST2:Hid (DAt R Y1 Y0 u0 z (R- m2)):=st2;have b1:=st2.1;have b2:=st2.2.1;have b3:=st2.2.2.1;clear st2;have m0:0<=m2:=by rw [← hm2];exact Int.mul_nonneg b1 (by omega)
  obtain⟨T,hT⟩: ∃ T,(R*4294967296+u0)%Y=T:=⟨_,rfl⟩;have T0:0<=T:=by rw [← hT];exact Int.emod_nonneg _ (by omega)
  have T1:T<Y:=by rw [← hT];exact Int.emod_lt_of_pos _ (by omega)
  have HT:Hid ((R*4294967296+u0)%Y=T):=hT;have HRR:Hid ((U*4294967296+u1)%Y=R):=hR;clear hR hT hQ;go_wp2;go_loop [18,16] (fun a b=> ∃ q rh:Int,a= .int .u64 q/\b= .int .u64 rh/\rh<4294967296/\Hid (DAt R Y1 Y0 u0 q rh)) (fun a _=>(intOf a).toNat)
  case atStart=>exact⟨z,R- m2,by first|rfl|rw [hz2],rfl,(by have:=Int.emod_lt_of_pos R (show 0<Y1 by omega);have:=Int.emod_add_mul_ediv R Y1;rw [hz2,Int.mul_comm,hm2] at this;omega),ST2⟩
  case round=>
   clear hz2 hm2 ST2 b1 b2 b3 m0 f1;have hT:=HT.out;have hR:=HRR.out;obtain⟨q3,rh3,rfl,rfl,hrh3,hA3⟩:=hrel;have g1:=hA3.out.1;have g2:=hA3.out.2.1;have g3:=hA3.out.2.2.1;obtain⟨p,hp⟩: ∃ p,q3*Y0=p:=⟨_,rfl⟩;have hp0:0<=p:=by rw [← hp];exact Int.mul_nonneg g1 y0l
   by_cases c1:4294967296<=q3
   ·have hd:Hid (DAt R Y1 Y0 u0 (q3- 1) (rh3+Y1)):=dAt_down hA3.out y1l y0l u0l u0h RY.out (Or.inl c1);exact qgFa3
   ·have hpW:p<=18446744065119617025:=by
     have:q3*Y0<=4294967295*4294967295:=Int.mul_le_mul (by omega) (by omega) y0l (by omega);omega
    by_cases c3:4294967296*rh3+u0<p
    ·have hd:Hid (DAt R Y1 Y0 u0 (q3- 1) (rh3+Y1)):=dAt_down hA3.out y1l y0l u0l u0h RY.out (Or.inr (by omega));have q1:1<=q3:=by have:=hd.out.1;omega
     exact qgFa3
    ·have hZ:Hid (q3=(R*4294967296+u0)/(Y1*4294967296+Y0)):=dAt_done hA3.out y1l y0l (by omega);have hZY:Hid (q3=(R*4294967296+u0)/Y):=by unfold Hid;rw [hZ.out,← HN.out.yy]
     have zb:=dig_lt R0 R1 u0l u0h;rw [← hZY.out] at zb
     have f2:IntKind.u64.wrap (IntKind.u64.wrap (IntKind.u64.wrap (R*4294967296)+u0)- IntKind.u64.wrap (q3*Y))=T:=by
      have:=dig_rest (un:=R) (u1:=u0) (Y:=Y) (q:=q3) (by omega) yyc hZY.out;rw [hT] at this;simp only [IntKind.wrap_u64];omega
     have HF:Hid (Qv*4294967296+q3=(h*18446744073709551616+l)/y/\T/D=(h*18446744073709551616+l)%y):=by
      exact qgFa2
     clear hZ hZY hT hR;go_wp2;go_ret2
     exact⟨ret_ii HF.out.1 HF.out.2,0,rfl⟩):p:=h
theorem qgFa4{p:Prop}(h:p:=by
 by_cases c2:rh3+Y1<4294967296
 · go_wp2;go_round
   case rel=>exact⟨q3- 1,rh3+Y1,rfl,rfl,c2,hd⟩
   case measure=>simp [intOf];omega
 · have hq0:Hid (q3- 1=(R*4294967296+u0)/(Y1*4294967296+Y0)):=dAt_done hd.out y1l y0l (dAt_break hd.out (by omega) y0l y0h u0l (by omega));obtain⟨Zv,hqv⟩: ∃ Zv,q3- 1=Zv:=⟨_,rfl⟩;rw [hqv] at hq0;have hZ:=hq0;clear hd hq0;have hZY:Hid (Zv=(R*4294967296+u0)/Y):=by unfold Hid;rw [hZ.out,← HN.out.yy]
   have zb:=dig_lt R0 R1 u0l u0h;rw [← hZY.out] at zb
   have f2:IntKind.u64.wrap (IntKind.u64.wrap (IntKind.u64.wrap (R*4294967296)+u0)- IntKind.u64.wrap (Zv*Y))=T:=by
    have:=dig_rest (un:=R) (u1:=u0) (Y:=Y) (q:=Zv) (by omega) yyc hZY.out;rw [hT] at this;simp only [IntKind.wrap_u64];omega
   have HF:Hid (q2*4294967296+Zv=(h*18446744073709551616+l)/y/\T/D=(h*18446744073709551616+l)%y):=by
    exact qgFa2
   clear hZ hZY hT hR;go_wp2;go_ret2
   exact⟨ret_ii HF.out.1 HF.out.2,0,rfl⟩):p:=h
theorem div64_any(h l y:Int)(w:World)(h0:0<=h)(h1:h<y)(l0:0<=l)(l1:l<=18446744073709551615)(y1:y<=18446744073709551615):
 Calls Tryz.prog 221 #[.int .u64 h, .int .u64 l, .int .u64 y] w fun e w'=>e= .returned (.tuple #[.int .u64 ((h*18446744073709551616+l)/y), .int .u64 ((h*18446744073709551616+l)%y)])/\ ∃ n,w'=w.drewN n:=by
 have hy0:0<y:=by omega
 have hyb:(y==0)=false:=by simp;omega
 by_cases hz:h=0
 · subst hz;go_enter Tryz.func221,Tryz.ntmps221
   go_wp2;go_quiet (fail)
   go_wp2;go_ret2;exact⟨ret_ii (by rw [Int.zero_mul,Int.zero_add]) (by rw [Int.zero_mul,Int.zero_add]),_,rfl⟩
 · have hzb:(h==0)=false:=by simpa using hz
   go_enter Tryz.func221,Tryz.ntmps221
   go_wp2_with fail
   refine(zeros64_any y _ hy0 y1).mono ?_;rintro e w' ⟨s,rfl,hs,e3,e4,rfl⟩;obtain⟨t,hst⟩: ∃ t,s+t=64:=⟨64- s,by omega⟩;obtain⟨D,hD⟩: ∃ D,(2:Int)^s=D:=⟨_,rfl⟩;obtain⟨E,hE⟩: ∃ E,(2:Int)^t=E:=⟨_,rfl⟩;rw [hD] at e3 e4;have hs0:(0:Int)<=(s:Int):=by omega
   have hs1:(s:Int)<=63:=by omega
   have ht0:(0:Int)<=(t:Int):=by omega
   have ht1:(t:Int)<=64:=by omega
   have a4:IntKind.u64.wrap (64- (s:Int))=(t:Int):=by rw [IntKind.wrap_u64];omega
   obtain⟨Y,Y1,Y0,U,L,u1,u0,N⟩:=div_names h l y D E s t h0 h1 l0 l1 hst hD hE e3 e4;have HN:Hid (DivNames h l y D E Y Y1 Y0 U L u1 u0):=N;obtain⟨a1,a2,a3,a5,a6,a7,a8,y1l,y1h,y0l,y0h,yy,ul,uh,ll,lh,u1l,u1h,u0l,u0h,lu,_,_⟩:=N;have st1:=dAt_start ul y1l y1h y0l y0h u1l u1h (by omega);obtain⟨q,hq⟩: ∃ q,U/Y1=q:=⟨_,rfl⟩;rw [hq] at st1;obtain⟨m,hm⟩: ∃ m,q*Y1=m:=⟨_,rfl⟩;rw [hm] at st1;have ST:Hid (DAt U Y1 Y0 u1 q (U- m)):=st1;obtain⟨b1,b2,b3,b4,_⟩:=st1;have m0:0<=m:=by rw [← hm];exact Int.mul_nonneg b1 (by omega)
   have yyb:9223372036854775808<=Y:=by omega
   have yyc:Y<18446744073709551616:=by omega
   clear hst b4 e3 e4 yy lu h1 hz;have uh2:Hid (U<Y1*4294967296+Y0):=(by have:=HN.out.yy;unfold Hid;omega);go_wp2;go_loop [15,16] (fun a b=> ∃ q rh:Int,a= .int .u64 q/\b= .int .u64 rh/\rh<4294967296/\Hid (DAt U Y1 Y0 u1 q rh)) (fun a _=>(intOf a).toNat)
   case atStart=>exact⟨q,U- m,by rw [hq],rfl,(by have:=Int.emod_lt_of_pos U (show 0<Y1 by omega);have:=Int.emod_add_mul_ediv U Y1;rw [hq,Int.mul_comm,hm] at this;omega),ST⟩
   case round=>
    clear hq hm ST b1 b2 b3 m0;obtain⟨q2,rh,rfl,rfl,hrh,hA⟩:=hrel;have g1:=hA.out.1;have g2:=hA.out.2.1;have g3:=hA.out.2.2.1;obtain⟨p,hp⟩: ∃ p,q2*Y0=p:=⟨_,rfl⟩;have hp0:0<=p:=by rw [← hp];exact Int.mul_nonneg g1 y0l
    by_cases c1:4294967296<=q2
    · have hd:Hid (DAt U Y1 Y0 u1 (q2- 1) (rh+Y1)):=dAt_down hA.out y1l y0l u1l u1h uh2.out (Or.inl c1);exact qgFa1
    · have hpW:p<=18446744065119617025:=by
       have:q2*Y0<=4294967295*4294967295:=Int.mul_le_mul (by omega) (by omega) y0l (by omega);omega
      by_cases c3:4294967296*rh+u1<p
      · have hd:Hid (DAt U Y1 Y0 u1 (q2- 1) (rh+Y1)):=dAt_down hA.out y1l y0l u1l u1h uh2.out (Or.inr (by omega));have q1:1<=q2:=by have:=hd.out.1;omega
        exact qgFa1
      · have hQ:Hid (q2=(U*4294967296+u1)/(Y1*4294967296+Y0)):=dAt_done hA.out y1l y0l (by omega);have hQY:Hid (q2=(U*4294967296+u1)/Y):=by unfold Hid;rw [hQ.out,← HN.out.yy]
        have qb:=dig_lt ul uh u1l u1h;rw [← hQY.out] at qb;obtain⟨R,hR⟩: ∃ R,(U*4294967296+u1)%Y=R:=⟨_,rfl⟩;have R0:0<=R:=by rw [← hR];exact Int.emod_nonneg _ (by omega)
        have R1:R<Y:=by rw [← hR];exact Int.emod_lt_of_pos _ (by omega)
        have f1:IntKind.u64.wrap (IntKind.u64.wrap (IntKind.u64.wrap (U*4294967296)+u1)- IntKind.u64.wrap (q2*Y))=R:=by
         have:=dig_rest (un:=U) (u1:=u1) (Y:=Y) (q:=q2) (by omega) yyc hQY.out;rw [hR] at this;simp only [IntKind.wrap_u64];omega
        have RY:Hid (R<Y1*4294967296+Y0):=(by have:=HN.out.yy;unfold Hid;omega);have st2:=dAt_start R0 y1l y1h y0l y0h u0l u0h RY.out;obtain⟨z,hz2⟩: ∃ z,R/Y1=z:=⟨_,rfl⟩;rw [hz2] at st2;obtain⟨m2,hm2⟩: ∃ m2,z*Y1=m2:=⟨_,rfl⟩;rw [hm2] at st2;have ST2:Hid (DAt R Y1 Y0 u0 z (R- m2)):=st2;have b1:=st2.1;have b2:=st2.2.1;have b3:=st2.2.2.1;clear st2;have m0:0<=m2:=by rw [← hm2];exact Int.mul_nonneg b1 (by omega)
        obtain⟨T,hT⟩: ∃ T,(R*4294967296+u0)%Y=T:=⟨_,rfl⟩;have T0:0<=T:=by rw [← hT];exact Int.emod_nonneg _ (by omega)
        have T1:T<Y:=by rw [← hT];exact Int.emod_lt_of_pos _ (by omega)
        have HT:Hid ((R*4294967296+u0)%Y=T):=hT;have HRR:Hid ((U*4294967296+u1)%Y=R):=hR;clear hR hT hQ;go_wp2;go_loop [18,16] (fun a b=> ∃ q rh:Int,a= .int .u64 q/\b= .int .u64 rh/\rh<4294967296/\Hid (DAt R Y1 Y0 u0 q rh)) (fun a _=>(intOf a).toNat)
        case atStart=>exact⟨z,R- m2,by first|rfl|rw [hz2],rfl,(by have:=Int.emod_lt_of_pos R (show 0<Y1 by omega);have:=Int.emod_add_mul_ediv R Y1;rw [hz2,Int.mul_comm,hm2] at this;omega),ST2⟩
        case round=>
         clear hz2 hm2 ST2 b1 b2 b3 m0 f1;have hT:=HT.out;have hR:=HRR.out;obtain⟨q3,rh3,rfl,rfl,hrh3,hA3⟩:=hrel;have g1:=hA3.out.1;have g2:=hA3.out.2.1;have g3:=hA3.out.2.2.1;obtain⟨p,hp⟩: ∃ p,q3*Y0=p:=⟨_,rfl⟩;have hp0:0<=p:=by rw [← hp];exact Int.mul_nonneg g1 y0l
         by_cases c1:4294967296<=q3
         · have hd:Hid (DAt R Y1 Y0 u0 (q3- 1) (rh3+Y1)):=dAt_down hA3.out y1l y0l u0l u0h RY.out (Or.inl c1);exact qgFa4
         · have hpW:p<=18446744065119617025:=by
            have:q3*Y0<=4294967295*4294967295:=Int.mul_le_mul (by omega) (by omega) y0l (by omega);omega
           by_cases c3:4294967296*rh3+u0<p
           · have hd:Hid (DAt R Y1 Y0 u0 (q3- 1) (rh3+Y1)):=dAt_down hA3.out y1l y0l u0l u0h RY.out (Or.inr (by omega));have q1:1<=q3:=by have:=hd.out.1;omega
             exact qgFa4
           · have hZ:Hid (q3=(R*4294967296+u0)/(Y1*4294967296+Y0)):=dAt_done hA3.out y1l y0l (by omega);have hZY:Hid (q3=(R*4294967296+u0)/Y):=by unfold Hid;rw [hZ.out,← HN.out.yy]
             have zb:=dig_lt R0 R1 u0l u0h;rw [← hZY.out] at zb
             have f2:IntKind.u64.wrap (IntKind.u64.wrap (IntKind.u64.wrap (R*4294967296)+u0)- IntKind.u64.wrap (q3*Y))=T:=by
              have:=dig_rest (un:=R) (u1:=u0) (Y:=Y) (q:=q3) (by omega) yyc hZY.out;rw [hT] at this;simp only [IntKind.wrap_u64];omega
             have HF:Hid (q2*4294967296+q3=(h*18446744073709551616+l)/y/\T/D=(h*18446744073709551616+l)%y):=by
              exact qgFa2
             clear hZ hZY hT hR;go_wp2;go_ret2;exact⟨ret_ii HF.out.1 HF.out.2,0,rfl⟩
end
section
open Go.RowKit Qn
namespace Qn
theorem quo_words{n c:Int}(h0:0<=n)(h1:n<340282366920938463463374607431768211456)(hc:0<c)(hc1:c<=18446744073709551615):
 (mi n%c*18446744073709551616+lo n)/c=lo (n/c)/\mi n/c=mi (n/c)/\(0:Int)=hi (n/c)/\(mi n%c*18446744073709551616+lo n)%c=n%c:=by
 have hn:n=mi n*18446744073709551616+lo n:=by unfold mi lo;omega
 have hm0:=(mi_bd n).1;have hm1:=(mi_bd n).2;have hl0:=(lo_bd n).1;have hl1:=(lo_bd n).2;generalize hM:mi n=M at*;generalize hL:lo n=L at*;have hd:=Int.emod_add_mul_ediv M c;have he0:=Int.emod_nonneg M (show c≠0 by omega);have he1:=Int.emod_lt_of_pos M hc
 have e:n=M%c*18446744073709551616+L+c*(M/c*18446744073709551616):=by
  have h2:c*(M/c*18446744073709551616)=c*(M/c)*18446744073709551616:=by rw [Int.mul_assoc]
  rw [h2];omega
 have e1:n/c=M/c*18446744073709551616+(M%c*18446744073709551616+L)/c:=by
  rw [e,Int.add_mul_ediv_left _ _ (by omega)];omega
 have e2:n%c=(M%c*18446744073709551616+L)%c:=by
  rw [e,Int.add_mul_emod_self_left]
 have f0:0<=(M%c*18446744073709551616+L)/c:=Int.ediv_nonneg (by omega) (by omega);have f1:(M%c*18446744073709551616+L)/c<18446744073709551616:=Int.ediv_lt_of_lt_mul hc (by omega);have g0:0<=M/c:=Int.ediv_nonneg hm0 (by omega);have g1:M/c<=M:=Int.ediv_le_self _ hm0;refine⟨?_, ?_, ?_,e2.symm⟩
 · rw [e1];unfold lo;omega
 · rw [e1];unfold mi;omega
 · rw [e1];unfold hi;omega
theorem rne_if{n d:Int}:rne n d=if n%d<d- n%d\/n%d=d- n%d/\n/d%2=0 then n/d else n/d+1:=by
 unfold rne;by_cases c1:2*(n%d)<d
 · rw [if_pos (Or.inl c1),if_pos (Or.inl (by omega))]
 · by_cases c2:2*(n%d)=d/\n/d%2=0
   · rw [if_pos (Or.inr c2),if_pos (Or.inr (by omega))]
   · rw [if_neg (by omega),if_neg (by omega)]
end Qn
theorem quotient_any(a b c:Int)(w:World)(ha0:0<=a)(ha1:a<=18446744073709551615)(hb0:0<=b)(hb1:b<=18446744073709551615)(hc0:0<c)(hc1:c<=18446744073709551615):
 Calls Tryz.prog 276 #[.int .u64 a, .int .u64 b, .int .u64 c] w fun e w'=>e= .returned (.agg #[.int .u64 (lo (rne (a*b) c)), .int .u64 (mi (rne (a*b) c)), .int .u64 (hi (rne (a*b) c))])/\Below w.heap.size w w':=by
 have hp0:0<=a*b:=Int.mul_nonneg ha0 hb0
 have hp1:a*b<340282366920938463463374607431768211456:=by
  have:a*b<=18446744073709551615*18446744073709551615:=Int.mul_le_mul ha1 hb1 hb0 (by omega);omega
 have HM:Hid (∀ wx,Calls Tryz.prog 220 #[.int .u64 a, .int .u64 b] wx fun e w'=>e= .returned (.tuple #[.int .u64 (mi (a*b)), .int .u64 (lo (a*b))])/\w'=wx):=fun wx=>mul64_any a b ha0 ha1 hb0 hb1 wx;generalize a*b=n at*;obtain⟨e1,e2,e3,e4⟩:=quo_words hp0 hp1 hc0 hc1;have hm0:=(mi_bd n).1;have hm1:=(mi_bd n).2;have hl0:=(lo_bd n).1;have hl1:=(lo_bd n).2;have he0:=Int.emod_nonneg (mi n) (show c≠0 by omega);have he1:=Int.emod_lt_of_pos (mi n) hc0;have hr0:=Int.emod_nonneg n (show c≠0 by omega);have hr1:=Int.emod_lt_of_pos n hc0;have hcb:(c==0)=false:=by simp;omega
 have hw:IntKind.u64.wrap (c- n%c)=c- n%c:=by rw [IntKind.wrap_u64];omega
 have E3:Hid ((0:Int)=hi (n/c)):=e3;clear e3;go_enter Tryz.func276,Tryz.ntmps276
 go_wp2_with (go_at_call 220;refine(HM.out _).mono ?_;rintro e w' ⟨rfl,rfl⟩)
 go_quiet (fail)
 go_wp2_with fail
 refine(div64_any (mi n%c) (lo n) c _ he0 he1 hl0 hl1 hc1).mono ?_;rintro e w1 ⟨rfl,nn,rfl⟩;go_wp2_with fail
 have hR:=rounded_any (n/c) (n%c) (c- n%c) ((w.alloc (.cells #[.int .u64 0, .int .u64 0, .int .u64 0] 334)).drewN (nq+nn)) hr0 (by omega) (by omega) (by omega) (rne n c) rne_if;rw [← E3.out] at hR;refine hR.mono ?_;rintro e w2 ⟨rfl,hb⟩;have S0:=((row3_new w 0 0 0).drewN (nq+nn)).keep hb;go_wp2_with (refine wpList_store3 rfl (.tmp 6) (.tmp 39) rfl _ _ _ _ _ _ _ rfl rfl S0 ?_)
 exact bodyPost_ret (v:= .agg #[.int .u64 (lo (rne n c)), .int .u64 (mi (rne n c)), .int .u64 (hi (rne n c))]) (results_3 Tryz.results276 _ _ w.heap.size _ _ _ rfl (S0.row _ _ _)) rfl ⟨rfl,below_setRow (below_tr (below_drewN (below_al (Below.refl _ _) _) _) hb) (by omega) _⟩
end
section
open Go.RowKit Qn
attribute [local go_sem ↓] Go.wp_at_zero Go.wp_at_succ
namespace Qn
theorem in3_of{n:Int}(h0: -1361129467683753853853498429727072845824<=n)(h1:n<=1361129467683753853853498429727072845824):In3 n:=by unfold In3;omega
theorem rne_bd{n d:Int}(hd:0<d){A:Int}(h0: -A<=n)(h1:n<=A)(hA:0<=A): -A<=rne n d/\rne n d<=A+1:=by
 have e0: -A<=n/d:=by
  refine Int.le_ediv_of_mul_le hd ?_;have:A*1<=A*d:=Int.mul_le_mul_of_nonneg_left (by omega) hA;rw [Int.neg_mul];omega
 have e1:n/d<=A:=by
  have:n/d<A+1:=Int.ediv_lt_of_lt_mul hd (by
   have:(A+1)*1<=(A+1)*d:=Int.mul_le_mul_of_nonneg_left (by omega) (by omega)
   omega)
  omega
 unfold rne;split<;>omega
theorem pow_pos2(p:Nat):(0:Int)<2^p:=Int.pow_pos (by omega)
theorem pow_le62{p:Nat}(hp:p<=62):(2:Int)^p<=4611686018427387904:=by
 have h1:(2:Nat)^p<=2^62:=Nat.pow_le_pow_right (by omega) hp;have h2:(2:Int)^p=((2^p:Nat):Int):=by simp
 omega
theorem mb_nat{p:Nat}(hp:p<=62):mb (p:Int)=true:=by
 unfold mb;rw [decide_eq_true (by omega),decide_eq_true (by omega)];rfl
end Qn
theorem qadd_any(a b:Int)(w:World)(ha0: -9223372036854775808<=a)(ha1:a<=9223372036854775807)(hb0: -9223372036854775808<=b)(hb1:b<=9223372036854775807):
 Calls Tryz.prog 151 #[.int .i64 a, .int .i64 b] w fun e w'=>e= .returned (.tuple #[.int .i64 (clamp (a+b)), .bool (great (a+b))])/\Below w.heap.size w w':=by
 go_enter Tryz.func151,Tryz.ntmps151
 go_wp2_with fail
 refine(qof_any a _ ha0 ha1).mono ?_;rintro e w1 ⟨rfl,k1⟩;go_wp2_with fail
 refine(qplus_any a b 1 _ hb0 hb1 (by omega) (by omega)).mono ?_;rintro e w2 ⟨rfl,k2⟩;rw [Int.mul_one];go_wp2_with fail
 refine(bounded_any (a+b) _ (in3_of (by omega) (by omega))).mono ?_;rintro e w3 ⟨rfl,k3⟩;go_wp2;go_ret2;exact⟨rfl,below_tr (below_tr k1 k2) k3⟩
theorem qsub_any(a b:Int)(w:World)(ha0: -9223372036854775808<=a)(ha1:a<=9223372036854775807)(hb0: -9223372036854775808<=b)(hb1:b<=9223372036854775807):
 Calls Tryz.prog 207 #[.int .i64 a, .int .i64 b] w fun e w'=>e= .returned (.tuple #[.int .i64 (clamp (a- b)), .bool (great (a- b))])/\Below w.heap.size w w':=by
 have hm:a+b*(-1)=a- b:=by omega
 go_enter Tryz.func207,Tryz.ntmps207
 go_wp2_with fail
 refine(qof_any a _ ha0 ha1).mono ?_;rintro e w1 ⟨rfl,k1⟩;go_wp2_with fail
 refine(qplus_any a b (-1) _ hb0 hb1 (by omega) (by omega)).mono ?_;rintro e w2 ⟨rfl,k2⟩;rw [hm];go_wp2_with fail
 refine(bounded_any (a- b) _ (in3_of (by omega) (by omega))).mono ?_;rintro e w3 ⟨rfl,k3⟩;go_wp2;go_ret2;exact⟨rfl,below_tr (below_tr k1 k2) k3⟩
theorem qmul_any(a b:Int)(p:Nat)(w:World)(ha0: -9223372036854775808<=a)(ha1:a<=9223372036854775807)(hb0: -9223372036854775808<=b)(hb1:b<=9223372036854775807)(hp:p<=62):
 Calls Tryz.prog 204 #[.int .i64 a, .int .i64 b, .int .i64 p] w fun e w'=>e= .returned (.tuple #[.int .i64 (clamp (rne (a*b) (2^p))), .bool (great (rne (a*b) (2^p))), .nilIface])/\Below w.heap.size w w':=by
 have hm:=mb_nat hp;have bd:=mul64_bd ha0 ha1 hb0 hb1
 have HI:Hid (In3 (a*b)/\In3 (rne (a*b) (2^p))):=by
  have:=rne_bd (pow_pos2 p) (A:=85070591730234615865843651857942052864) bd.1 bd.2 (by omega);exact⟨in3_of (by omega) (by omega),in3_of (by omega) (by omega)⟩
 clear bd;go_enter Tryz.func204,Tryz.ntmps204
 go_wp2_with fail
 refine(mayBe_any _ _).mono ?_;rintro e w' ⟨rfl,rfl⟩;rw [hm];go_wp2_with fail
 refine(product_any a b _ ha0 ha1 hb0 hb1).mono ?_;rintro e w1 ⟨rfl,k1⟩;go_wp2_with fail
 refine(lowered_any (a*b) p _ hp HI.out.1).mono ?_;rintro e w2 ⟨rfl,k2⟩;go_wp2_with fail
 refine(bounded_any _ _ HI.out.2).mono ?_;rintro e w3 ⟨rfl,k3⟩;go_wp2;go_ret3;exact⟨rfl,below_tr (below_tr k1 k2) k3⟩
namespace Qn
theorem ret_ibn{a b:Int}{c:Bool}(h:a=b):Ending.returned (.tuple #[.int .i64 a, .bool c, .nilIface])= .returned (.tuple #[.int .i64 b, .bool c, .nilIface]):=by rw [h]
def signed(a b n:Int):Int:=if(decide (a<0) !=decide (b<0))=true then-n else n
theorem clamp_bd(n:Int): -4611686018427387903<=clamp n/\clamp n<=4611686018427387903:=by unfold clamp;split<;>(try split)<;>omega
theorem abs_bd{a:Int}(h0: -9223372036854775808<=a)(h1:a<=9223372036854775807):0<=(a.natAbs:Int)/\(a.natAbs:Int)<=9223372036854775808:=by omega
end Qn
theorem qiFa1{p:Prop}(h:p:=by
 go_enter Tryz.func231,Tryz.ntmps231
 go_wp2_with fail
 refine(mayBe_any _ _).mono ?_;rintro e w' ⟨rfl,rfl⟩;rw [hm];go_wp2_with fail
 go_region_held3 (fun _=>True) (trivial) (first|(go_at_call_of 277 (Value.int IntKind.i64 a);refine(HSA.out _).mono ?_;rintro e w' ⟨rfl,rfl⟩)|(go_at_call_of 277 (Value.int IntKind.i64 b);refine(HSB.out _).mono ?_;rintro e w' ⟨rfl,rfl⟩)|(go_at_call 276;refine(quotient_any x D y _ (by omega) (by omega) (by omega) (by omega) (by omega) (by omega)).mono ?_;rintro e w1 ⟨rfl,k1⟩)|(go_at_call 234;refine(bounded_any _ _ HI.out).mono ?_;rintro e w2 ⟨rfl,k2⟩))
 go_wp2;go_ret3
 exact⟨ret_ibn (HS.out _).symm,below_tr (below_tr (Below.refl _ _).drew k1) k2⟩):p:=h
theorem qdiv_any(a b:Int)(p:Nat)(w:World)(ha0: -9223372036854775808<=a)(ha1:a<=9223372036854775807)(hb0: -9223372036854775808<=b)(hb1:b<=9223372036854775807)(hb:b≠0)(hp:p<=62):
 Calls Tryz.prog 231 #[.int .i64 a, .int .i64 b, .int .i64 p] w fun e w'=>e= .returned (.tuple #[.int .i64 (signed a b (clamp (rne ((a.natAbs:Int)*2^p) b.natAbs))), .bool (great (rne ((a.natAbs:Int)*2^p) b.natAbs)), .nilIface])/\Below w.heap.size w w':=by
 have hm:=mb_nat hp;have hbb:(b==0)=false:=by simpa using hb
 obtain⟨D,hD⟩: ∃ D,(2:Int)^p=D:=⟨_,rfl⟩;have hD0:0<D:=by rw [← hD];exact pow_pos2 p
 have hD1:D<=4611686018427387904:=by rw [← hD];exact pow_le62 hp
 have HA:=abs_bd ha0 ha1;have HB:=abs_bd hb0 hb1;have HB0:0<(b.natAbs:Int):=by omega
 rw [hD];have hp0:(0:Int)<=(p:Int):=by omega
 have hp1:(p:Int)<=62:=by omega
 have hwD:IntKind.u64.wrap D=D:=by rw [IntKind.wrap_u64];omega
 have SA:=fun wx=>size_any a wx ha0 ha1;have SB:=fun wx=>size_any b wx hb0 hb1
 have HI:Hid (In3 (rne ((a.natAbs:Int)*D) b.natAbs)):=by
  have h2:(a.natAbs:Int)*D<=9223372036854775808*4611686018427387904:=Int.mul_le_mul HA.2 hD1 (by omega) (by omega);have h3:0<=(a.natAbs:Int)*D:=Int.mul_nonneg HA.1 (by omega);have:=rne_bd HB0 (n:=(a.natAbs:Int)*D) (A:=85070591730234615865843651857942052864) (by omega) (by omega) (by omega);exact in3_of (by omega) (by omega)
 have HSA:Hid (∀ wx,Calls Tryz.prog 277 #[.int .i64 a] wx fun e w'=>e= .returned (.int .u64 (a.natAbs:Int))/\w'=wx):=SA;have HSB:Hid (∀ wx,Calls Tryz.prog 277 #[.int .i64 b] wx fun e w'=>e= .returned (.int .u64 (b.natAbs:Int))/\w'=wx):=SB;clear SA SB hb;obtain⟨x,hx⟩: ∃ x,(a.natAbs:Int)=x:=⟨_,rfl⟩;obtain⟨y,hy⟩: ∃ y,(b.natAbs:Int)=y:=⟨_,rfl⟩;rw [hx] at HA HSA HI ⊢;rw [hy] at HB HB0 HSB HI ⊢;clear hx hy;have cb:=clamp_bd (rne (x*D) y);by_cases sa:a<0<;>by_cases sb:b<0
 ·have da:decide (a<0)=true:=decide_eq_true sa;have db:decide (b<0)=true:=decide_eq_true sb;have HS:Hid (∀ n:Int,signed a b n=n):=fun n=>by unfold signed;rw [da,db];rfl
  exact qiFa1
 ·have da:decide (a<0)=true:=decide_eq_true sa;have db:decide (b<0)=false:=decide_eq_false sb;have HS:Hid (∀ n:Int,signed a b n= -n):=fun n=>by unfold signed;rw [da,db];rfl
  exact qiFa1
 ·have da:decide (a<0)=false:=decide_eq_false sa;have db:decide (b<0)=true:=decide_eq_true sb;have HS:Hid (∀ n:Int,signed a b n= -n):=fun n=>by unfold signed;rw [da,db];rfl
  exact qiFa1
 ·have da:decide (a<0)=false:=decide_eq_false sa;have db:decide (b<0)=false:=decide_eq_false sb;have HS:Hid (∀ n:Int,signed a b n=n):=fun n=>by unfold signed;rw [da,db];rfl
  exact qiFa1
end
section
open Go.RowKit Qn
theorem qmove_any(a:Int)(f t:Nat)(w:World)(ha0: -9223372036854775808<=a)(ha1:a<=9223372036854775807)(hf:f<=62)(ht:t<=62):
 Calls Tryz.prog 229 #[.int .i64 a, .int .i64 f, .int .i64 t] w fun e w'=>e= .returned (.tuple #[.int .i64 (clamp (rne (a*2^(t- f)) (2^(f- t)))), .bool (great (rne (a*2^(t- f)) (2^(f- t)))), .nilIface])/\Below w.heap.size w w':=by
 have hmf:=mb_nat hf;have hmt:=mb_nat ht;obtain⟨u,hu⟩: ∃ u:Nat,t- f=u:=⟨_,rfl⟩;obtain⟨d,hd⟩: ∃ d:Nat,f- t=d:=⟨_,rfl⟩;rw [hu,hd];have hu1:u<=62:=by omega
 have hd1:d<=62:=by omega
 obtain⟨U,hU⟩: ∃ U,(2:Int)^u=U:=⟨_,rfl⟩;have hU0:0<U:=by rw [← hU];exact pow_pos2 u
 have hU1:U<=4611686018427387904:=by rw [← hU];exact pow_le62 hu1
 rw [hU]
 have HI:Hid (In3 (a*U)/\In3 (rne (a*U) (2^d))):=by
  have bd:=mul64_bd ha0 ha1 (b:=U) (by omega) (by omega);have:=rne_bd (pow_pos2 d) (A:=85070591730234615865843651857942052864) bd.1 bd.2 (by omega);exact⟨in3_of (by omega) (by omega),in3_of (by omega) (by omega)⟩
 have x1:max ((t:Int)- (f:Int)) 0=(u:Int):=by omega
 have x2:max ((f:Int)- (t:Int)) 0=(d:Int):=by omega
 have hu0:(0:Int)<=(u:Int):=by omega
 have hu2:(u:Int)<=62:=by omega
 have hf2:(f:Int)<=62:=by omega
 have ht2:(t:Int)<=62:=by omega
 go_enter Tryz.func229,Tryz.ntmps229
 go_wp2_with fail
 refine(mayBe_any _ _).mono ?_;rintro e w' ⟨rfl,rfl⟩;rw [hmf];go_wp2_with fail
 refine(mayBe_any _ _).mono ?_;rintro e w' ⟨rfl,rfl⟩;rw [hmt];go_wp2_with fail
 refine(product_any a U _ ha0 ha1 (by omega) (by omega)).mono ?_;rintro e w1 ⟨rfl,k1⟩;go_wp2_with fail
 refine(lowered_any (a*U) d _ hd1 HI.out.1).mono ?_;rintro e w2 ⟨rfl,k2⟩;go_wp2_with fail
 refine(bounded_any _ _ HI.out.2).mono ?_;rintro e w3 ⟨rfl,k3⟩;go_wp2;go_ret3;exact⟨rfl,below_tr (below_tr k1 k2) k3⟩
namespace Qn
end Qn
end
section
open Go.RowKit Tg
attribute [local go_sem ↓] Go.wp_at_zero Go.wp_at_succ
namespace Tg
def rd(n:Int):Int:=Qn.clamp (Qn.rne n 1073741824)
theorem hide{p:Prop}(h:p):Hid p:=h
end Tg
theorem moved_any(a:Int)(f:Nat)(w:World)(hf:f=60\/f=62)(ha0: -9223372036854775808<=a)(ha1:a<=9223372036854775807):
 Calls Tryz.prog 297 #[.int .i64 a, .int .i64 f, .int .i64 ((f- 30:Nat):Int)] w fun e w'=>e= .returned (.int .i64 (rd a))/\Below w.heap.size w w':=by
 have hc:=qmove_any a f (f- 30);have e1:f- 30- f=0:=by omega
 have e2:f- (f- 30)=30:=by omega
 rw [e1,e2,Int.pow_zero,Int.mul_one,show(2:Int)^30=1073741824 by decide] at hc;have HC:=hide hc;clear hc e1 e2;go_enter Tryz.func297,Tryz.ntmps297
 go_wp2_with fail
 refine(HC.out _ ha0 ha1 (by omega) (by omega)).mono ?_;rintro e w1 ⟨rfl,k1⟩;go_wp2;go_ret;exact⟨rfl,k1⟩
theorem moved60(a:Int)(w:World)(ha0: -9223372036854775808<=a)(ha1:a<=9223372036854775807):
 Calls Tryz.prog 297 #[.int .i64 a, .int .i64 60, .int .i64 30] w fun e w'=>e= .returned (.int .i64 (rd a))/\Below w.heap.size w w':=moved_any a 60 w (.inl rfl) ha0 ha1
namespace Tg
def beg(t:Int):St:=⟨495056041134655927,495056041134655927,t%1073741824*1073741824- 576460752303423488⟩
theorem beg_ok(t:Int):Ok 0 (beg t):=by
 have:gr 0=1152921504606846976:=rfl;have:zs 0=576460752303423488:=rfl;constructor<;>simp only [beg]<;>omega
theorem and_u32(t:Int)(h0:0<=t)(h1:t<=4294967295):bits .and .u32 t 1073741823=t%1073741824:=by
 obtain⟨A,rfl⟩:=Int.eq_ofNat_of_zero_le h0;have g1:(BitVec.ofInt 32 (A:Int)).toNat=A:=by rw [BitVec.ofInt_natCast,BitVec.toNat_ofNat];exact Nat.mod_eq_of_lt (by omega)
 have g2:(BitVec.ofInt 32 1073741823).toNat=1073741823:=by rfl
 show IntKind.u32.wrap ((BitVec.ofInt 32 (A:Int) &&& BitVec.ofInt 32 1073741823).toNat:Int)=_;rw [BitVec.toNat_and,g1,g2,show 1073741823=2^30- 1 by decide,Nat.and_two_pow_sub_one_eq_mod,IntKind.wrap_u32];omega
end Tg
theorem first_any(t:Int)(w:World)(hT:AngTab w)(h0:0<=t)(h1:t<=4294967295):
 Calls Tryz.prog 273 #[.int .u32 t] w fun e w'=>e= .returned (.tuple #[.int .i64 (rd (bst (beg t) 40).y), .int .i64 (rd (bst (beg t) 40).x)])/\Below w.heap.size w w':=by
 have a1:=and_u32 t h0 h1;go_enter Tryz.func273,Tryz.ntmps273
 go_wp2_with (first|(refine wpList_loadTab rfl _ rfl rfl (hT.below (below_al (Below.refl _ _) _)) ?_))
 go_loopw [5,15] (fun z i wr=> ∃ k:Nat,k<=40/\i= .int .i64 (k:Int)/\z= .int .i64 (bst (beg t) k).z/\RowP wr w.heap.size (bst (beg t) k).x (bst (beg t) k).y/\Below w.heap.size w wr) (fun _ i _=>40- (intOf i).toNat)
 case atStart=>exact⟨0,by omega,rfl,rfl,rowP_new w _ _,below_al (Below.refl _ _) _⟩
 case round=>
  obtain⟨k,hk,rfl,rfl,hP,hbel⟩:=hrel;have ok:=(beg_ok t).bst hk;have bd:=ok.bd hk;by_cases h40:k<40
  ·have hidx:=fun(w:World)=>run_angle w h40;have ab:=ang_bd h40;have okl:=(ok.lf h40).bd (by omega);have okr:=(ok.rt h40).bd (by omega);have hl:0<=(bst (beg t) k).z->bst (beg t) (k+1)=lf k (bst (beg t) k):=fun h=>if_pos h;have hr: ¬0<=(bst (beg t) k).z->bst (beg t) (k+1)=rt k (bst (beg t) k):=fun h=>if_neg h;have HL:=hide hl;have HR:=hide hr;clear hl hr ok;obtain⟨s,hs⟩: ∃ s,s=bst (beg t) k:=⟨_,rfl⟩;rw [← hs] at bd okl okr HL HR hP ⊢;clear hs;obtain⟨x,y,z⟩:=s;simp only [lf,rt] at okl okr bd HL HR hP ⊢;by_cases hz:0<=z
   ·go_wp2_with (first|(refine wpList_loadP rfl (.tmp 4) rfl _ _ _ rfl hP ?_))
    refine(anti_any x y k _ (by omega) (by omega) (by omega) (by omega) (by omega)).mono ?_;rintro e w1 ⟨rfl,k1⟩;have hP1:=hP.keep k1;go_wp2_with (first|(refine wpList_storeP rfl (.tmp 4) (.tmp 23) rfl _ _ _ _ _ rfl rfl hP1 ?_))
    go_roundw
    case rel=>
     refine⟨k+1,by omega,by go_num, ?_, ?_,belowRow (below_tr hbel k1) (Nat.le_refl _) _⟩
     ·rw [HL.out hz]
     ·rw [HL.out hz];exact hP1.row _ _
    case measure=>simp [intOf];omega
   ·go_wp2_with (first|(refine wpList_loadP rfl (.tmp 4) rfl _ _ _ rfl hP ?_))
    refine(clock_any x y k _ (by omega) (by omega) (by omega) (by omega) (by omega)).mono ?_;rintro e w1 ⟨rfl,k1⟩;have hP1:=hP.keep k1;go_wp2_with (first|(refine wpList_storeP rfl (.tmp 4) (.tmp 29) rfl _ _ _ _ _ rfl rfl hP1 ?_))
    go_roundw
    case rel=>
     refine⟨k+1,by omega,by go_num, ?_, ?_,belowRow (below_tr hbel k1) (Nat.le_refl _) _⟩
     ·rw [HR.out hz]
     ·rw [HR.out hz];exact hP1.row _ _
    case measure=>simp [intOf];omega
  ·obtain rfl:k=40:=by omega
   obtain⟨x,hx⟩: ∃ x,x=(bst (beg t) 40).x:=⟨_,rfl⟩;obtain⟨y,hy⟩: ∃ y,y=(bst (beg t) 40).y:=⟨_,rfl⟩;rw [← hx,← hy] at bd hP;have c0:=hP.c0;have c1:=hP.c1;have HX:=hide hx;have HY:=hide hy;clear hx hy;go_wp2;go_region_with (go_at_call 297;refine(moved60 _ _ (by omega) (by omega)).mono ?_;rintro e w1 ⟨rfl,hb⟩;(try(have hc:=keep_cell hb c0;have hd:=keep_cell hb c1)))
   all_goals go_wp2
   all_goals go_ret2
   all_goals(rw [HX.out,HY.out];exact⟨rfl,below_tr (below_tr hbel.drew ‹Below wr.drew.heap.size wr.drew _›) hb⟩)
namespace Tg
def sn(t:Int):Int:=rd (bst (beg t) 40).y
def cs(t:Int):Int:=rd (bst (beg t) 40).x
theorem rd_bd{n:Int}(h0: -5600000000000000000<=n)(h1:n<=5600000000000000000): -5215406418<=rd n/\rd n<=5215406418:=by
 have: -5215406418<=Qn.rne n 1073741824/\Qn.rne n 1073741824<=5215406418:=by
  unfold Qn.rne;split<;>omega
 unfold rd Qn.clamp;split
 · omega
 · split<;>omega
theorem sn_bd(t:Int): -5215406418<=sn t/\sn t<=5215406418:=by
 have h:=((beg_ok t).bst (k:=40) (by omega)).bd (by omega);exact rd_bd h.2.1.1 h.2.1.2
theorem cs_bd(t:Int): -5215406418<=cs t/\cs t<=5215406418:=by
 have h:=((beg_ok t).bst (k:=40) (by omega)).bd (by omega);exact rd_bd h.1.1 h.1.2
def sine(t:Int):Int:=if t<1073741824 then sn t else if t<2147483648 then cs t else if t<3221225472 then-sn t else-cs t
def cosine(t:Int):Int:=if t<1073741824 then cs t else if t<2147483648 then-sn t else if t<3221225472 then-cs t else sn t
theorem sine_bd(t:Int): -5215406418<=sine t/\sine t<=5215406418:=by
 have:=sn_bd t;have:=cs_bd t;unfold sine;split
 · omega
 · split
   · omega
   · split<;>omega
theorem cosine_bd(t:Int): -5215406418<=cosine t/\cosine t<=5215406418:=by
 have:=sn_bd t;have:=cs_bd t;unfold cosine;split
 · omega
 · split
   · omega
   · split<;>omega
end Tg
theorem both_any(t:Int)(w:World)(hT:AngTab w)(h0:0<=t)(h1:t<=4294967295):
 Calls Tryz.prog 227 #[.int .u32 t] w fun e w'=>e= .returned (.tuple #[.int .i64 (sine t), .int .i64 (cosine t)])/\Below w.heap.size w w':=by
 have hs:=sn_bd t;have hc:=cs_bd t;have HF:=hide (first_any t w hT h0 h1);obtain⟨s,es⟩: ∃ s,s=sn t:=⟨_,rfl⟩;obtain⟨c,ec⟩: ∃ c,c=cs t:=⟨_,rfl⟩
 have HF':Hid (Calls Tryz.prog 273 #[.int .u32 t] w fun e w'=>e= .returned (.tuple #[.int .i64 s, .int .i64 c])/\Below w.heap.size w w'):=by
  rw [es,ec];exact HF
 have E1:t<1073741824->sine t=s/\cosine t=c:=fun h=>by unfold sine cosine;rw [if_pos h,if_pos h];exact⟨es.symm,ec.symm⟩
 have E2: ¬t<1073741824->t<2147483648->sine t=c/\cosine t= -s:=fun h h2=>by unfold sine cosine;rw [if_neg h,if_neg h,if_pos h2,if_pos h2,es,ec];exact⟨rfl,rfl⟩
 have E3: ¬t<1073741824-> ¬t<2147483648->t<3221225472->sine t= -s/\cosine t= -c:=fun h h2 h3=>by unfold sine cosine;rw [if_neg h,if_neg h,if_neg h2,if_neg h2,if_pos h3,if_pos h3,es,ec];exact⟨rfl,rfl⟩
 have E4: ¬t<1073741824-> ¬t<2147483648-> ¬t<3221225472->sine t= -c/\cosine t=s:=fun h h2 h3=>by unfold sine cosine;rw [if_neg h,if_neg h,if_neg h2,if_neg h2,if_neg h3,if_neg h3,es,ec];exact⟨rfl,rfl⟩
 rw [← es] at hs;rw [← ec] at hc;clear HF es ec;rcases Int.lt_or_le t 1073741824 with h|h
 · rw [(E1 h).1,(E1 h).2];clear E1 E2 E3 E4;go_enter Tryz.func227,Tryz.ntmps227
   go_wp2_with fail
   refine HF'.out.mono ?_;rintro e w1 ⟨rfl,k1⟩;go_wp2;go_ret2;exact⟨rfl,k1⟩
 rcases Int.lt_or_le t 2147483648 with h2|h2
 · rw [(E2 (by omega) h2).1,(E2 (by omega) h2).2];clear E1 E2 E3 E4;go_enter Tryz.func227,Tryz.ntmps227
   go_wp2_with fail
   refine HF'.out.mono ?_;rintro e w1 ⟨rfl,k1⟩;go_wp2;go_ret2;exact⟨rfl,k1⟩
 rcases Int.lt_or_le t 3221225472 with h3|h3
 · rw [(E3 (by omega) (by omega) h3).1,(E3 (by omega) (by omega) h3).2];clear E1 E2 E3 E4;go_enter Tryz.func227,Tryz.ntmps227
   go_wp2_with fail
   refine HF'.out.mono ?_;rintro e w1 ⟨rfl,k1⟩;go_wp2;go_ret2;exact⟨rfl,k1⟩
 · rw [(E4 (by omega) (by omega) (by omega)).1,(E4 (by omega) (by omega) (by omega)).2];clear E1 E2 E3 E4;go_enter Tryz.func227,Tryz.ntmps227
   go_wp2_with fail
   refine HF'.out.mono ?_;rintro e w1 ⟨rfl,k1⟩;go_wp2;go_ret2;exact⟨rfl,k1⟩
end
section
namespace Po
open Qn Tg
theorem rne_near(n:Int){d:Int}(hd:0<d):2*(d*rne n d)<=2*n+d/\2*n- d<=2*(d*rne n d):=by
 have h1:=Int.emod_nonneg n (by omega:d≠0);have h2:=Int.emod_lt_of_pos n hd;have h3:=Int.mul_ediv_add_emod n d;unfold rne;split
 · omega
 · rw [Int.mul_add,Int.mul_one];omega
theorem rne_up{a b d:Int}(hd:0<d)(h:a<=b):rne a d<=rne b d:=by
 have e1:=Int.mul_ediv_add_emod a d;have e2:=Int.mul_ediv_add_emod b d;have h1:=Int.emod_nonneg a (by omega:d≠0);have h2:=Int.emod_lt_of_pos a hd;have h3:=Int.emod_nonneg b (by omega:d≠0);have h4:=Int.emod_lt_of_pos b hd;have h5:a/d<=b/d:=Int.ediv_le_ediv hd h;rcases Int.lt_or_le (a/d) (b/d) with h6|h6
 · unfold rne;split<;>split<;>omega
 · have h7:a/d=b/d:=by omega
   rw [h7] at e1;unfold rne;rw [h7];split<;>split<;>omega
theorem rne_nought{d:Int}(hd:0<d):rne 0 d=0:=by unfold rne;rw [Int.zero_emod,Int.zero_ediv,if_pos (Or.inl (by omega))]
theorem rne_nn{n d:Int}(hd:0<d)(h:0<=n):0<=rne n d:=by
 have:=rne_up hd h;rwa [rne_nought hd] at this
end Po
end
section
open Go.RowKit Qn Dt
attribute [local go_sem ↓] Go.wp_at_zero Go.wp_at_succ
theorem Hid.mkq{p:Prop}(h:p):Hid p:=h
theorem qdot_any(ao bo:Option Addr)(xa xb:Addr)(n ca cb:Nat)(za zb:Nat->Int)(b:Nat)(w:World)(hn:n<=64)(hao:0<n->ao=some xa)(hbo:0<n->bo=some xb)
 (hca: ∀ k,k<n->w.cell? (xa.add k)=some (.int .i64 (za k))) (hcb: ∀ k,k<n->w.cell? (xb.add k)=some (.int .i64 (zb k)))
 (ba: ∀ k,-9223372036854775808<=za k/\za k<=9223372036854775807) (bb: ∀ k,-9223372036854775808<=zb k/\zb k<=9223372036854775807) (hb:b<=62):
 Calls Tryz.prog 237 #[.slice ao n ca, .slice bo n cb, .int .i64 b] w fun e w'=>e= .returned (.tuple #[.int .i64 (clamp (rne (dk za zb n) (2^b))), .bool (great (rne (dk za zb n) (2^b))), .nilIface])/\Below w.heap.size w w':=by
 have hm:=mb_nat hb;have HAO:=Hid.mkq hao;have HBO:=Hid.mkq hbo;have HCA:=Hid.mkq hca;have HCB:=Hid.mkq hcb;have HBA:=Hid.mkq ba;have HBB:=Hid.mkq bb;have hdk:=dk_bd za zb ba bb n
 have HI:Hid (In3 (dk za zb n)/\In3 (rne (dk za zb n) (2^b))):=by
  have hB:(0:Int)<2^b:=Int.pow_pos (by omega);have hdl: -5444517870735015415413993718908291383296<=dk za zb n/\dk za zb n<=5444517870735015415413993718908291383296:=by omega
  have h3:(dk za zb n/2^b)<=5444517870735015415413993718908291383296/\ -5444517870735015415413993718908291383296<=dk za zb n/2^b:=by
   constructor
   ·refine Int.ediv_le_of_le_mul hB ?_;have:(5444517870735015415413993718908291383296:Int)*1<=5444517870735015415413993718908291383296*2^b:=Int.mul_le_mul_of_nonneg_left (by omega) (by omega);omega
   ·rw [Int.le_ediv_iff_mul_le hB];have:(5444517870735015415413993718908291383296:Int)*1<=5444517870735015415413993718908291383296*2^b:=Int.mul_le_mul_of_nonneg_left (by omega) (by omega);rw [Int.neg_mul];omega
  refine⟨by unfold In3;omega, ?_⟩;unfold In3 rne;split<;>omega
 obtain⟨X,hX⟩: ∃ X,X=rne (dk za zb n) (2^b):=⟨_,rfl⟩;rw [← hX];have HX:=Hid.mkq hX;clear hao hbo hca hcb ba bb hX hdk;go_enter Tryz.func237,Tryz.ntmps237
 go_wp2_with fail
 refine(mayBe_any (b:Int) _).mono ?_;rintro e w ⟨rfl,rfl⟩;rw [hm];go_wp2;go_loopw [31] (fun i wr=> ∃ k:Nat,k<=n/\i= .int .i64 (k:Int)/\Row3 wr w.heap.size (lo (dk za zb k)) (mi (dk za zb k)) (hi (dk za zb k))/\Below w.heap.size w wr) (fun i _=>n- (intOf i).toNat)
 case atStart=>exact⟨0,by omega,rfl,row3_new w _ _ _,below_al (Below.refl _ _) _⟩
 case round=>
  obtain⟨k,hk,rfl,hr,hbel⟩:=hrel;by_cases h:k<n
  ·obtain rfl:=HAO.out (by omega);obtain rfl:=HBO.out (by omega);have ca':=keep_cell hbel (HCA.out k h);have cb':=keep_cell hbel (HCB.out k h);have pa:=HBA.out k;have pb:=HBB.out k;obtain⟨P,hP⟩: ∃ P,P=za k:=⟨_,rfl⟩;obtain⟨Q,hQ⟩: ∃ Q,Q=zb k:=⟨_,rfl⟩;obtain⟨S,hS⟩: ∃ S,S=dk za zb k:=⟨_,rfl⟩;rw [← hP] at ca' pa;rw [← hQ] at cb' pb;rw [← hS] at hr;have HS:Hid (dk za zb (k+1)=S+P*Q):=by rw [hS,hP,hQ];rfl
   clear hP hQ hS;have z0:=hr.c0;have z1:=hr.c1;have z2:=hr.c2;go_wp2
   go_region_with
    (first
     |(go_at_call 233;refine(qplus_any S P Q _ pa.1 pa.2 pb.1 pb.2).mono ?_;rintro e w2 ⟨rfl,hb2⟩;have hr2:=hr.drew.keep hb2;have y0:=hr2.c0;have y1:=hr2.c1;have y2:=hr2.c2;have f0:=hr2.free 0;have f1:=hr2.free 1;have f2:=hr2.free 2))
   all_goals go_wp2
   all_goals go_roundw
   all_goals first
    |(simp [intOf];omega)
    |exact⟨k+1,by omega,by go_num,by rw [HS.out];exact(((hr2.set0 _).set1 _).set2 _),(((below_tr hbel.drew hb2).setCell (Nat.le_refl _) _).setCell (Nat.le_refl _) _).setCell (Nat.le_refl _) _⟩
    |trace_state
  ·obtain rfl:k=n:=by omega
   go_wp2_with (first|(refine wpList_load3 rfl (.tmp 9) rfl _ _ _ _ rfl hr ?_)|fail)
   refine(lowered_any (dk za zb k) b _ hb HI.out.1).mono ?_;rintro e w2 ⟨rfl,hb2⟩;go_wp2_with fail
   refine(bounded_any _ _ HI.out.2).mono ?_;rintro e w3 ⟨rfl,hb3⟩;rw [← HX.out];go_wp2;go_ret3;exact⟨rfl,below_tr (below_tr hbel hb2) hb3⟩
end
section
namespace Ld
open Qn Dt Vc
def divV(a b:Int)(p:Nat):Int:=signed a b (clamp (rne ((a.natAbs:Int)*2^p) b.natAbs))
def divO(a b:Int)(p:Nat):Bool:=great (rne ((a.natAbs:Int)*2^p) b.natAbs)
def sumV(a b:Nat->Int)(m:Nat):Int:=clamp (rne (dk a b m) (2^30))
def sumO(a b:Nat->Int)(m:Nat):Bool:=great (rne (dk a b m) (2^30))
def lessV(n:Int)(a b:Nat->Int)(m:Nat):Int:=clamp (n- sumV a b m)
def lessO(n:Int)(a b:Nat->Int)(m:Nat):Bool:=sumO a b m||great (n- sumV a b m)
def wv(l d:Nat->Int):Nat->Int:=fun k=>clamp (rne (l k*d k) (2^30))
def wg(l d:Nat->Int):Nat->Bool:=fun k=>great (rne (l k*d k) (2^30))
def rowV(m:Nat->Int)(L:Nat->Nat->Int)(d:Nat->Int):Nat->Nat->Int
 |0=>fun _=>0
 |j+1=>fun k=>if k=j then divV (lessV (m j) (rowV m L d j) (wv (L j) d) j) (d j) 30 else rowV m L d j k
def rowO(m:Nat->Int)(L:Nat->Nat->Int)(d:Nat->Int):Nat->Bool
 |0=>false
 |j+1=>rowO m L d j||(anyb (wg (L j) d) j||lessO (m j) (rowV m L d j) (wv (L j) d) j||divO (lessV (m j) (rowV m L d j) (wv (L j) d) j) (d j) 30)
def midV(m:Nat->Int)(x d:Nat->Int)(i:Nat):Int:=lessV (m i) x (wv x d) i
def midO(m:Nat->Int)(x d:Nat->Int)(i:Nat):Bool:=anyb (wg x d) i||lessO (m i) x (wv x d) i
def st(F:Nat->Nat->Int):Nat->(Nat->Nat->Int)×(Nat->Int)
 |0=>(fun _ _=>0,fun _=>0)
 |i+1=>(fun a b=>if a=i then(if b=i then 1073741824 else rowV (F i) (st F i).1 (st F i).2 i b) else(st F i).1 a b,
   fun a=>if a=i then midV (F i) (rowV (F i) (st F i).1 (st F i).2 i) (st F i).2 i else(st F i).2 a)
def stO(F:Nat->Nat->Int)(i:Nat):Bool:=rowO (F i) (st F i).1 (st F i).2 i||midO (F i) (rowV (F i) (st F i).1 (st F i).2 i) (st F i).2 i
def stD(F:Nat->Nat->Int)(i:Nat):Int:=midV (F i) (rowV (F i) (st F i).1 (st F i).2 i) (st F i).2 i
def fine(F:Nat->Nat->Int)(i:Nat):Prop:=stO F i=false/\0<stD F i
theorem divV_bd(a b:Int)(p:Nat): -4611686018427387903<=divV a b p/\divV a b p<=4611686018427387903:=by
 have h:=clamp_bd (rne ((a.natAbs:Int)*2^p) b.natAbs);unfold divV signed;split<;>omega
theorem lessV_bd(n:Int)(a b:Nat->Int)(m:Nat): -4611686018427387903<=lessV n a b m/\lessV n a b m<=4611686018427387903:=clamp_bd _
theorem sumV_bd(a b:Nat->Int)(m:Nat): -4611686018427387903<=sumV a b m/\sumV a b m<=4611686018427387903:=clamp_bd _
theorem wv_bd(l d:Nat->Int)(k:Nat): -4611686018427387903<=wv l d k/\wv l d k<=4611686018427387903:=clamp_bd _
theorem rowV_bd(m:Nat->Int)(L:Nat->Nat->Int)(d:Nat->Int): ∀ j k,-4611686018427387903<=rowV m L d j k/\rowV m L d j k<=4611686018427387903
 |0,k=>by show(-4611686018427387903:Int)<=0/\(0:Int)<=_;omega
 |j+1,k=>by
  show-4611686018427387903<=(if k=j then _ else _)/\(if k=j then _ else _)<=_
  split
  · exact divV_bd _ _ _
  · exact rowV_bd m L d j k
theorem rowV_behind(m:Nat->Int)(L:Nat->Nat->Int)(d:Nat->Int): ∀ {j k:Nat},j<=k->rowV m L d j k=0
 |0,k,_=>rfl
 |j+1,k,h=>by
  show(if k=j then _ else _)=_
  rw [if_neg (by omega)]
  exact rowV_behind m L d (by omega)
theorem rowV_keep(m:Nat->Int)(L:Nat->Nat->Int)(d:Nat->Int): ∀ {i j k:Nat},k<j->j<=i->rowV m L d i k=rowV m L d j k
 |0,j,k,h1,h2=>by omega
 |i+1,j,k,h1,h2=>by
  by_cases e:j=i+1
  · rw [e]
  · show(if k=i then _ else _)=_
    rw [if_neg (by omega)]
    exact rowV_keep m L d h1 (by omega)
theorem st_bdL(F:Nat->Nat->Int): ∀ i a b,-4611686018427387903<=(st F i).1 a b/\(st F i).1 a b<=4611686018427387903
 |0,a,b=>by show(-4611686018427387903:Int)<=0/\(0:Int)<=_;omega
 |i+1,a,b=>by
  show-4611686018427387903<=(if a=i then(if b=i then(1073741824:Int) else _) else _)/\(if a=i then(if b=i then(1073741824:Int) else _) else _)<=_
  split
  · split
    · omega
    · exact rowV_bd _ _ _ _ _
  · exact st_bdL F i a b
theorem st_bdD(F:Nat->Nat->Int): ∀ i a,-4611686018427387903<=(st F i).2 a/\(st F i).2 a<=4611686018427387903
 |0,a=>by show(-4611686018427387903:Int)<=0/\(0:Int)<=_;omega
 |i+1,a=>by
  show-4611686018427387903<=(if a=i then _ else _)/\(if a=i then _ else _)<=_
  split
  · exact lessV_bd _ _ _ _
  · exact st_bdD F i a
theorem b64_of{z:Nat->Int}(h: ∀ k,-4611686018427387903<=z k/\z k<=4611686018427387903):B64 z:=fun k=>by have:=h k;omega
theorem st_keepL(F:Nat->Nat->Int): ∀ {n i a b:Nat},a<i->i<=n->(st F n).1 a b=(st F i).1 a b
 |0,i,a,b,h1,h2=>by omega
 |n+1,i,a,b,h1,h2=>by
  by_cases e:i=n+1
  · rw [e]
  · show(if a=n then _ else _)=_
    rw [if_neg (by omega)]
    exact st_keepL F h1 (by omega)
theorem st_keepD(F:Nat->Nat->Int): ∀ {n i a:Nat},a<i->i<=n->(st F n).2 a=(st F i).2 a
 |0,i,a,h1,h2=>by omega
 |n+1,i,a,h1,h2=>by
  by_cases e:i=n+1
  · rw [e]
  · show(if a=n then _ else _)=_
    rw [if_neg (by omega)]
    exact st_keepD F h1 (by omega)
theorem st_behindL(F:Nat->Nat->Int): ∀ {i a b:Nat},i<=a->(st F i).1 a b=0
 |0,a,b,_=>rfl
 |i+1,a,b,h=>by
  show(if a=i then _ else _)=_
  rw [if_neg (by omega)]
  exact st_behindL F (by omega)
theorem st_behindD(F:Nat->Nat->Int): ∀ {i a:Nat},i<=a->(st F i).2 a=0
 |0,a,_=>rfl
 |i+1,a,h=>by
  show(if a=i then _ else _)=_
  rw [if_neg (by omega)]
  exact st_behindD F (by omega)
theorem st_D(F:Nat->Nat->Int){n i:Nat}(h:i<n):(st F n).2 i=stD F i:=by
 rw [st_keepD F (i:=i+1) (by omega) (by omega)];show(if i=i then _ else _)=_;rw [if_pos rfl];rfl
theorem st_one(F:Nat->Nat->Int){n i:Nat}(h:i<n):(st F n).1 i i=1073741824:=by
 rw [st_keepL F (i:=i+1) (by omega) (by omega)];show(if i=i then(if i=i then _ else _) else _)=_;rw [if_pos rfl,if_pos rfl]
theorem st_low(F:Nat->Nat->Int){n i j:Nat}(h:i<n)(hj:j<i):(st F n).1 i j=rowV (F i) (st F i).1 (st F i).2 i j:=by
 rw [st_keepL F (i:=i+1) (by omega) (by omega)];show(if i=i then(if j=i then _ else _) else _)=_;rw [if_pos rfl,if_neg (by omega)]
theorem st_up(F:Nat->Nat->Int){n i j:Nat}(h:i<n)(hj:i<j):(st F n).1 i j=0:=by
 rw [st_keepL F (i:=i+1) (by omega) (by omega)];show(if i=i then(if j=i then _ else _) else _)=_;rw [if_pos rfl,if_neg (by omega)];exact rowV_behind _ _ _ (by omega)
theorem dk_congr{a b a' b':Nat->Int}: ∀ {n:Nat},(∀ k,k<n->a k=a' k)->(∀ k,k<n->b k=b' k)->dk a b n=dk a' b' n
 |0,_,_=>rfl
 |n+1,h,h'=>by
  show dk a b n+a n*b n=dk a' b' n+a' n*b' n
  rw [dk_congr (fun k hk=>h k (by omega)) (fun k hk=>h' k (by omega)),h n (by omega),h' n (by omega)]
def downV(L:Nat->Nat->Int)(v:Nat->Int):Nat->Nat->Int
 |0=>fun _=>0
 |i+1=>fun k=>if k=i then lessV (v i) (L i) (downV L v i) i else downV L v i k
def downO(L:Nat->Nat->Int)(v:Nat->Int):Nat->Bool
 |0=>false
 |i+1=>downO L v i||lessO (v i) (L i) (downV L v i) i
theorem downV_bd(L:Nat->Nat->Int)(v:Nat->Int): ∀ j k,-4611686018427387903<=downV L v j k/\downV L v j k<=4611686018427387903
 |0,k=>by show(-4611686018427387903:Int)<=0/\(0:Int)<=_;omega
 |j+1,k=>by
  show-4611686018427387903<=(if k=j then _ else _)/\(if k=j then _ else _)<=_
  split
  · exact lessV_bd _ _ _ _
  · exact downV_bd L v j k
def byV(y d:Nat->Int):Nat->Int:=fun k=>divV (y k) (d k) 20
def byO(y d:Nat->Int):Nat->Bool:=fun k=>divO (y k) (d k) 20
def upV(L:Nat->Nat->Int)(z:Nat->Int)(n:Nat):Nat->Nat->Int
 |0=>z
 |t+1=>fun k=>if k=n- 1- t then lessV (z (n- 1- t)) (fun j=>L (n- t+j) (n- 1- t)) (fun j=>upV L z n t (n- t+j)) t else upV L z n t k
def upO(L:Nat->Nat->Int)(z:Nat->Int)(n:Nat):Nat->Bool
 |0=>false
 |t+1=>upO L z n t||lessO (z (n- 1- t)) (fun j=>L (n- t+j) (n- 1- t)) (fun j=>upV L z n t (n- t+j)) t
def farV(y d:Nat->Int):Nat->Int
 |0=>0
 |i+1=>clamp (farV y d i+divV (clamp (rne (y i*y i) (2^20))) (d i) 20)
def farO(y d:Nat->Int):Nat->Bool
 |0=>false
 |i+1=>farO y d i||(great (rne (y i*y i) (2^20))||divO (clamp (rne (y i*y i) (2^20))) (d i) 20||great (farV y d i+divV (clamp (rne (y i*y i) (2^20))) (d i) 20))
theorem farV_bd(y d:Nat->Int): ∀ i,-4611686018427387903<=farV y d i/\farV y d i<=4611686018427387903
 |0=>by show(-4611686018427387903:Int)<=0/\(0:Int)<=_;omega
 |i+1=>clamp_bd _
end Ld
end
section
open Go.RowKit Qn
attribute [local go_sem ↓] Go.wp_at_zero Go.wp_at_succ
theorem Hid.mkA{p:Prop}(h:p):Hid p:=h
theorem gprod_any(a b:Int)(p:Nat)(w:World)(ha0: -9223372036854775808<=a)(ha1:a<=9223372036854775807)(hb0: -9223372036854775808<=b)(hb1:b<=9223372036854775807)(hp:p<=62):
 Calls Tryz.prog 293 #[.int .i64 a, .int .i64 b, .int .i64 p] w fun e w'=>e= .returned (.int .i64 (clamp (rne (a*b) (2^p))))/\Below w.heap.size w w':=by
 go_enter Tryz.func293,Tryz.ntmps293
 go_wp2_with fail
 refine(qmul_any a b p _ ha0 ha1 hb0 hb1 hp).mono ?_;rintro e w1 ⟨rfl,k1⟩;go_wp2;go_ret;exact⟨rfl,k1⟩
theorem gmoved_any(a:Int)(f t:Nat)(w:World)(ha0: -9223372036854775808<=a)(ha1:a<=9223372036854775807)(hf:f<=62)(ht:t<=62):
 Calls Tryz.prog 270 #[.int .i64 a, .int .i64 f, .int .i64 t] w fun e w'=>e= .returned (.int .i64 (clamp (rne (a*2^(t- f)) (2^(f- t)))))/\Below w.heap.size w w':=by
 go_enter Tryz.func270,Tryz.ntmps270
 go_wp2_with fail
 refine(qmove_any a f t _ ha0 ha1 hf ht).mono ?_;rintro e w1 ⟨rfl,k1⟩;go_wp2;go_ret;exact⟨rfl,k1⟩
theorem gtim_any(a b:Int)(w:World)(ha0: -9223372036854775808<=a)(ha1:a<=9223372036854775807)(hb0: -9223372036854775808<=b)(hb1:b<=9223372036854775807):
 Calls Tryz.prog 293 #[.int .i64 a, .int .i64 b, .int .i64 50] w fun e w'=>e= .returned (.int .i64 (Gw.tim a b))/\Below w.heap.size w w':=
 gprod_any a b 50 w ha0 ha1 hb0 hb1 (by omega)
theorem gpow_any(r:Int)(w:World)(h0:0<=r)(h1:r<=1125899906842624):
 Calls Tryz.prog 271 #[.int .i64 r] w fun e w'=>e= .returned (.int .i64 (Gw.ps r 21))/\Below w.heap.size w w':=by
 go_enter Tryz.func271,Tryz.ntmps271
 go_wp2;go_loopw [3,4,5] (fun s t n wr=> ∃ j:Nat,j<=20/\n= .int .i64 ((j:Int)+1)/\s= .int .i64 (Gw.ps r (j+1))/\t= .int .i64 (Gw.tp r j)/\Below w.heap.size w wr) (fun _ _ n _=>21- (intOf n).toNat)
 case atStart=>exact⟨0,by omega,rfl,by rw [Gw.ps_one],rfl,Below.refl _ _⟩
 case round=>
  obtain⟨j,hj,rfl,rfl,rfl,hB⟩:=hrel;by_cases hjk:j<20
  · have bt:=Gw.tp_bd h0 h1 j;have bt':=Gw.tp_bd h0 h1 (j+1);have bs:=Gw.ps_bd h0 h1 (j+1);have bq:=(Gw.tim_eq (b:= -r) bt.1 bt.2 (by omega) (by omega) (by omega)).2;have HS:=Hid.mkA (Gw.ps_step r (j+1));have HT:Gw.tp r (j+1)=(Gw.tim (Gw.tp r j) (-r)).tdiv ((j:Int)+1):=by rw [Gw.tp];congr 1
    obtain⟨T,hT⟩: ∃ T,T=Gw.tp r j:=⟨_,rfl⟩;obtain⟨T',hT'⟩: ∃ T,T=Gw.tp r (j+1):=⟨_,rfl⟩;obtain⟨Sm,hS⟩: ∃ S,S=Gw.ps r (j+1):=⟨_,rfl⟩;rw [← hT'] at HT HS bt';rw [← hT] at HT bt bq;rw [← hS] at HS bs;rw [← hT,← hS];have HC:=Hid.mkA (fun W=>gtim_any T (-r) W (by omega) (by omega) (by omega) (by omega));obtain⟨q,hq⟩: ∃ q,q=Gw.tim T (-r):=⟨_,rfl⟩;rw [← hq] at HT bq HC;have hT2:q.tdiv ((j:Int)+1)=T':=HT.symm;clear HT hq hT hS;have HT':=Hid.mkA hT';clear hT';go_wp2_with fail
    refine(HC.out _).mono ?_;rintro e w1 ⟨rfl,k1⟩;go_wp2;all_goals go_roundw
    case rel=>exact⟨j+1,by omega,by go_num,by rw [HS.out],by rw [HT'.out],below_tr hB k1⟩
    case measure=>simp [intOf];omega
  · obtain rfl:j=20:=by omega
    go_wp2;go_ret;exact⟨rfl,hB⟩
end
section
open Go.RowKit Qn
attribute [local go_sem ↓] Go.wp_at_zero Go.wp_at_succ
theorem gexp_any(x:Int)(w:World)(h0:x<=0)(h1: -9223372036854775808<=x):
 Calls Tryz.prog 208 #[.int .i64 x] w fun e w'=>e= .returned (.tuple #[.int .i64 (Gw.ex x), .nilIface])/\Below w.heap.size w w':=by
 by_cases hx:x< -47185920
 · go_enter Tryz.func208,Tryz.ntmps208
   go_wp2;go_ret2;exact⟨by unfold Gw.ex;rw [if_pos hx];rfl,Below.refl _ _⟩
 · have bK:=Gw.hv_bd h0 (show-47185920<=x by omega);have bR:=Gw.rs_bd x;have hK:(-x*1073741824).tdiv 780414346020670=Gw.hv x:=by rw [Int.tdiv_eq_ediv_of_nonneg (by omega)];rfl
   have hR:(-x*1073741824).tmod 780414346020670=Gw.rs x:=by rw [Int.tmod_eq_emod_of_nonneg (by omega)];rfl
   have bP:=Gw.ps21_bd x;obtain⟨D,hD⟩: ∃ D:Nat,(D:Int)=min (20+Gw.hv x) 62:=⟨(min (20+Gw.hv x) 62).toNat,by omega⟩;have hDn:D<=62:=by omega
   have hE:=Gw.ex_down h0 (show-47185920<=x by omega) D hD;have bE:=Gw.ex_bd h0 (show-47185920<=x by omega);have HP:=Hid.mkA (fun W=>gpow_any (Gw.rs x) W (by omega) (by omega));have HM:=Hid.mkA (fun W=>gmoved_any (Gw.ps (Gw.rs x) 21) D 0 W (by omega) (by omega) hDn (by omega));rw [Nat.zero_sub,Int.pow_zero,Int.mul_one,Nat.sub_zero,hE,(Gw.clamp_small bE.1 bE.2 (by omega)).1] at HM;obtain⟨K,hKe⟩: ∃ K,K=Gw.hv x:=⟨_,rfl⟩;obtain⟨R,hRe⟩: ∃ R,R=Gw.rs x:=⟨_,rfl⟩;obtain⟨P,hPe⟩: ∃ P,P=Gw.ps R 21:=⟨_,rfl⟩;rw [← hKe] at hK bK hD;rw [← hRe] at hR bR HP HM;rw [← hPe] at HP HM;clear hKe hPe hE bP hRe;have hD':=hD.symm;clear hD;go_enter Tryz.func208,Tryz.ntmps208
   go_wp2_with fail
   refine(HP.out _).mono ?_;rintro e w1 ⟨rfl,k1⟩;go_wp2_with fail
   refine(HM.out _).mono ?_;rintro e w2 ⟨rfl,k2⟩;go_wp2;go_ret2;exact⟨rfl,below_tr k1 k2⟩
namespace Gw
theorem bitLen_bd': ∀ (k m:Nat),m<2^k->k<=63->1<=m->1<=Lib.bitLen m/\Lib.bitLen m<=k/\2^(Lib.bitLen m- 1)<=m/\m<2^(Lib.bitLen m)
 |0,m,h,_,h1=>absurd h (by omega)
 |k+1,m,h,hk,h1=>by
  have hb:m<2^64:=Nat.lt_of_lt_of_le h (Nat.pow_le_pow_right (by omega) (by omega))
  have e:=Lib.bitLen_half m (by omega) hb
  by_cases h2:m=1
  · subst h2
    have:Lib.bitLen 1=1:=by decide
    rw [this];omega
  · have hp:2^(k+1)=2^k*2:=Nat.pow_succ 2 k
    have ih:=bitLen_bd' k (m/2) (by omega) (by omega) (by omega)
    obtain⟨L,hL⟩: ∃ L,L=Lib.bitLen (m/2):=⟨_,rfl⟩
    rw [← hL] at ih e
    rw [e]
    have p1:2^(1+L)=2^L*2:=by rw [Nat.add_comm];exact Nat.pow_succ 2 L
    have p2:2^(1+L- 1)=2^(L- 1)*2:=by rw [show 1+L- 1=(L- 1)+1 by omega];exact Nat.pow_succ 2 (L- 1)
    rw [p1,p2]
    omega
def dn(x:Int):Int:=(Lib.bitLen x.toNat:Int)- 51
theorem dn_ok{x:Int}(h0:1<=x)(h1:x<=4611686018427387903):Dn x (dn x):=by
 have hb:=bitLen_bd' 62 x.toNat (by omega) (by omega) (by omega);unfold Dn dn;obtain⟨L,hL⟩: ∃ L,L=Lib.bitLen x.toNat:=⟨_,rfl⟩;rw [← hL] at hb ⊢;refine⟨by omega,by omega, ?_, ?_⟩
 · rw [show(50+((L:Int)- 51)).toNat=L- 1 by omega];have:((2^(L- 1):Nat):Int)=(2:Int)^(L- 1):=by simp
   omega
 · rw [show(51+((L:Int)- 51)).toNat=L by omega];have:((2^L:Nat):Int)=(2:Int)^L:=by simp
   omega
end Gw
theorem gwbFa1{p:Prop}(h:p:=by
 obtain⟨D,hD⟩: ∃ D,(2:Int)^s=D:=⟨_,rfl⟩;rw [hD] at hb ⊢;have hs4:(0:Int)<=(s:Int):=by omega
 clear hs hm;have hDw:x*D=x*D:=rfl;clear hDw;go_enter Tryz.func290,Tryz.ntmps290
 go_wp2_with (go_at_call 294;refine(HL.out _).mono ?_;rintro e w' ⟨rfl,rfl⟩)
 go_ret2
 exact⟨rfl,rfl⟩):p:=h
theorem gfrom_any(x:Int)(w:World)(h0:1<=x)(h1:x<=4611686018427387903):
 Calls Tryz.prog 290 #[.int .i64 x] w fun e w'=>e= .returned (.tuple #[.int .i64 (Gw.mo x (Gw.dn x)), .int .i64 (Gw.dn x)])/\w'=w:=by
 have hd:=Gw.dn_ok h0 h1;have hb:=Gw.mo_bd hd;obtain⟨d0,d1,_,_⟩:=hd;have HL:=Hid.mkA (fun W=>len64_int x W (by omega) (by omega));have hdn:(Lib.bitLen x.toNat:Int)=Gw.dn x+51:=by unfold Gw.dn;omega
 obtain⟨d,hd⟩: ∃ d,d=Gw.dn x:=⟨_,rfl⟩;obtain⟨b,hbe⟩: ∃ b:Int,b=(Lib.bitLen x.toNat:Int):=⟨_,rfl⟩;rw [← hbe] at HL hdn;rw [← hd] at d0 d1 hb hdn ⊢;have hb2:b- 50- 1=d:=by omega
 have hb3:0<=b:=by omega
 have hb4:b<=62:=by omega
 clear hd hdn hbe;by_cases hneg:d<0
 · have hm:Gw.mo x d=x*2^(-d).toNat:=by unfold Gw.mo;rw [if_pos hneg]
   rw [hm] at hb ⊢;obtain⟨s,hs⟩: ∃ s:Nat,s=(-d).toNat:=⟨_,rfl⟩;have hs2: -d=(s:Int):=by omega
   have hs3:(s:Int)<64:=by omega
   rw [← hs] at hb ⊢;exact gwbFa1
 · have hm:Gw.mo x d=x/2^d.toNat:=by unfold Gw.mo;rw [if_neg hneg]
   rw [hm] at hb ⊢;obtain⟨s,hs⟩: ∃ s:Nat,s=d.toNat:=⟨_,rfl⟩;have hs2:d=(s:Int):=by omega
   have hs3:(s:Int)<64:=by omega
   rw [← hs] at hb ⊢;rw [hs2] at hb2 hneg ⊢;clear hs2 d0 d1;exact gwbFa1
end
section
open Go.RowKit Qn
attribute [local go_sem ↓] Go.wp_at_zero Go.wp_at_succ
namespace Gw
theorem s0_div{m:Int}(h0:1125899906842624<=m)(h1:m<2251799813685248):
 signed (m- 1125899906842624) (m+1125899906842624) (clamp (rne (((m- 1125899906842624).natAbs:Int)*2^50) ((m+1125899906842624).natAbs:Int)))=s0 m:=by
 have e1:((m- 1125899906842624).natAbs:Int)=m- 1125899906842624:=by omega
 have e2:((m+1125899906842624).natAbs:Int)=m+1125899906842624:=by omega
 rw [e1,e2];have b:=s0_bd h0 h1;have hc:clamp (s0 m)=s0 m:=(clamp_small (n:=s0 m) (A:=562949953421312) (by omega) (by omega) (by omega)).1;show signed _ _ (clamp (s0 m))=s0 m;rw [hc];unfold signed;rw [decide_eq_false (by omega),decide_eq_false (by omega)];rfl
end Gw
theorem glogone_any(m:Int)(w:World)(h0:1125899906842624<=m)(h1:m<2251799813685248):
 Calls Tryz.prog 291 #[.int .i64 m] w fun e w'=>e= .returned (.int .i64 (2*Gw.ls m 20))/\Below w.heap.size w w':=by
 have bs:=Gw.s0_bd h0 h1;have HD:=Hid.mkA (fun W=>qdiv_any (m- 1125899906842624) (m+1125899906842624) 50 W (by omega) (by omega) (by omega) (by omega) (by omega) (by omega));rw [Gw.s0_div h0 h1] at HD;obtain⟨gr,hgr⟩: ∃ g,g=great (rne (((m- 1125899906842624).natAbs:Int)*2^50) ((m+1125899906842624).natAbs:Int)):=⟨_,rfl⟩;rw [← hgr] at HD;clear hgr;have bq:=Gw.sq_bd h0 h1;have HQ:=Hid.mkA (fun W=>gtim_any (Gw.s0 m) (Gw.s0 m) W (by omega) (by omega) (by omega) (by omega));have HU:=Hid.mkA (fun n=>Gw.us_bd h0 h1 n);have HLs:=Hid.mkA (fun n=>Gw.ls_bd h0 h1 n);have hu0:Gw.us m 0=Gw.s0 m:=rfl;have HUs:Hid (∀ n,Gw.us m (n+1)=Gw.tim (Gw.us m n) (Gw.tim (Gw.s0 m) (Gw.s0 m))):=Hid.mkA (fun n=>rfl);obtain⟨q,hq⟩: ∃ q,q=Gw.tim (Gw.s0 m) (Gw.s0 m):=⟨_,rfl⟩;obtain⟨s,hs⟩: ∃ s,s=Gw.s0 m:=⟨_,rfl⟩;rw [← hq] at bq HQ HUs;rw [← hs] at bs HD HQ hu0;have HU0:=Hid.mkA hu0;clear hq hs hu0;go_enter Tryz.func291,Tryz.ntmps291
 go_wp2_with fail
 refine(HD.out _).mono ?_;rintro e w1 ⟨rfl,k1⟩;go_wp2_with fail
 refine(HQ.out _).mono ?_;rintro e w2 ⟨rfl,k2⟩;have K2:=below_tr k1 k2;clear k1 k2 HD HQ;go_wp2;go_loopw [7,8,23] (fun a p n wr=> ∃ j:Nat,j<=20/\n= .int .i64 (j:Int)/\a= .int .i64 (Gw.ls m j)/\p= .int .i64 (Gw.us m j)/\Below w.heap.size w wr) (fun _ _ n _=>20- (intOf n).toNat)
 case atStart=>exact⟨0,by omega,rfl,rfl,by rw [HU0.out],K2⟩
 case round=>
  obtain⟨j,hj,rfl,rfl,rfl,hB⟩:=hrel;have bu:=HU.out j;have bl:=HLs.out j;by_cases hjk:j<20
  ·have bl':=HLs.out (j+1);have bt:=Gw.tdiv_bd (2*j+1) bu.1 bu.2;have HS:=Hid.mkA (Gw.ls_step m j);have HN:=HUs.out j;have HC:=Hid.mkA (fun W=>gtim_any (Gw.us m j) q W (by omega) (by omega) (by omega) (by omega));rw [← HN] at HC;obtain⟨u,hu⟩: ∃ u,u=Gw.us m j:=⟨_,rfl⟩;obtain⟨u',hu'⟩: ∃ u,u=Gw.us m (j+1):=⟨_,rfl⟩;obtain⟨a,ha⟩: ∃ a,a=Gw.ls m j:=⟨_,rfl⟩;rw [← hu] at bu bt HS HC;rw [← hu'] at HC;rw [← ha] at bl HS;rw [← hu,← ha];have e1:(2*(j:Int)+1)=((2*j+1:Nat):Int):=by omega
   rw [← e1] at bt HS;obtain⟨t,ht⟩: ∃ t,u.tdiv (2*(j:Int)+1)=t:=⟨_,rfl⟩;rw [ht] at bt HS;have HU':=Hid.mkA hu';clear e1 HN hu hu' ha bl';go_wp2_with fail
   refine(HC.out _).mono ?_;rintro e w3 ⟨rfl,k3⟩;go_wp2;all_goals go_roundw
   case rel=>exact⟨j+1,by omega,by go_num,by rw [HS.out],by rw [HU'.out],below_tr hB k3⟩
   case measure=>simp [intOf];omega
  ·obtain rfl:j=20:=by omega
   go_wp2;go_ret;exact⟨rfl,hB⟩
theorem glog_any(x:Int)(b:Nat)(w:World)(h0:1<=x)(h1:x<=4611686018427387903)(hb:b<=62):
 Calls Tryz.prog 266 #[.int .i64 x, .int .i64 b] w fun e w'=>e= .returned (.tuple #[.int .i64 (Gw.lgb x (Gw.dn x) b), .nilIface])/\Below w.heap.size w w':=by
 have hd:=Gw.dn_ok h0 h1;have bm:=Gw.mo_bd hd;obtain⟨d0,d1,_,_⟩:=hd;have HF:=Hid.mkA (fun W=>gfrom_any x W h0 h1);have HO:=Hid.mkA (fun W=>glogone_any (Gw.mo x (Gw.dn x)) W bm.1 bm.2);have bi:=Gw.lg_in bm.1 bm.2 (e:=Gw.dn x- (b:Int)+50) (by omega) (by omega);have bl:=Gw.lg_bd bm.1 bm.2 (e:=Gw.dn x- (b:Int)+50) (by omega) (by omega);have bs:=Gw.ls_bd bm.1 bm.2 20;have HM:=Hid.mkA (fun W=>gmoved_any (2*Gw.ls (Gw.mo x (Gw.dn x)) 20+(Gw.dn x- (b:Int)+50)*780414346020670) 50 20 W (by omega) (by omega) (by omega) (by omega))
 have hv:clamp (rne ((2*Gw.ls (Gw.mo x (Gw.dn x)) 20+(Gw.dn x- (b:Int)+50)*780414346020670)*2^(20- 50)) (2^(50- 20)))=Gw.lgb x (Gw.dn x) b:=by
  rw [show 20- 50=0 from rfl,Int.pow_zero,Int.mul_one,show 50- 20=30 from rfl];exact(Gw.clamp_small bl.1 bl.2 (by omega)).1
 rw [hv] at HM;obtain⟨V,hV⟩: ∃ V,V=Gw.lgb x (Gw.dn x) b:=⟨_,rfl⟩;rw [← hV] at HM ⊢;obtain⟨S,hS⟩: ∃ S,S=Gw.ls (Gw.mo x (Gw.dn x)) 20:=⟨_,rfl⟩;rw [← hS] at HM HO bi bs;obtain⟨m,hm⟩: ∃ m,m=Gw.mo x (Gw.dn x):=⟨_,rfl⟩;rw [← hm] at HO HF;obtain⟨d,hd⟩: ∃ d,d=Gw.dn x:=⟨_,rfl⟩;rw [← hd] at HF HM bi d0 d1;clear hV hS hm hd hv bl bm;have c1:decide (x<1)=false:=decide_eq_false (by omega);have c2:decide (4611686018427387903<x)=false:=decide_eq_false (by omega);have c3:decide ((b:Int)<0)=false:=decide_eq_false (by omega);have c4:decide (62<(b:Int))=false:=decide_eq_false (by omega);go_enter Tryz.func266,Tryz.ntmps266
 go_wp2_with fail
 refine(HF.out _).mono ?_;rintro e w1 ⟨rfl,rfl⟩;go_wp2_with fail
 refine(HO.out _).mono ?_;rintro e w2 ⟨rfl,k2⟩;go_wp2_with fail
 refine(HM.out _).mono ?_;rintro e w3 ⟨rfl,k3⟩;go_wp2;go_ret2;exact⟨rfl,below_tr k2 k3⟩
end
section
open Go.RowKit Vc Qn
theorem byPart_any(K:FuncId)(cs:Array Value)(hk: ∀ (xs:Array Value) (W:World),(callFunc K xs).run Tryz.prog W= .ok (.enter K xs) W)(x:Addr)(m cm n c0:Nat)(a0:Option Addr)(r:Nat->Int)(g:Nat->Bool)(w:World)(hm:0<m)(hmc:m<=cm)(hcm:cm<=9223372036854775807)(h0:w.cell? x=some (.slice a0 n c0))(hn:n<=6)
 (hal:Calls Tryz.prog 287 #[.slice (some x) m cm] w fun e w'=>e= .returned (.bool true)/\w'=w)
 (hcl: ∀ k,k<n-> ∀ w1,Below w.heap.size w w1->Calls Tryz.prog K (#[.int .i64 (k:Int)]++cs) w1 fun e w'=>e= .returned (.tuple #[.int .i64 (r k), .bool (g k), .nilIface])/\Below w1.heap.size w1 w'):
 Calls Tryz.prog 253 #[.func (.func K) #[] cs, .slice (some x) m cm] w fun e w'=> ∃ ao ca,e= .returned (.tuple #[.slice ao n ca, .bool (anyb g n), .nilIface])/\Sl w' ao n ca r/\Below w.heap.size w w':=by
 have HAL:=Hid.mkV hal;have HCL:=Hid.mkV hcl;have HK:=Hid.mkV hk;clear hal hcl hk;obtain⟨i0,hi,hz0,hz1,hz2⟩:=info_parts infoI64;go_enter Tryz.func253,Tryz.ntmps253
 go_wp2_with fail
 refine HAL.out.mono ?_;rintro e w' ⟨rfl,rfl⟩;go_wp2_with (at_make;refine wpList_make_full _ rfl _ _ 27 rfl w'.heap.size 2 i0 (.int .i64 0) 1 Tryz.underlying27 hi hz0 hz1 _ _ _ _ n rfl rfl (by omega) (by omega) (by rw [hz2];omega) (by unfold maxLen;omega) (Nat.le_refl _) ?_)
 intro w0 hown0 hgrow0;have hO0:=own_made hown0 hgrow0 (Nat.le_refl _);clear hown0 hgrow0;go_wp2;go_loopw [8,24] (fun gr i wr=> ∃ (k:Nat) (z:Nat->Int),k<=n/\i= .int .i64 (k:Int)/\gr= .bool (anyb g k)/\(∀ j,j<k->z j=r j)/\Own w'.heap.size w' wr (.slice (some ⟨w'.heap.size,0,none⟩) n n) n z) (fun _ i _=>n- (intOf i).toNat)
 case atStart=>exact⟨0,fun _=>0,by omega,rfl,rfl,fun j hj=>by omega,hO0⟩
 case round=>
  obtain⟨k,z,hk,rfl,rfl,hzz,hown⟩:=hrel;by_cases h:k<n
  ·have HC:=Hid.mkV (HCL.out k h _ hown.below);have HA:Hid (anyb g (k+1)=(anyb g k||g k)):=rfl;have HZZ:=Hid.mkV hzz;clear hzz;obtain⟨R,hR⟩: ∃ R,R=r k:=⟨_,rfl⟩;obtain⟨G,hG⟩: ∃ G,G=g k:=⟨_,rfl⟩;obtain⟨T,hT⟩: ∃ T,T=anyb g k:=⟨_,rfl⟩;rw [← hR,← hG] at HC;rw [← hT,← hG] at HA;rw [← hT];have HR:=Hid.mkV hR;clear hR hG hT;go_wp2_with fail
   rw [HK.out,Oper.upon_enter];refine HC.out.mono ?_;rintro e w2 ⟨rfl,k2⟩;have hown2:=hown.keep k2;have c3:=hown2.cell h;have f3:=hown2.free k;cases T
   all_goals go_wp2
   all_goals go_roundw
   all_goals first
    |(simp [intOf];omega)
    |exact⟨k+1,_,by omega,by go_num,by rw [HA.out];first|rfl|simp,fun j hj=>(by by_cases e:j=k;(rw [if_pos e,e];exact HR.out);(rw [if_neg e];exact HZZ.out j (by omega))),hown2.set k R⟩
  ·obtain rfl:k=n:=by omega
   go_wp2;go_ret3;obtain⟨ao,ca,e1,e2⟩:=hown.sl;cases e1
   exact⟨_,_,rfl,e2.congr hzz,hown.below⟩
section
set_option maxRecDepth 10000
theorem byPart_Sub(p q:Value)(x:Addr)(m cm n c0:Nat)(a0:Option Addr)(r:Nat->Int)(g:Nat->Bool)(w:World)(hm:0<m)(hmc:m<=cm)(hcm:cm<=9223372036854775807)(h0:w.cell? x=some (.slice a0 n c0))(hn:n<=6)
 (hal:Calls Tryz.prog 287 #[.slice (some x) m cm] w fun e w'=>e= .returned (.bool true)/\w'=w)
 (hcl: ∀ k,k<n-> ∀ w1,Below w.heap.size w w1->Calls Tryz.prog 298 #[.int .i64 (k:Int),p,q] w1 fun e w'=>e= .returned (.tuple #[.int .i64 (r k), .bool (g k), .nilIface])/\Below w1.heap.size w1 w'):
 Calls Tryz.prog 253 #[.func (.func 298) #[] #[p,q], .slice (some x) m cm] w fun e w'=> ∃ ao ca,e= .returned (.tuple #[.slice ao n ca, .bool (anyb g n), .nilIface])/\Sl w' ao n ca r/\Below w.heap.size w w':=
 byPart_any 298 #[p,q] (fun _ _=>rfl) x m cm n c0 a0 r g w hm hmc hcm h0 hn hal hcl
theorem byPart_Join(p q:Value)(x:Addr)(m cm n c0:Nat)(a0:Option Addr)(r:Nat->Int)(g:Nat->Bool)(w:World)(hm:0<m)(hmc:m<=cm)(hcm:cm<=9223372036854775807)(h0:w.cell? x=some (.slice a0 n c0))(hn:n<=6)
 (hal:Calls Tryz.prog 287 #[.slice (some x) m cm] w fun e w'=>e= .returned (.bool true)/\w'=w)
 (hcl: ∀ k,k<n-> ∀ w1,Below w.heap.size w w1->Calls Tryz.prog 254 #[.int .i64 (k:Int),p,q] w1 fun e w'=>e= .returned (.tuple #[.int .i64 (r k), .bool (g k), .nilIface])/\Below w1.heap.size w1 w'):
 Calls Tryz.prog 253 #[.func (.func 254) #[] #[p,q], .slice (some x) m cm] w fun e w'=> ∃ ao ca,e= .returned (.tuple #[.slice ao n ca, .bool (anyb g n), .nilIface])/\Sl w' ao n ca r/\Below w.heap.size w w':=
 byPart_any 254 #[p,q] (fun _ _=>rfl) x m cm n c0 a0 r g w hm hmc hcm h0 hn hal hcl
end
end
section
open Go.RowKit Vc Qn Dt
namespace Vc
theorem Sls.two{W:World}{x:Addr}{a b:Option Addr}{n m ca cb:Nat}(h0:W.cell? x=some (.slice a n ca))(h1:W.cell? (x.add 1)=some (.slice b m cb)):Sls W (some x) 2 2 (fun j=>if j=0 then a else b) (fun j=>if j=0 then n else m) (fun j=>if j=0 then ca else cb):=
 ⟨Nat.le_refl _,by omega,fun j hj=>⟨x,rfl,by
  match j,hj with
  |0,_=>exact h0
  |1,_=>exact h1⟩⟩
theorem Sls.len{W:World}{lo:Option Addr}{m cm:Nat}{A:Nat->Option Addr}{L L' C:Nat->Nat}(h:Sls W lo m cm A L C)(e: ∀ j,j<m->L j=L' j):Sls W lo m cm A L' C:=
 ⟨h.le,h.cap,fun j hj=>by rw [← e j hj];exact h.at' j hj⟩
end Vc
theorem vsub1_any(k n ca cb:Nat)(ao bo:Option Addr)(za zb:Nat->Int)(pa pb:Nat)(w:World)(hk:k<n)(ha:Sl w ao n ca za)(hb:Sl w bo n cb zb)(ba:B64 za)(bb:B64 zb)
 (cp:w.cell? ⟨pa,0,none⟩=some (.slice ao n ca)) (cq:w.cell? ⟨pb,0,none⟩=some (.slice bo n cb)):
 Calls Tryz.prog 298 #[.int .i64 (k:Int), .pointer (some ⟨pa,0,none⟩), .pointer (some ⟨pb,0,none⟩)] w fun e w'=>e= .returned (.tuple #[.int .i64 (clamp (za k- zb k)), .bool (great (za k- zb k)), .nilIface])/\Below w.heap.size w w':=by
 obtain⟨xa,hao,hca⟩:=ha.get;obtain⟨xb,hbo,hcb⟩:=hb.get;obtain rfl:=hao (by omega);obtain rfl:=hbo (by omega);have h1:=ha.le;have h2:=ha.cap;have h3:=hb.le;have h4:=hb.cap;have c1:=hca k hk;have c2:=hcb k hk;have HM:=Hid.mkV (fun W=>qsub_any (za k) (zb k) W (ba k).1 (ba k).2 (bb k).1 (bb k).2);obtain⟨P,hP⟩: ∃ P,P=za k:=⟨_,rfl⟩;obtain⟨Q,hQ⟩: ∃ Q,Q=zb k:=⟨_,rfl⟩;rw [← hP,← hQ] at HM;rw [← hP] at c1;rw [← hQ] at c2;rw [← hP,← hQ];clear hao hbo hca hcb ha hb ba bb hP hQ;obtain⟨X,hX⟩: ∃ X,X=clamp (P- Q):=⟨_,rfl⟩;obtain⟨Y,hY⟩: ∃ Y,Y=great (P- Q):=⟨_,rfl⟩;rw [← hX,← hY] at HM;rw [← hX,← hY];clear hX hY;go_enter Tryz.func298,Tryz.ntmps298
 go_wp2
 go_region_held3 (fun w'=>w'.cell? ⟨pa,0,none⟩=some (.slice (some xa) n ca)/\w'.cell? ⟨pb,0,none⟩=some (.slice (some xb) n cb)/\w'.cell? (xa.add k)=some (.int .i64 P)/\w'.cell? (xb.add k)=some (.int .i64 Q)) (first|exact⟨cp,cq,c1,c2⟩|exact⟨keep_cell kk cp,keep_cell kk cq,keep_cell kk c1,keep_cell kk c2⟩|go_keep)
  (first|(go_at_call 207;refine(HM.out _).mono ?_;rintro e w2 ⟨rfl,k2⟩;have kk:=below_tr (Vc.below_drew' w) k2))
 all_goals go_wp2
 all_goals go_ret3
 all_goals exact⟨rfl,kk⟩
theorem vsub_any(n ca cb:Nat)(ao bo:Option Addr)(za zb:Nat->Int)(w:World)(hn:n<=6)(ha:Sl w ao n ca za)(hb:Sl w bo n cb zb)(ba:B64 za)(bb:B64 zb):
 Calls Tryz.prog 288 #[.slice ao n ca, .slice bo n cb] w fun e w'=> ∃ co cc,e= .returned (.tuple #[.slice co n cc, .bool (anyb (fun k=>great (za k- zb k)) n), .nilIface])/\Sl w' co n cc (fun k=>clamp (za k- zb k))/\Below w.heap.size w w':=by
 have hW:=below_al (below_al (below_al (Below.refl _ w) (.cells #[.slice ao n ca] 27)) (.cells #[.slice bo n cb] 27)) (.cells #[.slice ao n ca, .slice bo n cb] 27);have d1:(((w.alloc (.cells #[.slice ao n ca] 27)).alloc (.cells #[.slice bo n cb] 27)).alloc (.cells #[.slice ao n ca, .slice bo n cb] 27)).cell? ⟨w.heap.size,0,none⟩=some (.slice ao n ca):=by go_simp
 have d2:(((w.alloc (.cells #[.slice ao n ca] 27)).alloc (.cells #[.slice bo n cb] 27)).alloc (.cells #[.slice ao n ca, .slice bo n cb] 27)).cell? ⟨w.heap.size+1,0,none⟩=some (.slice bo n cb):=by go_simp
 have d3:(((w.alloc (.cells #[.slice ao n ca] 27)).alloc (.cells #[.slice bo n cb] 27)).alloc (.cells #[.slice ao n ca, .slice bo n cb] 27)).cell? ⟨w.heap.size+1+1,0,none⟩=some (.slice ao n ca):=by go_simp
 have d4:(((w.alloc (.cells #[.slice ao n ca] 27)).alloc (.cells #[.slice bo n cb] 27)).alloc (.cells #[.slice ao n ca, .slice bo n cb] 27)).cell? ((⟨w.heap.size+1+1,0,none⟩:Addr).add 1)=some (.slice bo n cb):=by rw [Addr.add_lit];go_simp
 have H:=Hid.mkV (byPart_Sub (.pointer (some ⟨w.heap.size,0,none⟩)) (.pointer (some ⟨w.heap.size+1,0,none⟩)) ⟨w.heap.size+1+1,0,none⟩ 2 2 n ca ao (fun k=>clamp (za k- zb k)) (fun k=>great (za k- zb k)) _ (by omega) (by omega) (by omega) d3 hn
  (alike_yes _ 2 2 _ n _ _ ((Sls.two d3 d4).len (fun j hj=>by split<;>rfl)) (by omega) hn)
  (fun k hk w1 b1=>vsub1_any k n ca cb ao bo za zb w.heap.size (w.heap.size+1) w1 hk (ha.keep (below_tr hW b1)) (hb.keep (below_tr hW b1)) ba bb (keep_cell b1 d1) (keep_cell b1 d2)))
 clear d1 d2 d3 d4 ha hb ba bb;go_enter Tryz.func288,Tryz.ntmps288
 go_wp2_with fail
 refine H.out.mono ?_;rintro e w1 ⟨co,cc,rfl,hs,k1⟩;go_wp2;go_ret3;exact⟨co,cc,rfl,hs,below_tr hW k1⟩
end
section
open Go.RowKit Vc Qn Dt
theorem qdot_sl(ao bo:Option Addr)(n ca cb:Nat)(za zb:Nat->Int)(q:Int)(b:Nat)(w:World)(hq:q=(b:Int))(hn:n<=64)(ha:Sl w ao n ca za)(hb:Sl w bo n cb zb)(ba:B64 za)(bb:B64 zb)(hp:b<=62):
 Calls Tryz.prog 237 #[.slice ao n ca, .slice bo n cb, .int .i64 q] w fun e w'=>e= .returned (.tuple #[.int .i64 (clamp (rne (dk za zb n) (2^b))), .bool (great (rne (dk za zb n) (2^b))), .nilIface])/\Below w.heap.size w w':=by
 subst hq;obtain⟨xa,hao,hca⟩:=ha.get;obtain⟨xb,hbo,hcb⟩:=hb.get;exact qdot_any ao bo xa xb n ca cb za zb b w hn hao hbo hca hcb ba bb hp
theorem vjoin1_any(p:Nat)(lo ho:Option Addr)(m cm hc:Nat)(A:Nat->Option Addr)(L C:Nat->Nat)(Z:Nat->Nat->Int)(c:Nat->Int)(pa pb:Nat)(w:World)(h:Sls w lo m cm A L C)(hz: ∀ k,k<m->Sl w (A k) (L k) (C k) (Z k))(hp: ∀ k,k<m->p<L k)(hm:m<=4)
 (hch:Sl w ho m hc c) (bz:B64 (fun k=>Z k p)) (bc:B64 c) (cp:w.cell? ⟨pa,0,none⟩=some (.slice lo m cm)) (cq:w.cell? ⟨pb,0,none⟩=some (.slice ho m hc)):
 Calls Tryz.prog 254 #[.int .i64 (p:Int), .pointer (some ⟨pa,0,none⟩), .pointer (some ⟨pb,0,none⟩)] w fun e w'=>e= .returned (.tuple #[.int .i64 (clamp (rne (dk (fun k=>Z k p) c m) (2^30))), .bool (great (rne (dk (fun k=>Z k p) c m) (2^30))), .nilIface])/\Below w.heap.size w w':=by
 have HP:Hid (∀ W,Below w.heap.size w W->Calls Tryz.prog 255 #[.int .i64 (p:Int), .slice lo m cm] W fun e w'=> ∃ ao ca,e= .returned (.slice ao m ca)/\Sl w' ao m ca (fun k=>Z k p)/\Below W.heap.size W w'):=
  fun W b=>partsAt_any p lo m cm A L C Z W (h.keep b) (fun k hk=>(hz k hk).keep b) hp (by omega)
 have HD:Hid (∀ ao ca W,Below w.heap.size w W->Sl W ao m ca (fun k=>Z k p)->Calls Tryz.prog 237 #[.slice ao m ca, .slice ho m hc, .int .i64 30] W fun e w'=>e= .returned (.tuple #[.int .i64 (clamp (rne (dk (fun k=>Z k p) c m) (2^30))), .bool (great (rne (dk (fun k=>Z k p) c m) (2^30))), .nilIface])/\Below W.heap.size W w'):=
  fun ao ca W b hs=>qdot_sl ao ho m ca hc _ c 30 30 W rfl (by omega) hs (hch.keep b) bz bc (by omega)
 obtain⟨X,hX⟩: ∃ X,X=clamp (rne (dk (fun k=>Z k p) c m) (2^30)):=⟨_,rfl⟩;obtain⟨Y,hY⟩: ∃ Y,Y=great (rne (dk (fun k=>Z k p) c m) (2^30)):=⟨_,rfl⟩;rw [← hX,← hY] at HD;rw [← hX,← hY];clear hX hY h hz hp hch bz bc;go_enter Tryz.func254,Tryz.ntmps254
 go_wp2
 go_region_held3 (fun w'=>w'.cell? ⟨pa,0,none⟩=some (.slice lo m cm)/\w'.cell? ⟨pb,0,none⟩=some (.slice ho m hc)) (first|exact⟨cp,cq⟩|exact⟨keep_cell k3 cp,keep_cell k3 cq⟩|exact⟨keep_cell kk cp,keep_cell kk cq⟩|go_keep)
  (first
    |(go_at_call 255;refine(HP.out _ (by exact Vc.below_drew' w)).mono ?_;rintro e w2 ⟨ao,ca,rfl,hs2,k2⟩;have kk:=below_tr (Vc.below_drew' w) k2)
    |(go_at_call 237;refine(HD.out _ _ _ (by exact kk) (by exact hs2)).mono ?_;rintro e w3 ⟨rfl,k3'⟩;have k3:=below_tr kk k3'))
 all_goals go_wp2
 all_goals go_ret3
 all_goals exact⟨rfl,k3⟩
theorem vjoin_any(n:Nat)(lo ho:Option Addr)(m cm hc:Nat)(A:Nat->Option Addr)(C:Nat->Nat)(Z:Nat->Nat->Int)(c:Nat->Int)(w:World)(h:Sls w lo m cm A (fun _=>n) C)(hz: ∀ k,k<m->Sl w (A k) n (C k) (Z k))(hn:n<=6)(hm0:0<m)(hm:m<=4)
 (hch:Sl w ho m hc c) (bz: ∀ k,B64 (Z k)) (bc:B64 c):
 Calls Tryz.prog 175 #[.slice lo m cm, .slice ho m hc] w fun e w'=> ∃ co cc,e= .returned (.tuple #[.slice co n cc, .bool (anyb (fun p=>great (rne (dk (fun k=>Z k p) c m) (2^30))) n), .nilIface])/\Sl w' co n cc (fun p=>clamp (rne (dk (fun k=>Z k p) c m) (2^30)))/\Below w.heap.size w w':=by
 obtain⟨x,hlo,hcl⟩:=h.get;obtain rfl:=hlo hm0;have hW:=below_al (below_al (Below.refl _ w) (.cells #[.slice (some x) m cm] 23)) (.cells #[.slice ho m hc] 27);have d1:((w.alloc (.cells #[.slice (some x) m cm] 23)).alloc (.cells #[.slice ho m hc] 27)).cell? ⟨w.heap.size,0,none⟩=some (.slice (some x) m cm):=by go_simp
 have d2:((w.alloc (.cells #[.slice (some x) m cm] 23)).alloc (.cells #[.slice ho m hc] 27)).cell? ⟨w.heap.size+1,0,none⟩=some (.slice ho m hc):=by go_simp
 have d3:=keep_cell hW (hcl 0 hm0);have l1:=h.le;have l2:=h.cap;have l3:=hch.le;have l4:=hch.cap
 have H:=Hid.mkV (byPart_Join (.pointer (some ⟨w.heap.size,0,none⟩)) (.pointer (some ⟨w.heap.size+1,0,none⟩)) x m cm n (C 0) (A 0) (fun p=>clamp (rne (dk (fun k=>Z k p) c m) (2^30))) (fun p=>great (rne (dk (fun k=>Z k p) c m) (2^30))) _ hm0 l1 l2 d3 hn
  (alike_yes _ m cm _ n _ _ (h.keep hW) hm0 hn)
  (fun p hp w1 b1=>vjoin1_any p (some x) ho m cm hc A (fun _=>n) C Z c w.heap.size (w.heap.size+1) w1 (h.keep (below_tr hW b1)) (fun k hk=>(hz k hk).keep (below_tr hW b1)) (fun _ _=>hp) hm (hch.keep (below_tr hW b1)) (fun k=>bz k p) bc (keep_cell b1 d1) (keep_cell b1 d2)))
 clear d1 d2 d3 h hz hch bz bc hcl hlo;have e1:decide ((m:Int)>4)=false:=decide_eq_false (by omega);go_enter Tryz.func175,Tryz.ntmps175
 go_wp2_with fail
 refine H.out.mono ?_;rintro e w1 ⟨co,cc,rfl,hs,k1⟩;go_wp2;go_ret3;exact⟨co,cc,rfl,hs,below_tr hW k1⟩
end
end Go.Proofs.YtcefcokpjbebhaaGreatDoor
