/-
  Radians of the document's answer of layer 4 (radomeref04): a direction times the half turn, by two to a power, rounded.
-/
import Derived.Test.YtcefcokpjbebhaaGreatDoorM28
import Derived.Test.YtcefcokpjbebhaaGreatDoorM17
set_option linter.unusedSimpArgs false
set_option linter.unusedVariables false
namespace Go.Proofs.YtcefcokpjbebhaaGreatDoor
open Go.RowKit Dec
attribute [local go_sem ↓] Go.wp_at_zero Go.wp_at_succ
namespace Dec
theorem rn_rne(n d:Nat):(rn n d:Int)=Tn.rne (n:Int) (d:Int):=by
 unfold rn Tn.rne;have e1:(n:Int)%(d:Int)=((n%d:Nat):Int):=(Int.natCast_emod n d).symm;have e2:(n:Int)/(d:Int)=((n/d:Nat):Int):=(Int.natCast_ediv n d).symm;rw [e1,e2];generalize n%d=r;generalize n/d=q;by_cases c:2*r<d\/2*r=d/\q%2=0
 · rw [if_pos c,if_pos om1]
 · rw [if_neg c,if_neg om1];rfl
theorem rn_rad(t b:Nat)(hb:b<=60):((rn (t*3622009729038561421) (2^(91- b)):Nat):Int)=Tn.rad (t:Int) b:=by
 rw [rn_rne];unfold Tn.rad
 have e0:(t:Int)*4294967296*7244019458077122842/18446744073709551616*18446744073709551616+(t:Int)*4294967296*7244019458077122842%18446744073709551616=((t*3622009729038561421:Nat):Int)*8589934592:=by
  rw [Int.natCast_mul];omega
 have e1:(18446744073709551616:Int)*2^(60- b)=((2^(91- b):Nat):Int)*8589934592:=by
  have h1:91- b=31+(60- b):=om1;rw [h1,Nat.pow_add,Int.natCast_mul,Int.natCast_pow,Int.natCast_pow];have hX:(2:Int)^(60- b)=((2:Nat):Int)^(60- b):=rfl;generalize ((2:Nat):Int)^(60- b)=X at*;have:(((2:Nat):Int)^31)=2147483648:=by decide
  rw [this];have e2: ∀ Y:Int,Y=X->18446744073709551616*Y=2147483648*X*8589934592:=by intro Y h;omega
  exact e2 _ (by assumption)
 rw [e0,e1,Tn.rne_scale _ _ _ (by have:=Nat.two_pow_pos (91- b);omega) om1]
end Dec
set_option maxHeartbeats 1000000 in
theorem rrad_any(t b:Nat)(w:World)(ht:t<=4294967295)(hb:b<=60):
 Calls Tryz.prog 108 #[.int .i64 t, .int .i64 b] w fun e w'=> ∃ v,e= .returned v/\IsNum w' v (Tn.rad (t:Int) b)/\Below w.heap.size w w':=by
 have hk:91- (b:Int)=((91- b:Nat):Int):=om1;have t0:(0:Int)<=(t:Int):=om1;have t1:(t:Int)<=4294967295:=om1;have b0:(0:Int)<=(b:Int):=om1;have b1:(b:Int)<=60:=om1
 have lt:(digs (t:Int).natAbs).length<=1000000:=by
  have:=length_digs_le (show t<10^10 by omega);rw [len_nat];omega
 have lp:(digs (3622009729038561421:Int).natAbs).length<=1000000:=by
  have:=length_digs_le (show(3622009729038561421:Int).natAbs<10^19 by decide);omega
 have lm:(digs (t*3622009729038561421)).length<=800000:=by
  have:=length_digs_le (show t*3622009729038561421<10^30 by omega);omega
 have l2:(digs (2^(91- b))).length<=800000:=by have:=len_two (91- b);omega
 have hw':=rn_rad t b hb;obtain⟨R,hR⟩: ∃ R,R=rn (t*3622009729038561421) (2^(91- b)):=⟨_,rfl⟩;rw [← hR] at hw';rw [← hw'];have HR:=Hid.mk' hR;clear hR hw';go_enter Tryz.func108,Tryz.ntmps108
 go_wp2_with fail
 refine(of_any (t:Int) _ om1 om1).mono ?_;rintro e w1 ⟨v1,rfl,h1,k1⟩;go_wp2_with fail
 refine(of_any 3622009729038561421 _ om1 om1).mono ?_;rintro e w2 ⟨v2,rfl,h2,k2⟩;go_wp2_with fail
 refine(mul_any _ _ (t:Int) 3622009729038561421 _ lt lp (h1.below k2) h2).mono ?_;rintro e w3 ⟨v3,rfl,h3,k3⟩;replace h3:IsNum w3 v3 ((t*3622009729038561421:Nat):Int):=by rw [Int.natCast_mul];exact h3
 go_wp2_with fail
 try rw [hk]
 refine(two_any (91- b) _ om1).mono ?_;rintro e w4 ⟨v4,rfl,h4,k4⟩;go_wp2_with fail
 refine(round_nat _ _ (t*3622009729038561421) (2^(91- b)) _ (Nat.two_pow_pos _) lm l2 (h3.below k4) h4).mono ?_;rintro e w5 ⟨v5,rfl,h5,k5⟩;rw [← HR.out] at h5;obtain⟨a5,L5,c5,rfl⟩:=h5.form0;have kB:=((((((row2_new w (.bool false) (.slice none 0 0)).keep k1).keep k2).keep k3).keep k4).keep k5);have g0:=kB.c0;have g1:=kB.c1;have g2:=kB.free 0;have g3:=kB.free 1;have hB:=below_tr (below_tr (below_tr (below_tr (below_tr (below_al (Below.refl _ w) _) k1) k2) k3) k4) k5;go_wp2;have e5:=kB.set2 (.bool false) (.slice a5 L5 c5);have u0:=e5.c0;have u1:=e5.c1;refine bodyPost_ret (v:= .agg #[.bool false, .slice a5 L5 c5]) ?_ rfl ⟨_,rfl,h5.row2 kB _ _,below_set2 hB (Nat.le_refl _) _ _⟩;clear e5 g0 g1 g2 g3;revert u0 u1;generalize (w5.setCell ⟨w.heap.size,0,none⟩ (.bool false)).setCell ⟨w.heap.size,1,none⟩ (.slice a5 L5 c5)=W5;intro u0 u1;simp [results,Tryz.results108,go_sem,u0,u1]
end Go.Proofs.YtcefcokpjbebhaaGreatDoor
