/-
  A sum by two to a power, rounded.
-/
import Derived.Test.YtcefcokpjbebhaaGreatDoorQD
import Derived.Deep.RegionHeld3
import Derived.Deep.DrawnRows
import Derived.Laws.BitsAllLaws
set_option linter.unusedSimpArgs false
set_option linter.unusedVariables false
namespace Go.Proofs.YtcefcokpjbebhaaGreatDoor
section
open Go.RowKit Qn
attribute [local go_sem ↓] Go.wp_at_zero Go.wp_at_succ
namespace Qn
theorem xG(X D E:Int)(hD:0<D)(hE:0<E)(hDE:D*E=18446744073709551616):
 X%18446744073709551616/D+X/18446744073709551616%18446744073709551616*E%18446744073709551616=X/D%18446744073709551616/\X%18446744073709551616/D<E/\0<=X%18446744073709551616/D/\ ∃ k:Int,0<=k/\X/18446744073709551616%18446744073709551616*E%18446744073709551616=E*k:=by
 have hX:X=D*(E*(X/18446744073709551616))+X%18446744073709551616:=by
  rw [← Int.mul_assoc,hDE];omega
 generalize hY:X/18446744073709551616=Y at*;generalize hr:X%18446744073709551616=r at*;have hr0:0<=r:=om1;have hr1:r<18446744073709551616:=om1
 have e1:X/D=E*Y+r/D:=by
  rw [hX,Int.add_comm,Int.add_mul_ediv_left _ _ om1,Int.add_comm]
 have hlt:r/D<E:=Int.ediv_lt_of_lt_mul hD (by rw [Int.mul_comm,hDE];exact hr1);have h0:0<=r/D:=Int.ediv_nonneg hr0 om1
 have e2:Y%18446744073709551616*E%18446744073709551616=E*(Y%D):=by
  have:Y%18446744073709551616*E%18446744073709551616=Y*E%18446744073709551616:=by
   rw [Int.mul_emod,Int.emod_emod_of_dvd _ (Int.dvd_refl _),← Int.mul_emod]
  rw [this,← hDE,Int.mul_comm D E,Int.mul_comm Y E,Int.mul_emod_mul_of_pos _ _ hE]
 have hm0:0<=Y%D:=Int.emod_nonneg _ om1;have hm1:Y%D<D:=Int.emod_lt_of_pos _ hD;refine⟨?_,hlt,h0,Y%D,hm0,e2⟩;rw [e2,e1]
 have e3:(E*Y+r/D)%18446744073709551616=E*(Y%D)+r/D:=by
  have hb:E*(Y%D)+r/D<18446744073709551616:=by
   have:E*(Y%D+1)<=E*D:=Int.mul_le_mul_of_nonneg_left om1 om1;rw [Int.mul_add,Int.mul_comm E D,hDE] at this;omega
  have hb0:0<=E*(Y%D):=Int.mul_nonneg om1 hm0
  have:E*Y+r/D=E*(Y%D)+r/D+18446744073709551616*(Y/D):=by
   have:=Int.emod_add_mul_ediv Y D;have h2:E*Y=E*(Y%D)+E*(D*(Y/D)):=by rw [← Int.mul_add,this]
   rw [h2,← Int.mul_assoc E D,Int.mul_comm E D,hDE];omega
  rw [this,Int.add_mul_emod_self_left];exact Int.emod_eq_of_lt om1 hb
 rw [e3];omega
theorem Ji(a b E:Int)(q:Nat)(hE:(2:Int)^q=E)(ha0:0<=a)(ha:a<E)(hb0:0<=b)(hb1:b<18446744073709551616)(hEW:E<=18446744073709551616)(hk: ∃ k:Int,0<=k/\b=E*k):bits .or .u64 a b=a+b:=by
 obtain⟨k,hk0,hk⟩:=hk;obtain⟨A,rfl⟩:=Int.eq_ofNat_of_zero_le ha0;obtain⟨B,rfl⟩:=Int.eq_ofNat_of_zero_le hb0;obtain⟨K,rfl⟩:=Int.eq_ofNat_of_zero_le hk0;have hE':E=((2^q:Nat):Int):=by rw [← hE];simp
 subst hE';rw [bits_or_u64_nat A B om1 om1];have hB:B=2^q*K:=by have:=hk;rw [← Int.natCast_mul] at this;omega
 rw [Nat.or_comm,nat_join q B A (by rw [hB];exact Nat.mul_mod_right _ _) om1];omega
theorem QW(a D:Int)(p:Nat)(hD:(2:Int)^p=D)(ha0:0<=a)(ha:a<=18446744073709551615)(hD1:D<=18446744073709551616):bits .and .u64 a (D- 1)=a%D:=by
 obtain⟨A,rfl⟩:=Int.eq_ofNat_of_zero_le ha0;have hD':D=((2^p:Nat):Int):=by rw [← hD];simp
 subst hD';have hpos:0<2^p:=Nat.two_pow_pos _;have e:((2^p:Nat):Int)- 1=((2^p- 1:Nat):Int):=om1;rw [e,bits_and_u64_nat A (2^p- 1) om1 om1,Nat.and_two_pow_sub_one_eq_mod];omega
theorem Az(n:Int)(p q:Nat)(D E:Int)(hn:In3 n)(hpq:p+q=64)(hD:(2:Int)^p=D)(hE:(2:Int)^q=E):
 0<D/\0<E/\D*E=18446744073709551616/\
 bits .or .u64 (lo n/D) (IntKind.u64.wrap (mi n*E))=lo (n/D)/\
 bits .or .u64 (mi n/D) (IntKind.u64.wrap (hi n*E))=mi (n/D)/\
 bits .or .u64 (hi n/D) (IntKind.u64.wrap (sg (hi n)*E))=hi (n/D)/\lo n%D=n%D:=by
 have hD0:0<D:=by rw [← hD];exact Int.pow_pos om1
 have hE0:0<E:=by rw [← hE];exact Int.pow_pos om1
 have hDE:D*E=18446744073709551616:=by rw [← hD,← hE,← Int.pow_add,hpq];rfl
 have hEW:E<=18446744073709551616:=by
  have:1*E<=D*E:=Int.mul_le_mul_of_nonneg_right om1 om1;omega
 have hDW:D<=18446744073709551616:=by
  have:D*1<=D*E:=Int.mul_le_mul_of_nonneg_left om1 om1;omega
 have hcomm: ∀ x y:Int,0<y->x/D/y=x/y/D:=by
  intro x y hy;rw [Int.ediv_ediv,Int.ediv_ediv,if_neg (fun h=>absurd h.1 om1),if_neg (fun h=>absurd h.1 om1),Int.mul_comm]
 have key: ∀ X:Int,bits .or .u64 (X%18446744073709551616/D) (IntKind.u64.wrap (X/18446744073709551616%18446744073709551616*E))=X/D%18446744073709551616:=by
  intro X;obtain⟨h1,h2,h3,h4⟩:=xG X D E hD0 hE0 hDE;rw [IntKind.wrap_u64,Ji _ _ E q hE h3 h2 om1 om1 hEW h4,h1]
 refine⟨hD0,hE0,hDE, ?_, ?_, ?_, ?_⟩
 · have:=key n;unfold lo mi;exact this
 · have:=key (n/18446744073709551616);unfold mi hi;rw [hcomm _ _ om1];exact this
 · have:=key (n/18446744073709551616/18446744073709551616)
   have hs:sg (hi n)=n/18446744073709551616/18446744073709551616/18446744073709551616%18446744073709551616:=by
    unfold In3 at hn;unfold sg hi;split<;>omega
   rw [hs];unfold hi;rw [hcomm _ _ om1,hcomm _ _ om1];exact this
 · unfold lo;exact Int.emod_emod_of_dvd n ⟨E,hDE.symm⟩
theorem QX(w:World)(A:Obj)(x y z:Int):lY ((w.alloc A).alloc (.cells #[.int .u64 x, .int .u64 y, .int .u64 z] 334)) (w.heap.size+1) x y z:=by
 have h:=tu (w.alloc A) x y z;rwa [show(w.alloc A).heap.size=w.heap.size+1 by simp] at h
end Qn
set_option maxHeartbeats 2000000 in
theorem uN(n:Int)(p:Nat)(w:World)(hp:p<=62)(hn:In3 n):
 Calls Tryz.prog 269 #[.agg #[.int .u64 (lo n), .int .u64 (mi n), .int .u64 (hi n)], .int .i64 p] w fun e w'=>e= .returned (.agg #[.int .u64 (lo (rne n (2^p))), .int .u64 (mi (rne n (2^p))), .int .u64 (hi (rne n (2^p)))])/\Below w.heap.size w w':=by
 obtain⟨q,hpq⟩: ∃ q,p+q=64:=⟨64- p,om1⟩;obtain⟨D,hD⟩: ∃ D,(2:Int)^p=D:=⟨_,rfl⟩;obtain⟨E,hE⟩: ∃ E,(2:Int)^q=E:=⟨_,rfl⟩;obtain⟨hD0,hE0,hDE,o1,o2,o3,hr⟩:=Az n p q D E hn hpq hD hE;have l0:=vw n;have l1:=CX n;have l2:=UO n
 have hDW:D<=4611686018427387904:=by
  have h1:(2:Nat)^p<=2^62:=Nat.pow_le_pow_right om1 hp;have h2:(2:Int)^p=((2^p:Nat):Int):=by simp
  rw [hD] at h2;omega
 have hw1:IntKind.u64.wrap D=D:=by rw [IntKind.wrap_u64];omega
 have hw2:IntKind.u64.wrap (D- 1)=D- 1:=by rw [IntKind.wrap_u64];omega
 have hk:IntKind.i64.wrap (64- (p:Int))=(q:Int):=by rw [IntKind.wrap_i64];omega
 have hm:=QW (lo n) D p hD l0.1 l0.2 om1;rw [hr] at hm;have hr0:0<=n%D:=Int.emod_nonneg _ om1;have hr1:n%D<D:=Int.emod_lt_of_pos _ hD0;have hw3:IntKind.u64.wrap (D- n%D)=D- n%D:=by rw [IntKind.wrap_u64];omega
 have HR:Hid (rne n D=if n%D<D- n%D\/n%D=D- n%D/\n/D%2=0 then n/D else n/D+1):=by
  unfold Hid rne;by_cases c1:2*(n%D)<D
  ·rw [if_pos (Or.inl c1),if_pos (Or.inl om1)]
  ·by_cases c2:2*(n%D)=D/\n/D%2=0
   ·rw [if_pos (Or.inr c2),if_pos (Or.inr om1)]
   ·rw [if_neg om1,if_neg om1]
 rw [hD];clear hr hDE;have hp0:(0:Int)<=(p:Int):=om1;have hp1:(p:Int)<=62:=om1;have hq0:(0:Int)<=(q:Int):=om1;have hq1:(q:Int)<=64:=om1;clear hpq;go_enter Tryz.func269,Tryz.ntmps269
 go_wp2;go_region_held3 (fun w'=>w'.cell? ⟨w.heap.size,0,none⟩=some (.int .u64 (lo n))/\w'.cell? ⟨w.heap.size,1,none⟩=some (.int .u64 (mi n))/\w'.cell? ⟨w.heap.size,2,none⟩=some (.int .u64 (hi n))) (go_keep) (first|(go_at_call 278;refine(tC _ _ l2.1 l2.2).mono ?_;rintro e w' ⟨rfl,rfl⟩))
 all_goals go_wp2_with fail
 all_goals refine(Bg (n/D) (n%D) (D- n%D) _ om1 om1 om1 om1 (rne n D) HR).mono ?_
 all_goals rintro e w1 ⟨rfl,hb⟩
 all_goals have S0:=((QX w (.cells #[.int .u64 (lo n), .int .u64 (mi n), .int .u64 (hi n)] 334) 0 0 0).alloc (.cells #[.int .u64 (lo (n/D)), .int .u64 (mi (n/D)), .int .u64 (hi (n/D))] 334)).drew.keep hb
 all_goals go_wp2_with (refine mX rfl (.tmp 4) (.tmp 52) rfl _ _ _ _ _ _ _ rfl rfl S0 ?_)
 all_goals exact bodyPost_ret (v:= .agg #[.int .u64 (lo (rne n D)), .int .u64 (mi (rne n D)), .int .u64 (hi (rne n D))]) (dJ Tryz.results269 _ _ (w.heap.size+1) _ _ _ rfl (S0.row _ _ _)) rfl ⟨rfl,below_setRow (ae (af (af (af (Below.refl _ _) _) _) _).drew hb) om1 _⟩
end
section
open Go.RowKit Qn
attribute [local go_sem ↓] Go.wp_at_zero Go.wp_at_succ
namespace Qn
end Qn
namespace Qn
theorem ah{W w1:World}(hb:Below W.heap.size W w1){a:Addr}{v:Value}(h:W.cell? a=some v):w1.cell? a=some v:=(hb.cell (World.block_lt_of_cell? W _ h)).trans h
end Qn
end
end Go.Proofs.YtcefcokpjbebhaaGreatDoor
