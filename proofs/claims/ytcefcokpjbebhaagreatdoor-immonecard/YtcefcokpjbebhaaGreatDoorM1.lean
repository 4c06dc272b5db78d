/-
  Plain facts on numbers: no program is named here.
-/
set_option linter.unusedSimpArgs false
set_option linter.unusedVariables false
namespace Go.Proofs.YtcefcokpjbebhaaGreatDoor
section
namespace Qn
def lo(n:Int):Int:=n%18446744073709551616
def mi(n:Int):Int:=n/18446744073709551616%18446744073709551616
def hi(n:Int):Int:=n/18446744073709551616/18446744073709551616%18446744073709551616
theorem lo_bd(n:Int):0<=lo n/\lo n<=18446744073709551615:=by unfold lo;omega
theorem mi_bd(n:Int):0<=mi n/\mi n<=18446744073709551615:=by unfold mi;omega
theorem hi_bd(n:Int):0<=hi n/\hi n<=18446744073709551615:=by unfold hi;omega
def sg(x:Int):Int:=if x<9223372036854775808 then 0 else 18446744073709551615
def clamp(n:Int):Int:=if 4611686018427387903<n then 4611686018427387903 else if n< -4611686018427387903 then-4611686018427387903 else n
def great(n:Int):Bool:=decide (4611686018427387903<n)||decide (n< -4611686018427387903)
def rne(n d:Int):Int:=if 2*(n%d)<d\/2*(n%d)=d/\n/d%2=0 then n/d else n/d+1
end Qn
namespace Qn
def DAt(un y1 y0 u1 q rh:Int):Prop:=0<=q/\q<=4294967298/\0<=rh/\un=q*y1+rh/\(un*4294967296+u1)/(y1*4294967296+y0)<=q
theorem dig_mul(q y1 y0:Int):q*(y1*4294967296+y0)=q*y1*4294967296+q*y0:=by
 rw [Int.mul_add,← Int.mul_assoc]
theorem dAt_start{un y1 y0 u1:Int}(h0:0<=un)(hy1:2147483648<=y1)(hy2:y1<4294967296)(hy0:0<=y0)(hy3:y0<4294967296)(hu0:0<=u1)(hu1:u1<4294967296)(hlt:un<y1*4294967296+y0):
 DAt un y1 y0 u1 (un/y1) (un- un/y1*y1):=by
 have hm:=Int.emod_add_mul_ediv un y1;have hm0:=Int.emod_nonneg un (show y1≠0 by omega);have hm1:=Int.emod_lt_of_pos un (show 0<y1 by omega);have hq0:0<=un/y1:=Int.ediv_nonneg h0 (by omega);have hq:un/y1<4294967299:=Int.ediv_lt_of_lt_mul (by omega) (by omega);rw [Int.mul_comm] at hm;refine⟨hq0,by omega,by omega,by omega, ?_⟩;have hpos:0<y1*4294967296+y0:=by omega
 have:(un*4294967296+u1)/(y1*4294967296+y0)<un/y1+1:=by
  refine Int.ediv_lt_of_lt_mul hpos ?_;simp only [dig_mul,Int.add_mul,Int.one_mul];have hz:0<=un/y1*y0:=Int.mul_nonneg hq0 hy0;omega
 omega
theorem dAt_down{un y1 y0 u1 q rh:Int}(h:DAt un y1 y0 u1 q rh)(hy1:2147483648<=y1)(hy0:0<=y0)(hu0:0<=u1)(hu1:u1<4294967296)(hlt:un<y1*4294967296+y0)
 (hc:4294967296<=q\/rh*4294967296+u1<q*y0):DAt un y1 y0 u1 (q- 1) (rh+y1):=by
 obtain⟨h1,h2,h3,h4,h5⟩:=h;have hpos:0<y1*4294967296+y0:=by omega
 have hlt2:(un*4294967296+u1)/(y1*4294967296+y0)<q:=by
  refine Int.ediv_lt_of_lt_mul hpos ?_;rcases hc with hc|hc
  · have:4294967296*(y1*4294967296+y0)<=q*(y1*4294967296+y0):=Int.mul_le_mul_of_nonneg_right hc (by omega);omega
  · rw [dig_mul];omega
 have hq1:1<=q:=by
  have:0<=(un*4294967296+u1)/(y1*4294967296+y0):=Int.ediv_nonneg (by
   have:0<=q*y1:=Int.mul_nonneg h1 (by omega)
   omega) (by omega)
  omega
 refine⟨by omega,by omega,by omega, ?_,by omega⟩;rw [Int.sub_mul,Int.one_mul];omega
theorem dAt_break{un y1 y0 u1 q rh:Int}(h:DAt un y1 y0 u1 q rh)(hq:q<=4294967297)(hy0:0<=y0)(hy3:y0<4294967296)(hu0:0<=u1)(hr:4294967296<=rh):q*y0<=rh*4294967296+u1:=by
 have h1:q*y0<=4294967297*y0:=Int.mul_le_mul_of_nonneg_right hq hy0;omega
theorem dAt_done{un y1 y0 u1 q rh:Int}(h:DAt un y1 y0 u1 q rh)(hy1:2147483648<=y1)(hy0:0<=y0)(hc:q*y0<=rh*4294967296+u1):q=(un*4294967296+u1)/(y1*4294967296+y0):=by
 obtain⟨h1,h2,h3,h4,h5⟩:=h;have hpos:0<y1*4294967296+y0:=by omega
 have:q<=(un*4294967296+u1)/(y1*4294967296+y0):=by
  refine Int.le_ediv_of_mul_le hpos ?_;rw [dig_mul];omega
 omega
theorem dig_rest{un u1 Y q:Int}(hY:0<Y)(hYW:Y<18446744073709551616)(hq:q=(un*4294967296+u1)/Y):
 ((un*4294967296+u1)- q*Y)%18446744073709551616=(un*4294967296+u1)%Y:=by
 have h:=Int.emod_add_mul_ediv (un*4294967296+u1) Y;have h0:=Int.emod_nonneg (un*4294967296+u1) (show Y≠0 by omega);have h1:=Int.emod_lt_of_pos (un*4294967296+u1) hY;rw [← hq,Int.mul_comm Y q] at h;rw [show un*4294967296+u1- q*Y=(un*4294967296+u1)%Y by omega];omega
theorem dig_lt{un u1 Y:Int}(h0:0<=un)(hY:un<Y)(hu0:0<=u1)(hu1:u1<4294967296):0<=(un*4294967296+u1)/Y/\(un*4294967296+u1)/Y<4294967296:=by
 refine⟨Int.ediv_nonneg (by omega) (by omega),Int.ediv_lt_of_lt_mul (by omega) ?_⟩;omega
theorem two_digits{V U u1 u0 Y:Int}(hY:0<Y)(hV:V=(U*4294967296+u1)*4294967296+u0):
 V/Y=(U*4294967296+u1)/Y*4294967296+((U*4294967296+u1)%Y*4294967296+u0)/Y/\V%Y=((U*4294967296+u1)%Y*4294967296+u0)%Y:=by
 have h:=Int.emod_add_mul_ediv (U*4294967296+u1) Y;generalize hr:(U*4294967296+u1)%Y=r at*;generalize hq:(U*4294967296+u1)/Y=q at*
 have e:V=r*4294967296+u0+Y*(q*4294967296):=by
  rw [hV,← h,Int.add_mul,Int.mul_assoc];omega
 rw [e,Int.add_mul_ediv_left _ _ (by omega),Int.add_mul_emod_self_left];exact⟨by omega,rfl⟩
theorem shifted{h l y D E U L:Int}(hy:0<y)(hD:0<D)(hE:0<E)(hDE:D*E=18446744073709551616)(hl:0<=l)(hU:U=h*D+l/E)(hL:L=l*D%18446744073709551616):
 (U*18446744073709551616+L)/(y*D)=(h*18446744073709551616+l)/y/\(U*18446744073709551616+L)%(y*D)/D=(h*18446744073709551616+l)%y:=by
 have e:U*18446744073709551616+L=(h*18446744073709551616+l)*D:=by
  have e1:l*D/18446744073709551616=l/E:=by
   rw [← hDE,Int.mul_comm l D,Int.mul_ediv_mul_of_pos _ _ hD]
  have e2:=Int.emod_add_mul_ediv (l*D) 18446744073709551616;rw [e1] at e2;rw [hU,hL,Int.add_mul,Int.add_mul,Int.mul_right_comm];omega
 rw [e];refine⟨Int.mul_ediv_mul_of_pos_left _ _ hD, ?_⟩;rw [Int.mul_comm _ D,Int.mul_comm y D,Int.mul_emod_mul_of_pos _ _ hD,Int.mul_ediv_cancel_left _ (by omega)]
end Qn
namespace Qn
theorem rne_neg(n d:Int)(hd:0<d):rne (-n) d= -rne n d:=by
 have h:=Int.emod_add_mul_ediv n d;have h0:=Int.emod_nonneg n (show d≠0 by omega);have h1:=Int.emod_lt_of_pos n hd;generalize hq:n/d=q at*;generalize hr:n%d=r at*;by_cases hz:r=0
 · subst hz;have e: -n=0+d*(-q):=by rw [Int.mul_neg];omega
   have e1: -n/d= -q:=by rw [e,Int.add_mul_ediv_left _ _ (by omega),Int.zero_ediv,Int.zero_add]
   have e2: -n%d=0:=by rw [e,Int.add_mul_emod_self_left,Int.zero_emod]
   unfold rne;rw [e1,e2,hq,hr,if_pos (Or.inl (by omega)),if_pos (Or.inl (by omega))]
 · have e: -n=d- r+d*(-q- 1):=by rw [Int.mul_sub,Int.mul_neg,Int.mul_one];omega
   have e1: -n/d= -q- 1:=by rw [e,Int.add_mul_ediv_left _ _ (by omega),Int.ediv_eq_zero_of_lt (by omega) (by omega)];omega
   have e2: -n%d=d- r:=by rw [e,Int.add_mul_emod_self_left,Int.emod_eq_of_lt (by omega) (by omega)]
   unfold rne;rw [e1,e2,hq,hr];split<;>split<;>omega
theorem rne_mul(x d:Int)(hd:0<d):rne (x*d) d=x:=by
 unfold rne;rw [Int.mul_emod_left,Int.mul_ediv_cancel _ (by omega),if_pos (Or.inl (by omega))]
theorem clamp_in{n:Int}(h:great n=false):clamp n=n:=by
 unfold great at h;rw [Bool.or_eq_false_iff,decide_eq_false_iff_not,decide_eq_false_iff_not] at h;unfold clamp;rw [if_neg h.1,if_neg h.2]
theorem great_iff{n:Int}:great n=false↔ -4611686018427387903<=n/\n<=4611686018427387903:=by
 unfold great;rw [Bool.or_eq_false_iff,decide_eq_false_iff_not,decide_eq_false_iff_not];omega
theorem clamp_neg(n:Int):clamp (-n)= -clamp n:=by
 unfold clamp;by_cases h1:4611686018427387903<n
 · rw [if_pos h1,if_neg (by omega),if_pos (by omega)]
 · by_cases h2:n< -4611686018427387903
   · rw [if_neg h1,if_pos h2,if_pos (by omega)];omega
   · rw [if_neg h1,if_neg h2,if_neg (by omega),if_neg (by omega)]
end Qn
namespace Dec
end Dec
namespace Dec
end Dec
namespace Dec
end Dec
namespace Lg
end Lg
namespace Dt
def dk(a b:Nat->Int):Nat->Int
 |0=>0
 |k+1=>dk a b k+a k*b k
theorem mul_bd{x y:Int}(hx: -9223372036854775808<=x/\x<=9223372036854775807)(hy: -9223372036854775808<=y/\y<=9223372036854775807): -85070591730234615865843651857942052864<=x*y/\x*y<=85070591730234615865843651857942052864:=by
 have h1:(x.natAbs:Int)<=9223372036854775808:=by omega
 have h2:(y.natAbs:Int)<=9223372036854775808:=by omega
 have h3:((x*y).natAbs:Int)<=9223372036854775808*9223372036854775808:=by
  rw [Int.natAbs_mul,Int.natCast_mul];exact Int.mul_le_mul h1 h2 (by omega) (by omega)
 omega
theorem dk_bd(a b:Nat->Int)(ha: ∀ k,-9223372036854775808<=a k/\a k<=9223372036854775807)(hb: ∀ k,-9223372036854775808<=b k/\b k<=9223372036854775807): ∀ k:Nat,-((k:Int)*85070591730234615865843651857942052864)<=dk a b k/\dk a b k<=(k:Int)*85070591730234615865843651857942052864
 |0=>by simp [dk]
 |k+1=>by
  have h1:=dk_bd a b ha hb k
  have h2:=mul_bd (ha k) (hb k)
  have e:((k+1:Nat):Int)=(k:Int)+1:=by omega
  rw [e]
  show-(((k:Int)+1)*_)<=dk a b k+a k*b k/\dk a b k+a k*b k<=_
  omega
end Dt
set_option linter.unusedSectionVars false
namespace Cn
def tot(a:Nat->Int):Nat->Int
 |0=>0
 |k+1=>tot a k+a k
theorem tot_congr{a b:Nat->Int}: ∀ {n:Nat},(∀ k,k<n->a k=b k)->tot a n=tot b n
 |0,_=>rfl
 |n+1,h=>by show tot a n+a n=tot b n+b n;rw [tot_congr (fun k hk=>h k (by omega)),h n (by omega)]
theorem tot_nn{a:Nat->Int}: ∀ {n:Nat},(∀ k,k<n->0<=a k)->0<=tot a n
 |0,_=>Int.le_refl _
 |n+1,h=>by
  have h1:=tot_nn (n:=n) (fun k hk=>h k (by omega))
  have h2:=h n (by omega)
  show 0<=tot a n+a n;omega
theorem tot_mul(c:Int)(a:Nat->Int): ∀ n,tot (fun k=>c*a k) n=c*tot a n
 |0=>(Int.mul_zero c).symm
 |n+1=>by show tot (fun k=>c*a k) n+c*a n=c*(tot a n+a n);rw [tot_mul c a n,Int.mul_add]
theorem tot_add(a b:Nat->Int): ∀ n,tot (fun k=>a k+b k) n=tot a n+tot b n
 |0=>rfl
 |n+1=>by show tot (fun k=>a k+b k) n+(a n+b n)=tot a n+a n+(tot b n+b n);rw [tot_add a b n];omega
theorem tot_const(c:Int): ∀ n:Nat,tot (fun _=>c) n=c*n
 |0=>(Int.mul_zero c).symm
 |n+1=>by show tot (fun _=>c) n+c=c*((n:Int)+1);rw [tot_const c n,Int.mul_add,Int.mul_one]
theorem tot_lt{a:Nat->Int}{S:Int}: ∀ {n:Nat},0<n->(∀ k,k<n->a k<S)->tot a n<S*n
 |0,h,_=>by omega
 |1,_,h=>by have:=h 0 (by omega);show 0+a 0<S*((1:Nat):Int);omega
 |n+2,_,h=>by
  have h1:=tot_lt (n:=n+1) (by omega) (fun k hk=>h k (by omega))
  have h2:=h (n+1) (by omega)
  show tot a (n+1)+a (n+1)<S*((n+1+1:Nat):Int)
  have e:S*((n+1+1:Nat):Int)=S*((n+1:Nat):Int)+S:=by rw [show((n+1+1:Nat):Int)=((n+1:Nat):Int)+1 by omega,Int.mul_add,Int.mul_one]
  omega
theorem tot_le_each{a:Nat->Int}: ∀ {n:Nat},(∀ k,k<n->0<=a k)-> ∀ {i:Nat},i<n->a i<=tot a n
 |n+1,h,i,hi=>by
  have h1:=tot_nn (n:=n) (fun k hk=>h k (by omega))
  have h2:=h n (by omega)
  show a i<=tot a n+a n
  by_cases e:i=n
  · subst e;omega
  · have:=tot_le_each (n:=n) (fun k hk=>h k (by omega)) (i:=i) (by omega);omega
theorem tot_set{a:Nat->Int}{b:Nat}(x:Int): ∀ {n:Nat},b<n->tot (fun k=>if k=b then x else a k) n=tot a n+(x- a b)
 |n+1,h=>by
  show tot (fun k=>if k=b then x else a k) n+(if n=b then x else a n)=tot a n+a n+(x- a b)
  by_cases e:n=b
  · subst e
    rw [if_pos rfl,tot_congr (b:=a) (fun k hk=>if_neg (by omega))];omega
  · rw [if_neg e,tot_set x (by omega)];omega
def bst(c:Nat->Int):Nat->Int
 |0=> -1
 |k+1=>if 0<=c k/\(bst c k<0\/c (bst c k).toNat<c k) then(k:Int) else bst c k
theorem bst_spec(c:Nat->Int): ∀ n,(bst c n= -1/\ ∀ i,i<n->c i<0)\/(0<=bst c n/\(bst c n).toNat<n/\0<=c (bst c n).toNat/\ ∀ i,i<n->c i<=c (bst c n).toNat)
 |0=>Or.inl ⟨rfl,fun i hi=>by omega⟩
 |n+1=>by
  have ih:=bst_spec c n
  show((if 0<=c n/\(bst c n<0\/c (bst c n).toNat<c n) then(n:Int) else bst c n)= -1/\_)\/(0<=(if 0<=c n/\(bst c n<0\/c (bst c n).toNat<c n) then(n:Int) else bst c n)/\_)
  have u:bst c (n+1)=if 0<=c n/\(bst c n<0\/c (bst c n).toNat<c n) then(n:Int) else bst c n:=rfl
  by_cases h:0<=c n/\(bst c n<0\/c (bst c n).toNat<c n)
  · rw [u,if_pos h]
    refine Or.inr ⟨by omega,by omega,by rw [Int.toNat_natCast];exact h.1,fun i hi=> ?_⟩
    rw [Int.toNat_natCast]
    by_cases e:i=n
    · subst e;omega
    · rcases ih with⟨_,h2⟩|⟨h1,_,_,h4⟩
      · have:=h2 i (by omega);omega
      · have:=h4 i (by omega);omega
  · rw [u,if_neg h]
    rcases ih with⟨h1,h2⟩|⟨h1,h2,h3,h4⟩
    · refine Or.inl ⟨h1,fun i hi=> ?_⟩
      by_cases e:i=n
      · subst e;omega
      · exact h2 i (by omega)
    · refine Or.inr ⟨h1,by omega,h3,fun i hi=> ?_⟩
      by_cases e:i=n
      · subst e;omega
      · exact h4 i (by omega)
def give(n:Nat)(o c:Nat->Int):Nat->(Nat->Int)×(Nat->Int)
 |0=>(o,c)
 |t+1=>if bst (give n o c t).2 n<0 then give n o c t else
   (fun i=>if i=(bst (give n o c t).2 n).toNat then(give n o c t).1 i+1 else(give n o c t).1 i,fun i=>if i=(bst (give n o c t).2 n).toNat then-1 else(give n o c t).2 i)
section
variable {n:Nat} {o c:Nat->Int} (hc: ∀ i,i<n->0<=c i)
def got(n:Nat)(o c:Nat->Int)(t:Nat):Nat->Int:=fun i=>if(give n o c t).2 i= -1 then 1 else 0
include hc
theorem give_inv: ∀ t,t<=n->tot (got n o c t) n=t/\(∀ i,i<n->((give n o c t).2 i=c i/\(give n o c t).1 i=o i)\/((give n o c t).2 i= -1/\(give n o c t).1 i=o i+1))/\
 ∀ i j,i<n->j<n->(give n o c t).2 j= -1->c j<c i->(give n o c t).2 i= -1
 |0,_=>by
  refine⟨?_,fun i _=>Or.inl ⟨rfl,rfl⟩,fun i j hi hj h _=>by have:=hc j hj;have h':c j= -1:=h;omega⟩
  rw [tot_congr (b:=fun _=>0) (fun k hk=>by unfold got;have:=hc k hk;rw [if_neg (by show ¬c k= -1;omega)])]
  rw [tot_const];simp
 |t+1,ht=>by
  obtain⟨h1,h2,h3⟩:=give_inv t (by omega)
  obtain⟨O,hO⟩: ∃ O,O=(give n o c t).1:=⟨_,rfl⟩
  obtain⟨C,hC⟩: ∃ C,C=(give n o c t).2:=⟨_,rfl⟩
  have u:give n o c (t+1)=if bst C n<0 then(O,C) else(fun i=>if i=(bst C n).toNat then O i+1 else O i,fun i=>if i=(bst C n).toNat then-1 else C i):=by
   rw [hC,hO];rfl
  rw [← hO,← hC] at h2;rw [← hC] at h3;have hg:tot (fun i=>if C i= -1 then 1 else 0) n=t:=by rw [hC];exact h1
  rcases bst_spec C n with⟨b1,b2⟩|⟨b1,b2,b3,b4⟩
  ·-- none is left:all have one;exfalso
   have all:tot (fun i=>if C i= -1 then(1:Int) else 0) n=n:=by
    rw [tot_congr (b:=fun _=>1) (fun k hk=> ?_),tot_const];simp;rw [if_pos];rcases h2 k hk with⟨e,_⟩|⟨e,_⟩
    ·have:=hc k hk;have:=b2 k hk;omega
    ·exact e
   omega
  ·obtain⟨b,hb⟩: ∃ b,b=(bst C n).toNat:=⟨_,rfl⟩;rw [← hb] at b2 b3 b4;rw [if_neg (by omega),← hb] at u;have e1:(give n o c (t+1)).1=fun i=>if i=b then O i+1 else O i:=by rw [u]
   have e2:(give n o c (t+1)).2=fun i=>if i=b then-1 else C i:=by rw [u]
   have cb:C b=c b:=by
    rcases h2 b b2 with⟨e,_⟩|⟨e,_⟩
    ·exact e
    ·omega
   refine⟨?_,fun i hi=> ?_,fun i j hi hj hp hr=> ?_⟩
   ·have e3:tot (got n o c (t+1)) n=tot (fun k=>if k=b then(1:Int) else(fun i=>if C i= -1 then(1:Int) else 0) k) n:=tot_congr fun k hk=>by
     unfold got;rw [e2];show(if(if k=b then(-1:Int) else C k)= -1 then(1:Int) else 0)=_;by_cases e:k=b
     ·rw [if_pos e,if_pos e,if_pos rfl]
     ·rw [if_neg e,if_neg e]
    rw [e3,tot_set 1 b2,hg];show(t:Int)+(1- (if C b= -1 then(1:Int) else 0))=((t+1:Nat):Int);rw [if_neg (by omega)];omega
   ·rw [e1,e2];show((if i=b then(-1:Int) else C i)=c i/\(if i=b then O i+1 else O i)=o i)\/((if i=b then(-1:Int) else C i)= -1/\(if i=b then O i+1 else O i)=o i+1);by_cases e:i=b
    ·rw [if_pos e,if_pos e,e];refine Or.inr ⟨rfl, ?_⟩;rcases h2 b b2 with⟨_,q⟩|⟨q,_⟩
     ·rw [q]
     ·omega
    ·rw [if_neg e,if_neg e];exact h2 i hi
   ·rw [e2] at hp ⊢;show(if i=b then(-1:Int) else C i)= -1;by_cases e:i=b
    ·rw [if_pos e]
    ·rw [if_neg e];have hp':(if j=b then(-1:Int) else C j)= -1:=hp;by_cases ej:j=b
     ·have:=b4 i hi;rw [ej] at hr;rcases h2 i hi with⟨q,_⟩|⟨q,_⟩
      ·omega
      ·exact q
     ·rw [if_neg ej] at hp';exact h3 i j hi hj hp' hr
end
def qt(m:Int)(a:Nat->Int)(n i:Nat):Int:=m*a i/tot a n
def rt(m:Int)(a:Nat->Int)(n i:Nat):Int:=m*a i%tot a n
def lf(m:Int)(a:Nat->Int)(n:Nat):Int:=m- tot (qt m a n) n
def sh(m:Int)(a:Nat->Int)(n:Nat):Nat->Int:=(give n (qt m a n) (rt m a n) (lf m a n).toNat).1
section
variable {m:Int} {a:Nat->Int} {n:Nat} (hm:0<=m) (ha: ∀ i,i<n->0<=a i) (hS:0<tot a n)
include hS
theorem rt_in(i:Nat):0<=rt m a n i/\rt m a n i<tot a n:=⟨Int.emod_nonneg _ (by omega),Int.emod_lt_of_pos _ hS⟩
theorem qr(i:Nat):m*a i=tot a n*qt m a n i+rt m a n i:=(Int.mul_ediv_add_emod (m*a i) (tot a n)).symm
theorem lf_is:tot a n*lf m a n=tot (rt m a n) n:=by
 have h1:tot (fun i=>m*a i) n=m*tot a n:=tot_mul m a n;have h2:tot (fun i=>m*a i) n=tot (fun i=>tot a n*qt m a n i+rt m a n i) n:=tot_congr fun k _=>qr hS k;rw [tot_add (fun i=>tot a n*qt m a n i) (rt m a n) n,tot_mul (tot a n) (qt m a n) n] at h2;unfold lf;rw [Int.mul_sub,Int.mul_comm (tot a n) m];omega
theorem n_pos:0<n:=by
 rcases Nat.eq_zero_or_pos n with e|e
 · subst e;have:tot a 0=0:=rfl;omega
 · exact e
theorem lf_in:0<=lf m a n/\lf m a n<n:=by
 have h1:=lf_is (m:=m) hS;have h2:=tot_nn (a:=rt m a n) (n:=n) (fun k _=>(rt_in hS k).1);have h3:=tot_lt (a:=rt m a n) (S:=tot a n) (n_pos hS) (fun k _=>(rt_in hS k).2);refine⟨?_, ?_⟩
 · have:tot a n*0<=tot a n*lf m a n:=by rw [Int.mul_zero];omega
   exact Int.le_of_mul_le_mul_left this hS
 · rw [← h1] at h3;exact Int.lt_of_mul_lt_mul_left h3 (Int.le_of_lt hS)
theorem sh_cases{i:Nat}(hi:i<n):((give n (qt m a n) (rt m a n) (lf m a n).toNat).2 i=rt m a n i/\sh m a n i=qt m a n i)\/((give n (qt m a n) (rt m a n) (lf m a n).toNat).2 i= -1/\sh m a n i=qt m a n i+1):=
 (give_inv (fun i _=>(rt_in hS i).1) (lf m a n).toNat (by have:=lf_in (m:=m) hS;omega)).2.1 i hi
theorem sh_tot:tot (sh m a n) n=m:=by
 have hl:=lf_in (m:=m) hS;obtain⟨h1,_,_⟩:=give_inv (n:=n) (o:=qt m a n) (fun i _=>(rt_in (m:=m) hS i).1) (lf m a n).toNat (by omega)
 have e:tot (sh m a n) n=tot (fun i=>qt m a n i+got n (qt m a n) (rt m a n) (lf m a n).toNat i) n:=tot_congr fun k hk=>by
  unfold got;rcases sh_cases (m:=m) hS hk with⟨e1,e2⟩|⟨e1,e2⟩
  · rw [e2,e1,if_neg (by have:=(rt_in (m:=m) hS k).1;omega),Int.add_zero]
  · rw [e2,e1,if_pos rfl]
 rw [e,tot_add,h1];unfold lf at hl ⊢;omega
include hm ha
theorem qt_nn{i:Nat}(hi:i<n):0<=qt m a n i:=Int.ediv_nonneg (Int.mul_nonneg hm (ha i hi)) (Int.le_of_lt hS)
theorem sh_nn{i:Nat}(hi:i<n):0<=sh m a n i:=by
 have:=qt_nn hm ha hS hi;rcases sh_cases (m:=m) hS hi with⟨_,e⟩|⟨_,e⟩<;>omega
theorem sh_le{i:Nat}(hi:i<n):sh m a n i<=m:=by
 have:=tot_le_each (a:=sh m a n) (n:=n) (fun k hk=>sh_nn hm ha hS hk) hi;rw [sh_tot hS] at this;exact this
end
end Cn
end
section
namespace Cn
structure Ch(n:Nat)(z:Nat->Int)(fl:Int):Prop where
 one:1<=n
 four:n<=4
 lo:0<=fl
 hi:fl<=67108864
 each: ∀ k,k<n->fl<=z k
 sum:tot z n=1073741824
structure MayW(n:Nat)(z:Nat->Int)(fl:Int):Prop where
 one:1<=n
 four:n<=4
 lo:0<=fl
 hi:fl<=67108864
 each: ∀ k,k<n->0<=z k/\z k<=4611686018427387903
structure MayX(n:Nat)(z:Nat->Int)(m:Nat)(L:Nat->Nat)(R:Nat->Nat->Int):Prop where
 ch:Ch n z 0
 rows:m=n
 row: ∀ i,i<n->L i=n/\Ch n (R i) 0
def mxw(n:Nat)(z:Nat->Int)(R:Nat->Nat->Int)(j:Nat):Int:=tot (fun i=>z i*R i j) n
theorem tot_up'{a:Nat->Int}: ∀ {n k:Nat},(∀ j,j<n->0<=a j)->k<=n->tot a k<=tot a n
 |0,k,_,h=>by(obtain rfl:k=0:=by omega);exact Int.le_refl _
 |n+1,k,h0,h=>by
  by_cases e:k=n+1
  · rw [e];exact Int.le_refl _
  · have h1:=tot_up' (n:=n) (k:=k) (fun j hj=>h0 j (by omega)) (by omega)
    have h2:=h0 n (by omega)
    show tot a k<=tot a n+a n;omega
theorem Ch.le{n:Nat}{z:Nat->Int}{fl:Int}(h:Ch n z fl){k:Nat}(hk:k<=n):tot z k<=1073741824:=by
 have:=tot_up' (a:=z) (n:=n) (k:=k) (fun j hj=>Int.le_trans h.lo (h.each j hj)) hk;rw [h.sum] at this;exact this
theorem Ch.nn{n:Nat}{z:Nat->Int}{fl:Int}(h:Ch n z fl){k:Nat}(hk:k<n):0<=z k/\z k<=1073741824:=by
 have h1:=h.each k hk;have h2:=h.lo;have h3:=tot_le_each (a:=z) (n:=n) (fun j hj=>Int.le_trans h.lo (h.each j hj)) hk;rw [h.sum] at h3;omega
theorem mul_four{fl:Int}{n:Nat}(h0:0<=fl)(h1:fl<=67108864)(hn:n<=4):0<=fl*(n:Int)/\fl*(n:Int)<=268435456:=by
 rcases(by omega:n=0\/n=1\/n=2\/n=3\/n=4) with rfl|rfl|rfl|rfl|rfl<;>omega
theorem tot_swap(f:Nat->Nat->Int)(n:Nat): ∀ m,tot (fun j=>tot (fun i=>f i j) n) m=tot (fun i=>tot (fun j=>f i j) m) n
 |0=>by
  show(0:Int)=tot (fun i=>0) n
  rw [tot_const,Int.zero_mul]
 |m+1=>by
  show tot (fun j=>tot (fun i=>f i j) n) m+tot (fun i=>f i m) n=tot (fun i=>tot (fun j=>f i j) m+f i m) n
  rw [tot_swap f n m,tot_add (fun i=>tot (fun j=>f i j) m) (fun i=>f i m)]
theorem tot_mulr(c:Int)(a:Nat->Int): ∀ n,tot (fun k=>a k*c) n=tot a n*c
 |0=>(Int.zero_mul c).symm
 |n+1=>by show tot (fun k=>a k*c) n+a n*c=(tot a n+a n)*c;rw [tot_mulr c a n,Int.add_mul]
section
variable {n m:Nat} {z:Nat->Int} {L:Nat->Nat} {R:Nat->Nat->Int} (h:MayX n z m L R)
include h
theorem mxw_nn{j:Nat}(hj:j<n):0<=mxw n z R j:=tot_nn fun i hi=>Int.mul_nonneg (h.ch.nn hi).1 ((h.row i hi).2.nn hj).1
theorem mxw_tot:tot (mxw n z R) n=1152921504606846976:=by
 show tot (fun j=>tot (fun i=>z i*R i j) n) n=_;rw [tot_swap (fun i j=>z i*R i j) n n]
 rw [tot_congr (b:=fun i=>z i*1073741824) (fun i hi=>by
  show tot (fun j=>z i*R i j) n=_
  rw [tot_mul (z i) (R i) n,(h.row i hi).2.sum])]
 rw [tot_mulr,h.ch.sum];rfl
theorem mxw_le{j:Nat}(hj:j<n):mxw n z R j<=1152921504606846976:=by
 have:=tot_le_each (a:=mxw n z R) (n:=n) (fun k hk=>mxw_nn h hk) hj;rw [mxw_tot h] at this;exact this
end
end Cn
end
section
namespace Gw
open Qn
theorem rne_le{n d A:Int}(hd:0<d)(h:n<=A*d):rne n d<=A:=by
 have e:=Int.mul_ediv_add_emod n d;have e0:=Int.emod_nonneg n (show d≠0 by omega);have q:n/d<=A:=Int.ediv_le_of_le_mul hd h;unfold rne;split
 · exact q
 · rename_i c
   rcases Int.lt_or_le (n/d) A with k|k
   · omega
   · have ek:n/d=A:=by omega
     have hc:=Int.mul_comm d A;rw [ek] at e;have:n%d=0:=by omega
     omega
theorem rne_ge{n d A:Int}(hd:0<d)(h: -(A*d)<=n): -A<=rne n d:=by
 have h2:=rne_le (n:= -n) (A:=A) hd (by omega);rw [rne_neg n d hd] at h2;omega
theorem clamp_small{n A:Int}(h0: -A<=n)(h1:n<=A)(hA:A<=4611686018427387903):clamp n=n/\great n=false:=by
 have:great n=false:=great_iff.2 ⟨by omega,by omega⟩;exact⟨clamp_in this,this⟩
def tim(a b:Int):Int:=clamp (rne (a*b) (2^50))
theorem tim_neg(a b:Int):tim (-a) b= -tim a b:=by
 unfold tim;rw [Int.neg_mul,rne_neg _ _ (by decide),clamp_neg]
theorem tim_neg'(a b:Int):tim a (-b)= -tim a b:=by
 unfold tim;rw [Int.mul_neg,rne_neg _ _ (by decide),clamp_neg]
theorem prod_bd{a b A B:Int}(ha0: -A<=a)(ha1:a<=A)(hb0: -B<=b)(hb1:b<=B): -(A*B)<=a*b/\a*b<=A*B:=by
 have hA:0<=A:=by omega
 have h:a.natAbs*b.natAbs<=A.toNat*B.toNat:=Nat.mul_le_mul (by omega) (by omega);have h2:(a*b).natAbs=a.natAbs*b.natAbs:=Int.natAbs_mul a b
 have h3:A*B=((A.toNat*B.toNat:Nat):Int):=by
  rw [Int.natCast_mul,Int.toNat_of_nonneg hA,Int.toNat_of_nonneg (by omega)]
 omega
theorem tim_eq{a b A:Int}(ha0: -A<=a)(ha1:a<=A)(hb0: -1125899906842624<=b)(hb1:b<=1125899906842624)(hA:A<=4611686018427387903):tim a b=rne (a*b) (2^50)/\ -A<=tim a b/\tim a b<=A:=by
 have hp:=prod_bd ha0 ha1 hb0 hb1;have h0:=rne_ge (n:=a*b) (d:=2^50) (A:=A) (by decide) (by rw [show(2:Int)^50=1125899906842624 from rfl];omega);have h1:=rne_le (n:=a*b) (d:=2^50) (A:=A) (by decide) (by rw [show(2:Int)^50=1125899906842624 from rfl];omega);have hc:=(clamp_small h0 h1 hA).1;unfold tim;rw [hc];exact⟨rfl,h0,h1⟩
theorem tdiv_bd{a A:Int}(n:Nat)(h0: -A<=a)(h1:a<=A): -A<=a.tdiv n/\a.tdiv n<=A:=by
 have h:a.natAbs/(n:Int).natAbs<=a.natAbs:=Nat.div_le_self _ _;have e:(a.tdiv n).natAbs=a.natAbs/(n:Int).natAbs:=Int.natAbs_tdiv a n;rw [← e] at h;omega
def tp(r:Int):Nat->Int
 |0=>1125899906842624
 |n+1=>(tim (tp r n) (-r)).tdiv ((n+1:Nat):Int)
def td(r:Int):Nat->Int
 |0=>1125899906842624
 |n+1=>(tim (td r n) r).tdiv ((n+1:Nat):Int)
theorem tp_td(r:Int): ∀ n,tp r n=if n%2=0 then td r n else-td r n
 |0=>rfl
 |n+1=>by
  have ih:=tp_td r n
  unfold tp td
  rw [tim_neg',ih]
  split
  · rw [if_neg (by omega),Int.neg_tdiv]
  · rw [if_pos (by omega),tim_neg,Int.neg_neg]
def ps(r:Int):Nat->Int
 |0=>0
 |n+1=>ps r n+tp r n
theorem ps_one(r:Int):ps r 1=1125899906842624:=by unfold ps ps tp;rfl
theorem ps_step(r:Int)(n:Nat):ps r (n+1)=ps r n+tp r n:=rfl
theorem ps_even(r:Int)(n:Nat)(h:n%2=0):ps r n+td r n=ps r (n+1):=by rw [ps_step,tp_td,if_pos h]
theorem ps_odd(r:Int)(n:Nat)(h: ¬n%2=0):ps r n- td r n=ps r (n+1):=by rw [ps_step,tp_td,if_neg h];omega
theorem tp_bd{r:Int}(h0:0<=r)(h1:r<=1125899906842624): ∀ n,-1125899906842624<=tp r n/\tp r n<=1125899906842624
 |0=>by unfold tp;omega
 |n+1=>by
  have ih:=tp_bd h0 h1 n
  have:=(tim_eq (b:= -r) ih.1 ih.2 (by omega) (by omega) (by omega)).2
  exact tdiv_bd _ this.1 this.2
theorem td_bd{r:Int}(h0:0<=r)(h1:r<=1125899906842624): ∀ n,-1125899906842624<=td r n/\td r n<=1125899906842624
 |0=>by unfold td;omega
 |n+1=>by
  have ih:=td_bd h0 h1 n
  have:=(tim_eq (b:=r) ih.1 ih.2 (by omega) (by omega) (by omega)).2
  exact tdiv_bd _ this.1 this.2
theorem ps_bd{r:Int}(h0:0<=r)(h1:r<=1125899906842624): ∀ n:Nat,-((n:Int)*1125899906842624)<=ps r n/\ps r n<=(n:Int)*1125899906842624
 |0=>by unfold ps;omega
 |n+1=>by
  have ih:=ps_bd h0 h1 n
  have:=tp_bd h0 h1 n
  rw [ps_step]
  omega
def hv(x:Int):Int:=(-x*1073741824)/780414346020670
def rs(x:Int):Int:=(-x*1073741824)%780414346020670
theorem hv_bd{x:Int}(h0:x<=0)(h1: -47185920<=x):0<=hv x/\hv x<=64:=by unfold hv;omega
theorem rs_bd(x:Int):0<=rs x/\rs x<780414346020670:=by unfold rs;omega
def ex(x:Int):Int:=if x< -47185920 then 0 else rne (ps (rs x) 21) (2^(20+(hv x).toNat))
theorem ps21_bd(x:Int): -23643898043695104<=ps (rs x) 21/\ps (rs x) 21<=23643898043695104:=by
 have:=rs_bd x;have:=ps_bd (r:=rs x) (by omega) (by omega) 21;omega
theorem rne_zero{n d:Int}(h0:2*n<d)(h1: -d<2*n):rne n d=0:=by
 have hd:0<d:=by omega
 unfold rne;rcases Int.lt_or_le n 0 with k|k
 · have e:n/d= -1:=by
    have a:=Int.ediv_lt_of_lt_mul hd (show n<0*d by omega);have b: -1<=n/d:=Int.le_ediv_of_mul_le hd (by omega);omega
   have m:=Int.mul_ediv_add_emod n d;rw [e] at m ⊢;rw [if_neg (by omega)];omega
 · rw [Int.ediv_eq_zero_of_lt k (by omega),Int.emod_eq_of_lt k (by omega),if_pos (by omega)]
theorem ex_down{x:Int}(h0:x<=0)(h1: -47185920<=x)(D:Nat)(hD:(D:Int)=min (20+hv x) 62):rne (ps (rs x) 21) (2^D)=ex x:=by
 have b:=ps21_bd x;have hb:=hv_bd h0 h1;unfold ex;rw [if_neg (by omega)];by_cases h:20+hv x<=62
 · have:D=20+(hv x).toNat:=by omega
   rw [this]
 · have:D=62:=by omega
   rw [this];have hp:(2:Nat)^62<=2^(20+(hv x).toNat):=Nat.pow_le_pow_right (by omega) (by omega);have hc:((2^(20+(hv x).toNat):Nat):Int)=(2:Int)^(20+(hv x).toNat):=by simp
   have h62:(2:Int)^62=4611686018427387904:=rfl;have h62n:(2:Nat)^62=4611686018427387904:=rfl;rw [rne_zero (by omega) (by omega),rne_zero (by omega) (by omega)]
theorem ex_bd{x:Int}(h0:x<=0)(h1: -47185920<=x): -22548578304<=ex x/\ex x<=22548578304:=by
 have b:=ps21_bd x;have hb:=hv_bd h0 h1;unfold ex;rw [if_neg (by omega)];have hp:(2:Nat)^20<=2^(20+(hv x).toNat):=Nat.pow_le_pow_right (by omega) (by omega);have hc:((2^(20+(hv x).toNat):Nat):Int)=(2:Int)^(20+(hv x).toNat):=by simp
 have h20n:(2:Nat)^20=1048576:=rfl;obtain⟨d,hd⟩: ∃ d:Int,(2:Int)^(20+(hv x).toNat)=d:=⟨_,rfl⟩;rw [hd] at hc ⊢;refine⟨rne_ge (by omega) ?_,rne_le (by omega) ?_⟩<;>omega
def s0(m:Int):Int:=rne ((m- 1125899906842624)*2^50) (m+1125899906842624)
theorem s0_bd{m:Int}(h0:1125899906842624<=m)(h1:m<2251799813685248):0<=s0 m/\s0 m<=562949953421312:=by
 unfold s0;rw [show(2:Int)^50=1125899906842624 from rfl];constructor
 · have:=rne_ge (n:=(m- 1125899906842624)*1125899906842624) (d:=m+1125899906842624) (A:=0) (by omega) (by omega);omega
 · exact rne_le (by omega) (by omega)
def us(m:Int):Nat->Int
 |0=>s0 m
 |n+1=>tim (us m n) (tim (s0 m) (s0 m))
def ls(m:Int):Nat->Int
 |0=>0
 |n+1=>ls m n+(us m n).tdiv ((2*n+1:Nat):Int)
theorem ls_step(m:Int)(n:Nat):ls m (n+1)=ls m n+(us m n).tdiv ((2*n+1:Nat):Int):=rfl
theorem sq_bd{m:Int}(h0:1125899906842624<=m)(h1:m<2251799813685248): -562949953421312<=tim (s0 m) (s0 m)/\tim (s0 m) (s0 m)<=562949953421312:=by
 have:=s0_bd h0 h1;exact(tim_eq (a:=s0 m) (b:=s0 m) (A:=562949953421312) (by omega) (by omega) (by omega) (by omega) (by omega)).2
theorem us_bd{m:Int}(h0:1125899906842624<=m)(h1:m<2251799813685248): ∀ n,-562949953421312<=us m n/\us m n<=562949953421312
 |0=>by have:=s0_bd h0 h1;unfold us;omega
 |n+1=>by
  have ih:=us_bd h0 h1 n
  have:=sq_bd h0 h1
  exact(tim_eq ih.1 ih.2 (by omega) (by omega) (by omega)).2
theorem ls_bd{m:Int}(h0:1125899906842624<=m)(h1:m<2251799813685248): ∀ n:Nat,-((n:Int)*562949953421312)<=ls m n/\ls m n<=(n:Int)*562949953421312
 |0=>by unfold ls;omega
 |n+1=>by
  have ih:=ls_bd h0 h1 n
  have hu:=us_bd h0 h1 n
  have:=tdiv_bd (2*n+1) hu.1 hu.2
  rw [ls_step]
  omega
def lg(m e:Int):Int:=rne (2*ls m 20+e*780414346020670) (2^30)
theorem lg_in{m e:Int}(h0:1125899906842624<=m)(h1:m<2251799813685248)(e0: -100<=e)(e1:e<=100): -100583439434973184<=2*ls m 20+e*780414346020670/\2*ls m 20+e*780414346020670<=100583439434973184:=by
 have:=ls_bd h0 h1 20;omega
theorem lg_bd{m e:Int}(h0:1125899906842624<=m)(h1:m<2251799813685248)(e0: -100<=e)(e1:e<=100): -93675630<=lg m e/\lg m e<=93675630:=by
 have:=lg_in h0 h1 e0 e1;unfold lg;rw [show(2:Int)^30=1073741824 from rfl];exact⟨rne_ge (by omega) (by omega),rne_le (by omega) (by omega)⟩
def mo(x d:Int):Int:=if d<0 then x*2^(-d).toNat else x/2^d.toNat
def Dn(x d:Int):Prop:= -50<=d/\d<=11/\2^(50+d).toNat<=x/\x<2^(51+d).toNat
theorem two_add(a b:Nat):(2:Int)^(a+b)=2^a*2^b:=Int.pow_add 2 a b
theorem mo_bd{x d:Int}(h:Dn x d):1125899906842624<=mo x d/\mo x d<2251799813685248:=by
 obtain⟨h0,h1,h2,h3⟩:=h;have p50:(2:Int)^50=1125899906842624:=rfl;have p51:(2:Int)^51=2251799813685248:=rfl;unfold mo;split
 · obtain⟨k,hk⟩: ∃ k:Nat,k=(-d).toNat:=⟨_,rfl⟩;rw [← hk];have a1:(2:Int)^50=2^(50+d).toNat*2^k:=by rw [← two_add];congr 1;omega
   have a2:(2:Int)^51=2^(51+d).toNat*2^k:=by rw [← two_add];congr 1;omega
   have hp:(0:Int)<2^k:=Int.pow_pos (by omega);have b1:=Int.mul_le_mul_of_nonneg_right h2 (Int.le_of_lt hp);have b2:=Int.mul_lt_mul_of_pos_right h3 hp;omega
 · obtain⟨k,hk⟩: ∃ k:Nat,k=d.toNat:=⟨_,rfl⟩;rw [← hk];have a1:(2:Int)^(50+d).toNat=2^50*2^k:=by rw [← two_add];congr 1;omega
   have a2:(2:Int)^(51+d).toNat=2^51*2^k:=by rw [← two_add];congr 1;omega
   have hp:(0:Int)<2^k:=Int.pow_pos (by omega);constructor
   · exact Int.le_ediv_of_mul_le hp (by omega)
   · exact Int.ediv_lt_of_lt_mul hp (by omega)
def lgb(x d:Int)(b:Int):Int:=lg (mo x d) (d- b+50)
end Gw
end
section
namespace Cn
def oc(fl:Int)(z:Nat->Int)(n:Nat):Nat->Int:=fun k=>sh (1073741824- fl*n) z n k+fl
section
variable {n:Nat} {z:Nat->Int} {fl:Int} (hm:MayW n z fl) (ht:0<tot z n)
include hm ht
theorem oc_ch:Ch n (oc fl z n) fl:=by
 have h4:=mul_four hm.lo hm.hi hm.four;refine⟨hm.one,hm.four,hm.lo,hm.hi,fun k hk=> ?_, ?_⟩
 · have:=sh_nn (m:=1073741824- fl*n) (by omega) (fun i hi=>(hm.each i hi).1) ht hk;show fl<=sh (1073741824- fl*n) z n k+fl;omega
 · show tot (fun k=>sh (1073741824- fl*n) z n k+fl) n=_;rw [tot_add (sh (1073741824- fl*n) z n) (fun _=>fl) n,sh_tot ht,tot_const];omega
end
section
variable {n:Nat} {s:Nat->Int} {fl:Int} (h:Ch n s fl)
include h
end
end Cn
end
end Go.Proofs.YtcefcokpjbebhaaGreatDoor
