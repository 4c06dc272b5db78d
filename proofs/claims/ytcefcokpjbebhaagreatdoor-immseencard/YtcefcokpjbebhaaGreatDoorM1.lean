/-
  Plain facts on numbers: no program is named here.
-/
set_option linter.unusedSimpArgs false
set_option linter.unusedVariables false
namespace Go.Proofs.YtcefcokpjbebhaaGreatDoor
theorem om1{p:Prop}(h:p:=by omega):p:=h
theorem rl1{p:Prop}(h:p:=by rfl):p:=h
section
namespace Qn
def lo(n:Int):Int:=n%18446744073709551616
def mi(n:Int):Int:=n/18446744073709551616%18446744073709551616
def hi(n:Int):Int:=n/18446744073709551616/18446744073709551616%18446744073709551616
theorem vw(n:Int):0<=lo n/\lo n<=18446744073709551615:=by unfold lo;omega
theorem CX(n:Int):0<=mi n/\mi n<=18446744073709551615:=by unfold mi;omega
theorem UO(n:Int):0<=hi n/\hi n<=18446744073709551615:=by unfold hi;omega
def sg(x:Int):Int:=if x<9223372036854775808 then 0 else 18446744073709551615
def clamp(n:Int):Int:=if 4611686018427387903<n then 4611686018427387903 else if n< -4611686018427387903 then-4611686018427387903 else n
def great(n:Int):Bool:=decide (4611686018427387903<n)||decide (n< -4611686018427387903)
def rne(n d:Int):Int:=if 2*(n%d)<d\/2*(n%d)=d/\n/d%2=0 then n/d else n/d+1
end Qn
namespace Qn
def DAt(un y1 y0 u1 q rh:Int):Prop:=0<=q/\q<=4294967298/\0<=rh/\un=q*y1+rh/\(un*4294967296+u1)/(y1*4294967296+y0)<=q
theorem IZ(q y1 y0:Int):q*(y1*4294967296+y0)=q*y1*4294967296+q*y0:=by
 rw [Int.mul_add,← Int.mul_assoc]
theorem zn{un y1 y0 u1:Int}(h0:0<=un)(hy1:2147483648<=y1)(hy2:y1<4294967296)(hy0:0<=y0)(hy3:y0<4294967296)(hu0:0<=u1)(hu1:u1<4294967296)(hlt:un<y1*4294967296+y0):
 DAt un y1 y0 u1 (un/y1) (un- un/y1*y1):=by
 have hm:=Int.emod_add_mul_ediv un y1;have hm0:=Int.emod_nonneg un (show y1≠0 by omega);have hm1:=Int.emod_lt_of_pos un (show 0<y1 by omega);have hq0:0<=un/y1:=Int.ediv_nonneg h0 om1;have hq:un/y1<4294967299:=Int.ediv_lt_of_lt_mul om1 om1;rw [Int.mul_comm] at hm;refine⟨hq0,om1,om1,om1, ?_⟩;have hpos:0<y1*4294967296+y0:=om1
 have:(un*4294967296+u1)/(y1*4294967296+y0)<un/y1+1:=by
  refine Int.ediv_lt_of_lt_mul hpos ?_;simp only [IZ,Int.add_mul,Int.one_mul];have hz:0<=un/y1*y0:=Int.mul_nonneg hq0 hy0;omega
 omega
theorem rV{un y1 y0 u1 q rh:Int}(h:DAt un y1 y0 u1 q rh)(hy1:2147483648<=y1)(hy0:0<=y0)(hu0:0<=u1)(hu1:u1<4294967296)(hlt:un<y1*4294967296+y0)
 (hc:4294967296<=q\/rh*4294967296+u1<q*y0):DAt un y1 y0 u1 (q- 1) (rh+y1):=by
 obtain⟨h1,h2,h3,h4,h5⟩:=h;have hpos:0<y1*4294967296+y0:=om1
 have hlt2:(un*4294967296+u1)/(y1*4294967296+y0)<q:=by
  refine Int.ediv_lt_of_lt_mul hpos ?_;rcases hc with hc|hc
  · have:4294967296*(y1*4294967296+y0)<=q*(y1*4294967296+y0):=Int.mul_le_mul_of_nonneg_right hc om1;omega
  · rw [IZ];omega
 have hq1:1<=q:=by
  have:0<=(un*4294967296+u1)/(y1*4294967296+y0):=Int.ediv_nonneg (by
   have:0<=q*y1:=Int.mul_nonneg h1 om1
   omega) om1
  omega
 refine⟨om1,om1,om1, ?_,om1⟩;rw [Int.sub_mul,Int.one_mul];omega
theorem zq{un y1 y0 u1 q rh:Int}(h:DAt un y1 y0 u1 q rh)(hq:q<=4294967297)(hy0:0<=y0)(hy3:y0<4294967296)(hu0:0<=u1)(hr:4294967296<=rh):q*y0<=rh*4294967296+u1:=by
 have h1:q*y0<=4294967297*y0:=Int.mul_le_mul_of_nonneg_right hq hy0;omega
theorem rX{un y1 y0 u1 q rh:Int}(h:DAt un y1 y0 u1 q rh)(hy1:2147483648<=y1)(hy0:0<=y0)(hc:q*y0<=rh*4294967296+u1):q=(un*4294967296+u1)/(y1*4294967296+y0):=by
 obtain⟨h1,h2,h3,h4,h5⟩:=h;have hpos:0<y1*4294967296+y0:=om1
 have:q<=(un*4294967296+u1)/(y1*4294967296+y0):=by
  refine Int.le_ediv_of_mul_le hpos ?_;rw [IZ];omega
 omega
theorem rY{un u1 Y q:Int}(hY:0<Y)(hYW:Y<18446744073709551616)(hq:q=(un*4294967296+u1)/Y):
 ((un*4294967296+u1)- q*Y)%18446744073709551616=(un*4294967296+u1)%Y:=by
 have h:=Int.emod_add_mul_ediv (un*4294967296+u1) Y;have h0:=Int.emod_nonneg (un*4294967296+u1) (show Y≠0 by omega);have h1:=Int.emod_lt_of_pos (un*4294967296+u1) hY;rw [← hq,Int.mul_comm Y q] at h;rw [show un*4294967296+u1- q*Y=(un*4294967296+u1)%Y by omega];omega
theorem Dv{un u1 Y:Int}(h0:0<=un)(hY:un<Y)(hu0:0<=u1)(hu1:u1<4294967296):0<=(un*4294967296+u1)/Y/\(un*4294967296+u1)/Y<4294967296:=by
 refine⟨Int.ediv_nonneg om1 om1,Int.ediv_lt_of_lt_mul om1 ?_⟩;omega
theorem Nr{V U u1 u0 Y:Int}(hY:0<Y)(hV:V=(U*4294967296+u1)*4294967296+u0):
 V/Y=(U*4294967296+u1)/Y*4294967296+((U*4294967296+u1)%Y*4294967296+u0)/Y/\V%Y=((U*4294967296+u1)%Y*4294967296+u0)%Y:=by
 have h:=Int.emod_add_mul_ediv (U*4294967296+u1) Y;generalize hr:(U*4294967296+u1)%Y=r at*;generalize hq:(U*4294967296+u1)/Y=q at*
 have e:V=r*4294967296+u0+Y*(q*4294967296):=by
  rw [hV,← h,Int.add_mul,Int.mul_assoc];omega
 rw [e,Int.add_mul_ediv_left _ _ om1,Int.add_mul_emod_self_left];exact⟨om1,rfl⟩
theorem shifted{h l y D E U L:Int}(hy:0<y)(hD:0<D)(hE:0<E)(hDE:D*E=18446744073709551616)(hl:0<=l)(hU:U=h*D+l/E)(hL:L=l*D%18446744073709551616):
 (U*18446744073709551616+L)/(y*D)=(h*18446744073709551616+l)/y/\(U*18446744073709551616+L)%(y*D)/D=(h*18446744073709551616+l)%y:=by
 have e:U*18446744073709551616+L=(h*18446744073709551616+l)*D:=by
  have e1:l*D/18446744073709551616=l/E:=by
   rw [← hDE,Int.mul_comm l D,Int.mul_ediv_mul_of_pos _ _ hD]
  have e2:=Int.emod_add_mul_ediv (l*D) 18446744073709551616;rw [e1] at e2;rw [hU,hL,Int.add_mul,Int.add_mul,Int.mul_right_comm];omega
 rw [e];refine⟨Int.mul_ediv_mul_of_pos_left _ _ hD, ?_⟩;rw [Int.mul_comm _ D,Int.mul_comm y D,Int.mul_emod_mul_of_pos _ _ hD,Int.mul_ediv_cancel_left _ om1]
end Qn
namespace Qn
theorem Ep(n d:Int)(hd:0<d):rne (-n) d= -rne n d:=by
 have h:=Int.emod_add_mul_ediv n d;have h0:=Int.emod_nonneg n (show d≠0 by omega);have h1:=Int.emod_lt_of_pos n hd;generalize hq:n/d=q at*;generalize hr:n%d=r at*;by_cases hz:r=0
 · subst hz;have e: -n=0+d*(-q):=by rw [Int.mul_neg];omega
   have e1: -n/d= -q:=by rw [e,Int.add_mul_ediv_left _ _ om1,Int.zero_ediv,Int.zero_add]
   have e2: -n%d=0:=by rw [e,Int.add_mul_emod_self_left,Int.zero_emod]
   unfold rne;rw [e1,e2,hq,hr,if_pos (Or.inl om1),if_pos (Or.inl om1)]
 · have e: -n=d- r+d*(-q- 1):=by rw [Int.mul_sub,Int.mul_neg,Int.mul_one];omega
   have e1: -n/d= -q- 1:=by rw [e,Int.add_mul_ediv_left _ _ om1,Int.ediv_eq_zero_of_lt om1 om1];omega
   have e2: -n%d=d- r:=by rw [e,Int.add_mul_emod_self_left,Int.emod_eq_of_lt om1 om1]
   unfold rne;rw [e1,e2,hq,hr];split<;>split<;>omega
theorem Pj(x d:Int)(hd:0<d):rne (x*d) d=x:=by
 unfold rne;rw [Int.mul_emod_left,Int.mul_ediv_cancel _ om1,if_pos (Or.inl om1)]
theorem Yv(x:Int):rne x 1=x:=by
 have:=Pj x 1 om1;rwa [Int.mul_one] at this
theorem KP{n:Int}(h:great n=false):clamp n=n:=by
 unfold great at h;rw [Bool.or_eq_false_iff,decide_eq_false_iff_not,decide_eq_false_iff_not] at h;unfold clamp;rw [if_neg h.1,if_neg h.2]
theorem vz{n:Int}:great n=false↔ -4611686018427387903<=n/\n<=4611686018427387903:=by
 unfold great;rw [Bool.or_eq_false_iff,decide_eq_false_iff_not,decide_eq_false_iff_not];omega
theorem vC(n:Int):clamp (-n)= -clamp n:=by
 unfold clamp;by_cases h1:4611686018427387903<n
 · rw [if_pos h1,if_neg om1,if_pos om1]
 · by_cases h2:n< -4611686018427387903
   · rw [if_neg h1,if_pos h2,if_pos om1];omega
   · rw [if_neg h1,if_neg h2,if_neg om1,if_neg om1]
end Qn
namespace Dec
def val:List Nat->Nat
 | []=>0
 |d::r=>d+10*val r
def Small(l:List Nat):Prop:= ∀ i,l.getD i 0<10
def Tidy(l:List Nat):Prop:=l≠ []->l.getD (l.length- 1) 0≠0
def yI:Nat->Nat->List Nat
 |0,_=> []
 |f+1,n=>if n=0 then [] else n%10::yI f (n/10)
def bZ(n:Nat):List Nat:=yI n n
theorem Yw:val []=0:=rfl
theorem fU(d:Nat)(r:List Nat):val (d::r)=d+10*val r:=rfl
theorem qB:Small []:=by intro i;simp
theorem su{d:Nat}{r:List Nat}(h:d<10)(k:Small r):Small (d::r):=by
 intro i;cases i with
 |zero=>simpa using h
 |succ j=>simpa using k j
theorem oL{d:Nat}{r:List Nat}(h:Small (d::r)):Small r:=by
 intro i;simpa using h (i+1)
theorem sH{d:Nat}{r:List Nat}(h:Small (d::r)):d<10:=by simpa using h 0
theorem val_append(a b:List Nat):val (a++b)=val a+10^a.length*val b:=by
 induction a with
 |nil=>simp [val]
 |cons d r ih=>
  simp only [List.cons_append,fU,ih,List.length_cons,Nat.pow_succ];rw [Nat.mul_add,← Nat.add_assoc,Nat.mul_comm (10^r.length) 10,← Nat.mul_assoc]
theorem oN{l:List Nat}(h:Small l):val l<10^l.length:=by
 induction l with
 |nil=>simp [val]
 |cons d r ih=>
  have h1:=ih (oL h);have h2:=sH h;simp only [fU,List.length_cons,Nat.pow_succ];omega
theorem jU(l:List Nat)(k:Nat):val (l.take (k+1))=val (l.take k)+10^k*l.getD k 0:=by
 by_cases h:k<l.length
 · rw [List.take_succ_eq_append_getElem h,val_append];have e:(l.take k).length=k:=by simp;omega
   rw [e];simp [val,List.getD,List.getElem?_eq_getElem h]
 · rw [List.take_of_length_le om1,List.take_of_length_le om1];have e:l.getD k 0=0:=by simp [List.getD,List.getElem?_eq_none (Nat.le_of_not_lt h)]
   rw [e];simp
theorem pg{l:List Nat}{k:Nat}(h:l.length<=k):l.take k=l:=List.take_of_length_le h
theorem qC{a b:List Nat}(ha:Small a)(hb:Small b):Small (a++b):=by
 intro i;by_cases h:i<a.length
 · have:=ha i;simpa [List.getD,List.getElem?_append_left h] using this
 · have:=hb (i- a.length);simpa [List.getD,List.getElem?_append_right (Nat.le_of_not_lt h)] using this
theorem zt{d:Nat}(h:d<10):Small [d]:=su h qB
theorem xx{l:List Nat}(h:Small l)(k:Nat):Small (l.take k):=by
 intro i;by_cases hi:i<k
 · have:=h i;simpa [List.getD,List.getElem?_take,hi] using this
 · simp [List.getD,List.getElem?_take,hi]
theorem Pm{l:List Nat}(ht:Tidy l)(hn:l≠ []):0<val l:=by
 induction l with
 |nil=>exact absurd rfl hn
 |cons d r ih=>
  rw [fU];by_cases hr:r= []
  · subst hr;have:=ht (by simp);simp at this;omega
  · have:Tidy r:=by
     intro _;have:=ht (by simp)
     have e:(d::r).length- 1=(r.length- 1)+1:=by
      have:0<r.length:=List.length_pos_iff.2 hr;simp;omega
     rw [e] at this;simpa using this
    have:=ih this hr;omega
theorem Pn{d:Nat}{r:List Nat}(h:Tidy (d::r)):Tidy r:=by
 intro hr;have:=h (by simp)
 have e:(d::r).length- 1=(r.length- 1)+1:=by
  have:0<r.length:=List.length_pos_iff.2 hr;simp;omega
 rw [e] at this;simpa using this
theorem Gg: ∀ (f:Nat) (l:List Nat),Small l->Tidy l->val l<=f->yI f (val l)=l
 |0,l,_,ht,hf=>by
  by_cases hn:l= []
  · subst hn;rfl
  · have:=Pm ht hn
    omega
 |f+1,l,hs,ht,hf=>by
  cases l with
  |nil=>simp [yI,val]
  |cons d r=>
   have hp:=Pm ht (by simp)
   have hd:=sH hs
   rw [yI,if_neg om1]
   have e1:val (d::r)%10=d:=by rw [fU];omega
   have e2:val (d::r)/10=val r:=by rw [fU];omega
   rw [e1,e2,Gg f r (oL hs) (Pn ht) (by rw [fU] at hp hf;omega)]
theorem UQ{l:List Nat}(hs:Small l)(ht:Tidy l):bZ (val l)=l:=Gg _ l hs ht (Nat.le_refl _)
theorem I4{l:List Nat}{n:Nat}(hs:Small l)(ht:Tidy l)(h:val l=n):l=bZ n:=by rw [← h,UQ hs ht]
theorem zu: ∀ (f n:Nat),Small (yI f n)
 |0,_=>qB
 |f+1,n=>by
  rw [yI]
  split
  · exact qB
  · exact su om1 (zu f _)
theorem xA: ∀ (f n:Nat),n<=f->val (yI f n)=n
 |0,n,h=>by simp [yI,val];omega
 |f+1,n,h=>by
  rw [yI]
  split
  · simp [val];omega
  · rw [fU,xA f (n/10) om1];omega
theorem zH{d:Nat}{r:List Nat}(h:Tidy r)(k:r= []->d≠0):Tidy (d::r):=by
 intro _;by_cases hr:r= []
 · subst hr;simpa using k rfl
 · have:=h hr
   have e:(d::r).length- 1=(r.length- 1)+1:=by
    have:0<r.length:=List.length_pos_iff.2 hr;simp;omega
   rw [e];simpa using this
theorem Dw: ∀ (f n:Nat),n<=f->Tidy (yI f n)
 |0,_,_=>by intro h;exact absurd rfl h
 |f+1,n,h=>by
  rw [yI]
  split
  · intro h;exact absurd rfl h
  · refine zH (Dw f _ om1) ?_
    intro e
    have:=xA f (n/10) om1
    rw [e] at this
    simp [val] at this
    omega
theorem eU(n:Nat):Small (bZ n):=zu _ _
theorem vF(n:Nat):Tidy (bZ n):=Dw _ _ (Nat.le_refl _)
theorem eH(n:Nat):val (bZ n)=n:=xA _ _ (Nat.le_refl _)
theorem Pq:bZ 0= []:=rfl
theorem gI(n:Nat):bZ n= []↔n=0:=by
 constructor
 · intro h;have:=eH n;rw [h] at this;simp [val] at this;omega
 · intro h;subst h;rfl
theorem Gh{l:List Nat}{k:Nat}(hs:Small l)(hk:k<=l.length)(hv:val (l.take k)=val l)(ht:k=0\/l.getD (k- 1) 0≠0):l.take k=bZ (val l):=by
 refine I4 (xx hs k) ?_ hv;intro hn;have e:(l.take k).length=k:=by simp;omega
 rcases ht with h0|h0
 · subst h0;simp at hn
 · rw [e]
   have hk0:0<k:=by
    rcases Nat.eq_zero_or_pos k with h|h
    · subst h;simp at hn
    · exact h
   simpa [List.getD,List.getElem?_take,show k- 1<k by omega] using h0
theorem Pv{l:List Nat}{k:Nat}(h0:l.getD k 0=0):val (l.take k)=val (l.take (k+1)):=by
 rw [jU,h0];simp
theorem bH{n k:Nat}(h:n<10^k):(bZ n).length<=k:=by
 by_cases hn:bZ n= []
 · rw [hn];simp
 · have hp:0<(bZ n).length:=List.length_pos_iff.2 hn;have ht:=vF n hn;have hv:=jU (bZ n) ((bZ n).length- 1);rw [show(bZ n).length- 1+1=(bZ n).length by omega,List.take_of_length_le (Nat.le_refl _),eH] at hv;rcases Nat.lt_or_ge k (bZ n).length with hlt|hge
   · exfalso;have h1:10^k<=10^((bZ n).length- 1):=Nat.pow_le_pow_right om1 om1;have h2:10^((bZ n).length- 1)*1<=10^((bZ n).length- 1)*(bZ n).getD ((bZ n).length- 1) 0:=Nat.mul_le_mul_left _ om1;omega
   · exact hge
theorem Gi: ∀ {l:List Nat},Small l-> ∃ k,k<=l.length/\l.take k=bZ (val l)
 | [],_=>⟨0,by simp,rfl⟩
 |d::r,h=>by
  obtain⟨k,hk,e⟩:=Gi (oL h)
  by_cases hz:val (d::r)=0
  · exact⟨0,by simp,by rw [hz];rfl⟩
  · refine⟨k+1,by simp;omega,I4 (xx h _) ?_ ?_⟩
    · rw [List.take_succ_cons]
      refine zH (by rw [e];exact vF _) ?_
      intro e2 e3
      rw [e] at e2
      have:=(gI _).1 e2
      rw [fU] at hz
      omega
    · rw [List.take_succ_cons,fU,fU,e,eH]
theorem vG{l:List Nat}(h:Small l){t:Nat}(ht:t<(bZ (val l)).length):l.getD t 0=(bZ (val l)).getD t 0:=by
 obtain⟨k,hk,e⟩:=Gi h;rw [← e] at ht ⊢;have hk2:t<k:=by simp at ht;omega
 simp [List.getD,hk2]
theorem I5{n:Nat}(h:bZ n≠ []):10^((bZ n).length- 1)<=n:=by
 have hp:0<(bZ n).length:=List.length_pos_iff.2 h;have ht:=vF n h;have hv:=jU (bZ n) ((bZ n).length- 1);rw [show(bZ n).length- 1+1=(bZ n).length by omega,List.take_of_length_le (Nat.le_refl _),eH] at hv;have h2:10^((bZ n).length- 1)*1<=10^((bZ n).length- 1)*(bZ n).getD ((bZ n).length- 1) 0:=Nat.mul_le_mul_left _ om1;omega
theorem kP(n:Nat):n<10^(bZ n).length:=by
 have:=oN (eU n);rwa [eH] at this
theorem qE{a b:Nat}(h:(bZ a).length<(bZ b).length):a<b:=by
 have h1:=kP a;have h2:=I5 (n:=b) (by intro e;rw [e] at h;simp at h);have h3:10^(bZ a).length<=10^((bZ b).length- 1):=Nat.pow_le_pow_right om1 om1;omega
theorem bg{a b:Nat}(h:a<=b):(bZ a).length<=(bZ b).length:=by
 rcases Nat.lt_or_ge (bZ b).length (bZ a).length with k|k
 · have:=qE k;omega
 · exact k
theorem zI: ∀ {a b:List Nat} {i:Nat},Small a->Small b->a.length=b.length->i<a.length->a.drop (i+1)=b.drop (i+1)->a.getD i 0<b.getD i 0->val a<val b
 | [],_,_,_,_,_,h,_,_=>by simp at h
 |_::_,[],_,_,_,h,_,_,_=>by simp at h
 |x::a,y::b,0,ha,hb,hl,hi,hd,hlt=>by
  simp only [List.drop_succ_cons,List.drop_zero] at hd
  simp at hlt
  rw [fU,fU,hd];omega
 |x::a,y::b,i+1,ha,hb,hl,hi,hd,hlt=>by
  have:=zI (i:=i) (oL ha) (oL hb) (by simpa using hl) (by simpa using hi) (by simpa using hd) (by simpa using hlt)
  have h1:=sH ha
  have h2:=sH hb
  rw [fU,fU];omega
theorem Px{a b:Nat}(h:(((a:Nat):Int) !=((b:Nat):Int))=true):a≠b:=by
 intro e;subst e;simp at h
theorem Py{a b:Nat}(h:(((a:Nat):Int) !=((b:Nat):Int))=false):a=b:=by
 have:((a:Nat):Int)=((b:Nat):Int):=by simpa using h
 omega
theorem UR{x y:List Nat}{k:Nat}(hx:Small x)(hy:Small y)(hl:x.length=y.length)(h0:0<k)(hk:k<=x.length)(hd:x.drop k=y.drop k)(hne:x.getD (k- 1) 0≠y.getD (k- 1) 0):
 decide (x.getD (k- 1) 0<y.getD (k- 1) 0)=decide (val x<val y):=by
 have e:k- 1+1=k:=om1;rcases Nat.lt_or_gt_of_ne hne with h|h
 · have:=zI (i:=k- 1) hx hy hl om1 (by rw [e];exact hd) h;rw [decide_eq_true h,decide_eq_true this]
 · have:=zI (i:=k- 1) hy hx hl.symm om1 (by rw [e];exact hd.symm) h;rw [decide_eq_false om1,decide_eq_false om1]
theorem drop_step{x y:List Nat}{k:Nat}(hkx:k- 1<x.length)(hky:k- 1<y.length)(h0:0<k)(hd:x.drop k=y.drop k)(he:x.getD (k- 1) 0=y.getD (k- 1) 0):x.drop (k- 1)=y.drop (k- 1):=by
 rw [List.drop_eq_getElem_cons hkx,List.drop_eq_getElem_cons hky,show k- 1+1=k by omega,hd];simp [List.getD,List.getElem?_eq_getElem hkx,List.getElem?_eq_getElem hky] at he;rw [he]
def yg(x y:List Nat)(k:Nat)(o:List Nat)(c:Nat):Prop:=o.length=k/\Small o/\val o+10^k*c=val (x.take k)+val (y.take k)
theorem nM(x y:List Nat):yg x y 0 [] 0:=⟨rfl,qB,by simp [val]⟩
theorem uD{x y o:List Nat}{k c:Nat}(h:yg x y k o c):yg x y (k+1) (o++ [(c+x.getD k 0+y.getD k 0)%10]) ((c+x.getD k 0+y.getD k 0)/10):=by
 obtain⟨h1,h2,h3⟩:=h;refine⟨by simp [h1],qC h2 (zt om1), ?_⟩;rw [val_append,h1,jU,jU];have e:val [(c+x.getD k 0+y.getD k 0)%10]=(c+x.getD k 0+y.getD k 0)%10:=by simp [val]
 rw [e];have e2:(c+x.getD k 0+y.getD k 0)%10+10*((c+x.getD k 0+y.getD k 0)/10)=c+x.getD k 0+y.getD k 0:=om1;have e3:10^(k+1)*((c+x.getD k 0+y.getD k 0)/10)=10^k*(10*((c+x.getD k 0+y.getD k 0)/10)):=by rw [Nat.pow_succ,Nat.mul_assoc]
 rw [e3,Nat.add_assoc,← Nat.mul_add,e2,Nat.mul_add,Nat.mul_add];omega
theorem sJ{x y o:List Nat}{k c:Nat}(h:yg x y k o c)(hx:x.length<=k)(hy:y.length<=k)(hc:c<=1):Small (o++ [c])/\val (o++ [c])=val x+val y:=by
 obtain⟨h1,h2,h3⟩:=h;refine⟨qC h2 (zt om1), ?_⟩;rw [val_append,h1,← pg hx,← pg hy,← h3];simp [val]
def lZ(x y:List Nat)(k:Nat)(o:List Nat)(c:Nat):Prop:=o.length=k/\Small o/\val (x.take k)+10^k*c=val o+val (y.take k)
theorem iw(x y:List Nat):lZ x y 0 [] 0:=⟨rfl,qB,by simp [val]⟩
theorem iL{x y o:List Nat}{k c d c':Nat}(h:lZ x y k o c)(hd:d<10)(he:x.getD k 0+10*c'=d+c+y.getD k 0):lZ x y (k+1) (o++ [d]) c':=by
 obtain⟨h1,h2,h3⟩:=h;refine⟨by simp [h1],qC h2 (zt hd), ?_⟩;rw [val_append,h1,jU,jU];have e:val [d]=d:=by simp [val]
 have e3:10^(k+1)*c'=10^k*(10*c'):=by rw [Nat.pow_succ,Nat.mul_assoc]
 rw [e,e3];have e4:10^k*(x.getD k 0+10*c')=10^k*(d+c+y.getD k 0):=by rw [he]
 simp only [Nat.mul_add] at e4;omega
theorem kQ{x y o:List Nat}{k c:Nat}(h:lZ x y k o c)(hx:x.length<=k)(hy:y.length<=k)(hc:c<=1)(hle:val y<=val x):Small o/\val o=val x- val y:=by
 obtain⟨h1,h2,h3⟩:=h;rw [pg hx,pg hy] at h3;have hlt:=oN h2;rw [h1] at hlt
 have:c=0:=by
  rcases Nat.eq_zero_or_pos c with h|h
  · exact h
  · have e:c=1:=om1;rw [e] at h3;omega
 subst this;exact⟨h2,om1⟩
theorem vH(x y:Nat):(bZ (x+y)).length<=(bZ x).length+(bZ y).length+1:=by
 refine bH ?_;have h1:=kP x;have h2:=kP y;have h3:10^(bZ x).length<=10^((bZ x).length+(bZ y).length):=Nat.pow_le_pow_right om1 om1;have h4:10^(bZ y).length<=10^((bZ x).length+(bZ y).length):=Nat.pow_le_pow_right om1 om1;rw [Nat.pow_succ];omega
theorem Es(x y:Nat):(bZ (x*y)).length<=(bZ x).length+(bZ y).length:=by
 refine bH ?_;rw [Nat.pow_add];have h1:=kP x;have h2:=kP y;rcases Nat.eq_zero_or_pos y with h|h
 · subst h;rw [Nat.mul_zero];exact Nat.mul_pos (Nat.pow_pos om1) (Nat.pow_pos om1)
 · exact Nat.lt_of_lt_of_le (Nat.mul_lt_mul_of_pos_right h1 h) (Nat.mul_le_mul_left _ om1)
theorem Pz{n:Nat}(h:0<n):bZ n=n%10::bZ (n/10):=by
 symm;refine I4 (su om1 (eU _)) (zH (vF _) ?_) ?_
 · intro e;have:=(gI _).1 e;omega
 · rw [fU,eH];omega
def UT(x:Nat)(o:List Nat)(n:Nat):Prop:=o++bZ x=bZ n
theorem Gj{x n:Nat}{o:List Nat}(h:UT x o n)(hx:0<x):UT (x/10) (o++ [x%10]) n:=by
 unfold UT at*;rw [← h,Pz hx];simp
theorem KQ{n:Nat}{o:List Nat}(h:UT 0 o n):o=bZ n:=by
 unfold UT at h;rw [← h,Pq];simp
theorem zS{x n:Nat}{o:List Nat}(h:UT x o n):o.length<=(bZ n).length:=by
 unfold UT at h;rw [← h];simp
end Dec
namespace Dec
theorem PG: ∀ (l:List Nat) (p d:Nat),p<l.length->val (l.set p d)+10^p*l.getD p 0=val l+10^p*d
 | [],_,_,h=>by simp at h
 |a::r,0,d,_=>by simp [val];omega
 |a::r,p+1,d,h=>by
  have ih:=PG r p d (by simpa using h)
  simp only [List.set_cons_succ,fU,List.getD_cons_succ,Nat.pow_succ]
  have e1:10^p*10*r.getD p 0=10*(10^p*r.getD p 0):=by rw [Nat.mul_comm (10^p) 10,Nat.mul_assoc]
  have e2:10^p*10*d=10*(10^p*d):=by rw [Nat.mul_comm (10^p) 10,Nat.mul_assoc]
  rw [e1,e2]
  omega
theorem Gl{l:List Nat}(h:Small l)(p d:Nat)(hd:d<10):Small (l.set p d):=by
 intro i;have:=h i;simp only [List.getD,List.getElem?_set] at*;split
 · split
   · simpa using hd
   · simp
 · exact this
theorem Et(n:Nat):val (List.replicate n 0)=0:=by
 induction n with
 |zero=>rfl
 |succ n ih=>rw [List.replicate_succ,fU,ih]
theorem Aa(n:Nat):Small (List.replicate n 0):=by
 intro i;simp only [List.getD,List.getElem?_replicate];split<;>simp
def xB(x y:List Nat)(i j:Nat)(L:List Nat)(c:Nat):Prop:=
 L.length=x.length+y.length+1/\Small L/\c<=9/\val L+10^(i+j)*c=val (x.take i)*val y+10^i*(x.getD i 0*val (y.take j))
theorem I7(x y:List Nat):xB x y 0 0 (List.replicate (x.length+y.length+1) 0) 0:=
 ⟨by simp,Aa _,om1,by rw [Et];simp [val]⟩
theorem xC{x y L:List Nat}{i j c v:Nat}(h:xB x y i j L c)(hx:Small x)(hy:Small y)(hp:i+j<L.length)(hv:v=L.getD (i+j) 0+c+x.getD i 0*y.getD j 0):
 xB x y i (j+1) (L.set (i+j) (v%10)) (v/10):=by
 obtain⟨h1,h2,h3,h4⟩:=h;refine⟨by simpa using h1,Gl h2 _ _ om1, ?_, ?_⟩
 · have a1:=h2 (i+j);have a2:x.getD i 0*y.getD j 0<=9*9:=Nat.mul_le_mul (by have:=hx i;omega) (by have:=hy j;omega);omega
 · have e:=PG L (i+j) (v%10) hp;rw [jU];have e1:10^(i+(j+1))*(v/10)=10^(i+j)*(10*(v/10)):=by rw [← Nat.add_assoc,Nat.pow_succ,Nat.mul_assoc]
   have e2:10^(i+j)*(v%10)+10^(i+j)*(10*(v/10))=10^(i+j)*v:=by rw [← Nat.mul_add];congr 1;omega
   have e3:10^(i+j)*v=10^(i+j)*L.getD (i+j) 0+10^(i+j)*c+10^(i+j)*(x.getD i 0*y.getD j 0):=by rw [hv,Nat.mul_add,Nat.mul_add]
   have e4:10^i*(x.getD i 0*(val (y.take j)+10^j*y.getD j 0))=10^i*(x.getD i 0*val (y.take j))+10^(i+j)*(x.getD i 0*y.getD j 0):=by
    rw [Nat.mul_add,Nat.mul_add,Nat.pow_add];congr 1;rw [Nat.mul_assoc,Nat.mul_left_comm (x.getD i 0)]
   rw [e1,e4];omega
theorem Dx{x y L:List Nat}{i c:Nat}(h:xB x y i (y.length+1) L c)(hx:Small x)(hy:Small y):xB x y (i+1) 0 L 0:=by
 obtain⟨h1,h2,h3,h4⟩:=h;rw [pg (show y.length<=y.length+1 by omega)] at h4
 have e:val (x.take i)*val y+10^i*(x.getD i 0*val y)=val (x.take (i+1))*val y:=by
  rw [jU,Nat.add_mul,Nat.mul_assoc]
 rw [e] at h4
 have hlt:val (x.take (i+1))*val y<10^(i+(y.length+1)):=by
  have a1:val (x.take (i+1))<10^(i+1):=by
   refine Nat.lt_of_lt_of_le (oN (xx hx _)) (Nat.pow_le_pow_right om1 ?_);simp;omega
  have a2:=oN hy;have a3:10^(i+(y.length+1))=10^(i+1)*10^y.length:=by rw [← Nat.pow_add];congr 1;omega
  rw [a3];rcases Nat.eq_zero_or_pos (val y) with hz|hz
  · rw [hz,Nat.mul_zero];exact Nat.mul_pos (Nat.pow_pos om1) (Nat.pow_pos om1)
  · exact Nat.lt_of_lt_of_le (Nat.mul_lt_mul_of_pos_right a1 hz) (Nat.mul_le_mul_left _ om1)
 have hc:c=0:=by
  rcases Nat.eq_zero_or_pos c with hz|hz
  · exact hz
  · have:10^(i+(y.length+1))*1<=10^(i+(y.length+1))*c:=Nat.mul_le_mul_left _ hz;omega
 subst hc;refine⟨h1,h2,om1, ?_⟩;simp only [Nat.mul_zero,Nat.add_zero,List.take_zero,Yw] at h4 ⊢;exact h4
theorem vI{x y L:List Nat}{i:Nat}(h:xB x y i 0 L 0)(hi:x.length<=i):Small L/\val L=val x*val y/\L.length=x.length+y.length+1:=by
 obtain⟨h1,h2,h3,h4⟩:=h;refine⟨h2, ?_,h1⟩;rw [pg hi] at h4;simpa [val] using h4
end Dec
namespace Dec
theorem UU(l:List Nat)(k:Nat)(h:k<l.length):val (l.drop k)=l.getD k 0+10*val (l.drop (k+1)):=by
 rw [List.drop_eq_getElem_cons h,fU];simp [List.getD,List.getElem?_eq_getElem h]
def CY(x:List Nat)(b k:Nat)(q:List Nat)(r:Nat):Prop:=
 q.length=x.length/\Small q/\(∀ t,t<k->q.getD t 0=0)/\r<b/\val (x.drop k)=val (q.drop k)*b+r
def Gm(x:List Nat)(b k:Nat)(q:List Nat)(r:Nat):Prop:=
 q.length=x.length/\Small q/\(∀ t,t<k->q.getD t 0=0)/\q.getD k 0*b+r<10*b/\val (x.drop k)=val (q.drop k)*b+r
theorem uF(x:List Nat)(b:Nat)(hb:0<b):CY x b x.length (List.replicate x.length 0) 0:=by
 refine⟨by simp, ?_, ?_,hb, ?_⟩
 · intro i;simp only [List.getD,List.getElem?_replicate];split<;>simp
 · intro t _;simp only [List.getD,List.getElem?_replicate];split<;>simp
 · rw [List.drop_of_length_le (Nat.le_refl _),List.drop_of_length_le (by simp)];simp [val]
theorem uG{x q:List Nat}{b k r:Nat}(hx:Small x)(hk:k<x.length)(h:CY x b (k+1) q r):Gm x b k q (x.getD k 0+10*r):=by
 obtain⟨h1,h2,h3,h4,h5⟩:=h;have hd:=hx k;have h0:=h3 k om1;refine⟨h1,h2,fun t ht=>h3 t om1, ?_, ?_⟩
 · rw [h0];omega
 · rw [UU x k hk,UU q k om1,h5,h0,Nat.zero_add,Nat.mul_add,Nat.mul_assoc];omega
theorem Ac{x q:List Nat}{b k r:Nat}(h:Gm x b k q r)(hr:b<=r):q.getD k 0+1<10:=by
 obtain⟨h1,h2,h3,h4,h5⟩:=h;have h6:(q.getD k 0+1)*b<10*b:=by rw [Nat.add_mul];omega
 exact Nat.lt_of_mul_lt_mul_right h6
theorem Ns{x q:List Nat}{b k r:Nat}(hk:k<x.length)(h:Gm x b k q r)(hr:b<=r):Gm x b k (q.set k (q.getD k 0+1)) (r- b):=by
 have hd:=Ac h hr;obtain⟨h1,h2,h3,h4,h5⟩:=h;have hkq:k<q.length:=om1;have e1:(q.set k (q.getD k 0+1)).getD k 0=q.getD k 0+1:=by simp [List.getD,hkq]
 refine⟨by simp [h1],Gl h2 _ _ hd, ?_, ?_, ?_⟩
 · intro t ht;have:=h3 t ht;simp only [List.getD,List.getElem?_set];rw [if_neg om1];exact this
 · rw [e1,Nat.add_mul];omega
 · have e2:(q.set k (q.getD k 0+1)).drop (k+1)=q.drop (k+1):=by
    rw [List.drop_set_of_lt om1]
   rw [h5,UU (q.set k (q.getD k 0+1)) k (by simpa using hkq),e1,e2,UU q k hkq];simp only [Nat.add_mul];omega
theorem PH{x q:List Nat}{b k r:Nat}(h:Gm x b k q r)(hr:r<b):CY x b k q r:=
 ⟨h.1,h.2.1,h.2.2.1,hr,h.2.2.2.2⟩
theorem Ad{x q:List Nat}{b r:Nat}(h:CY x b 0 q r):Small q/\val q=val x/b/\r=val x%b:=by
 obtain⟨h1,h2,h3,h4,h5⟩:=h;simp only [List.drop_zero] at h5;have hb:0<b:=om1;refine⟨h2, ?_, ?_⟩
 · rw [h5,Nat.mul_comm,Nat.mul_add_div hb,Nat.div_eq_of_lt h4];rfl
 · rw [h5,Nat.mul_comm,Nat.mul_add_mod,Nat.mod_eq_of_lt h4]
theorem Ae(d r:Nat)(hd:d<10):Small (d::bZ r)/\val (d::bZ r)=d+10*r:=by
 refine⟨su hd (eU r), ?_⟩;rw [fU,eH]
end Dec
namespace Lg
def wd:Nat->Int->Int
 |0,n=>n%4294967296
 |k+1,n=>wd k (n/4294967296)
theorem iJ: ∀ (k:Nat) (n:Int),0<=wd k n/\wd k n<=4294967295
 |0,n=>by unfold wd;omega
 |k+1,n=>iJ k (n/4294967296)
def In8(n:Int):Prop:=0<=n/\n<115792089237316195423570985008687907853269984665640564039457584007913129639936
theorem WZ{n:Int}(h:In8 n):n=wd 0 n+4294967296*wd 1 n+18446744073709551616*wd 2 n+79228162514264337593543950336*wd 3 n+340282366920938463463374607431768211456*wd 4 n+1461501637330902918203684832716283019655932542976*wd 5 n+6277101735386680763835789423207666416102355444464034512896*wd 6 n+26959946667150639794667015087019630673637144422540572481103610249216*wd 7 n:=by
 unfold In8 at h;simp only [wd];omega
end Lg
namespace Dt
def dk(a b:Nat->Int):Nat->Int
 |0=>0
 |k+1=>dk a b k+a k*b k
theorem PI{x y:Int}(hx: -9223372036854775808<=x/\x<=9223372036854775807)(hy: -9223372036854775808<=y/\y<=9223372036854775807): -85070591730234615865843651857942052864<=x*y/\x*y<=85070591730234615865843651857942052864:=by
 have h1:(x.natAbs:Int)<=9223372036854775808:=om1;have h2:(y.natAbs:Int)<=9223372036854775808:=om1
 have h3:((x*y).natAbs:Int)<=9223372036854775808*9223372036854775808:=by
  rw [Int.natAbs_mul,Int.natCast_mul];exact Int.mul_le_mul h1 h2 om1 om1
 omega
theorem Yx(a b:Nat->Int)(ha: ∀ k,-9223372036854775808<=a k/\a k<=9223372036854775807)(hb: ∀ k,-9223372036854775808<=b k/\b k<=9223372036854775807): ∀ k:Nat,-((k:Int)*85070591730234615865843651857942052864)<=dk a b k/\dk a b k<=(k:Int)*85070591730234615865843651857942052864
 |0=>by simp [dk]
 |k+1=>by
  have h1:=Yx a b ha hb k
  have h2:=PI (ha k) (hb k)
  have e:((k+1:Nat):Int)=(k:Int)+1:=om1
  rw [e]
  show-(((k:Int)+1)*_)<=dk a b k+a k*b k/\dk a b k+a k*b k<=_
  omega
end Dt
set_option linter.unusedSectionVars false
namespace Cn
def tot(a:Nat->Int):Nat->Int
 |0=>0
 |k+1=>tot a k+a k
theorem iC{a b:Nat->Int}: ∀ {n:Nat},(∀ k,k<n->a k=b k)->tot a n=tot b n
 |0,_=>rfl
 |n+1,h=>by show tot a n+a n=tot b n+b n;rw [iC (fun k hk=>h k om1),h n om1]
theorem qF{a:Nat->Int}: ∀ {n:Nat},(∀ k,k<n->0<=a k)->0<=tot a n
 |0,_=>Int.le_refl _
 |n+1,h=>by
  have h1:=qF (n:=n) (fun k hk=>h k om1)
  have h2:=h n om1
  show 0<=tot a n+a n;omega
theorem Af(c:Int)(a:Nat->Int): ∀ n,tot (fun k=>c*a k) n=c*tot a n
 |0=>(Int.mul_zero c).symm
 |n+1=>by show tot (fun k=>c*a k) n+c*a n=c*(tot a n+a n);rw [Af c a n,Int.mul_add]
theorem Eu(a b:Nat->Int): ∀ n,tot (fun k=>a k+b k) n=tot a n+tot b n
 |0=>rfl
 |n+1=>by show tot (fun k=>a k+b k) n+(a n+b n)=tot a n+a n+(tot b n+b n);rw [Eu a b n];omega
theorem jc(c:Int): ∀ n:Nat,tot (fun _=>c) n=c*n
 |0=>(Int.mul_zero c).symm
 |n+1=>by show tot (fun _=>c) n+c=c*((n:Int)+1);rw [jc c n,Int.mul_add,Int.mul_one]
theorem W9{a:Nat->Int}{S:Int}: ∀ {n:Nat},0<n->(∀ k,k<n->a k<S)->tot a n<S*n
 |0,h,_=>by omega
 |1,_,h=>by have:=h 0 om1;show 0+a 0<S*((1:Nat):Int);omega
 |n+2,_,h=>by
  have h1:=W9 (n:=n+1) om1 (fun k hk=>h k om1)
  have h2:=h (n+1) om1
  show tot a (n+1)+a (n+1)<S*((n+1+1:Nat):Int)
  have e:S*((n+1+1:Nat):Int)=S*((n+1:Nat):Int)+S:=by rw [show((n+1+1:Nat):Int)=((n+1:Nat):Int)+1 by omega,Int.mul_add,Int.mul_one]
  omega
theorem iP{a:Nat->Int}: ∀ {n:Nat},(∀ k,k<n->0<=a k)-> ∀ {i:Nat},i<n->a i<=tot a n
 |n+1,h,i,hi=>by
  have h1:=qF (n:=n) (fun k hk=>h k om1)
  have h2:=h n om1
  show a i<=tot a n+a n
  by_cases e:i=n
  · subst e;omega
  · have:=iP (n:=n) (fun k hk=>h k om1) (i:=i) om1;omega
theorem I8{a:Nat->Int}{b:Nat}(x:Int): ∀ {n:Nat},b<n->tot (fun k=>if k=b then x else a k) n=tot a n+(x- a b)
 |n+1,h=>by
  show tot (fun k=>if k=b then x else a k) n+(if n=b then x else a n)=tot a n+a n+(x- a b)
  by_cases e:n=b
  · subst e
    rw [if_pos rfl,iC (b:=a) (fun k hk=>if_neg om1)];omega
  · rw [if_neg e,I8 x om1];omega
def bst(c:Nat->Int):Nat->Int
 |0=> -1
 |k+1=>if 0<=c k/\(bst c k<0\/c (bst c k).toNat<c k) then(k:Int) else bst c k
theorem vJ(c:Nat->Int): ∀ n,(bst c n= -1/\ ∀ i,i<n->c i<0)\/(0<=bst c n/\(bst c n).toNat<n/\0<=c (bst c n).toNat/\ ∀ i,i<n->c i<=c (bst c n).toNat)
 |0=>Or.inl ⟨rfl,fun i hi=>by omega⟩
 |n+1=>by
  have ih:=vJ c n
  show((if 0<=c n/\(bst c n<0\/c (bst c n).toNat<c n) then(n:Int) else bst c n)= -1/\_)\/(0<=(if 0<=c n/\(bst c n<0\/c (bst c n).toNat<c n) then(n:Int) else bst c n)/\_)
  have u:bst c (n+1)=if 0<=c n/\(bst c n<0\/c (bst c n).toNat<c n) then(n:Int) else bst c n:=rfl
  by_cases h:0<=c n/\(bst c n<0\/c (bst c n).toNat<c n)
  · rw [u,if_pos h]
    refine Or.inr ⟨om1,om1,by rw [Int.toNat_natCast];exact h.1,fun i hi=> ?_⟩
    rw [Int.toNat_natCast]
    by_cases e:i=n
    · subst e;omega
    · rcases ih with⟨_,h2⟩|⟨h1,_,_,h4⟩
      · have:=h2 i om1;omega
      · have:=h4 i om1;omega
  · rw [u,if_neg h]
    rcases ih with⟨h1,h2⟩|⟨h1,h2,h3,h4⟩
    · refine Or.inl ⟨h1,fun i hi=> ?_⟩
      by_cases e:i=n
      · subst e;omega
      · exact h2 i om1
    · refine Or.inr ⟨h1,om1,h3,fun i hi=> ?_⟩
      by_cases e:i=n
      · subst e;omega
      · exact h4 i om1
def give(n:Nat)(o c:Nat->Int):Nat->(Nat->Int)×(Nat->Int)
 |0=>(o,c)
 |t+1=>if bst (give n o c t).2 n<0 then give n o c t else
   (fun i=>if i=(bst (give n o c t).2 n).toNat then(give n o c t).1 i+1 else(give n o c t).1 i,fun i=>if i=(bst (give n o c t).2 n).toNat then-1 else(give n o c t).2 i)
section
variable {n:Nat} {o c:Nat->Int} (hc: ∀ i,i<n->0<=c i)
def got(n:Nat)(o c:Nat->Int)(t:Nat):Nat->Int:=fun i=>if(give n o c t).2 i= -1 then 1 else 0
include hc
theorem pq: ∀ t,t<=n->tot (got n o c t) n=t/\(∀ i,i<n->((give n o c t).2 i=c i/\(give n o c t).1 i=o i)\/((give n o c t).2 i= -1/\(give n o c t).1 i=o i+1))/\
 ∀ i j,i<n->j<n->(give n o c t).2 j= -1->c j<c i->(give n o c t).2 i= -1
 |0,_=>by
  refine⟨?_,fun i _=>Or.inl ⟨rfl,rfl⟩,fun i j hi hj h _=>by have:=hc j hj;have h':c j= -1:=h;omega⟩
  rw [iC (b:=fun _=>0) (fun k hk=>by unfold got;have:=hc k hk;rw [if_neg (by show ¬c k= -1;omega)])]
  rw [jc];simp
 |t+1,ht=>by
  obtain⟨h1,h2,h3⟩:=pq t om1
  obtain⟨O,hO⟩: ∃ O,O=(give n o c t).1:=⟨_,rfl⟩
  obtain⟨C,hC⟩: ∃ C,C=(give n o c t).2:=⟨_,rfl⟩
  have u:give n o c (t+1)=if bst C n<0 then(O,C) else(fun i=>if i=(bst C n).toNat then O i+1 else O i,fun i=>if i=(bst C n).toNat then-1 else C i):=by
   rw [hC,hO];rfl
  rw [← hO,← hC] at h2;rw [← hC] at h3;have hg:tot (fun i=>if C i= -1 then 1 else 0) n=t:=by rw [hC];exact h1
  rcases vJ C n with⟨b1,b2⟩|⟨b1,b2,b3,b4⟩
  ·-- none is left:all have one;exfalso
   have all:tot (fun i=>if C i= -1 then(1:Int) else 0) n=n:=by
    rw [iC (b:=fun _=>1) (fun k hk=> ?_),jc];simp;rw [if_pos];rcases h2 k hk with⟨e,_⟩|⟨e,_⟩
    ·have:=hc k hk;have:=b2 k hk;omega
    ·exact e
   omega
  ·obtain⟨b,hb⟩: ∃ b,b=(bst C n).toNat:=⟨_,rfl⟩;rw [← hb] at b2 b3 b4;rw [if_neg om1,← hb] at u;have e1:(give n o c (t+1)).1=fun i=>if i=b then O i+1 else O i:=by rw [u]
   have e2:(give n o c (t+1)).2=fun i=>if i=b then-1 else C i:=by rw [u]
   have cb:C b=c b:=by
    rcases h2 b b2 with⟨e,_⟩|⟨e,_⟩
    ·exact e
    ·omega
   refine⟨?_,fun i hi=> ?_,fun i j hi hj hp hr=> ?_⟩
   ·have e3:tot (got n o c (t+1)) n=tot (fun k=>if k=b then(1:Int) else(fun i=>if C i= -1 then(1:Int) else 0) k) n:=iC fun k hk=>by
     unfold got;rw [e2];show(if(if k=b then(-1:Int) else C k)= -1 then(1:Int) else 0)=_;by_cases e:k=b
     ·rw [if_pos e,if_pos e,if_pos rfl]
     ·rw [if_neg e,if_neg e]
    rw [e3,I8 1 b2,hg];show(t:Int)+(1- (if C b= -1 then(1:Int) else 0))=((t+1:Nat):Int);rw [if_neg om1];omega
   ·rw [e1,e2];show((if i=b then(-1:Int) else C i)=c i/\(if i=b then O i+1 else O i)=o i)\/((if i=b then(-1:Int) else C i)= -1/\(if i=b then O i+1 else O i)=o i+1);by_cases e:i=b
    ·rw [if_pos e,if_pos e,e];refine Or.inr ⟨rfl, ?_⟩;rcases h2 b b2 with⟨_,q⟩|⟨q,_⟩
     ·rw [q]
     ·omega
    ·rw [if_neg e,if_neg e];exact h2 i hi
   ·rw [e2] at hp ⊢;show(if i=b then(-1:Int) else C i)= -1;by_cases e:i=b
    ·rw [if_pos e]
    ·rw [if_neg e];have hp':(if j=b then(-1:Int) else C j)= -1:=hp;by_cases ej:j=b
     ·have:=b4 i hi;rw [ej] at hr;rcases h2 i hi with⟨q,_⟩|⟨q,_⟩
      ·omega
      ·exact q
     ·rw [if_neg ej] at hp';exact h3 i j hi hj hp' hr
end
def qt(m:Int)(a:Nat->Int)(n i:Nat):Int:=m*a i/tot a n
def rt(m:Int)(a:Nat->Int)(n i:Nat):Int:=m*a i%tot a n
def lf(m:Int)(a:Nat->Int)(n:Nat):Int:=m- tot (qt m a n) n
def sh(m:Int)(a:Nat->Int)(n:Nat):Nat->Int:=(give n (qt m a n) (rt m a n) (lf m a n).toNat).1
section
variable {m:Int} {a:Nat->Int} {n:Nat} (hm:0<=m) (ha: ∀ i,i<n->0<=a i) (hS:0<tot a n)
include hS
theorem Ag(i:Nat):0<=rt m a n i/\rt m a n i<tot a n:=⟨Int.emod_nonneg _ om1,Int.emod_lt_of_pos _ hS⟩
theorem qr(i:Nat):m*a i=tot a n*qt m a n i+rt m a n i:=(Int.mul_ediv_add_emod (m*a i) (tot a n)).symm
theorem lf_is:tot a n*lf m a n=tot (rt m a n) n:=by
 have h1:tot (fun i=>m*a i) n=m*tot a n:=Af m a n;have h2:tot (fun i=>m*a i) n=tot (fun i=>tot a n*qt m a n i+rt m a n i) n:=iC fun k _=>qr hS k;rw [Eu (fun i=>tot a n*qt m a n i) (rt m a n) n,Af (tot a n) (qt m a n) n] at h2;unfold lf;rw [Int.mul_sub,Int.mul_comm (tot a n) m];omega
theorem Yy:0<n:=by
 rcases Nat.eq_zero_or_pos n with e|e
 · subst e;have:tot a 0=0:=rfl;omega
 · exact e
theorem Ew:0<=lf m a n/\lf m a n<n:=by
 have h1:=lf_is (m:=m) hS;have h2:=qF (a:=rt m a n) (n:=n) (fun k _=>(Ag hS k).1);have h3:=W9 (a:=rt m a n) (S:=tot a n) (Yy hS) (fun k _=>(Ag hS k).2);refine⟨?_, ?_⟩
 · have:tot a n*0<=tot a n*lf m a n:=by rw [Int.mul_zero];omega
   exact Int.le_of_mul_le_mul_left this hS
 · rw [← h1] at h3;exact Int.lt_of_mul_lt_mul_left h3 (Int.le_of_lt hS)
theorem KR{i:Nat}(hi:i<n):((give n (qt m a n) (rt m a n) (lf m a n).toNat).2 i=rt m a n i/\sh m a n i=qt m a n i)\/((give n (qt m a n) (rt m a n) (lf m a n).toNat).2 i= -1/\sh m a n i=qt m a n i+1):=
 (pq (fun i _=>(Ag hS i).1) (lf m a n).toNat (by have:=Ew (m:=m) hS;omega)).2.1 i hi
theorem Xa:tot (sh m a n) n=m:=by
 have hl:=Ew (m:=m) hS;obtain⟨h1,_,_⟩:=pq (n:=n) (o:=qt m a n) (fun i _=>(Ag (m:=m) hS i).1) (lf m a n).toNat om1
 have e:tot (sh m a n) n=tot (fun i=>qt m a n i+got n (qt m a n) (rt m a n) (lf m a n).toNat i) n:=iC fun k hk=>by
  unfold got;rcases KR (m:=m) hS hk with⟨e1,e2⟩|⟨e1,e2⟩
  · rw [e2,e1,if_neg (by have:=(Ag (m:=m) hS k).1;omega),Int.add_zero]
  · rw [e2,e1,if_pos rfl]
 rw [e,Eu,h1];unfold lf at hl ⊢;omega
include hm ha
theorem Ey{i:Nat}(hi:i<n):0<=qt m a n i:=Int.ediv_nonneg (Int.mul_nonneg hm (ha i hi)) (Int.le_of_lt hS)
theorem UW{i:Nat}(hi:i<n):0<=sh m a n i:=by
 have:=Ey hm ha hS hi;rcases KR (m:=m) hS hi with⟨_,e⟩|⟨_,e⟩<;>omega
theorem sh_le{i:Nat}(hi:i<n):sh m a n i<=m:=by
 have:=iP (a:=sh m a n) (n:=n) (fun k hk=>UW hm ha hS hk) hi;rw [Xa hS] at this;exact this
end
end Cn
end
section
namespace Cn
structure Ch(n:Nat)(z:Nat->Int)(fl:Int):Prop where
 one:1<=n
 four:n<=4
 lo:0<=fl
 hi:fl<=67108864
 each: ∀ k,k<n->fl<=z k
 sum:tot z n=1073741824
structure Ah(n:Nat)(z:Nat->Int)(fl:Int):Prop where
 one:1<=n
 four:n<=4
 lo:0<=fl
 hi:fl<=67108864
 each: ∀ k,k<n->0<=z k/\z k<=4611686018427387903
structure I9(n:Nat)(z:Nat->Int)(m:Nat)(L:Nat->Nat)(R:Nat->Nat->Int):Prop where
 ch:Ch n z 0
 rows:m=n
 row: ∀ i,i<n->L i=n/\Ch n (R i) 0
def mxw(n:Nat)(z:Nat->Int)(R:Nat->Nat->Int)(j:Nat):Int:=tot (fun i=>z i*R i j) n
theorem Ja{a:Nat->Int}: ∀ {n k:Nat},(∀ j,j<n->0<=a j)->k<=n->tot a k<=tot a n
 |0,k,_,h=>by(obtain rfl:k=0:=by omega);exact Int.le_refl _
 |n+1,k,h0,h=>by
  by_cases e:k=n+1
  · rw [e];exact Int.le_refl _
  · have h1:=Ja (n:=n) (k:=k) (fun j hj=>h0 j om1) om1
    have h2:=h0 n om1
    show tot a k<=tot a n+a n;omega
theorem Ch.le{n:Nat}{z:Nat->Int}{fl:Int}(h:Ch n z fl){k:Nat}(hk:k<=n):tot z k<=1073741824:=by
 have:=Ja (a:=z) (n:=n) (k:=k) (fun j hj=>Int.le_trans h.lo (h.each j hj)) hk;rw [h.sum] at this;exact this
theorem Ch.nn{n:Nat}{z:Nat->Int}{fl:Int}(h:Ch n z fl){k:Nat}(hk:k<n):0<=z k/\z k<=1073741824:=by
 have h1:=h.each k hk;have h2:=h.lo;have h3:=iP (a:=z) (n:=n) (fun j hj=>Int.le_trans h.lo (h.each j hj)) hk;rw [h.sum] at h3;omega
theorem KT{fl:Int}{n:Nat}(h0:0<=fl)(h1:fl<=67108864)(hn:n<=4):0<=fl*(n:Int)/\fl*(n:Int)<=268435456:=by
 rcases(by omega:n=0\/n=1\/n=2\/n=3\/n=4) with rfl|rfl|rfl|rfl|rfl<;>omega
theorem KU(f:Nat->Nat->Int)(n:Nat): ∀ m,tot (fun j=>tot (fun i=>f i j) n) m=tot (fun i=>tot (fun j=>f i j) m) n
 |0=>by
  show(0:Int)=tot (fun i=>0) n
  rw [jc,Int.zero_mul]
 |m+1=>by
  show tot (fun j=>tot (fun i=>f i j) n) m+tot (fun i=>f i m) n=tot (fun i=>tot (fun j=>f i j) m+f i m) n
  rw [KU f n m,Eu (fun i=>tot (fun j=>f i j) m) (fun i=>f i m)]
theorem KX(c:Int)(a:Nat->Int): ∀ n,tot (fun k=>a k*c) n=tot a n*c
 |0=>(Int.zero_mul c).symm
 |n+1=>by show tot (fun k=>a k*c) n+a n*c=(tot a n+a n)*c;rw [KX c a n,Int.add_mul]
section
variable {n m:Nat} {z:Nat->Int} {L:Nat->Nat} {R:Nat->Nat->Int} (h:I9 n z m L R)
include h
theorem Xb{j:Nat}(hj:j<n):0<=mxw n z R j:=qF fun i hi=>Int.mul_nonneg (h.ch.nn hi).1 ((h.row i hi).2.nn hj).1
theorem PK:tot (mxw n z R) n=1152921504606846976:=by
 show tot (fun j=>tot (fun i=>z i*R i j) n) n=_;rw [KU (fun i j=>z i*R i j) n n]
 rw [iC (b:=fun i=>z i*1073741824) (fun i hi=>by
  show tot (fun j=>z i*R i j) n=_
  rw [Af (z i) (R i) n,(h.row i hi).2.sum])]
 rw [KX,h.ch.sum];rfl
theorem mxw_le{j:Nat}(hj:j<n):mxw n z R j<=1152921504606846976:=by
 have:=iP (a:=mxw n z R) (n:=n) (fun k hk=>Xb h hk) hj;rw [PK h] at this;exact this
end
end Cn
end
section
namespace Gw
open Qn
theorem Dy{n d A:Int}(hd:0<d)(h:n<=A*d):rne n d<=A:=by
 have e:=Int.mul_ediv_add_emod n d;have e0:=Int.emod_nonneg n (show d≠0 by omega);have q:n/d<=A:=Int.ediv_le_of_le_mul hd h;unfold rne;split
 · exact q
 · rename_i c
   rcases Int.lt_or_le (n/d) A with k|k
   · omega
   · have ek:n/d=A:=om1;have hc:=Int.mul_comm d A;rw [ek] at e;have:n%d=0:=om1;omega
theorem Dz{n d A:Int}(hd:0<d)(h: -(A*d)<=n): -A<=rne n d:=by
 have h2:=Dy (n:= -n) (A:=A) hd om1;rw [Ep n d hd] at h2;omega
theorem pz{n A:Int}(h0: -A<=n)(h1:n<=A)(hA:A<=4611686018427387903):clamp n=n/\great n=false:=by
 have:great n=false:=vz.2 ⟨om1,om1⟩;exact⟨KP this,this⟩
def tim(a b:Int):Int:=clamp (rne (a*b) (2^50))
theorem Yz(a b:Int):tim (-a) b= -tim a b:=by
 unfold tim;rw [Int.neg_mul,Ep _ _ (by decide),vC]
theorem UX(a b:Int):tim a (-b)= -tim a b:=by
 unfold tim;rw [Int.mul_neg,Ep _ _ (by decide),vC]
theorem YA{a b A B:Int}(ha0: -A<=a)(ha1:a<=A)(hb0: -B<=b)(hb1:b<=B): -(A*B)<=a*b/\a*b<=A*B:=by
 have hA:0<=A:=om1;have h:a.natAbs*b.natAbs<=A.toNat*B.toNat:=Nat.mul_le_mul om1 om1;have h2:(a*b).natAbs=a.natAbs*b.natAbs:=Int.natAbs_mul a b
 have h3:A*B=((A.toNat*B.toNat:Nat):Int):=by
  rw [Int.natCast_mul,Int.toNat_of_nonneg hA,Int.toNat_of_nonneg om1]
 omega
theorem yh{a b A:Int}(ha0: -A<=a)(ha1:a<=A)(hb0: -1125899906842624<=b)(hb1:b<=1125899906842624)(hA:A<=4611686018427387903):tim a b=rne (a*b) (2^50)/\ -A<=tim a b/\tim a b<=A:=by
 have hp:=YA ha0 ha1 hb0 hb1;have h0:=Dz (n:=a*b) (d:=2^50) (A:=A) (by decide) (by rw [show(2:Int)^50=1125899906842624 from rfl];omega);have h1:=Dy (n:=a*b) (d:=2^50) (A:=A) (by decide) (by rw [show(2:Int)^50=1125899906842624 from rfl];omega);have hc:=(pz h0 h1 hA).1;unfold tim;rw [hc];exact⟨rfl,h0,h1⟩
theorem Ai{a A:Int}(n:Nat)(h0: -A<=a)(h1:a<=A): -A<=a.tdiv n/\a.tdiv n<=A:=by
 have h:a.natAbs/(n:Int).natAbs<=a.natAbs:=Nat.div_le_self _ _;have e:(a.tdiv n).natAbs=a.natAbs/(n:Int).natAbs:=Int.natAbs_tdiv a n;rw [← e] at h;omega
def tp(r:Int):Nat->Int
 |0=>1125899906842624
 |n+1=>(tim (tp r n) (-r)).tdiv ((n+1:Nat):Int)
def td(r:Int):Nat->Int
 |0=>1125899906842624
 |n+1=>(tim (td r n) r).tdiv ((n+1:Nat):Int)
theorem YB(r:Int): ∀ n,tp r n=if n%2=0 then td r n else-td r n
 |0=>rfl
 |n+1=>by
  have ih:=YB r n
  unfold tp td
  rw [UX,ih]
  split
  · rw [if_neg om1,Int.neg_tdiv]
  · rw [if_pos om1,Yz,Int.neg_neg]
def ps(r:Int):Nat->Int
 |0=>0
 |n+1=>ps r n+tp r n
theorem ps_one(r:Int):ps r 1=1125899906842624:=by unfold ps ps tp;rfl
theorem Ez(r:Int)(n:Nat):ps r (n+1)=ps r n+tp r n:=rfl
theorem mf(r:Int)(n:Nat)(h:n%2=0):ps r n+td r n=ps r (n+1):=by rw [Ez,YB,if_pos h]
theorem qG(r:Int)(n:Nat)(h: ¬n%2=0):ps r n- td r n=ps r (n+1):=by rw [Ez,YB,if_neg h];omega
theorem UY{r:Int}(h0:0<=r)(h1:r<=1125899906842624): ∀ n,-1125899906842624<=tp r n/\tp r n<=1125899906842624
 |0=>by unfold tp;omega
 |n+1=>by
  have ih:=UY h0 h1 n
  have:=(yh (b:= -r) ih.1 ih.2 om1 om1 om1).2
  exact Ai _ this.1 this.2
theorem YC{r:Int}(h0:0<=r)(h1:r<=1125899906842624): ∀ n,-1125899906842624<=td r n/\td r n<=1125899906842624
 |0=>by unfold td;omega
 |n+1=>by
  have ih:=YC h0 h1 n
  have:=(yh (b:=r) ih.1 ih.2 om1 om1 om1).2
  exact Ai _ this.1 this.2
theorem UZ{r:Int}(h0:0<=r)(h1:r<=1125899906842624): ∀ n:Nat,-((n:Int)*1125899906842624)<=ps r n/\ps r n<=(n:Int)*1125899906842624
 |0=>by unfold ps;omega
 |n+1=>by
  have ih:=UZ h0 h1 n
  have:=UY h0 h1 n
  rw [Ez]
  omega
def hv(x:Int):Int:=(-x*1073741824)/780414346020670
def rs(x:Int):Int:=(-x*1073741824)%780414346020670
theorem Nw{x:Int}(h0:x<=0)(h1: -47185920<=x):0<=hv x/\hv x<=64:=by unfold hv;omega
theorem Jb(x:Int):0<=rs x/\rs x<780414346020670:=by unfold rs;omega
def ex(x:Int):Int:=if x< -47185920 then 0 else rne (ps (rs x) 21) (2^(20+(hv x).toNat))
theorem Jc(x:Int): -23643898043695104<=ps (rs x) 21/\ps (rs x) 21<=23643898043695104:=by
 have:=Jb x;have:=UZ (r:=rs x) om1 om1 21;omega
theorem KY{n d:Int}(h0:2*n<d)(h1: -d<2*n):rne n d=0:=by
 have hd:0<d:=om1;unfold rne;rcases Int.lt_or_le n 0 with k|k
 · have e:n/d= -1:=by
    have a:=Int.ediv_lt_of_lt_mul hd (show n<0*d by omega);have b: -1<=n/d:=Int.le_ediv_of_mul_le hd om1;omega
   have m:=Int.mul_ediv_add_emod n d;rw [e] at m ⊢;rw [if_neg om1];omega
 · rw [Int.ediv_eq_zero_of_lt k om1,Int.emod_eq_of_lt k om1,if_pos om1]
theorem YD{x:Int}(h0:x<=0)(h1: -47185920<=x)(D:Nat)(hD:(D:Int)=min (20+hv x) 62):rne (ps (rs x) 21) (2^D)=ex x:=by
 have b:=Jc x;have hb:=Nw h0 h1;unfold ex;rw [if_neg om1];by_cases h:20+hv x<=62
 · have:D=20+(hv x).toNat:=om1;rw [this]
 · have:D=62:=om1;rw [this];have hp:(2:Nat)^62<=2^(20+(hv x).toNat):=Nat.pow_le_pow_right om1 om1;have hc:((2^(20+(hv x).toNat):Nat):Int)=(2:Int)^(20+(hv x).toNat):=by simp
   have h62:(2:Int)^62=4611686018427387904:=rfl;have h62n:(2:Nat)^62=4611686018427387904:=rfl;rw [KY om1 om1,KY om1 om1]
theorem ex_bd{x:Int}(h0:x<=0)(h1: -47185920<=x): -22548578304<=ex x/\ex x<=22548578304:=by
 have b:=Jc x;have hb:=Nw h0 h1;unfold ex;rw [if_neg om1];have hp:(2:Nat)^20<=2^(20+(hv x).toNat):=Nat.pow_le_pow_right om1 om1;have hc:((2^(20+(hv x).toNat):Nat):Int)=(2:Int)^(20+(hv x).toNat):=by simp
 have h20n:(2:Nat)^20=1048576:=rfl;obtain⟨d,hd⟩: ∃ d:Int,(2:Int)^(20+(hv x).toNat)=d:=⟨_,rfl⟩;rw [hd] at hc ⊢;refine⟨Dz om1 ?_,Dy om1 ?_⟩<;>omega
def s0(m:Int):Int:=rne ((m- 1125899906842624)*2^50) (m+1125899906842624)
theorem PL{m:Int}(h0:1125899906842624<=m)(h1:m<2251799813685248):0<=s0 m/\s0 m<=562949953421312:=by
 unfold s0;rw [show(2:Int)^50=1125899906842624 from rfl];constructor
 · have:=Dz (n:=(m- 1125899906842624)*1125899906842624) (d:=m+1125899906842624) (A:=0) om1 om1;omega
 · exact Dy om1 om1
def us(m:Int):Nat->Int
 |0=>s0 m
 |n+1=>tim (us m n) (tim (s0 m) (s0 m))
def ls(m:Int):Nat->Int
 |0=>0
 |n+1=>ls m n+(us m n).tdiv ((2*n+1:Nat):Int)
theorem Jd(m:Int)(n:Nat):ls m (n+1)=ls m n+(us m n).tdiv ((2*n+1:Nat):Int):=rfl
theorem YE{m:Int}(h0:1125899906842624<=m)(h1:m<2251799813685248): -562949953421312<=tim (s0 m) (s0 m)/\tim (s0 m) (s0 m)<=562949953421312:=by
 have:=PL h0 h1;exact(yh (a:=s0 m) (b:=s0 m) (A:=562949953421312) om1 om1 om1 om1 om1).2
theorem U3{m:Int}(h0:1125899906842624<=m)(h1:m<2251799813685248): ∀ n,-562949953421312<=us m n/\us m n<=562949953421312
 |0=>by have:=PL h0 h1;unfold us;omega
 |n+1=>by
  have ih:=U3 h0 h1 n
  have:=YE h0 h1
  exact(yh ih.1 ih.2 om1 om1 om1).2
theorem PM{m:Int}(h0:1125899906842624<=m)(h1:m<2251799813685248): ∀ n:Nat,-((n:Int)*562949953421312)<=ls m n/\ls m n<=(n:Int)*562949953421312
 |0=>by unfold ls;omega
 |n+1=>by
  have ih:=PM h0 h1 n
  have hu:=U3 h0 h1 n
  have:=Ai (2*n+1) hu.1 hu.2
  rw [Jd]
  omega
def lg(m e:Int):Int:=rne (2*ls m 20+e*780414346020670) (2^30)
theorem YF{m e:Int}(h0:1125899906842624<=m)(h1:m<2251799813685248)(e0: -100<=e)(e1:e<=100): -100583439434973184<=2*ls m 20+e*780414346020670/\2*ls m 20+e*780414346020670<=100583439434973184:=by
 have:=PM h0 h1 20;omega
theorem lg_bd{m e:Int}(h0:1125899906842624<=m)(h1:m<2251799813685248)(e0: -100<=e)(e1:e<=100): -93675630<=lg m e/\lg m e<=93675630:=by
 have:=YF h0 h1 e0 e1;unfold lg;rw [show(2:Int)^30=1073741824 from rfl];exact⟨Dz om1 om1,Dy om1 om1⟩
def mo(x d:Int):Int:=if d<0 then x*2^(-d).toNat else x/2^d.toNat
def Dn(x d:Int):Prop:= -50<=d/\d<=11/\2^(50+d).toNat<=x/\x<2^(51+d).toNat
theorem oG(a b:Nat):(2:Int)^(a+b)=2^a*2^b:=Int.pow_add 2 a b
theorem U4{x d:Int}(h:Dn x d):1125899906842624<=mo x d/\mo x d<2251799813685248:=by
 obtain⟨h0,h1,h2,h3⟩:=h;have p50:(2:Int)^50=1125899906842624:=rfl;have p51:(2:Int)^51=2251799813685248:=rfl;unfold mo;split
 · obtain⟨k,hk⟩: ∃ k:Nat,k=(-d).toNat:=⟨_,rfl⟩;rw [← hk];have a1:(2:Int)^50=2^(50+d).toNat*2^k:=by rw [← oG];congr 1;omega
   have a2:(2:Int)^51=2^(51+d).toNat*2^k:=by rw [← oG];congr 1;omega
   have hp:(0:Int)<2^k:=Int.pow_pos om1;have b1:=Int.mul_le_mul_of_nonneg_right h2 (Int.le_of_lt hp);have b2:=Int.mul_lt_mul_of_pos_right h3 hp;omega
 · obtain⟨k,hk⟩: ∃ k:Nat,k=d.toNat:=⟨_,rfl⟩;rw [← hk];have a1:(2:Int)^(50+d).toNat=2^50*2^k:=by rw [← oG];congr 1;omega
   have a2:(2:Int)^(51+d).toNat=2^51*2^k:=by rw [← oG];congr 1;omega
   have hp:(0:Int)<2^k:=Int.pow_pos om1;constructor
   · exact Int.le_ediv_of_mul_le hp om1
   · exact Int.ediv_lt_of_lt_mul hp om1
theorem YG{x d:Int}(h:Dn x d)(j:Nat)(hj:(j:Int)<=d):2251799813685248<=x/2^j↔(j:Int)<d:=by
 obtain⟨h0,h1,h2,h3⟩:=h;have p51:(2:Int)^51=2251799813685248:=rfl;have hp:(0:Int)<2^j:=Int.pow_pos om1;have hpn:(0:Int)<2^51*2^j:=Int.mul_pos (by decide) hp;constructor
 · intro k;have:=Int.mul_le_of_le_ediv hp k;rcases Int.lt_or_le (j:Int) d with c|c
   · exact c
   · have a:(2:Int)^(51+d).toNat=2^51*2^j:=by rw [← oG];congr 1;omega
     omega
 · intro k;refine Int.le_ediv_of_mul_le hp ?_;have a:(2:Int)^(50+d).toNat=2^((50+d).toNat- 51- j)*(2^51*2^j):=by rw [← oG,← oG];congr 1;omega
   have b0:(0:Int)<2^((50+d).toNat- 51- j):=Int.pow_pos om1;have b:(1:Int)<=2^((50+d).toNat- 51- j):=b0;have c:=Int.mul_le_mul_of_nonneg_right b (Int.le_of_lt hpn);omega
theorem PN{x d:Int}(h:Dn x d)(j:Nat)(hj:(j:Int)<= -d):x*2^j<1125899906842624↔(j:Int)< -d:=by
 obtain⟨h0,h1,h2,h3⟩:=h;have p50:(2:Int)^50=1125899906842624:=rfl;have hp:(0:Int)<2^j:=Int.pow_pos om1;constructor
 · intro k;rcases Int.lt_or_le (j:Int) (-d) with c|c
   · exact c
   · have a:(2:Int)^50=2^(50+d).toNat*2^j:=by rw [← oG];congr 1;omega
     have b:=Int.mul_le_mul_of_nonneg_right h2 (Int.le_of_lt hp);omega
 · intro k;have a:(2:Int)^50=2^((51+d).toNat)*2^j*2^(50- (51+d).toNat- j):=by rw [← oG,← oG];congr 1;omega
   have b0:(0:Int)<2^(50- (51+d).toNat- j):=Int.pow_pos om1;have b:(1:Int)<=2^(50- (51+d).toNat- j):=b0;have c:=Int.mul_lt_mul_of_pos_right h3 hp;have hq:(0:Int)<2^(51+d).toNat*2^j:=Int.mul_pos (Int.pow_pos om1) hp;have e:=Int.mul_le_mul_of_nonneg_left b (Int.le_of_lt hq);omega
def lgb(x d:Int)(b:Int):Int:=lg (mo x d) (d- b+50)
end Gw
end
section
namespace Cn
def oc(fl:Int)(z:Nat->Int)(n:Nat):Nat->Int:=fun k=>sh (1073741824- fl*n) z n k+fl
section
variable {n:Nat} {z:Nat->Int} {fl:Int} (hm:Ah n z fl) (ht:0<tot z n)
include hm ht
end
section
variable {n:Nat} {s:Nat->Int} {fl:Int} (h:Ch n s fl)
include h
end
end Cn
end
end Go.Proofs.YtcefcokpjbebhaaGreatDoor
