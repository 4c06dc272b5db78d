/-
  What package chance answers (layer 14), said once: its contracts; what must come whatever the input is (sure of the laws).
-/
import Derived.Test.YtcefcokpjbebhaaGreatDoorM1
import Derived.Test.YtcefcokpjbebhaaGreatDoorM7
import Derived.Test.YtcefcokpjbebhaaGreatDoorErrA
import Derived.Test.YtcefcokpjbebhaaGreatDoorM3
set_option linter.unusedSimpArgs false
set_option linter.unusedVariables false
set_option maxHeartbeats 1000000
set_option maxRecDepth 10000
namespace Go.Proofs.YtcefcokpjbebhaaGreatDoor
section
open Go.RowKit Vc
namespace Cn
def mst(z:Nat->Int):Nat->Nat
 |0=>0
 |k+1=>if z (mst z k)<z k then k else mst z k
theorem mst_lt(z:Nat->Int): ∀ n,mst z (n+1)<=n
 |0=>by show(if z 0<z 0 then 0 else 0)<=0;split<;>exact Nat.le_refl _
 |n+1=>by
  show(if z (mst z (n+1))<z (n+1) then n+1 else mst z (n+1))<=n+1
  split
  · exact Nat.le_refl _
  · exact Nat.le_succ_of_le (mst_lt z n)
def errV(n:Int):Value:= .iface 93 (.int .i64 n)
def COf:Prop:= ∀ (W:World) (ao:Option Addr) (n ca:Nat) (z:Nat->Int) (fl:Int),Sl W ao n ca z->B64 z-> -9223372036854775808<=fl->fl<=9223372036854775807->
 Calls Tryz.prog 122 #[.slice ao n ca, .int .i64 fl] W fun e w'=> ∃ vo vn vc ev,e= .returned (.tuple #[.slice vo vn vc,ev])/\Below W.heap.size W w'/\Sl w' vo vn vc (fun k=>sh (1073741824- fl*n) z n k+fl)/\
  ((¬MayW n z fl/\vn=0/\ev=errV 1)\/(MayW n z fl/\tot z n=0/\vn=0/\ev=errV 11)\/(MayW n z fl/\0<tot z n/\vn=n/\ev= .nilIface))
def CCheck:Prop:= ∀ (W:World) (ao:Option Addr) (n ca:Nat) (z:Nat->Int) (fl:Int),Sl W ao n ca z->B64 z-> -9223372036854775808<=fl->fl<=9223372036854775807->
 Calls Tryz.prog 172 #[.slice ao n ca, .int .i64 fl] W fun e w'=> ∃ ev,e= .returned ev/\Below W.heap.size W w'/\((Ch n z fl/\ev= .nilIface)\/(¬Ch n z fl/\ev=errV 1))
def NewL(w:World)(o:Option Addr):Prop:= ∀ x,o=some x->w.heap.size<=x.block
theorem NewL.nil(w:World):NewL w none:=fun x e=>by cases e
theorem NewL.at{w w1:World}{g:Nat}(h:w1.heap.size<=g)(k:Below w.heap.size w w1):NewL w (some ⟨g,0,none⟩):=fun x e=>by cases e;exact Nat.le_trans k.size h
def COfN:Prop:= ∀ (W:World) (ao:Option Addr) (n ca:Nat) (z:Nat->Int) (fl:Int),Sl W ao n ca z->B64 z-> -9223372036854775808<=fl->fl<=9223372036854775807->
 Calls Tryz.prog 122 #[.slice ao n ca, .int .i64 fl] W fun e w'=> ∃ vo vn vc ev,e= .returned (.tuple #[.slice vo vn vc,ev])/\Below W.heap.size W w'/\Sl w' vo vn vc (fun k=>sh (1073741824- fl*n) z n k+fl)/\
  ((¬MayW n z fl/\vn=0/\ev=errV 1)\/(MayW n z fl/\tot z n=0/\vn=0/\ev=errV 11)\/(MayW n z fl/\0<tot z n/\vn=n/\ev= .nilIface))/\NewL W vo
def CEvenN:Prop:= ∀ (W:World) (n:Int),-9223372036854775808<=n->n<=9223372036854775807->
 Calls Tryz.prog 64 #[.int .i64 n] W fun e w'=> ∃ vo vn vc ev,e= .returned (.tuple #[.slice vo vn vc,ev])/\Below W.heap.size W w'/\Sl w' vo vn vc (sh 1073741824 (fun _=>1) vn)/\
  ((¬(1<=n/\n<=4)/\vn=0/\ev=errV 1)\/(1<=n/\n<=4/\(vn:Int)=n/\ev= .nilIface))/\NewL W vo
def CMixN:Prop:= ∀ (W:World) (ao lo:Option Addr) (n ca m cm:Nat) (z:Nat->Int) (A:Nat->Option Addr) (L C:Nat->Nat) (R:Nat->Nat->Int),Sl W ao n ca z->B64 z->Sls W lo m cm A L C->(∀ i,i<m->Sl W (A i) (L i) (C i) (R i))->(∀ i,B64 (R i))->
 Calls Tryz.prog 88 #[.slice ao n ca, .slice lo m cm] W fun e w'=> ∃ vo vn vc ev,e= .returned (.tuple #[.slice vo vn vc,ev])/\Below W.heap.size W w'/\Sl w' vo vn vc (sh 1073741824 (mxw n z R) n)/\
  ((¬MayX n z m L R/\vn=0/\ev=errV 1)\/(MayX n z m L R/\vn=n/\ev= .nilIface))/\NewL W vo
end Cn
open Cn
namespace Vc
end Vc
end
set_option linter.unusedSectionVars false
section
namespace Cn
theorem tot_mono{a b:Nat->Int}: ∀ {n:Nat},(∀ k,k<n->a k<=b k)->tot a n<=tot b n
 |0,_=>Int.le_refl _
 |n+1,h=>by
  have h1:=tot_mono (n:=n) (fun k hk=>h k (by omega))
  have h2:=h n (by omega)
  show tot a n+a n<=tot b n+b n;omega
theorem mst_spec(z:Nat->Int): ∀ n,(∀ j,j<n+1->z j<=z (mst z (n+1)))/\ ∀ j,j<mst z (n+1)->z j<z (mst z (n+1))
 |0=>by
  have e:mst z 1=0:=by show(if z 0<z 0 then 0 else 0)=0;split<;>rfl
  rw [e]
  exact⟨fun j hj=>by(obtain rfl:j=0:=by omega);exact Int.le_refl _,fun j hj=>by omega⟩
 |n+1=>by
  obtain⟨h1,h2⟩:=mst_spec z n
  have u:mst z (n+2)=if z (mst z (n+1))<z (n+1) then n+1 else mst z (n+1):=rfl
  by_cases h:z (mst z (n+1))<z (n+1)
  · rw [u,if_pos h]
    refine⟨fun j hj=> ?_,fun j hj=> ?_⟩
    · by_cases e:j=n+1
      · rw [e];exact Int.le_refl _
      · have:=h1 j (by omega);omega
    · have:=h1 j (by omega);omega
  · rw [u,if_neg h]
    refine⟨fun j hj=> ?_,h2⟩
    by_cases e:j=n+1
    · rw [e];omega
    · exact h1 j (by omega)
def mx(z:Nat->Int):Nat->Int
 |0=>z 0
 |k+1=>max (mx z k) (z k)
theorem mx_is(z:Nat->Int): ∀ n,mx z (n+1)=z (mst z (n+1))
 |0=>by
  have e:mst z 1=0:=by show(if z 0<z 0 then 0 else 0)=0;split<;>rfl
  rw [e];show max (z 0) (z 0)=z 0;omega
 |n+1=>by
  have ih:=mx_is z n
  have u:mst z (n+2)=if z (mst z (n+1))<z (n+1) then n+1 else mst z (n+1):=rfl
  show max (mx z (n+1)) (z (n+1))=_
  rw [ih,u]
  split<;>omega
def giv(n:Nat)(o c:Nat->Int):Nat->(Nat->Int)×(Nat->Int)
 |0=>(o,c)
 |t+1=>(fun i=>if i=mst (giv n o c t).2 n then(giv n o c t).1 i+1 else(giv n o c t).1 i,fun i=>if i=mst (giv n o c t).2 n then 0 else(giv n o c t).2 i)
theorem bst_mst{c d:Nat->Int}: ∀ {n:Nat},(∀ i,i<n->(c i= -1/\d i=0)\/(0<=c i/\d i=c i))->
 ((∀ j,j<n->d j=0)/\(bst c n<0\/c (bst c n).toNat=0))\/(0<d (mst d n)/\mst d n<n/\bst c n=(mst d n:Nat)/\c (mst d n)=d (mst d n))
 |0,_=>Or.inl ⟨fun j hj=>by omega,Or.inl (by show(-1:Int)<0;omega)⟩
 |n+1,h=>by
  have ih:=bst_mst (n:=n) (fun i hi=>h i (by omega))
  have hn:=h n (by omega)
  have ub:bst c (n+1)=if 0<=c n/\(bst c n<0\/c (bst c n).toNat<c n) then(n:Int) else bst c n:=rfl
  have um:mst d (n+1)=if d (mst d n)<d n then n else mst d n:=rfl
  rcases ih with⟨h1,h2⟩|⟨h1,h2,h3,h4⟩
  · by_cases hp:0<d n
    · have e1:bst c (n+1)=(n:Int):=by rw [ub,if_pos (by omega)]
      have e2:mst d (n+1)=n:=by
       rw [um];match n,h1 with
       |0,_=>show(if d 0<d 0 then 0 else 0)=0;split<;>rfl
       |q+1,h1=>have h5:=h1 (mst d (q+1)) (by have:=mst_lt d q;omega);rw [if_pos (by omega)]
      refine Or.inr ?_;rw [e1,e2];exact⟨hp,by omega,rfl,by omega⟩
    · refine Or.inl ⟨fun j hj=> ?_, ?_⟩
      · by_cases e:j=n
        · rw [e];omega
        · exact h1 j (by omega)
      · rw [ub];by_cases hh:0<=c n/\(bst c n<0\/c (bst c n).toNat<c n)
        · rw [if_pos hh,Int.toNat_natCast];omega
        · rw [if_neg hh];exact h2
  · refine Or.inr ?_;have e0:(bst c n).toNat=mst d n:=by rw [h3,Int.toNat_natCast]
    by_cases hp:d (mst d n)<d n
    · have e1:bst c (n+1)=(n:Int):=by rw [ub,e0,if_pos (by omega)]
      have e2:mst d (n+1)=n:=by rw [um,if_pos hp]
      rw [e1,e2];exact⟨by omega,by omega,rfl,by omega⟩
    · have e1:bst c (n+1)=bst c n:=by rw [ub,e0,if_neg (by omega)]
      have e2:mst d (n+1)=mst d n:=by rw [um,if_neg hp]
      rw [e1,e2];exact⟨h1,by omega,h3,h4⟩
section
variable {m:Int} {a:Nat->Int} {n:Nat} (hS:0<tot a n)
include hS
theorem some_left{t:Nat}(ht:(t:Int)<lf m a n): ∃ i,i<n/\0<(give n (qt m a n) (rt m a n) t).2 i:=by
 have hl:=lf_in (m:=m) hS;obtain⟨h1,h2,_⟩:=give_inv (n:=n) (o:=qt m a n) (fun i _=>(rt_in (m:=m) hS i).1) t (by omega);apply Classical.byContradiction;intro hno
 have hno': ∀ i,i<n->(give n (qt m a n) (rt m a n) t).2 i<=0:=fun i hi=>by
  rcases Int.lt_or_le 0 ((give n (qt m a n) (rt m a n) t).2 i) with q|q
  · exact absurd ⟨i,hi,q⟩ hno
  · exact q
 have h3:=lf_is (m:=m) hS
 have h4:tot (rt m a n) n<=tot (fun i=>tot a n*got n (qt m a n) (rt m a n) t i) n:=tot_mono fun k hk=>by
  have hr:=rt_in (m:=m) hS k;show rt m a n k<=tot a n*got n (qt m a n) (rt m a n) t k;unfold got;rcases h2 k hk with⟨e,_⟩|⟨e,_⟩
  · have:=hno' k hk;rw [if_neg (by omega),Int.mul_zero];omega
  · rw [if_pos e,Int.mul_one];omega
 rw [tot_mul,h1,← h3] at h4;have h5:lf m a n<=t:=Int.le_of_mul_le_mul_left h4 hS;omega
theorem giv_is: ∀ t:Nat,(t:Int)<=lf m a n-> ∀ i,i<n->(giv n (qt m a n) (rt m a n) t).1 i=(give n (qt m a n) (rt m a n) t).1 i/\
 (((give n (qt m a n) (rt m a n) t).2 i= -1/\(giv n (qt m a n) (rt m a n) t).2 i=0)\/(0<=(give n (qt m a n) (rt m a n) t).2 i/\(giv n (qt m a n) (rt m a n) t).2 i=(give n (qt m a n) (rt m a n) t).2 i))
 |0,_,i,hi=>⟨rfl,Or.inr ⟨(rt_in (m:=m) hS i).1,rfl⟩⟩
 |t+1,ht,i,hi=>by
  have ih:=giv_is t (by omega)
  obtain⟨j,hj,hp⟩:=some_left (m:=m) hS (t:=t) (by omega)
  obtain⟨g,hg⟩: ∃ g,g=give n (qt m a n) (rt m a n) t:=⟨_,rfl⟩
  obtain⟨f,hf⟩: ∃ f,f=giv n (qt m a n) (rt m a n) t:=⟨_,rfl⟩
  have ug:give n (qt m a n) (rt m a n) (t+1)=if bst g.2 n<0 then g else(fun i=>if i=(bst g.2 n).toNat then g.1 i+1 else g.1 i,fun i=>if i=(bst g.2 n).toNat then-1 else g.2 i):=by rw [hg];rfl
  have uf:giv n (qt m a n) (rt m a n) (t+1)=(fun i=>if i=mst f.2 n then f.1 i+1 else f.1 i,fun i=>if i=mst f.2 n then 0 else f.2 i):=by rw [hf];rfl
  rw [← hg,← hf] at ih
  rw [← hg] at hp
  rcases bst_mst (c:=g.2) (d:=f.2) (n:=n) (fun i hi=>(ih i hi).2) with⟨q1,_⟩|⟨_,_,q3,_⟩
  · have:=q1 j hj
    have:=(ih j hj).2
    omega
  · rw [ug,uf,q3,if_neg (by omega),Int.toNat_natCast]
    have:=ih i hi
    show(if i=mst f.2 n then f.1 i+1 else f.1 i)=(if i=mst f.2 n then g.1 i+1 else g.1 i)/\(((if i=mst f.2 n then(-1:Int) else g.2 i)= -1/\(if i=mst f.2 n then(0:Int) else f.2 i)=0)\/(0<=(if i=mst f.2 n then(-1:Int) else g.2 i)/\(if i=mst f.2 n then(0:Int) else f.2 i)=(if i=mst f.2 n then(-1:Int) else g.2 i)))
    by_cases e:i=mst f.2 n
    · simp only [if_pos e];exact⟨by rw [this.1],Or.inl ⟨trivial,trivial⟩⟩
    · simp only [if_neg e];exact this
theorem giv_sh{i:Nat}(hi:i<n):(giv n (qt m a n) (rt m a n) (lf m a n).toNat).1 i=sh m a n i:=(giv_is hS (lf m a n).toNat (by have:=(lf_in (m:=m) hS).1;omega) i hi).1
theorem giv_in(hm:0<=m)(ha: ∀ i,i<n->0<=a i){t:Nat}(ht:(t:Int)<=lf m a n){i:Nat}(hi:i<n):0<=(giv n (qt m a n) (rt m a n) t).1 i/\(giv n (qt m a n) (rt m a n) t).1 i<=m+1/\0<=(giv n (qt m a n) (rt m a n) t).2 i/\(giv n (qt m a n) (rt m a n) t).2 i<tot a n:=by
 have hl:=lf_in (m:=m) hS;obtain⟨h1,h2⟩:=giv_is hS t ht i hi;obtain⟨_,h3,_⟩:=give_inv (n:=n) (o:=qt m a n) (fun i _=>(rt_in (m:=m) hS i).1) t (by omega);have hq:=qt_nn hm ha hS hi
 have hq2:qt m a n i<=m:=by
  have:=tot_le_each (a:=qt m a n) (n:=n) (fun k hk=>qt_nn hm ha hS hk) hi;have:=hl.1;unfold lf at this;omega
 have hr:=rt_in (m:=m) hS i;rcases h3 i hi with⟨e1,e2⟩|⟨e1,e2⟩<;>omega
end
end Cn
end
section
open Go.RowKit Vc Cn
theorem cniFa1{p:Prop}(h:p:=by
 obtain⟨k,hk0,hk,rfl,rfl,rfl⟩:=hrel;by_cases h:k<n
 · have c1:=HC.out k h;have HU:Hid (mx z (k+1)=max (mx z k) (z k)):=rfl;obtain⟨P,hP⟩: ∃ P,P=z k:=⟨_,rfl⟩;obtain⟨T,hT⟩: ∃ T,T=mx z k:=⟨_,rfl⟩;rw [← hP] at c1 HU;rw [← hT] at HU ⊢;clear hP hT;rcases Int.lt_or_le T P with c|c
   · have e2:max T P=P:=by omega
     rw [e2] at HU;go_wp2;go_roundw
     case rel=>exact⟨k+1,by omega,by omega,by go_num,by rw [HU.out],trivial⟩
     case measure=>simp [intOf];omega
   · have e2:max T P=T:=by omega
     rw [e2] at HU;go_wp2;go_roundw
     case rel=>exact⟨k+1,by omega,by omega,by go_num,by rw [HU.out],trivial⟩
     case measure=>simp [intOf];omega
 · obtain rfl:k=n:=by omega
   rw [← HR.out];go_wp2;go_ret
   exact⟨rfl,rfl⟩):p:=h
theorem cmaxU_any(x:Addr)(n ca:Nat)(z:Nat->Int)(w:World)(hn:0<n)(h1:n<=ca)(h2:ca<=9223372036854775807)(hc: ∀ k,k<n->w.cell? (x.add k)=some (.int .u64 (z k))):
 Calls Tryz.prog 223 #[.slice (some x) n ca] w fun e w'=>e= .returned (.int .u64 (mx z n))/\w'=w:=by
 have c0:=hc 0 hn;have e0:x.add 0=x:=rfl;rw [e0] at c0;have HC:=hideH hc;have e1:decide ((n:Int)<1)=false:=decide_eq_false (by omega);have HM1:Hid (mx z 1=z 0):=by show max (z 0) (z 0)=z 0;omega
 obtain⟨R,hR⟩: ∃ R,R=mx z n:=⟨_,rfl⟩;rw [← hR];have HR:=hideH hR;clear hc hR;go_enter Tryz.func223,Tryz.ntmps223
 go_wp2;go_loopw [3,4] (fun m i wr=> ∃ k:Nat,1<=k/\k<=n/\i= .int .i64 (k:Int)/\m= .int .u64 (mx z k)/\wr=w) (fun _ i _=>n- (intOf i).toNat)
 case atStart=>exact⟨1,by omega,by omega,rfl,by rw [HM1.out],rfl⟩
 case round=>
  exact cniFa1
theorem cniFa2{p:Prop}(h:p:=by
 go_wp2;go_loopw [8] (fun i wr=> ∃ k:Nat,k<=q/\i= .int .i64 (k:Int)/\wr=w) (fun i _=>n- (intOf i).toNat)
 case atStart=>exact⟨0,by omega,rfl,rfl⟩
 case round=>
  obtain⟨k,hk,rfl,rfl⟩:=hrel;have h:k<n:=by omega
  have c1:=HC.out k h;by_cases e:k=q
  · subst e;rw [HV.out] at c1;go_wp2;go_ret;exact⟨rfl,rfl⟩
  · have e1:=HNO.out k (by omega);obtain⟨P,hP⟩: ∃ P,P=z k:=⟨_,rfl⟩;rw [← hP] at c1 e1;have e2:(v==P)=false:=beq_eq_false_iff_ne.2 (fun q=>e1 q.symm);clear hP;go_wp2;go_roundw
    case rel=>exact⟨k+1,by omega,by go_num,trivial⟩
    case measure=>simp [intOf];omega):p:=h
theorem cindexU_any(x:Addr)(n ca:Nat)(z:Nat->Int)(v:Int)(q:Nat)(w:World)(hq:q<n)(h1:n<=ca)(h2:ca<=9223372036854775807)(hc: ∀ k,k<n->w.cell? (x.add k)=some (.int .u64 (z k)))(hv:z q=v)(hno: ∀ j,j<q->z j≠v):
 Calls Tryz.prog 222 #[.slice (some x) n ca, .int .u64 v] w fun e w'=>e= .returned (.int .i64 (q:Int))/\w'=w:=by
 have HC:=hideH hc;have HV:=hideH hv;have HNO:=hideH hno;clear hc hv hno;go_enter Tryz.func222,Tryz.ntmps222
 exact cniFa2
theorem cmaxI_any(x:Addr)(n ca:Nat)(z:Nat->Int)(w:World)(hn:0<n)(h1:n<=ca)(h2:ca<=9223372036854775807)(hc: ∀ k,k<n->w.cell? (x.add k)=some (.int .i64 (z k))):
 Calls Tryz.prog 178 #[.slice (some x) n ca] w fun e w'=>e= .returned (.int .i64 (mx z n))/\w'=w:=by
 have c0:=hc 0 hn;have e0:x.add 0=x:=rfl;rw [e0] at c0;have HC:=hideH hc;have e1:decide ((n:Int)<1)=false:=decide_eq_false (by omega);have HM1:Hid (mx z 1=z 0):=by show max (z 0) (z 0)=z 0;omega
 obtain⟨R,hR⟩: ∃ R,R=mx z n:=⟨_,rfl⟩;rw [← hR];have HR:=hideH hR;clear hc hR;go_enter Tryz.func178,Tryz.ntmps178
 go_wp2;go_loopw [3,4] (fun m i wr=> ∃ k:Nat,1<=k/\k<=n/\i= .int .i64 (k:Int)/\m= .int .i64 (mx z k)/\wr=w) (fun _ i _=>n- (intOf i).toNat)
 case atStart=>exact⟨1,by omega,by omega,rfl,by rw [HM1.out],rfl⟩
 case round=>
  exact cniFa1
end
end Go.Proofs.YtcefcokpjbebhaaGreatDoor
