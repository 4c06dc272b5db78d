/-
  How things move (model): what is reckoned, how great it is; plain mathematics.
-/
import Derived.Test.YtcefcokpjbebhaaGreatDoorM15
import Derived.Test.YtcefcokpjbebhaaGreatDoorM17
set_option linter.unusedSimpArgs false
set_option linter.unusedVariables false
namespace Go.Proofs.YtcefcokpjbebhaaGreatDoor
namespace Mo
open Qn Tg Po
theorem pw:(2:Int)^20=1048576:=by decide
theorem clampId{n:Int}(h0: -4611686018427387903<=n)(h1:n<=4611686018427387903):clamp n=n:=by
 unfold clamp;rw [if_neg (by omega),if_neg (by omega)]
theorem greatNo{n:Int}(h0: -4611686018427387903<=n)(h1:n<=4611686018427387903):great n=false:=by
 unfold great;rw [decide_eq_false (by omega),decide_eq_false (by omega)];rfl
def ml(a b:Int):Int:=clamp (rne (a*b) (2^20))
def mlO(a b:Int):Bool:=great (rne (a*b) (2^20))
theorem ml_in{a b A B C:Int}(a0:0<=a)(a1:a<=A)(b0:0<=b)(b1:b<=B)(h:A*B<=C*1048576)(hC:C<=4611686018427387903):
 mlO a b=false/\ml a b=rne (a*b) (2^20)/\0<=ml a b/\ml a b<=C:=by
 have m0:0<=a*b:=Int.mul_nonneg a0 b0;have m1:a*b<=A*B:=Int.mul_le_mul a1 b1 b0 (by omega);have hn:=rne_near (a*b) (d:=2^20) (by decide);have h0:=rne_nn (n:=a*b) (d:=2^20) (by decide) m0;unfold ml mlO;rw [pw] at*;generalize A*B=M at*;generalize a*b=n at*;generalize rne n 1048576=r at*;rw [clampId (by omega) (by omega)];exact⟨greatNo (by omega) (by omega),rfl,by omega,by omega⟩
def hf(d:Int):Int:=ml (ml d d) 524288
def MayT(d:Int):Prop:=1<=d/\d<=67108864
theorem sq_in{d:Int}(h:MayT d):mlO d d=false/\ml d d=rne (d*d) (2^20)/\0<=ml d d/\ml d d<=4294967296:=
 ml_in (A:=67108864) (B:=67108864) (by have:=h.1;omega) h.2 (by have:=h.1;omega) h.2 (by decide) (by decide)
theorem hf_in{d:Int}(h:MayT d):mlO (ml d d) 524288=false/\ml (ml d d) 524288=rne (ml d d*524288) (2^20)/\0<=hf d/\hf d<=2147483648:=
 ml_in (A:=4294967296) (B:=524288) (sq_in h).2.2.1 (sq_in h).2.2.2 (by decide) (by decide) (by decide) (by decide)
def gv(K d:Int):Nat->Int:=fun i=>if i=0 then hf d else if i=1 then d else if K=1 then 1048576 else 0
theorem gv_in(K:Int){d:Int}(h:MayT d)(i:Nat):0<=gv K d i/\gv K d i<=2147483648:=by
 have h2:=(hf_in h).2.2;obtain⟨h0,h1⟩:=h;unfold gv;split
 · exact h2
 · split
   · omega
   · split<;>omega
theorem gg_in(K:Int){d:Int}(h:MayT d)(i j:Nat):mlO (gv K d i) (gv K d j)=false/\ml (gv K d i) (gv K d j)=rne (gv K d i*gv K d j) (2^20)/\0<=ml (gv K d i) (gv K d j)/\ml (gv K d i) (gv K d j)<=4398046511104:=
 ml_in (A:=2147483648) (B:=2147483648) (gv_in K h i).1 (gv_in K h i).2 (gv_in K h j).1 (gv_in K h j).2 (by decide) (by decide)
def MayN(N:Int):Prop:=1<=N/\N<=1073741824
def ng(K d N:Int)(i j:Nat):Int:=ml (ml (gv K d i) (gv K d j)) N
theorem ng_in(K:Int){d N:Int}(h:MayT d)(n:MayN N)(i j:Nat):mlO (ml (gv K d i) (gv K d j)) N=false/\ml (ml (gv K d i) (gv K d j)) N=rne (ml (gv K d i) (gv K d j)*N) (2^20)/\0<=ng K d N i j/\ng K d N i j<=4503599627370496:=
 ml_in (A:=4398046511104) (B:=1073741824) (gg_in K h i j).2.2.1 (gg_in K h i j).2.2.2 (by have:=n.1;omega) n.2 (by decide) (by decide)
def nz(K d N:Int)(i j:Nat):Int:=ng K d N i j+if i=j then 16 else 0
theorem nz_in(K:Int){d N:Int}(h:MayT d)(n:MayN N)(i j:Nat):0<=nz K d N i j/\nz K d N i j<=4503599627370512:=by
 have:=(ng_in K h n i j).2.2;unfold nz;split<;>omega
def tw(b:Nat->Nat->Int):Nat->Nat->Int:=fun i j=>if i/3=j/3 then b (i%3) (j%3) else 0
def row6(a b c d e f:Int):Nat->Int
 |0=>a
 |1=>b
 |2=>c
 |3=>d
 |4=>e
 |5=>f
 |_=>0
def arcF(s c p q:Int):Nat->Nat->Int
 |0=>row6 1048576 p 0 0 q 0
 |1=>row6 0 c 0 0 s 0
 |3=>row6 0 (-q) 0 1048576 p 0
 |4=>row6 0 (-s) 0 0 c 0
 |_=>row6 0 0 0 0 0 0
def stF(K d:Int):Nat->Nat->Int
 |0,0=>1048576
 |0,1=>d
 |0,2=>if K=1 then hf d else 0
 |1,1=>1048576
 |1,2=>if K=1 then d else 0
 |2,2=>if K=1 then 1048576 else 0
 |_,_=>0
def MayR(R:Int):Prop:=1048576<=R/\R<=268435456
def tn(R d:Int):Int:=R*d/1048576%4294967296
def sV(R d:Int):Int:=clamp (rne (sine (tn R d)*2^(20- 30)) (2^(30- 20)))
def cV(R d:Int):Int:=clamp (rne (cosine (tn R d)*2^(20- 30)) (2^(30- 20)))
def wV(R:Int):Int:=Tn.rad R 20
def dv(a b:Int):Int:=signed a b (clamp (rne ((a.natAbs:Int)*2^20) b.natAbs))
def dvO(a b:Int):Bool:=great (rne ((a.natAbs:Int)*2^20) b.natAbs)
def pV(R d:Int):Int:=dv (sV R d) (wV R)
def qV(R d:Int):Int:=dv (1048576- cV R d) (wV R)
theorem tn_bd(R d:Int):0<=tn R d/\tn R d<=4294967295:=by unfold tn;omega
theorem mv_eq(a:Int):rne (a*2^(20- 30)) (2^(30- 20))=rne a 1024:=by
 have e1:(2:Int)^(20- 30:Nat)=1:=by decide
 have e2:(2:Int)^(30- 20:Nat)=1024:=by decide
 rw [e1,e2,Int.mul_one]
theorem mv_in{a:Int}(h0: -5215406418<=a)(h1:a<=5215406418):great (rne (a*2^(20- 30)) (2^(30- 20)))=false/\clamp (rne (a*2^(20- 30)) (2^(30- 20)))=rne a 1024/\ -5093171<=rne a 1024/\rne a 1024<=5093171:=by
 rw [mv_eq];have hn:=rne_near a (d:=1024) (by decide);generalize rne a 1024=r at*;exact⟨greatNo (by omega) (by omega),clampId (by omega) (by omega),by omega,by omega⟩
theorem sV_in(R d:Int):great (rne (sine (tn R d)*2^(20- 30)) (2^(30- 20)))=false/\sV R d=rne (sine (tn R d)) 1024/\ -5093171<=sV R d/\sV R d<=5093171:=by
 have h:=mv_in (sine_bd (tn R d)).1 (sine_bd (tn R d)).2;have e:sV R d=rne (sine (tn R d)) 1024:=h.2.1;rw [e];exact⟨h.1,rfl,h.2.2⟩
theorem cV_in(R d:Int):great (rne (cosine (tn R d)*2^(20- 30)) (2^(30- 20)))=false/\cV R d=rne (cosine (tn R d)) 1024/\ -5093171<=cV R d/\cV R d<=5093171:=by
 have h:=mv_in (cosine_bd (tn R d)).1 (cosine_bd (tn R d)).2;have e:cV R d=rne (cosine (tn R d)) 1024:=h.2.1;rw [e];exact⟨h.1,rfl,h.2.2⟩
theorem wV_in{R:Int}(h:MayR R):1600<=wV R/\wV R<=500000:=by
 obtain⟨h0,h1⟩:=h;have e2:(18446744073709551616:Int)*2^(60- 20)=20282409603651670423947251286016:=by decide
 have e3:R*4294967296*7244019458077122842/18446744073709551616*18446744073709551616+R*4294967296*7244019458077122842%18446744073709551616=R*4294967296*7244019458077122842:=by omega
 have e4:wV R=rne (R*4294967296*7244019458077122842) 20282409603651670423947251286016:=by
  show rne (R*4294967296*7244019458077122842/18446744073709551616*18446744073709551616+R*4294967296*7244019458077122842%18446744073709551616) (18446744073709551616*2^(60- 20))=_;rw [e2,e3]
 have hn:=rne_near (R*4294967296*7244019458077122842) (d:=20282409603651670423947251286016) (by decide);rw [← e4] at hn;omega
theorem dv_in{a w:Int}(a0: -6141747<=a)(a1:a<=6141747)(w0:1600<=w):dvO a w=false/\ -4100000000<=dv a w/\dv a w<=4100000000:=by
 have hw:(w.natAbs:Int)=w:=by omega
 obtain⟨n,hN⟩: ∃ n:Int,n=(a.natAbs:Int)*2^20:=⟨_,rfl⟩;have n0:0<=n/\n<=6440088502272:=by rw [hN,pw];omega
 have hn:=rne_near n (d:=w) (by omega);have h0:=rne_nn (n:=n) (d:=w) (by omega) n0.1;unfold dvO dv;rw [hw,← hN];generalize rne n w=r at hn h0 ⊢
 have h2:r<=4100000000:=by
  rcases Int.lt_or_le 4100000000 r with h|h
  · exfalso;have h4:w*(r- 1)=w*r- w:=by rw [Int.mul_sub,Int.mul_one]
    have h5:1600*(r- 1)<=w*(r- 1):=Int.mul_le_mul_of_nonneg_right w0 (by omega);omega
  · exact h
 rw [clampId (by omega) (by omega)];refine⟨greatNo (by omega) (by omega), ?_, ?_⟩<;>(unfold signed;split<;>omega)
theorem pV_in{R d:Int}(h:MayR R):dvO (sV R d) (wV R)=false/\ -4100000000<=pV R d/\pV R d<=4100000000:=by
 have:=(sV_in R d).2.2;exact dv_in (by omega) (by omega) (wV_in h).1
theorem qV_in{R d:Int}(h:MayR R):dvO (1048576- cV R d) (wV R)=false/\ -4100000000<=qV R d/\qV R d<=4100000000:=by
 have:=(cV_in R d).2.2;exact dv_in (by omega) (by omega) (wV_in h).1
end Mo
end Go.Proofs.YtcefcokpjbebhaaGreatDoor
