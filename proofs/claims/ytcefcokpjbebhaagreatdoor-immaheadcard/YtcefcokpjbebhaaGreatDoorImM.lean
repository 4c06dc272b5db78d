/-
  Layer 17's laws: what is known of a conf and an Imm that came in; what each call answers of them.
-/
import Derived.Test.YtcefcokpjbebhaaGreatDoorM55
import Derived.Test.YtcefcokpjbebhaaGreatDoorM25
import Derived.Test.YtcefcokpjbebhaaGreatDoorM57
import Derived.Test.YtcefcokpjbebhaaGreatDoorM32
set_option linter.unusedSimpArgs false
set_option linter.unusedVariables false
namespace Go.Proofs.YtcefcokpjbebhaaGreatDoor
open Go.RowKit Vc St Mt Cn Mx Im El
namespace Im
theorem b64_if{p:Prop} [Decidable p]{f:Nat->Int}(h:p->B64 f):B64 (if p then f else fun _=>0):=by
 by_cases e:p
 · rw [if_pos e];exact h e
 · rw [if_neg e];intro j;show _<=(0:Int)/\(0:Int)<=_;omega
theorem jP_b2(n:Nat)(c:Nat->Int)(X:Nat->Nat->Int)(P:Nat->Nat->Nat->Int):B2 (jP n c X P):=fun i j=>by have:=jP_in n c X P i j;unfold Pr.InV at this;omega
structure Ci(w:World)(mo:Option Addr)(n mc:Nat)(K V N:Nat->Int)(ro:Option Addr)(q rc:Nat)(A:Nat->Option Addr)(L C:Nat->Nat)(R:Nat->Nat->Int)(fl:Int):Prop where
 m:Dmt w mo n mc K V N
 s:Sls w ro q rc A L C
 e: ∀ i,i<q->Sl w (A i) (L i) (C i) (R i)
 k:B64 K
 v:B64 V
 nb:B64 N
 r: ∀ i,B64 (R i)
 f0: -9223372036854775808<=fl
 f1:fl<=9223372036854775807
theorem conf_ci{w:World}{cs:List Value}(h:Lie.L w 25 cs):
 ∃ (mo:Option Addr) (n mc:Nat) (K V N:Nat->Int) (ro:Option Addr) (q rc:Nat) (A:Nat->Option Addr) (L C:Nat->Nat) (R:Nat->Nat->Int) (fl:Int),cs= [.slice mo n mc, .slice ro q rc, .int .i64 fl]/\Ci w mo n mc K V N ro q rc A L C R fl:=by
 obtain⟨mo,n,mc,K,V,N,ro,q,rc,A,L,C,R,fl,e,sM,⟨bK,bV,bN⟩,sR,qR,bf⟩:=conf_lies h;exact⟨mo,n,mc,K,V,N,ro,q,rc,A,L,C,fun i=>if i<q then R i else fun _=>0,fl,e,sM,sR,fun i hi=>by simp only [if_pos hi];exact(qR i hi).1,bK,bV,bN,fun i=>b64_if fun hi=>(qR i hi).2,bf.1,bf.2⟩
def coI(n:Nat)(K V N:Nat->Int)(ro:Option Addr)(q rc:Nat)(A:Nat->Option Addr)(L C:Nat->Nat)(R:Nat->Nat->Int)(fl:Int)(vo:Option Addr)(vm:Nat):Co:=⟨vo,n,vm,K,V,N,ro,q,rc,A,L,C,R,fl⟩
section
variable {w:World} {mo:Option Addr} {n mc:Nat} {K V N:Nat->Int} {ro:Option Addr} {q rc:Nat} {A:Nat->Option Addr} {L C:Nat->Nat} {R:Nat->Nat->Int} {fl:Int} (h:Ci w mo n mc K V N ro q rc A L C R fl)
include h
theorem Ci.keep{w':World}(b:Below w.heap.size w w'):Ci w' mo n mc K V N ro q rc A L C R fl:=⟨h.m.keep b,h.s.keep b,fun i hi=>(h.e i hi).keep b,h.k,h.v,h.nb,h.r,h.f0,h.f1⟩
theorem Ci.give(hn:n<=10)(W:World)(b:Below w.heap.size w W):
 Calls Tryz.prog 9 #[.agg #[.slice mo n mc, .slice ro q rc, .int .i64 fl]] W fun e w'=> ∃ vo vm,e= .returned (.agg #[.slice vo n vm, .slice ro q rc, .int .i64 fl])/\(coI n K V N ro q rc A L C R fl vo vm).Lies w'/\Below W.heap.size W w':=by
 have g:=h.keep b;refine(giveConf_any mo ro n mc q rc fl K V N W g.m hn).mono ?_;rintro e w' ⟨vo,vm,rfl,hp,k⟩;exact⟨vo,vm,rfl,⟨hp,⟨g.s.keep k,fun i hi=>(g.e i hi).keep k⟩,⟨h.k,h.v,h.nb,h.r,h.f0,h.f1⟩⟩,k⟩
theorem Ci.may(b:Bool)(hb:b=true↔MayC n q K V N L R fl)(W:World)(k:Below w.heap.size w W):
 Calls Tryz.prog 13 #[.agg #[.slice mo n mc, .slice ro q rc, .int .i64 fl]] W fun e w'=>e= .returned (.bool b)/\Below W.heap.size W w':=
 dmay17_any mo ro n mc q rc K V N A L C R fl b W (h.m.keep k) (h.s.keep k) (fun i hi=>(h.e i hi).keep k) h.r hb
end
structure Ii(w:World)(lo:Option Addr)(n cm:Nat)(D:Nat->Raw)(ho:Option Addr)(m hc:Nat)(ch:Nat->Int)(X:Nat->Nat->Int)(r c:Nat->Int)(z:Nat->Nat->Int)(F:Nat->Nat->Nat->Int)(g:Nat->Bool):Prop where
 d:Dst w lo n cm (fun k=> .slice (D k).xo 6 (D k).xc) (fun k=> .slice (D k).po (D k).pn (D k).pc)
 x: ∀ k,k<n->Sl w (D k).xo 6 (D k).xc (X k)
 kn: ∀ k,k<n->Kn w (D k) (r k) (c k) (z k) (F k) (g k)
 i: ∀ k,k<n->(g k=true↔r k=6/\c k=6/\Pr.MayV (X k) (F k))
 bx: ∀ k,B64 (X k)
 bf: ∀ k,B2 (F k)
 s:Sl w ho m hc ch
 b:B64 ch
 ten:n<=10
theorem imm_ii{w:World}{lo:Option Addr}{n cm:Nat}{D:Nat->Raw}{ho:Option Addr}{m hc:Nat}{ch:Nat->Int}(hD:Dst w lo n cm (fun k=> .slice (D k).xo (D k).xn (D k).xc) (fun k=> .slice (D k).po (D k).pn (D k).pc))(ok: ∀ k,k<n->(D k).Ok w)(hs:Sl w ho m hc ch)(hb:B64 ch)
 (hz:n<=10/\ ∀ k,k<n->(D k).xn=6): ∃ X r c z F g,Ii w lo n cm D ho m hc ch X r c z F g:=by
 have key: ∀ k,k<n-> ∃ y:Int×Int×(Nat->Int)×(Nat->Nat->Int)×Bool,Kn w (D k) y.1 y.2.1 y.2.2.1 y.2.2.2.1 y.2.2.2.2:=fun k hk=>known (ok k hk) (hz.2 k hk)
 obtain⟨Y,hY⟩: ∃ Y:Nat->Int×Int×(Nat->Int)×(Nat->Nat->Int)×Bool,∀ k,(k<n->Kn w (D k) (Y k).1 (Y k).2.1 (Y k).2.2.1 (Y k).2.2.2.1 (Y k).2.2.2.2)/\B2 (Y k).2.2.2.1:=by
  refine⟨fun k=>if h:k<n then(key k h).choose else(0,0,fun _=>0,fun _ _=>0,false),fun k=> ?_⟩;by_cases h:k<n
  · simp only [dif_pos h];exact⟨fun _=>(key k h).choose_spec,(key k h).choose_spec.b2⟩
  · simp only [dif_neg h];exact⟨fun q=>absurd q h,fun i j=>by show _<=(0:Int)/\(0:Int)<=_;omega⟩
 refine⟨fun k=>if k<n then(D k).X else fun _=>0,fun k=>(Y k).1,fun k=>(Y k).2.1,fun k=>(Y k).2.2.1,fun k=>(Y k).2.2.2.1,fun k=>(Y k).2.2.2.2, ?_, ?_,fun k hk=>(hY k).1 hk, ?_,fun k=>b64_if fun hk=>(ok k hk).xb,fun k=>(hY k).2,hs,hb,hz.1⟩
 · exact⟨hD.le,hD.cap,fun k hk=>by rw [← hz.2 k hk];exact hD.at' k hk⟩
 · intro k hk;simp only [if_pos hk];have:=(ok k hk).x;rw [hz.2 k hk] at this;exact this
 · intro k hk;simp only [if_pos hk];exact((hY k).1 hk).iff
def msI(n:Nat)(ho:Option Addr)(m hc:Nat)(ch:Nat->Int)(X:Nat->Nat->Int)(r c:Nat->Int)(z:Nat->Nat->Int)(F:Nat->Nat->Nat->Int)(uo:Option Addr)(um:Nat):Ms:=⟨uo,n,um,ho,m,hc,X,r,c,z,F,ch⟩
section
variable {w:World} {lo:Option Addr} {n cm:Nat} {D:Nat->Raw} {ho:Option Addr} {m hc:Nat} {ch:Nat->Int} {X:Nat->Nat->Int} {r c:Nat->Int} {z:Nat->Nat->Int} {F:Nat->Nat->Nat->Int} {g:Nat->Bool} (h:Ii w lo n cm D ho m hc ch X r c z F g)
include h
theorem Ii.give(W:World)(b:Below w.heap.size w W):
 Calls Tryz.prog 10 #[.agg #[.slice lo n cm, .slice ho m hc]] W fun e w'=> ∃ uo um,e= .returned (.agg #[.slice uo n um, .slice ho m hc])/\(msI n ho m hc ch X r c z F uo um).Lies w'/\Below W.heap.size W w':=by
 refine(giveImm_any lo ho n cm m hc X r c z W (fun U k=>giveStates_any lo n cm (fun k=>(D k).xo) (fun k=>(D k).po) (fun k=>(D k).xc) (fun k=>(D k).pn) (fun k=>(D k).pc) X r c z U (h.d.keep (below_tr b k)) (fun j hj=>(h.x j hj).keep (below_tr b k)) h.ten (fun j hj V p=>(h.kn j hj).mat V (below_tr (below_tr b k) p)))).mono ?_;rintro e w' ⟨vo,vm,rfl,hp,k⟩;exact⟨vo,vm,rfl,⟨hp,fun j hj a b=>((h.kn j hj).six a b).2.2,h.bx,h.bf,h.s.keep (below_tr b k),h.b⟩,k⟩
theorem Ii.may(b:Bool)(hb:b=true↔MayJ n m ch X r c F)(W:World)(k:Below w.heap.size w W):
 Calls Tryz.prog 17 #[.slice lo n cm, .slice ho m hc] W fun e w'=>e= .returned (.bool b)/\Below W.heap.size W w':=by
 refine dmay15_any lo ho n cm m hc _ _ ch g b W (h.d.keep k) (h.s.keep k) h.b (fun V p j hj=>(h.kn j hj).may V (below_tr k p)) (hb.trans ?_);exact⟨fun q=>⟨q.1,q.2.1,fun j hj=>(h.i j hj).2 (q.2.2 j hj)⟩,fun q=>⟨q.1,q.2.1,fun j hj=>(h.i j hj).1 (q.2.2 j hj)⟩⟩
theorem Ii.dls(hJ:MayJ n m ch X r c F):Dls w lo n cm X F:=by
 refine⟨fun k=>(D k).xo,fun k=>(D k).po,fun k=>(D k).xc,fun k=>(D k).pc,⟨h.d.le,h.d.cap,fun k hk=> ?_⟩,fun k hk=>⟨h.x k hk,((h.kn k hk).six (hJ.2.2 k hk).1 (hJ.2.2 k hk).2.1).2.1⟩⟩;have e:=h.d.at' k hk;rw [((h.kn k hk).six (hJ.2.2 k hk).1 (hJ.2.2 k hk).2.1).1] at e;exact e
theorem Ii.one(hJ:MayJ n m ch X r c F)(W:World)(b:Below w.heap.size w W):
 Calls Tryz.prog 18 #[.agg #[.slice lo n cm, .slice ho m hc]] W fun e w'=> ∃ xo xc po pm,e= .returned (.tuple #[.agg #[.slice xo 6 xc, .slice po 6 pm], .bool (jO n ch X F)])/\Sl w' xo 6 xc (jX n ch X)/\Grid w' po 6 pm 6 (jP n ch X F)/\Below W.heap.size W w':=by
 obtain⟨A,pl,C,pc,hd,hE⟩:=(h.dls hJ).ex;have e:=hJ.1;subst e;exact done17_any lo ho none none n cm n hc 0 0 (jX n ch X) (jP n ch X F) (jO n ch X F) W (fun V k=>djoin15_any lo ho n cm hc A pl C pc X F ch V (hd.keep (below_tr b k)) (fun j hj=>(hE j hj).1.keep (below_tr b k)) (fun j hj=>(hE j hj).2.keep (below_tr b k)) (h.s.keep (below_tr b k)) h.bx h.bf h.b hJ.2.1.one hJ.2.1.four)
end
theorem dstep_any{K R N d:Int}(hM:Mo.MayM K R N)(hT:Mo.MayT d)(W:World):
 Calls Tryz.prog 43 #[.agg #[.int .i64 K, .int .i64 R, .int .i64 N], .int .i64 d] W fun e w'=> ∃ so sc,e= .returned (.slice so 6 sc)/\Grid w' so 6 sc 6 (Mo.stepF K R d)/\Below W.heap.size W w':=by
 rcases hM.2 with⟨hK,_⟩|⟨hK,hR⟩
 · have e:Mo.stepF K R d=Mo.tw (Mo.stF K d):=by
    unfold Mo.stepF;rw [if_neg om0,if_neg om0]
   rw [e];exact dstep_straight K R N d W hK hT
 · exact dstep_turn K R N d W hK hR hT
theorem ahead_yes{w:World}{mo:Option Addr}{n mc:Nat}{K V N:Nat->Int}{ro:Option Addr}{q rc:Nat}{A:Nat->Option Addr}{L C:Nat->Nat}{R:Nat->Nat->Int}{fl:Int}(hc:Ci w mo n mc K V N ro q rc A L C R fl){lo:Option Addr}{cm:Nat}{D:Nat->Raw}{ho:Option Addr}{m hm:Nat}{ch:Nat->Int}{X:Nat->Nat->Int}{r c:Nat->Int}{z:Nat->Nat->Int}{F:Nat->Nat->Nat->Int}{g:Nat->Bool}(h:Ii w lo n cm D ho m hm ch X r c z F g)
 (hC:MayC n q K V N L R fl) (hJ:MayJ n m ch X r c F) {d:Int} (hT:Mo.MayT d) (W:World) (b:Below w.heap.size w W):
 Calls Tryz.prog 11 #[.agg #[.slice mo n mc, .slice ro q rc, .int .i64 fl], .agg #[.slice lo n cm, .slice ho m hm], .int .i64 d] W fun e w'=> ∃ xo xm yo ym,e= .returned (.tuple #[.agg #[.slice xo n xm, .slice yo n ym], .bool (aO K V N d n ch R X F), .int .i64 0])/\Dls w' xo n xm (aX K V d n ch R X) (aP K V N d n ch R X F)/\Sl w' yo n ym (sh 1073741824 (mxw n ch R) n)/\Below W.heap.size W w':=by
 have hm':=hJ.1;subst hm';have hcc:=hJ.2.1
 refine dahead17_yes mo ro lo ho n mc q rc cm hm fl d K V N (fun k=>jX n (shr n ch R k) X) (fun k=>jP n (shr n ch R k) X F) (fun k=>Mo.stepF (K k) (V k) d) (fun k=>Mo.tw (Mo.nz (K k) d (N k))) (sh 1073741824 (mxw n ch R) n) (aX K V d n ch R X) (aP K V N d n ch R X F) (aG K V N d n ch R X F) (Mx.aO n ch R X F) W (hc.m.keep b)
  (fun U k=>dfits17_any mo ro lo ho n mc q rc n cm n hm fl true true true U (fun V p=>hc.may true ⟨fun _=>hC,fun _=>rfl⟩ V (below_tr (below_tr b k) p)) (fun V p=>h.may true ⟨fun _=>hJ,fun _=>rfl⟩ V (below_tr (below_tr b k) p)) ⟨fun _=>⟨rfl,rfl,rfl⟩,fun _=>rfl⟩);hT hC.four ?_ (fun k hk U=>dstep_any (hC.each k hk).1 hT U) (fun k hk U=>dnoise_any (K k) (V k) (N k) d U (hC.each k hk).1.1 hT) ?_
 · intro U k;obtain⟨A',pl',C',pc',hd,hE⟩:=(h.dls hJ).ex;have bb:=below_tr b k;refine(dall15_yes lo ho ro n cm hm q rc A' pl' C' pc' X F ch A L C R U (hd.keep bb) (fun j hj=>(hE j hj).1.keep bb) (fun j hj=>(hE j hj).2.keep bb) (h.s.keep bb) h.bx h.bf h.b (hc.s.keep bb) (fun i hi=>(hc.e i hi).keep bb) hc.r (fun V p=>h.may true ⟨fun _=>hJ,fun _=>rfl⟩ V (below_tr bb p)) (hC.mx hcc)).mono ?_;rintro e w' ⟨vo,vm,no,nc,rfl,⟨A2,pl2,C2,pc2,h1,h2⟩,h3,h4⟩;exact⟨vo,vm,no,nc,rfl,⟨A2,pl2,C2,pc2,h1,h2⟩,h3,h4⟩
 · intro k hk U xo xc po pc so sc qo qc h1 h2 h3 h4;refine(dnext12_own xo po so qo xc pc sc qc _ _ _ _ U h1 h2 h3 h4 (jX_b64 _ _ _) (jP_b2 _ _ _ _) (Mo.step_b2 (hC.each k hk).1 hT) (Mo.nz_b2 _ hT (hC.each k hk).1.1)).mono ?_;rintro e w' ⟨yo,yc,ro',rc',rfl,_,_,k1,k2⟩;exact⟨yo,yc,ro',rc',rfl,k1,k2⟩
end Im
end Go.Proofs.YtcefcokpjbebhaaGreatDoor
