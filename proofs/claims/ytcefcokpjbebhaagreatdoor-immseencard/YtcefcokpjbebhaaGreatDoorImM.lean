/-
  Layer 17's laws: what is known of a conf and an Imm that came in; what each call answers of them.
-/
import Derived.Test.YtcefcokpjbebhaaGreatDoorM55
set_option linter.unusedSimpArgs false
set_option linter.unusedVariables false
namespace Go.Proofs.YtcefcokpjbebhaaGreatDoor
open Go.RowKit Vc St Mt Cn Mx Im El
namespace Im
theorem Yu{p:Prop} [Decidable p]{f:Nat->Int}(h:p->B64 f):B64 (if p then f else fun _=>0):=by
 by_cases e:p
 · rw [if_pos e];exact h e
 · rw [if_neg e];intro j;show _<=(0:Int)/\(0:Int)<=_;omega
structure Ci(w:World)(mo:Option Addr)(n mc:Nat)(K V N:Nat->Int)(ro:Option Addr)(q rc:Nat)(A:Nat->Option Addr)(L C:Nat->Nat)(R:Nat->Nat->Int)(fl:Int):Prop where
 m:Dmt w mo n mc K V N
 s:Sls w ro q rc A L C
 e: ∀ i,i<q->Sl w (A i) (L i) (C i) (R i)
 k:B64 K
 v:B64 V
 nb:B64 N
 r: ∀ i,B64 (R i)
 f0: -9223372036854775808<=fl
 f1:fl<=9223372036854775807
theorem abb{w:World}{cs:List Value}(h:Lie.L w 25 cs):
 ∃ (mo:Option Addr) (n mc:Nat) (K V N:Nat->Int) (ro:Option Addr) (q rc:Nat) (A:Nat->Option Addr) (L C:Nat->Nat) (R:Nat->Nat->Int) (fl:Int),cs= [.slice mo n mc, .slice ro q rc, .int .i64 fl]/\Ci w mo n mc K V N ro q rc A L C R fl:=by
 obtain⟨mo,n,mc,K,V,N,ro,q,rc,A,L,C,R,fl,e,sM,⟨bK,bV,bN⟩,sR,qR,bf⟩:=UB h;exact⟨mo,n,mc,K,V,N,ro,q,rc,A,L,C,fun i=>if i<q then R i else fun _=>0,fl,e,sM,sR,fun i hi=>by simp only [if_pos hi];exact(qR i hi).1,bK,bV,bN,fun i=>Yu fun hi=>(qR i hi).2,bf.1,bf.2⟩
def coI(n:Nat)(K V N:Nat->Int)(ro:Option Addr)(q rc:Nat)(A:Nat->Option Addr)(L C:Nat->Nat)(R:Nat->Nat->Int)(fl:Int)(vo:Option Addr)(vm:Nat):Co:=⟨vo,n,vm,K,V,N,ro,q,rc,A,L,C,R,fl⟩
section
variable {w:World} {mo:Option Addr} {n mc:Nat} {K V N:Nat->Int} {ro:Option Addr} {q rc:Nat} {A:Nat->Option Addr} {L C:Nat->Nat} {R:Nat->Nat->Int} {fl:Int} (h:Ci w mo n mc K V N ro q rc A L C R fl)
include h
theorem Ci.keep{w':World}(b:Below w.heap.size w w'):Ci w' mo n mc K V N ro q rc A L C R fl:=⟨h.m.keep b,h.s.keep b,fun i hi=>(h.e i hi).keep b,h.k,h.v,h.nb,h.r,h.f0,h.f1⟩
theorem Ci.give(hn:n<=10)(W:World)(b:Below w.heap.size w W):
 Calls Tryz.prog 9 #[.agg #[.slice mo n mc, .slice ro q rc, .int .i64 fl]] W fun e w'=> ∃ vo vm,e= .returned (.agg #[.slice vo n vm, .slice ro q rc, .int .i64 fl])/\(coI n K V N ro q rc A L C R fl vo vm).Lies w'/\Below W.heap.size W w':=by
 have g:=h.keep b;refine(IU mo ro n mc q rc fl K V N W g.m hn).mono ?_;rintro e w' ⟨vo,vm,rfl,hp,k⟩;exact⟨vo,vm,rfl,⟨hp,⟨g.s.keep k,fun i hi=>(g.e i hi).keep k⟩,⟨h.k,h.v,h.nb,h.r,h.f0,h.f1⟩⟩,k⟩
theorem Ci.may(b:Bool)(hb:b=true↔qw n q K V N L R fl)(W:World)(k:Below w.heap.size w W):
 Calls Tryz.prog 13 #[.agg #[.slice mo n mc, .slice ro q rc, .int .i64 fl]] W fun e w'=>e= .returned (.bool b)/\Below W.heap.size W w':=
 O6 mo ro n mc q rc K V N A L C R fl b W (h.m.keep k) (h.s.keep k) (fun i hi=>(h.e i hi).keep k) h.r hb
end
structure Ii(w:World)(lo:Option Addr)(n cm:Nat)(D:Nat->Raw)(ho:Option Addr)(m hc:Nat)(ch:Nat->Int)(X:Nat->Nat->Int)(r c:Nat->Int)(z:Nat->Nat->Int)(F:Nat->Nat->Nat->Int)(g:Nat->Bool):Prop where
 d:Dst w lo n cm (fun k=> .slice (D k).xo 6 (D k).xc) (fun k=> .slice (D k).po (D k).pn (D k).pc)
 x: ∀ k,k<n->Sl w (D k).xo 6 (D k).xc (X k)
 kn: ∀ k,k<n->Kn w (D k) (r k) (c k) (z k) (F k) (g k)
 i: ∀ k,k<n->(g k=true↔r k=6/\c k=6/\Pr.oK (X k) (F k))
 bx: ∀ k,B64 (X k)
 bf: ∀ k,B2 (F k)
 s:Sl w ho m hc ch
 b:B64 ch
 ten:n<=10
theorem imm_ii{w:World}{lo:Option Addr}{n cm:Nat}{D:Nat->Raw}{ho:Option Addr}{m hc:Nat}{ch:Nat->Int}(hD:Dst w lo n cm (fun k=> .slice (D k).xo (D k).xn (D k).xc) (fun k=> .slice (D k).po (D k).pn (D k).pc))(ok: ∀ k,k<n->(D k).Ok w)(hs:Sl w ho m hc ch)(hb:B64 ch)
 (hz:n<=10/\ ∀ k,k<n->(D k).xn=6): ∃ X r c z F g,Ii w lo n cm D ho m hc ch X r c z F g:=by
 have key: ∀ k,k<n-> ∃ y:Int×Int×(Nat->Int)×(Nat->Nat->Int)×Bool,Kn w (D k) y.1 y.2.1 y.2.2.1 y.2.2.2.1 y.2.2.2.2:=fun k hk=>known (ok k hk) (hz.2 k hk)
 obtain⟨Y,hY⟩: ∃ Y:Nat->Int×Int×(Nat->Int)×(Nat->Nat->Int)×Bool,∀ k,(k<n->Kn w (D k) (Y k).1 (Y k).2.1 (Y k).2.2.1 (Y k).2.2.2.1 (Y k).2.2.2.2)/\B2 (Y k).2.2.2.1:=by
  refine⟨fun k=>if h:k<n then(key k h).choose else(0,0,fun _=>0,fun _ _=>0,false),fun k=> ?_⟩;by_cases h:k<n
  · simp only [dif_pos h];exact⟨fun _=>(key k h).choose_spec,(key k h).choose_spec.b2⟩
  · simp only [dif_neg h];exact⟨fun q=>absurd q h,fun i j=>by show _<=(0:Int)/\(0:Int)<=_;omega⟩
 refine⟨fun k=>if k<n then(D k).X else fun _=>0,fun k=>(Y k).1,fun k=>(Y k).2.1,fun k=>(Y k).2.2.1,fun k=>(Y k).2.2.2.1,fun k=>(Y k).2.2.2.2, ?_, ?_,fun k hk=>(hY k).1 hk, ?_,fun k=>Yu fun hk=>(ok k hk).xb,fun k=>(hY k).2,hs,hb,hz.1⟩
 · exact⟨hD.le,hD.cap,fun k hk=>by rw [← hz.2 k hk];exact hD.at' k hk⟩
 · intro k hk;simp only [if_pos hk];have:=(ok k hk).x;rw [hz.2 k hk] at this;exact this
 · intro k hk;simp only [if_pos hk];exact((hY k).1 hk).iff
def msI(n:Nat)(ho:Option Addr)(m hc:Nat)(ch:Nat->Int)(X:Nat->Nat->Int)(r c:Nat->Int)(z:Nat->Nat->Int)(F:Nat->Nat->Nat->Int)(uo:Option Addr)(um:Nat):Ms:=⟨uo,n,um,ho,m,hc,X,r,c,z,F,ch⟩
section
variable {w:World} {lo:Option Addr} {n cm:Nat} {D:Nat->Raw} {ho:Option Addr} {m hc:Nat} {ch:Nat->Int} {X:Nat->Nat->Int} {r c:Nat->Int} {z:Nat->Nat->Int} {F:Nat->Nat->Nat->Int} {g:Nat->Bool} (h:Ii w lo n cm D ho m hc ch X r c z F g)
include h
theorem Ii.give(W:World)(b:Below w.heap.size w W):
 Calls Tryz.prog 10 #[.agg #[.slice lo n cm, .slice ho m hc]] W fun e w'=> ∃ uo um,e= .returned (.agg #[.slice uo n um, .slice ho m hc])/\(msI n ho m hc ch X r c z F uo um).Lies w'/\Below W.heap.size W w':=by
 refine(Kz lo ho n cm m hc X r c z W (fun U k=>Du lo n cm (fun k=>(D k).xo) (fun k=>(D k).po) (fun k=>(D k).xc) (fun k=>(D k).pn) (fun k=>(D k).pc) X r c z U (h.d.keep (ae b k)) (fun j hj=>(h.x j hj).keep (ae b k)) h.ten (fun j hj V p=>(h.kn j hj).mat V (ae (ae b k) p)))).mono ?_;rintro e w' ⟨vo,vm,rfl,hp,k⟩;exact⟨vo,vm,rfl,⟨hp,fun j hj a b=>((h.kn j hj).six a b).2.2,h.bx,h.bf,h.s.keep (ae b k),h.b⟩,k⟩
theorem Ii.may(b:Bool)(hb:b=true↔uC n m ch X r c F)(W:World)(k:Below w.heap.size w W):
 Calls Tryz.prog 17 #[.slice lo n cm, .slice ho m hc] W fun e w'=>e= .returned (.bool b)/\Below W.heap.size W w':=by
 refine OJ lo ho n cm m hc _ _ ch g b W (h.d.keep k) (h.s.keep k) h.b (fun V p j hj=>(h.kn j hj).may V (ae k p)) (hb.trans ?_);exact⟨fun q=>⟨q.1,q.2.1,fun j hj=>(h.i j hj).2 (q.2.2 j hj)⟩,fun q=>⟨q.1,q.2.1,fun j hj=>(h.i j hj).1 (q.2.2 j hj)⟩⟩
theorem Ii.dls(hJ:uC n m ch X r c F):Dls w lo n cm X F:=by
 refine⟨fun k=>(D k).xo,fun k=>(D k).po,fun k=>(D k).xc,fun k=>(D k).pc,⟨h.d.le,h.d.cap,fun k hk=> ?_⟩,fun k hk=>⟨h.x k hk,((h.kn k hk).six (hJ.2.2 k hk).1 (hJ.2.2 k hk).2.1).2.1⟩⟩;have e:=h.d.at' k hk;rw [((h.kn k hk).six (hJ.2.2 k hk).1 (hJ.2.2 k hk).2.1).1] at e;exact e
end
end Im
end Go.Proofs.YtcefcokpjbebhaaGreatDoor
