/-
  Rows that may be a matrix, or that may not.
-/
import Derived.Test.YtcefcokpjbebhaaGreatDoorM9
import Derived.OpenShut
set_option linter.unusedSimpArgs false
set_option linter.unusedVariables false
namespace Go.Proofs.YtcefcokpjbebhaaGreatDoor
open Go.RowKit Vc Mt Qn Dt
theorem Mt.CE{p:Nat->Prop} [DecidablePred p]: ∀ (m:Nat),(∀ k,k<m->p k)\/ ∃ q,q<m/\ ¬p q/\ ∀ k,k<q->p k
 |0=>Or.inl fun k hk=>by omega
 |m+1=>by
  rcases Mt.CE (p:=p) m with h|⟨q,h1,h2,h3⟩
  · by_cases c:p m
    · exact Or.inl fun k hk=>by
       rcases Nat.lt_or_ge k m with d|d
       · exact h k d
       · obtain rfl:k=m:=om1
         exact c
    · exact Or.inr ⟨m,om1,c,h⟩
  · exact Or.inr ⟨q,om1,h2,h3⟩
theorem OX{w:World}{lo:Option Addr}{n cm:Nat}{A:Nat->Option Addr}{L C:Nat->Nat}{Z:Nat->Nat->Int}(s:Sls w lo n cm A L C)(q: ∀ r,r<n->Sl w (A r) (L r) (C r) (Z r)/\B64 (Z r)):
 (∃ (m:Nat) (F:Nat->Nat->Int),1<=n/\n<=6/\1<=m/\m<=6/\Grid w lo n cm m F/\B2 F/\(∀ i,i<n->F i=Z i)/\L 0=m)\/
 ((∀ W,Below w.heap.size w W->Calls Tryz.prog 141 #[.slice lo n cm] W fun e w'=>e= .returned (.bool false)/\Below W.heap.size W w')/\
  (∀ W,Below w.heap.size w W->Calls Tryz.prog 140 #[.slice lo n cm] W fun e w'=>e= .returned (.tuple #[.agg (aj 0 0 (fun _=>0)).toArray, .iface 93 (.int .i64 1)])/\Below W.heap.size W w')):=by
 have l1:=s.le;have l2:=s.cap;have hL: ∀ k,k<n->L k<=9223372036854775807:=fun k hk=>by have:=(q k hk).1.le;have:=(q k hk).1.cap;omega
 by_cases h0:n=0
 · subst h0;exact Or.inr ⟨fun W _=>GY 0 cm lo W om1 om1,fun W _=>Y3 lo cm W⟩
 by_cases h6:6<n
 · exact Or.inr ⟨fun W _=>GY n cm lo W om1 om1,fun W b=>LG n lo cm A L C W om1 (s.keep b) (hL 0 om1) om1⟩
 by_cases hc:1<=L 0/\L 0<=6
 · rcases CE (p:=fun k=>L k=L 0) n with hall|⟨t,ht,hbad,hok⟩
   · left;refine⟨L 0,fun r k=>if r<n then Z r k else 0,om1,om1,hc.1,hc.2,⟨A,C,⟨s.le,s.cap,fun j hj=>by rw [← hall j hj];exact s.at' j hj⟩,fun k hk=> ?_⟩,fun k p=> ?_,fun i hi=> ?_,rfl⟩
     · have h:=(q k hk).1;rw [hall k hk] at h;exact h.congr (fun j _=>by show Z k j=if k<n then Z k j else 0;rw [if_pos hk])
     · show _<=(if k<n then Z k p else 0)/\(if k<n then Z k p else 0)<=_;split
       · rename_i hk
         exact(q k hk).2 p
       · omega
     · funext j;show(if i<n then Z i j else 0)=_;rw [if_pos hi]
   · exact Or.inr ⟨fun W b=>NY n cm t lo A L C W (s.keep b) om1 om1 hc.1 hc.2 hL ht hbad hok,fun W b=>QH n (L 0) t lo cm A L C Z W om1 om1 hc.1 hc.2 (s.keep b) (fun k hk=>(q k hk).1.keep b) rfl ht hbad hok⟩
 · exact Or.inr ⟨fun W b=>QP n cm lo A L C W (s.keep b) om1 om1 (hL 0 om1) om1,fun W b=>LG n lo cm A L C W om1 (s.keep b) (hL 0 om1) om1⟩
end Go.Proofs.YtcefcokpjbebhaaGreatDoor
