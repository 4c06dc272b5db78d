/-
  Layer 12's laws: states, steps and noises that came in.
-/
import Derived.Test.YtcefcokpjbebhaaGreatDoorM25
import Derived.Test.YtcefcokpjbebhaaGreatDoorM9
import Derived.Test.YtcefcokpjbebhaaGreatDoorMtY
import Derived.Test.YtcefcokpjbebhaaGreatDoorLieS
set_option linter.unusedSimpArgs false
set_option linter.unusedVariables false
namespace Go.Proofs.YtcefcokpjbebhaaGreatDoor
open Go.RowKit Vc St Mt Cm Ld Pd Pr Qn Dt
theorem six_cases{w:World}{lo:Option Addr}{n cm:Nat}{A:Nat->Option Addr}{L C:Nat->Nat}{Z:Nat->Nat->Int}(s:Sls w lo n cm A L C)(q: ∀ r,r<n->Sl w (A r) (L r) (C r) (Z r)/\B64 (Z r)):
 (∃ F,n=6/\Grid w lo 6 cm 6 F/\B2 F)\/
 ∃ (r c:Int) (z:Nat->Int),¬(r=6/\c=6)/\(∀ W,Below w.heap.size w W->Calls Tryz.prog 66 #[.slice lo n cm] W fun e w'=>e= .returned (.agg (mvals r c z).toArray)/\Below W.heap.size W w')/\
   (∀ W,Below w.heap.size w W->Calls Tryz.prog 67 #[.slice lo n cm] W fun e w'=>e= .returned (.bool false)/\Below W.heap.size W w'):=by
 rcases rows_cases s q with⟨m,F,g1,g2,g3,g4,gG,gB,_,_⟩|⟨x1,x2⟩
 · by_cases e:n=6/\m=6
   · obtain⟨rfl,rfl⟩:=e;exact Or.inl ⟨F,rfl,gG,gB⟩
   · refine Or.inr ⟨n,m,mz n m F,fun h=>e ⟨by omega,by omega⟩,fun W b=> ?_,fun W b=> ?_⟩
     · refine matOf_by _ _ _ _ W (fun V k=> ?_);obtain⟨A',C',h1,h2⟩:=gG.keep (below_tr b k);exact mof_any n m lo cm A' C' F V g1 g2 g3 g4 h1 h2
     · have h:=rsix12_grid n m cm lo F W g1 g2 g3 g4 (gG.keep b);rw [decide_eq_false e] at h;exact h
 · exact Or.inr ⟨0,0,fun _=>0,by omega,fun W b=>matOf_no _ W (fun V k=>x2 V (below_tr b k)),fun W b=>rsix12_not n cm lo W (x1 W b)⟩
theorem matOf_six{w:World}{lo:Option Addr}{cm:Nat}{F:Nat->Nat->Int}(h:Grid w lo 6 cm 6 F)(W:World)(b:Below w.heap.size w W):
 Calls Tryz.prog 66 #[.slice lo 6 cm] W fun e w'=>e= .returned (.agg (mvals 6 6 (mz 6 6 F)).toArray)/\Below W.heap.size W w':=by
 refine matOf_by _ _ _ _ W (fun V k=> ?_);obtain⟨A',C',h1,h2⟩:=h.keep (below_tr b k);exact mof_any 6 6 lo cm A' C' F V (by omega) (by omega) (by omega) (by omega) h1 h2
theorem list_two{cs:List Value}(h:cs.length=2): ∃ u v,cs= [u,v]:=by
 match cs,h with
 | [u,v],_=>exact⟨u,v,rfl⟩
theorem fieldsR:(Tryz.prog.fieldsOf 60).toList.map (fun f=>(f.name,f.type,f.offset))= [("X",27,0),("P",23,1)]:=by kernel_rfl
theorem structR:Tryz.prog.underlying 60=some (.struct (Tryz.prog.fieldsOf 60)):=by kernel_rfl
theorem state_lies{w:World}{cs:List Value}(h:Lie.L w 60 cs):
 ∃ (xo:Option Addr) (m xc:Nat) (X:Nat->Int) (po:Option Addr) (n pc:Nat) (A:Nat->Option Addr) (K C:Nat->Nat) (Z:Nat->Nat->Int),cs= [.slice xo m xc, .slice po n pc]/\Sl w xo m xc X/\B64 X/\Sls w po n pc A K C/\ ∀ r,r<n->Sl w (A r) (K r) (C r) (Z r)/\B64 (Z r):=by
 obtain⟨hlen,hF⟩:=Lie.struct_ structR h;have hl:cs.length=2:=by rw [hlen];kernel_rfl
 obtain⟨u,v,rfl⟩:=list_two hl;clear hlen hl h;obtain⟨f0,f1,hf,h0,h1⟩:=list2 fieldsR;injection h0 with n0 h0
 injection h0 with t0 o0
 injection h1 with n1 h1
 injection h1 with t1 o1
 have c0:Tryz.prog.cellsOf 27=1:=by kernel_rfl
 have c1:Tryz.prog.cellsOf 23=1:=by kernel_rfl
 have g0:Lie.L w 27 [u]:=by
  have f:=hF 0 f0 (by rw [← Array.getElem?_toList,hf];rfl);rw [t0,o0,c0] at f;exact f
 have g1:Lie.L w 23 [v]:=by
  have f:=hF 1 f1 (by rw [← Array.getElem?_toList,hf];rfl);rw [t1,o1,c1] at f;exact f
 obtain⟨xo,m,xc,X,e0,sX,bX⟩:=Lie.ints Tryz.underlying27 Tryz.underlying2 (by kernel_rfl) g0;obtain⟨po,n,pc,A,K,C,Z,e1,sP,qP⟩:=Lie.rows Tryz.underlying23 Tryz.underlying27 Tryz.underlying2 (by kernel_rfl) (by kernel_rfl) g1;injection e0 with e0 _
 injection e1 with e1 _
 subst e0 e1;exact⟨xo,m,xc,X,po,n,pc,A,K,C,Z,rfl,sX,bX,sP,qP⟩
end Go.Proofs.YtcefcokpjbebhaaGreatDoor
