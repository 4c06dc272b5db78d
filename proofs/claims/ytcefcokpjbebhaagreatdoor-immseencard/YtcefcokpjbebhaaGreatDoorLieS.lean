/-
  Slices of integers of 64 bits, and slices of such slices, out of how whatever came in lies.
-/
import Derived.Test.YtcefcokpjbebhaaGreatDoorLie
import Derived.Test.YtcefcokpjbebhaaGreatDoorM2
import Derived.DataReads
set_option linter.unusedSimpArgs false
set_option linter.unusedVariables false
namespace Go.Proofs.YtcefcokpjbebhaaGreatDoor
open Go.RowKit Vc
namespace Lie
theorem wf64{n:Int}(h:(Lit.int .i64 n).wf=true): -9223372036854775808<=n/\n<=9223372036854775807:=by
 simpa [Lit.wf,IntKind.min,IntKind.max,IntKind.signed,IntKind.bits] using h
theorem xu(a:Addr):a.add 0=a:=by
 cases a
 unfold Addr.add;split<;>simp_all
theorem ints{W:World}{t e:TypeId}{cs:List Value}(ht:Tryz.prog.underlying t=some (.slice e))(he:Tryz.prog.underlying e=some (.int .i64))(hc:Tryz.prog.cellsOf e=1)(h:L W t cs):
 ∃ ao n ca z,cs= [.slice ao n ca]/\Sl W ao n ca z/\B64 z:=by
 rcases Np ht h with rfl|⟨a,len,cap,rfl,hl,hm,hel⟩
 · exact⟨none,0,0,fun _=>0,rfl,Sl.none W _,fun k=>⟨(by decide:(-9223372036854775808:Int)<=0),(by decide:(0:Int)<=9223372036854775807)⟩⟩
 · have key: ∀ i,i<cap-> ∃ z,W.cell? (a.add i)=some (.int .i64 z)/\ -9223372036854775808<=z/\z<=9223372036854775807:=fun i hi=>by
    obtain⟨es,h1,h2⟩:=hel i hi;obtain⟨z,rfl,hz⟩:=int_ he h2;rw [hc,Nat.mul_one] at h1;have h3:=(World.cells?_some h1).2.2 0 om0;refine⟨z, ?_,wf64 hz⟩;rw [xu] at h3;exact h3
   refine⟨some a,len,cap,fun i=>if h:i<cap then(key i h).choose else 0,rfl,⟨hl,hm,fun k hk=>⟨a,rfl, ?_⟩⟩,fun k=> ?_⟩
   · have hk':k<cap:=om0;simp only [dif_pos hk'];exact(key k hk').choose_spec.1
   · by_cases hk:k<cap
     · simp only [dif_pos hk];exact(key k hk).choose_spec.2
     · simp only [dif_neg hk];exact⟨(by decide:(-9223372036854775808:Int)<=0),(by decide:(0:Int)<=9223372036854775807)⟩
theorem rows{W:World}{t e q:TypeId}{cs:List Value}(ht:Tryz.prog.underlying t=some (.slice e))(he:Tryz.prog.underlying e=some (.slice q))(hq:Tryz.prog.underlying q=some (.int .i64))(ce:Tryz.prog.cellsOf e=1)(cq:Tryz.prog.cellsOf q=1)(h:L W t cs):
 ∃ (lo:Option Addr) (n cm:Nat) (A:Nat->Option Addr) (K C:Nat->Nat) (Z:Nat->Nat->Int),cs= [.slice lo n cm]/\Sls W lo n cm A K C/\ ∀ r,r<n->Sl W (A r) (K r) (C r) (Z r)/\B64 (Z r):=by
 rcases Np ht h with rfl|⟨a,len,cap,rfl,hl,hm,hel⟩
 · exact⟨none,0,0,fun _=>none,fun _=>0,fun _=>0,fun _ _=>0,rfl,⟨Nat.le_refl _,by decide,fun j hj=>by omega⟩,fun r hr=>by omega⟩
 · have key: ∀ i,i<cap-> ∃ y:Option Addr×Nat×Nat×(Nat->Int),W.cell? (a.add i)=some (.slice y.1 y.2.1 y.2.2.1)/\Sl W y.1 y.2.1 y.2.2.1 y.2.2.2/\B64 y.2.2.2:=fun i hi=>by
    obtain⟨es,h1,h2⟩:=hel i hi;obtain⟨ao,n,ca,z,rfl,hs,hz⟩:=ints he hq cq h2;rw [ce,Nat.mul_one] at h1;have h3:=(World.cells?_some h1).2.2 0 om0;rw [xu] at h3;exact⟨(ao,n,ca,z),h3,hs,hz⟩
   refine⟨some a,len,cap,fun i=>if h:i<cap then(key i h).choose.1 else none,fun i=>if h:i<cap then(key i h).choose.2.1 else 0,fun i=>if h:i<cap then(key i h).choose.2.2.1 else 0,fun i=>if h:i<cap then(key i h).choose.2.2.2 else fun _=>0,rfl,⟨hl,hm,fun k hk=>⟨a,rfl, ?_⟩⟩,fun k hk=> ?_⟩
   · have hk':k<cap:=om0;simp only [dif_pos hk'];exact(key k hk').choose_spec.1
   · have hk':k<cap:=om0;simp only [dif_pos hk'];exact(key k hk').choose_spec.2
end Lie
end Go.Proofs.YtcefcokpjbebhaaGreatDoor
