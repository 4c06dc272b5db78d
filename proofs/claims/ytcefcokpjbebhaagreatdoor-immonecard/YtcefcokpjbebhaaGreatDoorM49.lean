/-
  The document's answer of layer 17 (radomeref17): which confs and Imms may be; One.
-/
import Derived.Test.YtcefcokpjbebhaaGreatDoorM47
import Derived.Test.YtcefcokpjbebhaaGreatDoorM32
import Derived.Test.YtcefcokpjbebhaaGreatDoorM29
import Derived.Test.YtcefcokpjbebhaaGreatDoorM25
import Derived.Test.YtcefcokpjbebhaaGreatDoorM8
import Derived.Test.YtcefcokpjbebhaaGreatDoorM4
import Derived.Test.YtcefcokpjbebhaaGreatDoorM3
import Derived.Test.YtcefcokpjbebhaaGreatDoorM15
import Derived.Deep.DeepCutAuto
import Derived.Deep.RegionHeld3
import Derived.Deep.CutRange
import Derived.Test.YtcefcokpjbebhaaGreatDoorM20
set_option linter.unusedSimpArgs false
set_option linter.unusedVariables false
namespace Go.Proofs.YtcefcokpjbebhaaGreatDoor
section
open Go.RowKit Vc St Mt Cn Mx Im El
attribute [local go_sem ↓] Go.wp_at_zero Go.wp_at_succ
namespace Im
theorem isCf:Is 25 3:=⟨by kernel_rfl,⟨_,Tryz.underlying25,rfl⟩⟩
theorem isM:Tryz.prog.underlying 97=some (.struct (Tryz.prog.fieldsOf 97)):=by kernel_rfl
theorem sizeM:(Tryz.prog.info? 97).map (·.size)=some 3:=by kernel_rfl
theorem run_loadM(w:World)(x:Addr)(u v z:Value)(h0:w.cell? x=some u)(h1:w.cell? (x.add 1)=some v)(h2:w.cell? (x.add 2)=some z):(Instr.loadAt 97 (.pointer (some x))).run Tryz.prog w= .ok (.agg #[u,v,z]) w:=by
 have hl:(loadCells x [u,v,z].length).run Tryz.prog w= .ok [u,v,z].toArray w:=run_loadCells_list (P:=Tryz.prog) w x [u,v,z] (fun j y hv=>by
  match j,hv with
  |0,hv=>rw [addr_at0];simp at hv;subst hv;exact h0
  |1,hv=>simp at hv;subst hv;exact h1
  |2,hv=>simp at hv;subst hv;exact h2)
 have hv:(loadVar 97 x).run Tryz.prog w= .ok (.agg #[u,v,z]) w:=by
  cases hq:Tryz.prog.info? 97 with
  |none=>have:=sizeM;rw [hq] at this;cases this
  |some i=>
   have hs:i.size=3:=by have:=sizeM;rw [hq] at this;simpa using this
   have hagg:(isAgg 97).run Tryz.prog w= .ok true w:=by
    unfold isAgg;rw [Sem.run_bind,run_underlying isM w];simp
   simp [loadVar,Sem.run_bind,hagg,sizeOf,typeInfo,hq,hs];simp at hl;simp [hl]
 simp only [Instr.loadAt,Instr.sureAddr,Sem.run_bind,Sem.run_pure,Result.andThen_ok,hv]
theorem yieldsM{ops:Array Oper}{S:World->Prop}{o:Oper}{a:Act}(hw:Region.wanted o (yielded ops a.tmps)=true)(x:Operand)(ho:o.op= .load 97 x)(ad:Addr)(u v z:Value)(hx:a.eval x= .pointer (some ad))
 (hS: ∀ w,S w->w.cell? ad=some u/\w.cell? (ad.add 1)=some v/\w.cell? (ad.add 2)=some z):YieldsIf Tryz.prog ops S o (.agg #[u,v,z]) a:=
 .inl ⟨hw,fun w h=>by
  unfold execOp
  simp only [ho,hx,Sem.run_bind,run_loadM w ad u v z (hS w h).1 (hS w h).2.1 (hS w h).2.2,Result.andThen_ok,Sem.run_pure]⟩
end Im
end
section
open Go.RowKit Vc St Mt Cn Mx Im El
attribute [local go_sem ↓] Go.wp_at_zero Go.wp_at_succ
namespace Im
end Im
end
section
open Go.RowKit Vc St Mt Cn Mx Im El
attribute [local go_sem ↓] Go.wp_at_zero Go.wp_at_succ
namespace Im
end Im
end
end Go.Proofs.YtcefcokpjbebhaaGreatDoor
