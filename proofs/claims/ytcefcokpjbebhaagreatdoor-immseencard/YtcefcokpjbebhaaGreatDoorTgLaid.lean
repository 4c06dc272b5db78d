/-
  What the listed package variables (errors.errorType, trig's angles) give a walk, and a world in which they are laid: for the tied rows of this seat.
-/
import Derived.Test.YtcefcokpjbebhaaGreatDoorRows
import Derived.Test.YtcefcokpjbebhaaGreatDoorErrA
import Derived.ChangeSame
import Derived.ChangeVars
import Derived.ChangeArms
import Derived.OpenShut
import Derived.JoinedOf
import Derived.RowKit
import Derived.LaidLaws
import Derived.LaidHandle
import Derived.Stop.Joined
set_option linter.unusedSimpArgs false
set_option linter.unusedVariables false
namespace Go.Proofs.YtcefcokpjbebhaaGreatDoor
open Go.ChangeShapes Go.WideShapes Go.RowKit Tg
namespace La2
theorem et:Tryz.prog.globalNamed "errors.errorType" =some 0:=by kernel_rfl
theorem ga:Tryz.prog.globalNamed "radome/trig.angles" =some 3:=by kernel_rfl
theorem gt:(Tryz.prog.globals[3]?).map (·.type)=some 386:=by kernel_rfl
theorem cell1:Tryz.prog.cellsOf 2=1:=by kernel_rfl
theorem cell40:Tryz.prog.cellsOf 386=40:=by kernel_rfl
theorem rt:(Tryz.prog.cutTypes.find? (·.1== "internal/reflectlite.rtype")).map (·.2)=some 290:=by kernel_rfl
theorem oneRow:((List.range 420).filter fun t=>Tryz.prog.rowNamed t [101,114,114,111,114])= [36]:=by kernel_rfl
theorem size:Tryz.prog.types.size=420:=by kernel_rfl
theorem abd:(Rows.laid_radome_trig_angles:DataW Unit)= .agg (YL.map fun n=> .lit (.int .i64 n)):=rl1
theorem WX{w:World}{fuel:Nat}{cs:List Value}{p:List MemPlace}
 (h:DataW.trod (fun _=>()) Tryz.prog w 0 (fun _=>true) false fuel 386 cs=some (Rows.laid_radome_trig_angles,p)):cs=YL.map (Value.int .i64):=by
 obtain⟨xs,m,rfl,hx,hl,hn,hi⟩:=DataW.trod_array Tryz.underlying386 h;rw [abd] at hx
 have hm:xs.map (·.1)=YL.map fun n=>(.lit (.int .i64 n):DataW Unit):=by
  have:=congrArg Prod.fst hx;exact(DataW.agg.inj this).symm
 rw [cell40] at hl;rw [cell1] at hi;refine List.ext_getElem? fun i=> ?_;by_cases h40:i<40
 · have hxi:=hi i h40;have hxl:i<xs.length:=by rw [hn];exact h40
   rw [List.getElem?_eq_getElem hxl,Nat.mul_one] at hxi;obtain⟨n,hc,hd,_⟩:=DataW.trod_int Tryz.underlying2 hxi;have hg:=congrArg (fun l=>l[i]?) hm;simp only [List.getElem?_map,List.getElem?_eq_getElem hxl,Option.map_some] at hg;rw [hd] at hg;have h0:((cs.drop i).take 1)[0]?=some (.int .i64 n):=by rw [hc];rfl
   rw [List.getElem?_take_of_lt om1,List.getElem?_drop,Nat.add_zero] at h0;rw [h0,List.getElem?_map];cases ha:YL[i]? with
   |none=>rw [ha] at hg;cases hg
   |some a=>
    rw [ha] at hg;simp only [Option.map_some,Option.some.injEq,DataW.lit.injEq,Lit.int.injEq,true_and] at hg;rw [hg];rfl
 · have ha:(YL.map (Value.int .i64)).length=40:=rfl;rw [List.getElem?_eq_none om1,List.getElem?_eq_none om1]
theorem ang_of{W:World}(h:laidMet Tryz.prog [("radome/trig.angles",Rows.laid_radome_trig_angles)] W):iM W:=by
 obtain⟨ps,⟨g,t,cs,fuel,p,q,e1,e2,e3,e4,e5,rfl⟩,hnd,hrow⟩:=h;obtain rfl:=Option.some.inj (ga.symm.trans e1);obtain rfl:=Option.some.inj (gt.symm.trans e2);have hc:=WX e4
 have hcs:cs=Xc:=by
  have:cs.toList=Xc.toList:=by rw [hc,YN]
  exact Array.toList_inj.1 this
 subst hcs
 obtain⟨⟨c,t,hh⟩,_⟩:=hrow 3 0 (by
  refine List.mem_append.2 (.inl (List.mem_append.2 (.inl ?_)))
  exact List.mem_map.2 ⟨0,List.mem_range.2 (by decide),rfl⟩)
 refine⟨t, ?_⟩;simp only [World.var?,ga,Option.bind_some,hh] at e3;rw [hh,Option.some.inj e3]
theorem KJ{W:World}(h:laidMetH Tryz.prog [("errors.errorType",Rows.laid_errors_errorType),("radome/trig.angles",Rows.laid_radome_trig_angles)] W):lV W/\iM W:=by
 have h':laidMet Tryz.prog [("radome/trig.angles",Rows.laid_radome_trig_angles)] W/\handlesMet Tryz.prog [("errors.errorType",Rows.laid_errors_errorType)] W:=h;refine⟨?_,ang_of h'.1⟩;obtain⟨name,u,ty,e1,e2,e3,e4,e5⟩:=h'.2 _ (List.mem_singleton.2 rfl);have en:name= [101,114,114,111,114]:=(Option.some.inj e1).symm;subst en;obtain rfl:=Option.some.inj (rt.symm.trans e2);have hm:ty∈(List.range 420).filter fun t=>Tryz.prog.rowNamed t [101,114,114,111,114]:=List.mem_filter.2 ⟨List.mem_range.2 (by rw [← size];exact e3),e4⟩;rw [oneRow] at hm;obtain rfl:=List.mem_singleton.1 hm;have hh:typeHandle Tryz.prog 36= .pointer (some ⟨4,36,none⟩):=by kernel_rfl
 rw [hh] at e5;unfold lV;simpa using World.var?_cell et e5 0
def laidW(w:World):World:= { w with heap:=(w.heap.modify 0 fun| .cells _ t frozen=> .cells #[.iface 290 (.agg #[.pointer (some ⟨4,36,none⟩)])] t frozen|o=>o).modify 3 fun| .cells _ t frozen=> .cells Xc t frozen|o=>o }
set_option maxRecDepth 100000 in
theorem met(os:Os)(args:Array Value):laidMetH Tryz.prog [("errors.errorType",Rows.laid_errors_errorType),("radome/trig.angles",Rows.laid_radome_trig_angles)] (((laidW (World.holding Tryz.prog os ⟨#[], #[],[]⟩))).forCall (fun _ _=>0) ⟨#[],args,[]⟩).memory:=
 laidMetH_of_parts (laidMet_of_run' 8 (by kernel_rfl) (by kernel_rfl)) (by kernel_rfl)
end La2
end Go.Proofs.YtcefcokpjbebhaaGreatDoor
