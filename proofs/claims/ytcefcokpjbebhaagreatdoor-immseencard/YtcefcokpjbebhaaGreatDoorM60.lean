/-
  An array of integers that came in: its parts.
-/
import Derived.WideKeyArr2
import Derived.OpenShut
set_option linter.unusedSimpArgs false
set_option linter.unusedVariables false
namespace Go.Proofs.YtcefcokpjbebhaaGreatDoor
theorem om2{p:Prop}(h:p:=by omega):p:=h
theorem rl2{p:Prop}(h:p:=by rfl):p:=h
section
open Go.ChangeShapes Go.WideShapes
namespace Arr
section
variable {H:Type} {enc:TypeId×Value->H} {P:Program} {W:World} {base:Nat} {sp:Nat->Bool} {held:Bool}
def num:Value->Int
 | .int _ z=>z
 |_=>0
end
end Arr
end
section
open Go.ChangeShapes Go.WideShapes
namespace Stc
section
variable {H:Type} {enc:TypeId×Value->H} {P:Program} {W:World} {base:Nat} {sp:Nat->Bool} {held:Bool}
theorem KN{t:TypeId}{fs:Array Field}(hu:P.underlying t=some (.struct fs))(ks:List IntKind)(hn:P.cellsOf t=ks.length)
 (hk:(fs.toList.map fun f=>(f.offset,P.cellsOf f.type,P.underlying f.type))=(List.range ks.length).map fun i=>(i,1,some (.int (ks.getD i .i64))))
 {r:Reach} {b0:Nat} {v:Value} {d:DataW H} {ps:List MemPlace} (hok:Value.okWide P W r b0 t v) (hd:DataW.Trod enc P W base sp held t v d ps):
 ∃ zs:List Int,zs.length=ks.length/\v= .agg (List.zipWith Value.int ks zs).toArray/\ ∀ i,i<ks.length->(Lit.int (ks.getD i .i64) (zs.getD i 0)).wf=true:=by
 obtain⟨cs,rfl,hsz⟩:=okWide_struct hu hok;obtain⟨fuel,hf⟩:=hd;simp only [Value.cells] at hf;obtain⟨xs,n,_,hx,hl,hlen,hF⟩:=DataW.trod_struct hu hf
 have hfs:fs.size=ks.length:=by
  have:=congrArg List.length hk;simpa using this
 have hat: ∀ i (hi:i<ks.length),∃ z,cs.toList[i]?=some (.int (ks.getD i .i64) z)/\(Lit.int (ks.getD i .i64) z).wf=true:=fun i hi=>by
  have h1:=congrArg (fun l=>l[i]?) hk;simp only [List.getElem?_map] at h1;rw [List.getElem?_range hi] at h1;simp only [Option.map_some,Option.map_eq_some_iff,Prod.mk.injEq] at h1;obtain⟨f,hf1,hf2,hf3,hf4⟩:=h1;have h2:=hF i f (by simpa using hf1);have hxi:i<xs.length:=om2;rw [List.getElem?_eq_getElem hxi,hf2,hf3] at h2;obtain⟨a,ea,_,wa⟩:=DataW.trod_int hf4 h2;have hci:i<cs.toList.length:=by rw [hl,hn];exact hi
  refine⟨a, ?_,wa⟩
  have e2:(cs.toList.drop i).take 1= [cs.toList[i]]:=by
   rw [List.drop_eq_getElem_cons hci];rfl
  rw [e2] at ea;rw [List.getElem?_eq_getElem hci,(List.cons.inj ea).1]
 have hcl:cs.toList.length=ks.length:=by rw [hl,hn]
 refine⟨cs.toList.map Arr.num,by simpa using hcl, ?_, ?_⟩
 · congr 1;apply Array.ext';rw [List.toList_toArray];apply List.ext_getElem?;intro i;rw [List.getElem?_zipWith];rcases Nat.lt_or_ge i ks.length with hi|hi
   · obtain⟨z,hz,wz⟩:=hat i hi;rw [hz,List.getElem?_map,hz,List.getElem?_eq_getElem hi];simp only [Option.map_some,Arr.num,List.getD_eq_getElem?_getD,List.getElem?_eq_getElem hi,Option.getD_some]
   · rw [List.getElem?_eq_none om2,List.getElem?_eq_none (l:=ks) hi]
 · intro i hi;obtain⟨z,hz,wz⟩:=hat i hi
   have e:(cs.toList.map Arr.num).getD i 0=z:=by
    rw [List.getD_eq_getElem?_getD,List.getElem?_map,hz];rfl
   rw [e];exact wz
theorem five{zs:List Int}(h:zs.length=5): ∃ a b c d e,zs= [a,b,c,d,e]:=by
 match zs,h with
 | [a,b,c,d,e],_=>exact⟨a,b,c,d,e,rfl⟩
end
end Stc
end
end Go.Proofs.YtcefcokpjbebhaaGreatDoor
