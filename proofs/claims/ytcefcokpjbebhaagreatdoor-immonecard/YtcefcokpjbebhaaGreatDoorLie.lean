/-
  Whatever came in, of whatever type: how it lies, opened type by type (for frames whose parameters hold slices of structs and the like).
-/
import Derived.Test.YtcefcokpjbebhaaGreatDoorProg
import Derived.OpenShut
import Derived.ChangeArms
import Derived.WideKeyArr2
set_option linter.unusedSimpArgs false
set_option linter.unusedVariables false
namespace Go.Proofs.YtcefcokpjbebhaaGreatDoor
open Go.ChangeShapes Go.WideShapes
namespace Lie
def L(W:World)(t:TypeId)(cs:List Value):Prop:= ∃ (H:Type) (enc:TypeId×Value->H) (fuel:Nat) (x:DataW H×List MemPlace),DataW.trod enc Tryz.prog W 0 (fun _=>true) true fuel t cs=some x
theorem of_trod{H:Type}{enc:TypeId×Value->H}{W:World}{t:TypeId}{v:Value}{d:DataW H}{ps:List MemPlace}(h:DataW.Trod enc Tryz.prog W 0 (fun _=>true) true t v d ps):L W t v.cells.toList:=by
 obtain⟨fuel,hf⟩:=h;exact⟨H,enc,fuel,_,hf⟩
theorem int_{W:World}{t:TypeId}{cs:List Value}{k:IntKind}(ht:Tryz.prog.underlying t=some (.int k))(h:L W t cs): ∃ n,cs= [.int k n]/\(Lit.int k n).wf=true:=by
 obtain⟨H,enc,fuel,x,hf⟩:=h;obtain⟨n,h1,_,h2⟩:=DataW.trod_int ht hf;exact⟨n,h1,h2⟩
theorem struct_{W:World}{t:TypeId}{cs:List Value}{fs:Array Field}(ht:Tryz.prog.underlying t=some (.struct fs))(h:L W t cs):
 cs.length=Tryz.prog.cellsOf t/\ ∀ (i:Nat) (f:Field),fs[i]?=some f->L W f.type ((cs.drop f.offset).take (Tryz.prog.cellsOf f.type)):=by
 obtain⟨H,enc,fuel,x,hf⟩:=h;obtain⟨xs,n,_,_,hl,hlen,hF⟩:=DataW.trod_struct ht hf;refine⟨hl,fun i f hi=> ?_⟩;have h2:=hF i f hi
 have hlt:i<xs.length:=by
  rw [hlen];rcases Nat.lt_or_ge i fs.size with k|k
  · exact k
  · rw [Array.getElem?_eq_none k] at hi;cases hi
 rw [List.getElem?_eq_getElem hlt] at h2;exact⟨H,enc,n,_,h2⟩
theorem slice_{W:World}{t e:TypeId}{cs:List Value}(ht:Tryz.prog.underlying t=some (.slice e))(h:L W t cs):
 cs= [.slice none 0 0]\/ ∃ (a:Addr) (len cap:Nat),cs= [.slice (some a) len cap]/\len<=cap/\cap<=maxLen/\
  ∀ i,i<cap-> ∃ es,W.cells? 0 (a.add (i*Tryz.prog.cellsOf e)) (Tryz.prog.cellsOf e)=some es/\L W e es:=by
 obtain⟨H,enc,fuel,x,hf⟩:=h;rcases DataW.trod_slice ht hf with⟨h0,_⟩|⟨a,len,cap,elems,rest,n,_,rfl,_,hb,hl,hm,hlen,hel,hsp,_⟩
 · exact .inl h0
 · refine .inr ⟨a,len,cap,rfl,hl,hm,fun i hi=> ?_⟩;obtain⟨hr,hre⟩:=hsp rfl
   have key: ∃ y,(W.cells? 0 (a.add (i*Tryz.prog.cellsOf e)) (Tryz.prog.cellsOf e)).bind (DataW.trod enc Tryz.prog W 0 (fun _=>true) true n e)=some y:=by
    rcases Nat.lt_or_ge i len with k|k
    · exact⟨elems[i]'(by omega),by rw [hel i k,List.getElem?_eq_getElem]⟩
    · have e2:=hre (i- len) (by omega);have e3:len+(i- len)=i:=by omega
      rw [e3] at e2;exact⟨rest[i- len]'(by omega),by rw [e2,List.getElem?_eq_getElem]⟩
   obtain⟨y,hy⟩:=key;obtain⟨es,h1,h2⟩:=Option.bind_eq_some_iff.1 hy;exact⟨es,h1,H,enc,n,y,h2⟩
end Lie
end Go.Proofs.YtcefcokpjbebhaaGreatDoor
