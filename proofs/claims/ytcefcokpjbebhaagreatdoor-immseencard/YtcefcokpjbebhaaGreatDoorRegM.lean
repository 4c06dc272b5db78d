/-
  Structs and matrices that are loaded or stored as a whole in a region that draws its order (for RegU's laws).
-/
import Derived.Test.YtcefcokpjbebhaaGreatDoorRegU
import Derived.Test.YtcefcokpjbebhaaGreatDoorM5
set_option linter.unusedSimpArgs false
set_option linter.unusedVariables false
namespace Go.Proofs.YtcefcokpjbebhaaGreatDoor
open Go.RowKit Mt
namespace Ru
theorem mJ{ops:Array Oper}{S:World->Prop}{o:Oper}{a:Act}(hw:Region.wanted o (yielded ops a.tmps)=true)(x:Operand)(ho:o.op= .load 53 x)
 (b:Nat) (r c:Int) (z:Nat->Int) (hx:a.eval x= .pointer (some ⟨b,0,none⟩)) (hS: ∀ w,S w->Mt.dU w b r c z):YieldsIf Tryz.prog ops S o (.agg (Mt.aj r c z).toArray) a:=
 yieldsIf_load_mid hw _ x ho b 0 hx (Mt.aj r c z) _ (fun w h=>(hS w h).range) Tryz.underlying53 rfl (by rw [Tryz.yJ,Mt.dG])
theorem stepM{ops:Array Oper}{o:Oper}{a:Act}{w:World}{K:Act->World->Prop}{Q:Exit->Act->World->Prop}{E:Prop}(hw:Region.wanted o (yielded ops a.tmps)=true)(x y:Operand)(ho:o.op= .store 53 x y)
 (b:Nat) (r c r' c':Int) (z z':Nat->Int) (hx:a.eval x= .pointer (some ⟨b,0,none⟩)) (hy:a.eval y= .agg (Mt.aj r' c' z').toArray) (hr:Mt.dU w b r c z)
 (h:K (a.put o.dst undef) (w.setRow b (Mt.aj r' c' z').toArray)):if Region.wanted o (yielded ops a.tmps)=true then Oper.wp Tryz.prog o a w K Q else E:=by
 rw [if_pos hw];exact wp_store_row _ x y ho b _ hx hy _ _ hr (by rw [Tryz.yJ,Mt.kT]) (by rw [Mt.kT,Mt.kT]) (all_oneCell_toArray (Mt.vT r' c' z')) h
theorem fF{ops:Array Oper}{S:World->Prop}{o:Oper}{a:Act}{t:TypeId}{n:Nat}(I:St.Is t n)(hw:Region.wanted o (yielded ops a.tmps)=true)(x:Operand)(ho:o.op= .load t x)
 (b:Nat) (cs:List Value) (hx:a.eval x= .pointer (some ⟨b,0,none⟩)) (hS: ∀ w,S w->St.ai w b t cs) (hl:cs.length=n):YieldsIf Tryz.prog ops S o (.agg cs.toArray) a:=by
 obtain⟨d,hd,hr⟩:=I.row;exact yieldsIf_load_mid hw _ x ho b 0 hx cs d (fun w h=>(hS w h).range) hd hr (by rw [I.size,hl])
theorem kK{ops:Array Oper}{o:Oper}{a:Act}{w:World}{K:Act->World->Prop}{Q:Exit->Act->World->Prop}{E:Prop}{t:TypeId}{n:Nat}(I:St.Is t n)(hw:Region.wanted o (yielded ops a.tmps)=true)(x y:Operand)(ho:o.op= .store t x y)
 (b:Nat) (cs ds:List Value) (hx:a.eval x= .pointer (some ⟨b,0,none⟩)) (hy:a.eval y= .agg ds.toArray) (hr:St.ai w b t cs) (hl:cs.length=n) (hd:ds.length=n) (h1: ∀ v∈ds,v.oneCell'=true)
 (h:K (a.put o.dst undef) (w.setRow b ds.toArray)):if Region.wanted o (yielded ops a.tmps)=true then Oper.wp Tryz.prog o a w K Q else E:=by
 rw [if_pos hw];exact wp_store_row _ x y ho b _ hx hy _ _ hr (by rw [I.size,List.size_toArray,hd]) (by rw [List.size_toArray,List.size_toArray,hl,hd]) (all_oneCell_toArray h1) h
end Ru
end Go.Proofs.YtcefcokpjbebhaaGreatDoor
