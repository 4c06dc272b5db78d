/-
  Structs and matrices that are loaded or stored as a whole in a region that draws its order (for RegU's laws).
-/
import Derived.Test.YtdgcnaijndocnaaGreatDoorRegU
import Derived.Test.YtdgcnaijndocnaaGreatDoorM5
set_option linter.unusedSimpArgs false
set_option linter.unusedVariables false
namespace Go.Proofs.YtdgcnaijndocnaaGreatDoor
open Go.RowKit Mt
namespace Ru
/-- A struct is loaded: it may be taken first. -/
theorem yieldsC {ops : Array Oper} {S : World → Prop} {o : Oper} {a : Act} {t : TypeId} {n : Nat} (I : St.Is t n) (hw : Region.wanted o (yielded ops a.tmps) = true) (x : Operand) (ho : o.op = .load t x)
    (b : Nat) (cs : List Value) (hx : a.eval x = .pointer (some ⟨b, 0, none⟩)) (hS : ∀ w, S w → St.CRow w b t cs) (hl : cs.length = n) : YieldsIf Tryz.prog ops S o (.agg cs.toArray) a := by
  obtain ⟨d, hd, hr⟩ := I.row
  exact yieldsIf_load_mid hw _ x ho b 0 hx cs d (fun w h => (hS w h).range) hd hr (by rw [I.size, hl])
/-- A struct is stored. -/
theorem stepC {ops : Array Oper} {o : Oper} {a : Act} {w : World} {K : Act → World → Prop} {Q : Exit → Act → World → Prop} {E : Prop} {t : TypeId} {n : Nat} (I : St.Is t n) (hw : Region.wanted o (yielded ops a.tmps) = true) (x y : Operand) (ho : o.op = .store t x y)
    (b : Nat) (cs ds : List Value) (hx : a.eval x = .pointer (some ⟨b, 0, none⟩)) (hy : a.eval y = .agg ds.toArray) (hr : St.CRow w b t cs) (hl : cs.length = n) (hd : ds.length = n) (h1 : ∀ v ∈ ds, v.oneCell' = true)
    (h : K (a.put o.dst undef) (w.setRow b ds.toArray)) : if Region.wanted o (yielded ops a.tmps) = true then Oper.wp Tryz.prog o a w K Q else E := by
  rw [if_pos hw]
  exact wp_store_row _ x y ho b _ hx hy _ _ hr (by rw [I.size, List.size_toArray, hd]) (by rw [List.size_toArray, List.size_toArray, hl, hd]) (all_oneCell_toArray h1) h
end Ru
end Go.Proofs.YtdgcnaijndocnaaGreatDoor
