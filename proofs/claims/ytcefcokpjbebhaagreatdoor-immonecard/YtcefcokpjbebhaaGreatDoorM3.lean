/-
  Join of the document's answer of layer 3 (radomeref03): the sum of two numbers of eight words; by py/Join.py.
-/
import Derived.Test.YtcefcokpjbebhaaGreatDoorM2
import Derived.Deep.RegionHeld3
import Derived.Deep.DrawnRows
import Derived.Laws.ResultCell
import Derived.RegionTactic
import Derived.ChangeAlike
import Derived.BigRegion
import Derived.Laws.Rows
import Derived.Test.YtcefcokpjbebhaaGreatDoorM1
set_option linter.unusedSimpArgs false
set_option linter.unusedVariables false
set_option maxHeartbeats 400000
namespace Go.Proofs.YtcefcokpjbebhaaGreatDoor
section
open Go.RowKit Lg
attribute [local go_sem ↓] Go.wp_at_zero Go.wp_at_succ
namespace Lg
end Lg
end
section
open Go.RowKit Lg
attribute [local go_sem ↓] Go.wp_at_zero Go.wp_at_succ
namespace Lg
end Lg
end
section
open Go.RowKit
namespace Lg
end Lg
end
section
open Go.RowKit Dec
namespace Dec
end Dec
attribute [local go_sem ↓] Go.wp_at_zero Go.wp_at_succ
end
section
open Go.RowKit Dec
namespace Dec
end Dec
end
section
open Go.RowKit Dec
attribute [local go_sem ↓] Go.wp_at_zero Go.wp_at_succ
end
section
open Go.RowKit Dec
end
section
open Go.RowKit Dec
attribute [local go_sem ↓] Go.wp_at_zero Go.wp_at_succ
namespace Dec
end Dec
end
section
open Go.RowKit Tg
attribute [local go_sem ↓] Go.wp_at_zero Go.wp_at_succ
namespace Tg
def RowP(w:World)(b:Nat)(x y:Int):Prop:=w.heap[b]?=some (.cells #[.int .i64 x, .int .i64 y] 385 (0,0))
theorem RowP.lt{w:World}{b:Nat}{x y:Int}(h:RowP w b x y):b<w.heap.size:=by
 rcases Nat.lt_or_ge b w.heap.size with k|k
 · exact k
 · unfold RowP at h;rw [Array.getElem?_eq_none k] at h;cases h
theorem rowP_new(w:World)(x y:Int):RowP (w.alloc (.cells #[.int .i64 x, .int .i64 y] 385)) w.heap.size x y:=heap_alloc_new w _
theorem RowP.keep{w w':World}{b:Nat}{x y:Int}(h:RowP w b x y)(hb:Below w.heap.size w w'):RowP w' b x y:=by
 unfold RowP;rw [hb.block b h.lt];exact h
theorem RowP.drew{w:World}{b:Nat}{x y:Int}(h:RowP w b x y):RowP w.drew b x y:=h
theorem RowP.row{w:World}{b:Nat}{x y:Int}(h:RowP w b x y)(x' y':Int):RowP (w.setRow b #[.int .i64 x', .int .i64 y']) b x' y':=setRow_heap w b _ _ _ (0,0) h
theorem belowRow{B g:Nat}{w0 w:World}(hb:Below B w0 w)(hBg:B<=g)(cs:Array Value):Below B w0 (w.setRow g cs):=
 hb.trans ⟨rfl,rfl,rfl,by simp,fun k hk=>setRow_other w g k cs (by omega)⟩
theorem RowP.c0{w:World}{b:Nat}{x y:Int}(h:RowP w b x y):w.cell? ⟨b,0,none⟩=some (.int .i64 x):=by rw [cell_of_row w b 0 _ _ (0,0) h];rfl
theorem RowP.c1{w:World}{b:Nat}{x y:Int}(h:RowP w b x y):w.cell? ⟨b,1,none⟩=some (.int .i64 y):=by rw [cell_of_row w b 1 _ _ (0,0) h];rfl
theorem size_pair:(Tryz.prog.info? 385).map (·.size)=some 2:=by kernel_rfl
theorem wpList_loadP{ops:Array Oper}{rest:List Oper}{o:Oper}{a:Act}{w:World}{Q:Exit->Act->World->Prop}(hgd:o.guard=none)(x:Operand)(ho:o.op= .load 385 x)
 (b:Nat) (p q:Int) (hx:a.eval x= .pointer (some ⟨b,0,none⟩)) (hr:RowP w b p q)
 (h:wpList Tryz.prog ops Q rest (a.put o.dst (.agg #[.int .i64 p, .int .i64 q])) w):wpList Tryz.prog ops Q (o::rest) a w:=
 wpList_load_row hgd _ x ho b hx _ _ _ _ hr Tryz.underlying385 rfl size_pair h
theorem wpList_storeP{ops:Array Oper}{rest:List Oper}{o:Oper}{a:Act}{w:World}{Q:Exit->Act->World->Prop}(hgd:o.guard=none)(x y:Operand)(ho:o.op= .store 385 x y)
 (b:Nat) (p q p' q':Int) (hx:a.eval x= .pointer (some ⟨b,0,none⟩)) (hy:a.eval y= .agg #[.int .i64 p, .int .i64 q]) (hr:RowP w b p' q')
 (h:wpList Tryz.prog ops Q rest (a.put o.dst undef) (w.setRow b #[.int .i64 p, .int .i64 q])):wpList Tryz.prog ops Q (o::rest) a w:=
 wpList_store_row hgd _ x y ho b _ hx hy _ _ hr size_pair rfl (by kernel_rfl) h
theorem rowP_new1(w:World)(A:Obj)(x y:Int):RowP ((w.alloc A).alloc (.cells #[.int .i64 x, .int .i64 y] 385)) (w.heap.size+1) x y:=by
 have h:=rowP_new (w.alloc A) x y;rwa [show(w.alloc A).heap.size=w.heap.size+1 by simp] at h
theorem results_P{fn:Func}{p:Tmp}(h:fn.results= #[.cell p 385])(tmps:Array Value)(w:World)(b:Nat)(x y:Int)(hp:tmps.getD p undef= .pointer (some ⟨b,0,none⟩))
 (hr:RowP w b x y):(results fn tmps).run Tryz.prog w= .ok (.agg #[.int .i64 x, .int .i64 y]) w:=
 results_cell_row h tmps w b _ _ _ _ hp hr Tryz.underlying385 rfl size_pair
end Tg
theorem anti_any(x y:Int)(k:Nat)(w:World)(hk:k<64)(h0: -9000000000000000000<=x- fl y k)(h1:x- fl y k<=9000000000000000000)(h2: -9000000000000000000<=y+fl x k)(h3:y+fl x k<=9000000000000000000):
 Calls Tryz.prog 295 #[.agg #[.int .i64 x, .int .i64 y], .int .i64 k] w fun e w'=>e= .returned (.agg #[.int .i64 (x- fl y k), .int .i64 (y+fl x k)])/\Below w.heap.size w w':=by
 unfold fl at*;obtain⟨D,hD⟩: ∃ D,(2:Int)^k=D:=⟨_,rfl⟩;rw [hD] at h0 h1 h2 h3 ⊢;have hk0:(0:Int)<=(k:Int):=by omega
 have hk1:(k:Int)<64:=by omega
 go_enter Tryz.func295,Tryz.ntmps295
 go_wp2;go_region
 go_wp2;exact bodyPost_ret (v:= .agg #[.int .i64 (x- y/D), .int .i64 (y+x/D)]) (results_P Tryz.results295 _ _ (w.heap.size+1) _ _ rfl (rowP_new1 w _ _ _).drew) rfl ⟨rfl,(below_al (below_al (Below.refl _ _) _) _).drew⟩
theorem clock_any(x y:Int)(k:Nat)(w:World)(hk:k<64)(h0: -9000000000000000000<=x+fl y k)(h1:x+fl y k<=9000000000000000000)(h2: -9000000000000000000<=y- fl x k)(h3:y- fl x k<=9000000000000000000):
 Calls Tryz.prog 296 #[.agg #[.int .i64 x, .int .i64 y], .int .i64 k] w fun e w'=>e= .returned (.agg #[.int .i64 (x+fl y k), .int .i64 (y- fl x k)])/\Below w.heap.size w w':=by
 unfold fl at*;obtain⟨D,hD⟩: ∃ D,(2:Int)^k=D:=⟨_,rfl⟩;rw [hD] at h0 h1 h2 h3 ⊢;have hk0:(0:Int)<=(k:Int):=by omega
 have hk1:(k:Int)<64:=by omega
 go_enter Tryz.func296,Tryz.ntmps296
 go_wp2;go_region
 go_wp2;exact bodyPost_ret (v:= .agg #[.int .i64 (x+y/D), .int .i64 (y- x/D)]) (results_P Tryz.results296 _ _ (w.heap.size+1) _ _ rfl (rowP_new1 w _ _ _).drew) rfl ⟨rfl,(below_al (below_al (Below.refl _ _) _) _).drew⟩
end
section
open Go.RowKit Dec
namespace Nv
end Nv
end
section
open Go.RowKit Dec
namespace Dec
end Dec
attribute [local go_sem ↓] Go.wp_at_zero Go.wp_at_succ
end
end Go.Proofs.YtcefcokpjbebhaaGreatDoor
