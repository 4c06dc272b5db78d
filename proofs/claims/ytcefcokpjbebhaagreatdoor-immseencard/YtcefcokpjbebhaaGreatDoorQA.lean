/-
  The small functions of package qnum: which word stands above a highest one, a number as a sum, its size, how many bits may be, and a number bounded.
-/
import Derived.Test.YtcefcokpjbebhaaGreatDoorM1
import Derived.Test.YtcefcokpjbebhaaGreatDoorProg
import Derived.WalkKit
import Derived.Deep.QuietTactic
import Derived.BigQuiet
import Derived.WalkSpells
import Derived.WalkLawsBesides
import Derived.Handy
import Derived.Laws.Rows
import Derived.Laws.Tables
import Derived.Laws.ResultCell
set_option linter.unusedSimpArgs false
set_option linter.unusedVariables false
namespace Go.Proofs.YtcefcokpjbebhaaGreatDoor
open Go.RowKit Qn
namespace Qn
theorem oH{k:IntKind}{a b:Int}(h:a=b):Ending.returned (.int k a)= .returned (.int k b):=by rw [h]
theorem iQ{a b:Bool}(h:a=b):Ending.returned (.bool a)= .returned (.bool b):=by rw [h]
theorem Xw{k:IntKind}{a b:Int}{c d:Bool}(h:a=b)(g:c=d):Ending.returned (.tuple #[.int k a, .bool c])= .returned (.tuple #[.int k b, .bool d]):=by rw [h,g]
theorem Be{k:IntKind}{a b c d:Int}(h:a=b)(g:c=d):Ending.returned (.tuple #[.int k a, .int k c])= .returned (.tuple #[.int k b, .int k d]):=by rw [h,g]
theorem Zd{a b c a' b' c':Int}(h:a=a')(g:b=b')(k:c=c'):Ending.returned (.agg #[.int .u64 a, .int .u64 b, .int .u64 c])= .returned (.agg #[.int .u64 a', .int .u64 b', .int .u64 c']):=by rw [h,g,k]
theorem Jr(n:Int):IntKind.u64.wrap n=lo n:=by rw [IntKind.wrap_u64];rfl
theorem Ze{x:Int}(h0:0<=x)(h1:x<=18446744073709551615):IntKind.u64.wrap (wrap64 x/9223372036854775808)=sg x:=by
 rw [IntKind.wrap_u64];unfold sg;simp only [wrap64];split<;>omega
theorem af{a w:World}(h:Below a.heap.size a w)(o:Obj):Below a.heap.size a (w.alloc o):=h.alloc h.size o
theorem ae{a b c:World}(h:Below a.heap.size a b)(k:Below b.heap.size b c):Below a.heap.size a c:=h.trans (k.mono h.size)
theorem Qp{W w1:World}(hb:Below W.heap.size W w1):(∀ b o,b<W.heap.size->w1.cell? ⟨b,o,none⟩=W.cell? ⟨b,o,none⟩)/\(∀ b o,b<W.heap.size->w1.frozen? ⟨b,o,none⟩=W.frozen? ⟨b,o,none⟩):=
 ⟨fun b o h=>hb.cell (p:=⟨b,o,none⟩) h,fun b o h=>hb.frozen (p:=⟨b,o,none⟩) h⟩
def lY(w:World)(b:Nat)(x y z:Int):Prop:=w.heap[b]?=some (.cells #[.int .u64 x, .int .u64 y, .int .u64 z] 334 (0,0))
theorem lY.lt{w:World}{b:Nat}{x y z:Int}(h:lY w b x y z):b<w.heap.size:=by
 rcases Nat.lt_or_ge b w.heap.size with k|k
 · exact k
 · unfold lY at h;rw [Array.getElem?_eq_none k] at h;cases h
theorem tu(w:World)(x y z:Int):lY (w.alloc (.cells #[.int .u64 x, .int .u64 y, .int .u64 z] 334)) w.heap.size x y z:=heap_alloc_new w _
theorem lY.alloc{w:World}{b:Nat}{x y z:Int}(h:lY w b x y z)(o:Obj):lY (w.alloc o) b x y z:=by
 unfold lY;rw [Below.heap_alloc w o b h.lt];exact h
theorem lY.keep{w w':World}{b:Nat}{x y z:Int}(h:lY w b x y z)(hb:Below w.heap.size w w'):lY w' b x y z:=by
 unfold lY;rw [hb.block b h.lt];exact h
theorem lY.drewN{w:World}{b:Nat}{x y z:Int}(h:lY w b x y z)(n:Nat):lY (w.drewN n) b x y z:=h
theorem lY.drew{w:World}{b:Nat}{x y z:Int}(h:lY w b x y z):lY w.drew b x y z:=h
theorem lY.set0{w:World}{b:Nat}{x y z:Int}(h:lY w b x y z)(v:Int):lY (w.setCell ⟨b,0,none⟩ (.int .u64 v)) b v y z:=heap_setCell_same w b 0 _ _ _ h
theorem lY.set1{w:World}{b:Nat}{x y z:Int}(h:lY w b x y z)(v:Int):lY (w.setCell ⟨b,1,none⟩ (.int .u64 v)) b x v z:=heap_setCell_same w b 1 _ _ _ h
theorem lY.set2{w:World}{b:Nat}{x y z:Int}(h:lY w b x y z)(v:Int):lY (w.setCell ⟨b,2,none⟩ (.int .u64 v)) b x y v:=heap_setCell_same w b 2 _ _ _ h
theorem lY.other{w:World}{b:Nat}{x y z:Int}(h:lY w b x y z){p:Addr}(u:Value)(hne:b≠p.block):lY (w.setCell p u) b x y z:=by
 unfold lY;rw [heap_setCell_other w p b u hne];exact h
theorem lY.row{w:World}{b:Nat}{x y z:Int}(h:lY w b x y z)(x' y' z':Int):lY (w.setRow b #[.int .u64 x', .int .u64 y', .int .u64 z']) b x' y' z':=setRow_heap w b _ _ _ (0,0) h
theorem below_setRow{B g:Nat}{w0 w:World}(hb:Below B w0 w)(hBg:B<=g)(cs:Array Value):Below B w0 (w.setRow g cs):=
 hb.trans ⟨rfl,rfl,rfl,by simp,fun k hk=>setRow_other w g k cs om1⟩
theorem lY.c0{w:World}{b:Nat}{x y z:Int}(h:lY w b x y z):w.cell? ⟨b,0,none⟩=some (.int .u64 x):=by rw [cell_of_row w b 0 _ _ (0,0) h];rfl
theorem lY.c1{w:World}{b:Nat}{x y z:Int}(h:lY w b x y z):w.cell? ⟨b,1,none⟩=some (.int .u64 y):=by rw [cell_of_row w b 1 _ _ (0,0) h];rfl
theorem lY.c2{w:World}{b:Nat}{x y z:Int}(h:lY w b x y z):w.cell? ⟨b,2,none⟩=some (.int .u64 z):=by rw [cell_of_row w b 2 _ _ (0,0) h];rfl
theorem lY.free{w:World}{b:Nat}{x y z:Int}(h:lY w b x y z)(j:Nat):w.frozen? ⟨b,j,none⟩=false:=frozen_of_row w b j _ _ h
theorem Fb:(Tryz.prog.info? 334).map (·.size)=some 3:=by kernel_rfl
theorem yz{ops:Array Oper}{rest:List Oper}{o:Oper}{a:Act}{w:World}{Q:Exit->Act->World->Prop}(hgd:o.guard=none)(x:Operand)(ho:o.op= .load 334 x)
 (b:Nat) (p q r:Int) (hx:a.eval x= .pointer (some ⟨b,0,none⟩)) (hr:lY w b p q r)
 (h:wpList Tryz.prog ops Q rest (a.put o.dst (.agg #[.int .u64 p, .int .u64 q, .int .u64 r])) w):wpList Tryz.prog ops Q (o::rest) a w:=
 wpList_load_row hgd _ x ho b hx _ _ _ _ hr Tryz.underlying334 rfl Fb h
theorem mX{ops:Array Oper}{rest:List Oper}{o:Oper}{a:Act}{w:World}{Q:Exit->Act->World->Prop}(hgd:o.guard=none)(x y:Operand)(ho:o.op= .store 334 x y)
 (b:Nat) (p q r p' q' r':Int) (hx:a.eval x= .pointer (some ⟨b,0,none⟩)) (hy:a.eval y= .agg #[.int .u64 p, .int .u64 q, .int .u64 r]) (hr:lY w b p' q' r')
 (h:wpList Tryz.prog ops Q rest (a.put o.dst undef) (w.setRow b #[.int .u64 p, .int .u64 q, .int .u64 r])):wpList Tryz.prog ops Q (o::rest) a w:=
 wpList_store_row hgd _ x y ho b _ hx hy _ _ hr Fb rfl (by kernel_rfl) h
theorem dJ{fn:Func}{p:Tmp}(h:fn.results= #[.cell p 334])(tmps:Array Value)(w:World)(b:Nat)(x y z:Int)(hp:tmps.getD p undef= .pointer (some ⟨b,0,none⟩))
 (hr:lY w b x y z):(results fn tmps).run Tryz.prog w= .ok (.agg #[.int .u64 x, .int .u64 y, .int .u64 z]) w:=
 results_cell_row h tmps w b _ _ _ _ hp hr Tryz.underlying334 rfl Fb
end Qn
theorem tC(x:Int)(w:World)(h0:0<=x)(h1:x<=18446744073709551615):
 Calls Tryz.prog 278 #[.int .u64 x] w fun e w'=>e= .returned (.int .u64 (sg x))/\w'=w:=by
 go_enter Tryz.func278,Tryz.ntmps278
 go_wp2;go_ret;exact⟨oH (Ze h0 h1),rfl⟩
theorem size_any(x:Int)(w:World)(h0: -9223372036854775808<=x)(h1:x<=9223372036854775807):
 Calls Tryz.prog 277 #[.int .i64 x] w fun e w'=>e= .returned (.int .u64 (x.natAbs:Int))/\w'=w:=by
 go_enter Tryz.func277,Tryz.ntmps277
 go_wp2;all_goals go_ret
 all_goals refine⟨oH ?_,rfl⟩
 · simp only [IntKind.wrap_u64];omega
 · omega
def Qn.mb(x:Int):Bool:=decide (0<=x) && decide (x<=62)
theorem qO(x:Int)(w:World):
 Calls Tryz.prog 267 #[.int .i64 x] w fun e w'=>e= .returned (.bool (mb x))/\w'=w:=by
 go_enter Tryz.func267,Tryz.ntmps267
 go_wp2;all_goals go_ret
 all_goals refine⟨iQ ?_,rfl⟩
 · unfold mb;rw [decide_eq_true (by assumption:0<=x)];rfl
 · have: ¬0<=x:=om1;unfold mb;rw [decide_eq_false this];rfl
theorem wu(x:Int)(w:World):
 Calls Tryz.prog 205 #[.int .i64 x] w fun e w'=>e= .returned (.tuple #[.int .i64 (clamp x), .bool (great x)])/\w'=w:=by
 go_enter Tryz.func205,Tryz.ntmps205
 go_wp2;all_goals go_ret2
 all_goals refine⟨Xw ?_ ?_,rfl⟩
 · unfold clamp;rw [if_pos (by assumption)]
 · unfold great;rw [decide_eq_true (by assumption:(4611686018427387903:Int)<x)];rfl
 · unfold clamp;rw [if_neg om1,if_pos (by assumption)]
 · unfold great;rw [decide_eq_true (by assumption:x<(-4611686018427387903:Int))];simp
 · unfold clamp;rw [if_neg om1,if_neg om1]
 · unfold great;rw [decide_eq_false om1,decide_eq_false om1];rfl
theorem Qn.VD{n:Int}(h0: -9223372036854775808<=n)(h1:n<=9223372036854775807):sg (lo n)=mi n/\sg (lo n)=hi n:=by
 unfold sg lo mi hi;split<;>omega
theorem Fe(n:Int)(w:World)(h0: -9223372036854775808<=n)(h1:n<=9223372036854775807):
 Calls Tryz.prog 232 #[.int .i64 n] w fun e w'=>e= .returned (.agg #[.int .u64 (lo n), .int .u64 (mi n), .int .u64 (hi n)])/\Below w.heap.size w w':=by
 have ha:=Jr n;have hl:=vw n;have hs:=VD h0 h1;obtain⟨e1,e2⟩:=hs;have E1:Hid (sg (lo n)=mi n):=e1;have E2:Hid (sg (lo n)=hi n):=e2;clear e1 e2;go_enter Tryz.func232,Tryz.ntmps232
 go_wp2_with (go_at_call 278;refine(tC _ _ om1 om1).mono ?_;rintro e w' ⟨rfl,rfl⟩)
 refine bodyPost_ret (v:= .agg #[.int .u64 (lo n), .int .u64 (sg (lo n)), .int .u64 (sg (lo n))]) (by simp [results,Tryz.results232,go_sem]) rfl ⟨Zd rfl E1.out E2.out,af (Below.refl _ _) _⟩
end Go.Proofs.YtcefcokpjbebhaaGreatDoor
