/-
  Matrices of package mat as values (rows, columns and 36 numbers), the numbers a function of the place.
-/
import Derived.Test.YtcefcokpjbebhaaGreatDoorM2
import Derived.Deep.MidRow
import Derived.Deep.RegionHeld3
import Derived.Deep.RegionWith
import Derived.Laws.CopyOwn
import Derived.Laws.ResultCell
import Derived.Laws.Rows
import Derived.Deep.DeepMust
set_option linter.unusedSimpArgs false
set_option linter.unusedVariables false
set_option maxHeartbeats 2000000
set_option maxRecDepth 10000
namespace Go.Proofs.YtcefcokpjbebhaaGreatDoor
section
open Go.RowKit Vc
namespace Mt
def mvals(r c:Int)(z:Nat->Int):List Value:= .int .i64 r:: .int .i64 c::vals 36 z
theorem mvals_len(r c:Int)(z:Nat->Int):(mvals r c z).length=38:=by simp [mvals,vals_len]
theorem mvals_at{r c:Int}{z:Nat->Int}{k:Nat}(h:k<36):(mvals r c z)[k+2]?=some (.int .i64 (z k)):=by
 show(vals 36 z)[k]?=_;exact vals_at h
theorem mvals_set(r c:Int)(z:Nat->Int)(j:Nat)(x:Int):(mvals r c z).set (j+2) (.int .i64 x)=mvals r c (fun k=>if k=j then x else z k):=by
 show Value.int .i64 r::Value.int .i64 c::(vals 36 z).set j (.int .i64 x)=_;rw [vals_set];rfl
theorem mvals_congr{r c:Int}{z z':Nat->Int}(h: ∀ k,k<36->z k=z' k):mvals r c z=mvals r c z':=by unfold mvals;rw [vals_congr h]
theorem one_mvals(r c:Int)(z:Nat->Int): ∀ v∈mvals r c z,v.oneCell'=true:=by
 intro v hv;rcases List.mem_cons.1 hv with rfl|hv
 · rfl
 rcases List.mem_cons.1 hv with rfl|hv
 · rfl
 · simp only [vals,List.mem_map] at hv;obtain⟨d,_,rfl⟩:=hv;rfl
theorem size_mvals(r c:Int)(z:Nat->Int):(mvals r c z).toArray.size=38:=by rw [List.size_toArray,mvals_len]
def MRow(w:World)(b:Nat)(r c:Int)(z:Nat->Int):Prop:=w.heap[b]?=some (.cells (mvals r c z).toArray 53 (0,0))
theorem MRow.lt{w:World}{b:Nat}{r c:Int}{z:Nat->Int}(h:MRow w b r c z):b<w.heap.size:=by
 rcases Nat.lt_or_ge b w.heap.size with k|k
 · exact k
 · unfold MRow at h;rw [Array.getElem?_eq_none k] at h;cases h
theorem MRow.rows{w:World}{b:Nat}{r c:Int}{z:Nat->Int}(h:MRow w b r c z):w.cell? ⟨b,0,none⟩=some (.int .i64 r):=by
 rw [cell_of_row w b 0 _ _ (0,0) h];simp [mvals]
theorem MRow.cols{w:World}{b:Nat}{r c:Int}{z:Nat->Int}(h:MRow w b r c z):w.cell? ⟨b,1,none⟩=some (.int .i64 c):=by
 rw [cell_of_row w b 1 _ _ (0,0) h];simp [mvals]
theorem MRow.cell{w:World}{b:Nat}{r c:Int}{z:Nat->Int}(h:MRow w b r c z){k:Nat}(hk:k<36){o:Nat}(ho:o=k+2):w.cell? ⟨b,o,none⟩=some (.int .i64 (z k)):=by
 subst ho;rw [cell_of_row w b (k+2) _ _ (0,0) h,List.getElem?_toArray];exact mvals_at hk
theorem MRow.range{w:World}{b:Nat}{r c:Int}{z:Nat->Int}(h:MRow w b r c z):w.rangeAt b 0 (mvals r c z):=by
 intro j v hv;rw [cell_of_row w b (0+j) _ _ (0,0) h,Nat.zero_add,List.getElem?_toArray];exact hv
theorem MRow.free{w:World}{b:Nat}{r c:Int}{z:Nat->Int}(h:MRow w b r c z)(j:Nat):w.frozen? ⟨b,j,none⟩=false:=frozen_of_row w b j _ _ h
theorem MRow.keep{w w':World}{b:Nat}{r c:Int}{z:Nat->Int}(h:MRow w b r c z)(hb:Below w.heap.size w w'):MRow w' b r c z:=by
 unfold MRow;rw [hb.block b h.lt];exact h
theorem MRow.alloc{w:World}{b:Nat}{r c:Int}{z:Nat->Int}(h:MRow w b r c z)(o:Obj):MRow (w.alloc o) b r c z:=by
 unfold MRow;rw [Below.heap_alloc w o b h.lt];exact h
theorem MRow.drew{w:World}{b:Nat}{r c:Int}{z:Nat->Int}(h:MRow w b r c z):MRow w.drew b r c z:=h
theorem MRow.set{w:World}{b:Nat}{r c:Int}{z:Nat->Int}(h:MRow w b r c z)(j:Nat)(x:Int){o:Nat}(ho:o=j+2):MRow (w.setCell ⟨b,o,none⟩ (.int .i64 x)) b r c (fun k=>if k=j then x else z k):=by
 subst ho
 have e:(mvals r c (fun k=>if k=j then x else z k)).toArray=(mvals r c z).toArray.setIfInBounds (j+2) (.int .i64 x):=by
  rw [← mvals_set];simp
 unfold MRow;rw [e];exact heap_setCell_same w b (j+2) _ _ _ h
theorem MRow.other{w:World}{b:Nat}{r c:Int}{z:Nat->Int}(h:MRow w b r c z){p:Addr}(u:Value)(hne:b≠p.block):MRow (w.setCell p u) b r c z:=by
 unfold MRow;rw [heap_setCell_other w p b u hne];exact h
theorem MRow.congr{w:World}{b:Nat}{r c:Int}{z z':Nat->Int}(h:MRow w b r c z)(e: ∀ k,k<36->z k=z' k):MRow w b r c z':=by
 unfold MRow;rw [← mvals_congr e];exact h
theorem mrow_new(w:World)(r c:Int)(z:Nat->Int):MRow (w.alloc (.cells (mvals r c z).toArray 53)) w.heap.size r c z:=heap_alloc_new w _
theorem mrow_new1(w:World)(A:Obj)(r c:Int)(z:Nat->Int):MRow ((w.alloc A).alloc (.cells (mvals r c z).toArray 53)) (w.heap.size+1) r c z:=by
 have h:=mrow_new (w.alloc A) r c z;rwa [show(w.alloc A).heap.size=w.heap.size+1 by simp] at h
theorem mrow_new2(w:World)(A B:Obj)(r c:Int)(z:Nat->Int):MRow (((w.alloc A).alloc B).alloc (.cells (mvals r c z).toArray 53)) (w.heap.size+1+1) r c z:=by
 have h:=mrow_new ((w.alloc A).alloc B) r c z;rwa [show((w.alloc A).alloc B).heap.size=w.heap.size+1+1 by simp] at h
theorem MRow.sl{w:World}{b:Nat}{r c:Int}{z:Nat->Int}(h:MRow w b r c z){p n ca o:Nat}(hp:p+n<=36)(hc:n<=ca)(hc2:ca<=9223372036854775807)(ho:o=p+2):Sl w (some ⟨b,o,none⟩) n ca (fun j=>z (p+j)):=
 ⟨hc,hc2,fun k hk=>⟨_,rfl,by rw [Addr.add_lit];exact h.cell (by omega) (by omega)⟩⟩
theorem zeroM:(#[.int .i64 0, .int .i64 0, .int .i64 0, .int .i64 0, .int .i64 0, .int .i64 0, .int .i64 0, .int .i64 0, .int .i64 0, .int .i64 0, .int .i64 0, .int .i64 0, .int .i64 0, .int .i64 0, .int .i64 0, .int .i64 0, .int .i64 0, .int .i64 0, .int .i64 0, .int .i64 0, .int .i64 0, .int .i64 0, .int .i64 0, .int .i64 0, .int .i64 0, .int .i64 0, .int .i64 0, .int .i64 0, .int .i64 0, .int .i64 0, .int .i64 0, .int .i64 0, .int .i64 0, .int .i64 0, .int .i64 0, .int .i64 0, .int .i64 0, .int .i64 0]:Array Value)=(mvals 0 0 (fun _=>0)).toArray:=by kernel_rfl
theorem built0:Tryz.prog.built 53 []=some (mvals 0 0 (fun _=>0)).toArray:=by kernel_rfl
theorem built2(r c:Int):Tryz.prog.built 53 [(0, .int .i64 r),(1, .int .i64 c)]=some (mvals r c (fun _=>0)).toArray:=by kernel_rfl
theorem Tryz.sizeM:(Tryz.prog.info? 53).map (·.size)=some 38:=by kernel_rfl
theorem wpList_wanted{ops:Array Oper}{rest:List Oper}{o:Oper}{a:Act}{w:World}{Q:Exit->Act->World->Prop}(hw:Region.wanted o (yielded ops a.tmps)=true)
 (h: ∀ K:Act->World->Prop,(∀ a w,wpList Tryz.prog ops Q rest a w->K a w)->o.wp Tryz.prog a w K Q):wpList Tryz.prog ops Q (o::rest) a w:=
 wpList_step fun K hK=>by rw [if_pos hw];exact h K hK
theorem wpList_loadM{ops:Array Oper}{rest:List Oper}{o:Oper}{a:Act}{w:World}{Q:Exit->Act->World->Prop}(hw:Region.wanted o (yielded ops a.tmps)=true)(x:Operand)(ho:o.op= .load 53 x)
 (b:Nat) (r c:Int) (z:Nat->Int) (hx:a.eval x= .pointer (some ⟨b,0,none⟩)) (hr:MRow w b r c z)
 (h:wpList Tryz.prog ops Q rest (a.put o.dst (.agg (mvals r c z).toArray)) w):wpList Tryz.prog ops Q (o::rest) a w:=
 wpList_wanted hw fun _ hK=>wp_load_mid _ x ho b 0 hx (mvals r c z) _ hr.range Tryz.underlying53 rfl (by rw [Tryz.sizeM,mvals_len]) (hK _ _ h)
theorem wpList_storeM{ops:Array Oper}{rest:List Oper}{o:Oper}{a:Act}{w:World}{Q:Exit->Act->World->Prop}(hgd:o.guard=none)(x y:Operand)(ho:o.op= .store 53 x y)
 (b:Nat) (r c r' c':Int) (z z':Nat->Int) (hx:a.eval x= .pointer (some ⟨b,0,none⟩)) (hy:a.eval y= .agg (mvals r' c' z').toArray) (hr:MRow w b r c z)
 (h:wpList Tryz.prog ops Q rest (a.put o.dst undef) (w.setRow b (mvals r' c' z').toArray)):wpList Tryz.prog ops Q (o::rest) a w:=
 wpList_store_row hgd _ x y ho b _ hx hy _ _ hr (by rw [Tryz.sizeM,size_mvals]) (by rw [size_mvals,size_mvals]) (all_oneCell_toArray (one_mvals r' c' z')) h
theorem MRow.row{w:World}{b:Nat}{r c:Int}{z:Nat->Int}(h:MRow w b r c z)(r' c':Int)(z':Nat->Int):MRow (w.setRow b (mvals r' c' z').toArray) b r' c' z':=setRow_heap w b _ _ _ (0,0) h
theorem MRow.rowOther{w:World}{b g:Nat}{r c:Int}{z:Nat->Int}(h:MRow w b r c z)(hne:b≠g)(cs:Array Value):MRow (w.setRow g cs) b r c z:=by
 unfold MRow;rw [setRow_other w g b cs hne];exact h
theorem wpList_loadF{ops:Array Oper}{rest:List Oper}{o:Oper}{a:Act}{w:World}{Q:Exit->Act->World->Prop}(hw:Region.wanted o (yielded ops a.tmps)=true)(x:Operand)(ho:o.op= .load 3 x)
 (b f:Nat) (v:Int) (hx:a.eval x= .pointer (some ⟨b,f,none⟩)) (hc:w.cell? ⟨b,f,none⟩=some (.int .i64 v))
 (h:wpList Tryz.prog ops Q rest (a.put o.dst (.int .i64 v)) w):wpList Tryz.prog ops Q (o::rest) a w:=
 wpList_wanted hw fun _ hK=>by
  unfold Oper.wp execOp
  have hL:(loadVar 3 ⟨b,f,none⟩).run Tryz.prog w= .ok (.int .i64 v) w:=by
   simp [loadVar,isAgg,underlying,Tryz.underlying3,hc,Result.andThen]
  simp only [ho,hx,Instr.loadAt,Instr.sureAddr,Sem.run_bind,Sem.run_pure,Result.andThen_ok,hL];exact hK _ _ h
theorem wpList_build0{ops:Array Oper}{rest:List Oper}{o:Oper}{a:Act}{w:World}{Q:Exit->Act->World->Prop}(hgd:o.guard=none)(ho:o.op= .build 53 #[])
 (h:wpList Tryz.prog ops Q rest (a.put o.dst (.agg (mvals 0 0 (fun _=>0)).toArray)) w):wpList Tryz.prog ops Q (o::rest) a w:=by
 have em:((#[]:Array (Nat×Operand)).map fun(i,x)=>(i,a.eval x)).toList= []:=by simp
 refine wpList_build hgd 53 #[] ho (by rw [em,built0];rfl) ?_;rw [em,built0,Option.getD_some];exact h
theorem wpList_build2{ops:Array Oper}{rest:List Oper}{o:Oper}{a:Act}{w:World}{Q:Exit->Act->World->Prop}(hgd:o.guard=none)(x y:Operand)(ho:o.op= .build 53 #[(0,x),(1,y)])(r c:Int)(hx:a.eval x= .int .i64 r)(hy:a.eval y= .int .i64 c)
 (h:wpList Tryz.prog ops Q rest (a.put o.dst (.agg (mvals r c (fun _=>0)).toArray)) w):wpList Tryz.prog ops Q (o::rest) a w:=by
 have em:((#[(0,x),(1,y)]:Array (Nat×Operand)).map fun(i,x)=>(i,a.eval x)).toList= [(0, .int .i64 r),(1, .int .i64 c)]:=by simp [hx,hy]
 refine wpList_build hgd 53 _ ho (by rw [em,built2];rfl) ?_;rw [em,built2,Option.getD_some];exact h
theorem results_M1{fn:Func}{p:Tmp}(h:fn.results= #[.cell p 53])(tmps:Array Value)(w:World)(b:Nat)(r c:Int)(z:Nat->Int)(hp:tmps.getD p undef= .pointer (some ⟨b,0,none⟩))
 (hr:MRow w b r c z):(results fn tmps).run Tryz.prog w= .ok (.agg (mvals r c z).toArray) w:=
 results_cell_row h tmps w b _ _ _ _ hp hr Tryz.underlying53 rfl (by rw [Tryz.sizeM,size_mvals])
theorem mtaFa1{p:Prop}(h:p:=by
 have hp':tmps[p]?.getD undef= .pointer (some ⟨b,0,none⟩):=by simpa using hp
 have hL:=run_loadVar_mid w b 0 53 (mvals r c z) _ hr.range Tryz.underlying53 rfl (by rw [Tryz.sizeM,mvals_len])
 simp [results,h,hp',asAddr,hL]):p:=h
theorem results_M2{fn:Func}{p u:Tmp}(h:fn.results= #[.cell p 53, .tmp u])(tmps:Array Value)(w:World)(b:Nat)(r c:Int)(z:Nat->Int)(hp:tmps.getD p undef= .pointer (some ⟨b,0,none⟩))
 (hr:MRow w b r c z):(results fn tmps).run Tryz.prog w= .ok (.tuple #[.agg (mvals r c z).toArray,tmps.getD u undef]) w:=by
 exact mtaFa1
theorem results_M3{fn:Func}{p u v:Tmp}(h:fn.results= #[.cell p 53, .tmp u, .tmp v])(tmps:Array Value)(w:World)(b:Nat)(r c:Int)(z:Nat->Int)(hp:tmps.getD p undef= .pointer (some ⟨b,0,none⟩))
 (hr:MRow w b r c z):(results fn tmps).run Tryz.prog w= .ok (.tuple #[.agg (mvals r c z).toArray,tmps.getD u undef,tmps.getD v undef]) w:=by
 exact mtaFa1
theorem below_row{B g:Nat}{w0 w:World}(hb:Below B w0 w)(hBg:B<=g)(cs:Array Value):Below B w0 (w.setRow g cs):=
 hb.trans ⟨rfl,rfl,rfl,by simp,fun k hk=>setRow_other w g k cs (by omega)⟩
theorem below_setM{B:Nat}{w:World}{x:Addr}(hB:B<=w.heap.size)(hx:B<=x.block)(v:Value):Below B w (w.setCell x v):=
 ⟨rfl,rfl,rfl,by simp,fun k hk=>heap_setCell_other w x k v (by omega)⟩
def mpart(c:Nat)(F:Nat->Nat->Int)(t:Nat):Nat->Int:=fun k=>if k<t then F (k/c) (k%c) else 0
def mz(n c:Nat)(F:Nat->Nat->Int):Nat->Int:=mpart c F (n*c)
theorem place_div{c i j:Nat}(hj:j<c):(i*c+j)/c=i:=by rw [Nat.mul_comm i c,Nat.mul_add_div (by omega),Nat.div_eq_of_lt hj,Nat.add_zero]
theorem place_mod{c i j:Nat}(hj:j<c):(i*c+j)%c=j:=by rw [Nat.mul_comm i c,Nat.mul_add_mod,Nat.mod_eq_of_lt hj]
theorem place_lt{n c i j:Nat}(hi:i<n)(hj:j<c):i*c+j<n*c:=by
 have h:(i+1)*c<=n*c:=Nat.mul_le_mul_right c hi;rw [Nat.succ_mul] at h;omega
theorem place_le{n c i:Nat}(hi:i<n):i*c+c<=n*c:=by
 have h:(i+1)*c<=n*c:=Nat.mul_le_mul_right c hi;rw [Nat.succ_mul] at h;exact h
theorem size_le{n c:Nat}(hn:n<=6)(hc:c<=6):n*c<=36:=Nat.mul_le_mul hn hc
theorem mz_at{n c i j:Nat}{F:Nat->Nat->Int}(hi:i<n)(hj:j<c):mz n c F (i*c+j)=F i j:=by
 unfold mz mpart;rw [if_pos (place_lt hi hj),place_div hj,place_mod hj]
theorem mz_behind{n c k:Nat}{F:Nat->Nat->Int}(h:n*c<=k):mz n c F k=0:=by
 unfold mz mpart;rw [if_neg (by omega)]
theorem mpart_zero(c:Nat)(F:Nat->Nat->Int)(k:Nat):mpart c F 0 k=0:=by unfold mpart;rw [if_neg (by omega)]
theorem mpart_step{c i j:Nat}{F:Nat->Nat->Int}(hj:j<c)(k:Nat):(if k=i*c+j then F i j else mpart c F (i*c+j) k)=mpart c F (i*c+(j+1)) k:=by
 unfold mpart;by_cases e:k=i*c+j
 · subst e;rw [if_pos rfl,if_pos (by omega),place_div hj,place_mod hj]
 · rw [if_neg e];by_cases h:k<i*c+j
   · rw [if_pos h,if_pos (by omega)]
   · rw [if_neg h,if_neg (by omega)]
theorem mz_congr{n c:Nat}{F G:Nat->Nat->Int}(h: ∀ i j,i<n->j<c->F i j=G i j)(k:Nat):mz n c F k=mz n c G k:=by
 unfold mz mpart;by_cases e:k<n*c
 · rw [if_pos e,if_pos e]
   have hc:0<c:=by
    rcases Nat.eq_zero_or_pos c with h0|h0
    · subst h0;simp at e
    · exact h0
   exact h _ _ (Nat.div_lt_of_lt_mul (by rw [Nat.mul_comm];exact e)) (Nat.mod_lt _ hc)
 · rw [if_neg e,if_neg e]
theorem mz_inj{n c:Nat}{F G:Nat->Nat->Int}(h36:n*c<=36)(h: ∀ k,k<36->mz n c F k=mz n c G k){i j:Nat}(hi:i<n)(hj:j<c):F i j=G i j:=by
 have e:=h (i*c+j) (by have:=place_lt hi hj;omega);rwa [mz_at hi hj,mz_at hi hj] at e
def May(r c:Int)(z:Nat->Int):Prop:= ∃ n m:Nat,r=n/\c=m/\1<=n/\n<=6/\1<=m/\m<=6/\ ∀ k,n*m<=k->k<36->z k=0
def B2(F:Nat->Nat->Int):Prop:= ∀ i,B64 (F i)
end Mt
end
section
open Go.RowKit Vc Mt
theorem size_yes(n m:Nat)(w:World)(h1:1<=n)(h2:n<=6)(h3:1<=m)(h4:m<=6):
 Calls Tryz.prog 198 #[.int .i64 (n:Int), .int .i64 (m:Int)] w fun e w'=>e= .returned (.bool true)/\w'=w:=by
 have e1:decide ((n:Int)>=1)=true:=decide_eq_true (by omega);have e2:decide ((n:Int)<=6)=true:=decide_eq_true (by omega);have e3:decide ((m:Int)>=1)=true:=decide_eq_true (by omega);have e4:decide ((m:Int)<=6)=true:=decide_eq_true (by omega);go_enter Tryz.func198,Tryz.ntmps198
 go_wp2;go_ret;exact⟨rfl,rfl⟩
theorem size_no(r c:Int)(w:World)(h: ¬(1<=r/\r<=6/\1<=c/\c<=6)):
 Calls Tryz.prog 198 #[.int .i64 r, .int .i64 c] w fun e w'=>e= .returned (.bool false)/\w'=w:=by
 have H:(1<=r->r<=6->1<=c-> ¬c<=6):=by omega
 have HH:=Hid.mkV H;clear h H;by_cases h1:1<=r
 · have e1:decide (r>=1)=true:=decide_eq_true h1;by_cases h2:r<=6
   · have e2:decide (r<=6)=true:=decide_eq_true h2;by_cases h3:1<=c
     · have e3:decide (c>=1)=true:=decide_eq_true h3;have e4:decide (c<=6)=false:=decide_eq_false (HH.out h1 h2 h3);go_enter Tryz.func198,Tryz.ntmps198
       go_wp2;go_ret;exact⟨rfl,rfl⟩
     · have e3:decide (c>=1)=false:=decide_eq_false h3;go_enter Tryz.func198,Tryz.ntmps198
       go_wp2;go_ret;exact⟨rfl,rfl⟩
   · have e2:decide (r<=6)=false:=decide_eq_false h2;go_enter Tryz.func198,Tryz.ntmps198
     go_wp2;go_ret;exact⟨rfl,rfl⟩
 · have e1:decide (r>=1)=false:=decide_eq_false h1;go_enter Tryz.func198,Tryz.ntmps198
   go_wp2;go_ret;exact⟨rfl,rfl⟩
theorem within_any(i:Int)(n:Nat)(w:World):
 Calls Tryz.prog 199 #[.int .i64 i, .int .i64 (n:Int)] w fun e w'=>e= .returned (.bool (decide (0<=i/\i<n)))/\w'=w:=by
 by_cases h1:0<=i
 · have e1:decide (i>=0)=true:=decide_eq_true h1;by_cases h2:i<n
   · have e2:decide (i<(n:Int))=true:=decide_eq_true h2;have e3:decide (0<=i/\i<n)=true:=decide_eq_true ⟨h1,h2⟩;rw [e3];go_enter Tryz.func199,Tryz.ntmps199
     go_wp2;go_ret;exact⟨rfl,rfl⟩
   · have e2:decide (i<(n:Int))=false:=decide_eq_false h2;have e3:decide (0<=i/\i<n)=false:=decide_eq_false (fun h=>h2 h.2);rw [e3];go_enter Tryz.func199,Tryz.ntmps199
     go_wp2;go_ret;exact⟨rfl,rfl⟩
 · have e1:decide (i>=0)=false:=decide_eq_false h1;have e3:decide (0<=i/\i<n)=false:=decide_eq_false (fun h=>h1 h.1);rw [e3];go_enter Tryz.func199,Tryz.ntmps199
   go_wp2;go_ret;exact⟨rfl,rfl⟩
namespace Mt
theorem Tryz.arrM:Tryz.prog.underlying 51=some (.array (Tryz.prog.arrayLen 51) (Tryz.prog.elem 51)):=by kernel_rfl
theorem Tryz.lenM:Tryz.prog.arrayLen 51=36:=by kernel_rfl
theorem Tryz.elemM:Tryz.prog.elem 51=2:=by kernel_rfl
theorem run_size8(w:World):(sizeOf 2).run Tryz.prog w= .ok 1 w:=by
 obtain⟨i0,hi,hz0,hz1,hz2⟩:=info_parts infoI64;simp [sizeOf,typeInfo,hi,hz1]
theorem run_piece(b p q:Nat)(w:World)(h1:p<36)(h2:p<=q)(h3:q<=36):
 (Instr.sliceAt 51 (.pointer (some ⟨b,2,none⟩)) (some (.int .i64 (p:Int))) (some (.int .i64 (q:Int))) none).run Tryz.prog w= .ok (.slice (some ⟨b,p+2,none⟩) (q- p) (36- p)) w:=by
 rw [run_sliceAt_array_lh w 51 _ Tryz.arrM .i64 .i64 _ _ (by omega) (by omega) (by rw [Tryz.lenM];omega),Tryz.elemM,run_size8,Tryz.lenM];simp only [Result.andThen_ok,slicedAt,Int.toNat_natCast,Nat.mul_one];rw [if_neg (by omega),Addr.add_lit,Nat.add_comm 2 p]
end Mt
theorem row_any(b i m p:Nat)(r:Int)(z:Nat->Int)(w:World)(h:MRow w b r (m:Int) z)(hp:p=i*m)(hm:m<=6)(hi:i<=6)(h36:p+m<=36)(h0:0<m):
 Calls Tryz.prog 201 #[.pointer (some ⟨b,0,none⟩), .int .i64 (i:Int)] w fun e w'=>e= .returned (.slice (some ⟨b,p+2,none⟩) m (36- p))/\Below w.heap.size w w':=by
 have c1:=h.cols
 have e1:IntKind.i64.wrap ((i:Int)*(m:Int))=(p:Int):=by
  have:((i*m:Nat):Int)=(i:Int)*(m:Int):=by push_cast;rfl
  rw [← this,← hp,IntKind.wrap_i64];omega
 have e2:IntKind.i64.wrap (((i:Int)+1)*(m:Int))=((p+m:Nat):Int):=by
  have:((i*m:Nat):Int)=(i:Int)*(m:Int):=by push_cast;rfl
  rw [Int.add_mul,Int.one_mul,← this,← hp,IntKind.wrap_i64];omega
 have e0:IntKind.i64.wrap ((i:Int)+1)=(i:Int)+1:=by rw [IntKind.wrap_i64];omega
 have e3: ∀ W,(Instr.sliceAt 51 (.pointer (some ⟨b,2,none⟩)) (some (.int .i64 (p:Int))) (some (.int .i64 ((p:Int)+(m:Int)))) none).run Tryz.prog W= .ok (.slice (some ⟨b,p+2,none⟩) m (36- p)) W:=by
  intro W;have h:=run_piece b p (p+m) W (by omega) (by omega) h36;rw [Nat.add_sub_cancel_left] at h;exact_mod_cast h
 have HP:=Hid.mkV hp;clear hp h;go_enter Tryz.func201,Tryz.ntmps201
 go_wp2;go_quiet (fail)
 go_wp2;go_ret;exact⟨rfl,Vc.below_drewN (Below.refl _ _) _⟩
end
section
open Go.RowKit Vc Mt
namespace Mt
def Fresh(B:Nat)(ao:Option Addr):Prop:= ∀ x,ao=some x->B<=x.block
theorem own_fresh{B:Nat}{w0 w:World}{v:Value}{n:Nat}{z:Nat->Int}(h:Own B w0 w v n z): ∃ ao ca,v= .slice ao n ca/\Sl w ao n ca z/\Fresh B ao:=by
 obtain⟨ao,ca,rfl,hs⟩:=h.sl;refine⟨ao,ca,rfl,hs,fun x hx=> ?_⟩;subst hx;exact(h.row.lt _ rfl).1
theorem own_whole{B:Nat}{w0 w:World}{g n:Nat}{z:Nat->Int}(h:Own B w0 w (.slice (some ⟨g,0,none⟩) n n) n z):w.heap[g]?=some (.cells (vals n z).toArray 2 (0,0)):=by
 obtain⟨h1,h2⟩:=h.row;rcases h2 with⟨e,_⟩|⟨g',cap,cur,e,hb,hg,hn,hc,hs,ht⟩
 · cases e
 · injection e with e1 e2 e3
   injection e1 with e1
   injection e1 with e1
   subst e1 e3
   have e4:cur.toList=vals n z:=by
    rw [← ht,List.take_of_length_le (by simp;omega)]
   rw [hg,← e4]
theorem own_of_whole{B:Nat}{w0 w:World}{g n:Nat}{z:Nat->Int}(h:w.heap[g]?=some (.cells (vals n z).toArray 2 (0,0)))(hb:Below B w0 w)(hg:B<=g)(hn:n<=maxLen):Own B w0 w (.slice (some ⟨g,0,none⟩) n n) n z:=by
 have hlt:g<w.heap.size:=by
  rcases Nat.lt_or_ge g w.heap.size with k|k
  · exact k
  · rw [Array.getElem?_eq_none k] at h;cases h
 refine⟨⟨by simp [vals_len],Or.inr ⟨g,n,_,rfl,hg,h,Nat.le_refl _,hn,by simp [vals_len], ?_⟩⟩,hb,by omega⟩;exact List.take_of_length_le (by simp [vals_len])
theorem splice_all(n:Nat)(z y:Nat->Int):splice (vals n z) 0 (vals n y)=vals n y:=by
 unfold splice;rw [List.take_zero,List.nil_append,Nat.zero_add,vals_len,List.drop_eq_nil_of_le (by rw [vals_len];exact Nat.le_refl _),List.append_nil]
theorem one_vals(n:Nat)(z:Nat->Int): ∀ v∈vals n z,v.oneCell'=true:=by
 intro v hv;simp only [vals,List.mem_map] at hv;obtain⟨d,_,rfl⟩:=hv;rfl
theorem Sl.src{w:World}{ao:Option Addr}{n ca:Nat}{z:Nat->Int}(h:Sl w ao n ca z)(h0:0<n): ∃ ad,ao=some ad/\ ∀ j v,(vals n z)[j]?=some v->w.cell? (ad.add j)=some v:=by
 obtain⟨x,hx,hc⟩:=h.get;refine⟨x,hx h0,fun j v hv=> ?_⟩
 have hj:j<n:=by
  rcases Nat.lt_or_ge j n with k|k
  · exact k
  · rw [List.getElem?_eq_none (by rw [vals_len];exact k)] at hv;cases hv
 rw [vals_at hj] at hv;rw [hc j hj];exact hv
theorem sizeI64:(Tryz.prog.info? 2).map (·.size)=some 1:=by kernel_rfl
end Mt
theorem copied_any(ao:Option Addr)(n ca:Nat)(z:Nat->Int)(w:World)(h:Sl w ao n ca z)(hn:n<=36):
 Calls Tryz.prog 200 #[.slice ao n ca] w fun e w'=> ∃ co cc,e= .returned (.slice co n cc)/\Sl w' co n cc z/\Fresh w.heap.size co/\Below w.heap.size w w':=by
 have h1:=h.le;have h2:=h.cap;have HS:=Hid.mkV h;clear h;obtain⟨i0,hi,hz0,hz1,hz2⟩:=info_parts infoI64;go_enter Tryz.func200,Tryz.ntmps200
 go_wp2_with (at_make;refine wpList_make_full _ rfl _ _ 27 rfl w.heap.size 2 i0 (.int .i64 0) 1 Tryz.underlying27 hi hz0 hz1 _ _ _ _ n rfl rfl (by omega) (by omega) (by rw [hz2];omega) (by unfold maxLen;omega) (Nat.le_refl _) ?_)
 intro w0 hown0 hgrow0;have hO0:=own_made hown0 hgrow0 (Nat.le_refl _);have hW:=Hid.mkV (own_whole hO0);have hB:=hO0.below;have HS0:=Hid.mkV (HS.out.keep hB);clear hown0 hgrow0 hO0;obtain⟨Y,hY⟩: ∃ Y,Y=vals n z:=⟨_,rfl⟩;obtain⟨Z0,hZ0⟩: ∃ Z0,Z0=vals n (fun _=>0):=⟨_,rfl⟩;rw [← hZ0] at hW;have HY:=Hid.mkV hY;have HZ:=Hid.mkV hZ0;clear hY hZ0;go_wp2_with (refine wpList_copy_splice rfl (.tmp 7) (.tmp 8) 27 27 rfl 2 Tryz.underlying27 sizeI64 _ _ _ _ _ _ rfl rfl w.heap.size 0 Z0 2 hW.out Y (by rw [HY.out,vals_len];exact(Nat.min_self n).symm) (fun h0=>⟨rfl,by rw [HY.out] at h0 ⊢;exact Sl.src HS0.out (by rwa [vals_len] at h0)⟩) (by rw [HY.out,HZ.out,vals_len,vals_len];omega) (by rw [HY.out];exact one_vals n z) w.heap.size w hB (Nat.le_refl _) ?_)
 intro w2 hw2 hB2
 have hO2:Own w.heap.size w w2 (.slice (some ⟨w.heap.size,0,none⟩) n n) n z:=by
  have e:=hw2.out;rw [HY.out,HZ.out,splice_all] at e;exact own_of_whole e hB2 (Nat.le_refl _) (by unfold maxLen;omega)
 clear hw2;go_wp2;go_ret;obtain⟨co,cc,e1,e2,e3⟩:=own_fresh hO2;cases e1
 exact⟨_,_,rfl,e2,e3,hB2⟩
namespace Mt
theorem run_tail(b p:Nat)(h:p<=36): ∃ o,(p<36->o=p+2)/\ ∀ w:World,(Instr.sliceAt 51 (.pointer (some ⟨b,2,none⟩)) (some (.int .i64 (p:Int))) none none).run Tryz.prog w= .ok (.slice (some ⟨b,o,none⟩) (36- p) (36- p)) w:=by
 by_cases e:p=36
 · refine⟨2,fun h=>by omega,fun w=> ?_⟩;rw [run_sliceAt_array_l w 51 _ Tryz.arrM .i64 _ (by omega) (by rw [Tryz.lenM];omega),Tryz.elemM,run_size8,Tryz.lenM];simp only [Result.andThen_ok,slicedAt,Int.toNat_natCast,Nat.mul_one];rw [if_pos (by omega)]
 · refine⟨p+2,fun _=>rfl,fun w=> ?_⟩;rw [run_sliceAt_array_l w 51 _ Tryz.arrM .i64 _ (by omega) (by rw [Tryz.lenM];omega),Tryz.elemM,run_size8,Tryz.lenM];simp only [Result.andThen_ok,slicedAt,Int.toNat_natCast,Nat.mul_one];rw [if_neg (by omega),Addr.add_lit,Nat.add_comm 2 p]
end Mt
theorem check_yes(n m:Nat)(z:Nat->Int)(w:World)(h1:1<=n)(h2:n<=6)(h3:1<=m)(h4:m<=6)(h0: ∀ k,n*m<=k->k<36->z k=0):
 Calls Tryz.prog 117 #[.agg (mvals n m z).toArray] w fun e w'=>e= .returned .nilIface/\Below w.heap.size w w':=by
 have rA:=mrow_new w n m z;have hB:=below_al (Below.refl _ w) (.cells (mvals n m z).toArray 53);obtain⟨W,hW⟩: ∃ W,W=w.alloc (.cells (mvals n m z).toArray 53):=⟨_,rfl⟩;rw [← hW] at rA hB;obtain⟨g,hg⟩: ∃ g,g=w.heap.size:=⟨_,rfl⟩;rw [← hg] at rA;have c0:=rA.rows;have c1:=rA.cols;have HR:=Hid.mkV rA;have hp36:=size_le h2 h4;obtain⟨p,hp⟩: ∃ p,p=n*m:=⟨_,rfl⟩;rw [← hp] at h0 hp36
 have e1:IntKind.i64.wrap ((n:Int)*(m:Int))=(p:Int):=by
  have:((n*m:Nat):Int)=(n:Int)*(m:Int):=by push_cast;rfl
  rw [← this,← hp,IntKind.wrap_i64];omega
 obtain⟨o,ho,e2⟩:=run_tail g p hp36;have HO:=Hid.mkV ho;have H0:=Hid.mkV h0;have HS:=Hid.mkV (size_yes n m W h1 h2 h3 h4);have HW:=Hid.mkV hW;have HG:=Hid.mkV hg;clear hp rA h0 ho hW hg;go_enter Tryz.func117,Tryz.ntmps117
 go_wp2_with (first
  |(rw [← HW.out,← HG.out];refine wpList_loadF (by rfl) _ (by rfl) _ _ _ (by rfl) (by with_reducible exact c0) ?_)
  |fail)
 refine HS.out.mono ?_;rintro e w' ⟨rfl,rfl⟩;go_wp2;go_loopw [20] (fun i wr=> ∃ k:Nat,k<=36- p/\i= .int .i64 (k:Int)/\wr=w') (fun i _=>(36- p)- (intOf i).toNat)
 case atStart=>exact⟨0,by omega,rfl,rfl⟩
 case round=>
  obtain⟨k,hk,rfl,rfl⟩:=hrel;by_cases h:k<36- p
  · have cc:=HR.out.cell (show p+k<36 by omega) (show o+k=p+k+2 by have:=HO.out (by omega);omega);rw [H0.out (p+k) (by omega) (by omega)] at cc;go_wp2;go_roundw
    case rel=>exact⟨k+1,by omega,by go_num,trivial⟩
    case measure=>simp [intOf];omega
  · obtain rfl:k=36- p:=by omega
    go_wp2;go_ret;exact⟨rfl,hB⟩
theorem check_size(r c:Int)(z:Nat->Int)(w:World)(h: ¬(1<=r/\r<=6/\1<=c/\c<=6)):
 Calls Tryz.prog 117 #[.agg (mvals r c z).toArray] w fun e w'=>e= .returned (.iface 93 (.int .i64 1))/\Below w.heap.size w w':=by
 have rA:=mrow_new w r c z;have hB:=below_al (Below.refl _ w) (.cells (mvals r c z).toArray 53);obtain⟨W,hW⟩: ∃ W,W=w.alloc (.cells (mvals r c z).toArray 53):=⟨_,rfl⟩;rw [← hW] at rA hB;obtain⟨g,hg⟩: ∃ g,g=w.heap.size:=⟨_,rfl⟩;rw [← hg] at rA;have c0:=rA.rows;have c1:=rA.cols;have HW:=Hid.mkV hW;have HG:=Hid.mkV hg;have HS:=Hid.mkV (size_no r c W h);clear rA hW hg h;go_enter Tryz.func117,Tryz.ntmps117
 go_wp2_with (first
  |(rw [← HW.out,← HG.out];refine wpList_loadF (by rfl) _ (by rfl) _ _ _ (by rfl) (by with_reducible exact c0) ?_)
  |fail)
 refine HS.out.mono ?_;rintro e w' ⟨rfl,rfl⟩;go_wp2;go_ret;exact⟨rfl,hB⟩
theorem check_nz(n m q:Nat)(z:Nat->Int)(w:World)(h1:1<=n)(h2:n<=6)(h3:1<=m)(h4:m<=6)(hq0:n*m<=q)(hq:q<36)(hz:z q≠0)(h0: ∀ k,n*m<=k->k<q->z k=0):
 Calls Tryz.prog 117 #[.agg (mvals n m z).toArray] w fun e w'=>e= .returned (.iface 93 (.int .i64 1))/\Below w.heap.size w w':=by
 have rA:=mrow_new w n m z;have hB:=below_al (Below.refl _ w) (.cells (mvals n m z).toArray 53);obtain⟨W,hW⟩: ∃ W,W=w.alloc (.cells (mvals n m z).toArray 53):=⟨_,rfl⟩;rw [← hW] at rA hB;obtain⟨g,hg⟩: ∃ g,g=w.heap.size:=⟨_,rfl⟩;rw [← hg] at rA;have c0:=rA.rows;have c1:=rA.cols;have HR:=Hid.mkV rA;have hp36:=size_le h2 h4;obtain⟨p,hp⟩: ∃ p,p=n*m:=⟨_,rfl⟩;rw [← hp] at h0 hp36 hq0
 have e1:IntKind.i64.wrap ((n:Int)*(m:Int))=(p:Int):=by
  have:((n*m:Nat):Int)=(n:Int)*(m:Int):=by push_cast;rfl
  rw [← this,← hp,IntKind.wrap_i64];omega
 obtain⟨o,ho,e2⟩:=run_tail g p hp36;have HO:=Hid.mkV ho;have H0:=Hid.mkV h0;have HZ:=Hid.mkV hz;have HS:=Hid.mkV (size_yes n m W h1 h2 h3 h4);have HW:=Hid.mkV hW;have HG:=Hid.mkV hg;clear hp rA h0 ho hW hg hz;go_enter Tryz.func117,Tryz.ntmps117
 go_wp2_with (first
  |(rw [← HW.out,← HG.out];refine wpList_loadF (by rfl) _ (by rfl) _ _ _ (by rfl) (by with_reducible exact c0) ?_)
  |fail)
 refine HS.out.mono ?_;rintro e w' ⟨rfl,rfl⟩;go_wp2;go_loopw [20] (fun i wr=> ∃ k:Nat,k<=q- p/\i= .int .i64 (k:Int)/\wr=w') (fun i _=>(36- p)- (intOf i).toNat)
 case atStart=>exact⟨0,by omega,rfl,rfl⟩
 case round=>
  obtain⟨k,hk,rfl,rfl⟩:=hrel;have cc:=HR.out.cell (show p+k<36 by omega) (show o+k=p+k+2 by have:=HO.out (by omega);omega);by_cases h:k<q- p
  · rw [H0.out (p+k) (by omega) (by omega)] at cc;go_wp2;go_roundw
    case rel=>exact⟨k+1,by omega,by go_num,trivial⟩
    case measure=>simp [intOf];omega
  · have hh:=HZ.out;rw [show q=p+k by omega] at hh;obtain⟨x,hx⟩: ∃ x,x=z (p+k):=⟨_,rfl⟩;rw [← hx] at hh cc;have e4:(x !=0)=true:=by rw [bne_iff_ne];exact hh
    clear hh hx;go_wp2;go_ret;exact⟨rfl,hB⟩
namespace Mt
theorem first_nz(z:Nat->Int)(p:Nat): ∀ t,(∀ k,p<=k->k<t->z k=0)\/ ∃ q,p<=q/\q<t/\z q≠0/\ ∀ k,p<=k->k<q->z k=0
 |0=>Or.inl fun k _ hk=>by omega
 |t+1=>by
  rcases first_nz z p t with h|⟨q,h1,h2,h3,h4⟩
  · by_cases c:p<=t/\z t≠0
    · exact Or.inr ⟨t,c.1,by omega,c.2,h⟩
    · refine Or.inl fun k hp hk=> ?_
      rcases Nat.lt_or_ge k t with d|d
      · exact h k hp d
      · obtain rfl:k=t:=by omega
        exact Classical.byContradiction fun e=>c ⟨hp,e⟩
  · exact Or.inr ⟨q,h1,by omega,h3,h4⟩
end Mt
theorem check_may{r c:Int}{z:Nat->Int}(w:World)(h:May r c z):Calls Tryz.prog 117 #[.agg (mvals r c z).toArray] w fun e w'=>e= .returned .nilIface/\Below w.heap.size w w':=by
 obtain⟨n,m,rfl,rfl,h1,h2,h3,h4,h5⟩:=h;exact check_yes n m z w h1 h2 h3 h4 h5
theorem check_not{r c:Int}{z:Nat->Int}(w:World)(h: ¬May r c z):Calls Tryz.prog 117 #[.agg (mvals r c z).toArray] w fun e w'=>e= .returned (.iface 93 (.int .i64 1))/\Below w.heap.size w w':=by
 by_cases hs:1<=r/\r<=6/\1<=c/\c<=6
 · obtain⟨n,rfl⟩: ∃ n:Nat,r=n:=⟨r.toNat,by omega⟩;obtain⟨m,rfl⟩: ∃ m:Nat,c=m:=⟨c.toNat,by omega⟩;rcases first_nz z (n*m) 36 with h0|⟨q,h1,h2,h3,h4⟩
   · exact absurd ⟨n,m,rfl,rfl,by omega,by omega,by omega,by omega,h0⟩ h
   · exact check_nz n m q z w (by omega) (by omega) (by omega) (by omega) h1 h2 h3 h4
 · exact check_size r c z w hs
end
section
open Go.RowKit Vc Mt
namespace Mt
def any2(G:Nat->Nat->Bool)(n m:Nat):Bool:=anyb (fun i=>anyb (G i) m) n
theorem any2_row(G:Nat->Nat->Bool)(k m:Nat):(any2 G k m||anyb (G k) m)=any2 G (k+1) m:=rfl
theorem any2_col(G:Nat->Nat->Bool)(k j m:Nat):(any2 G k m||anyb (G k) (j+1))=((any2 G k m||anyb (G k) j)||G k j):=by
 show(any2 G k m||(anyb (G k) j||G k j))=_;rw [Bool.or_assoc]
theorem any2_congr{G H:Nat->Nat->Bool}{n m:Nat}(h: ∀ i j,i<n->j<m->G i j=H i j):any2 G n m=any2 H n m:=anyb_congr fun i hi=>anyb_congr fun j hj=>h i j hi hj
theorem any2_false{G:Nat->Nat->Bool}{n m:Nat}:any2 G n m=false↔ ∀ i j,i<n->j<m->G i j=false:=by
 unfold any2;rw [anyb_false];exact⟨fun h i j hi hj=>anyb_false.1 (h i hi) j hj,fun h i hi=>anyb_false.2 fun j hj=>h i j hi hj⟩
end Mt
theorem byNumber_any(K:FuncId)(cs:Array Value)(hk: ∀ (xs:Array Value) (W:World),(callFunc K xs).run Tryz.prog W= .ok (.enter K xs) W)(n m:Nat)(F:Nat->Nat->Int)(G:Nat->Nat->Bool)(w:World)(h1:1<=n)(h2:n<=6)(h3:1<=m)(h4:m<=6)
 (hcl: ∀ i j,i<n->j<m-> ∀ w1,Below w.heap.size w w1->Calls Tryz.prog K (#[.int .i64 (i:Int), .int .i64 (j:Int)]++cs) w1 fun e w'=>e= .returned (.tuple #[.int .i64 (F i j), .bool (G i j), .nilIface])/\Below w1.heap.size w1 w'):
 Calls Tryz.prog 235 #[.int .i64 (n:Int), .int .i64 (m:Int), .func (.func K) #[] cs] w fun e w'=>e= .returned (.tuple #[.agg (mvals n m (mz n m F)).toArray, .bool (any2 G n m), .nilIface])/\Below w.heap.size w w':=by
 have rA:=(mrow_new w 0 0 (fun _=>0)).alloc (.cells (mvals 0 0 (fun _=>0)).toArray 53);have rO:=mrow_new1 w (.cells (mvals 0 0 (fun _=>0)).toArray 53) 0 0 (fun _=>0);have hB:=below_al (below_al (Below.refl _ w) (.cells (mvals 0 0 (fun _=>0)).toArray 53)) (.cells (mvals 0 0 (fun _=>0)).toArray 53);have HS:=Hid.mkV (fun W=>size_yes n m W h1 h2 h3 h4);have HCL:=Hid.mkV hcl;have HK:=Hid.mkV hk;have h36:=size_le h2 h4;clear hcl hk;go_enter Tryz.func235,Tryz.ntmps235
 go_wp2_with fail
 rw [zeroM];refine(HS.out _).mono ?_;rintro e w' ⟨rfl,rfl⟩
 go_wp2_with (first
  |(refine wpList_build2 rfl _ _ (by rfl) _ _ (by rfl) (by rfl) ?_)
  |(rw [zeroM];refine wpList_storeM rfl _ _ (by rfl) _ _ _ _ _ _ _ (by rfl) (by rfl) (by with_reducible exact rO) ?_)
  |fail)
 go_loopw [10,26] (fun gr i wr=> ∃ k:Nat,k<=n/\i= .int .i64 (k:Int)/\gr= .bool (any2 G k m)/\MRow wr (w.heap.size+1) n m (mpart m F (k*m))/\MRow wr w.heap.size 0 0 (fun _=>0)/\Below w.heap.size w wr) (fun _ i _=>n- (intOf i).toNat)
 case atStart=>exact⟨0,by omega,rfl,rfl,(rO.row _ _ _).congr (fun k _=>by rw [Nat.zero_mul,mpart_zero]),rA.rowOther (by omega) _,below_row hB (by omega) _⟩
 case round=>
  rename World=>wo;obtain⟨k,hk,rfl,rfl,rG,rR,kB⟩:=hrel;obtain⟨T0,hT0⟩: ∃ T,T=any2 G k m:=⟨_,rfl⟩;rw [← hT0];have HT0:=Hid.mkV hT0;clear hT0;by_cases h:k<n
  · obtain⟨p,hp⟩: ∃ p,p=k*m:=⟨_,rfl⟩;rw [← hp] at rG;have hpl:p+m<=n*m:=by rw [hp];exact place_le h
    have HP:=Hid.mkV hp;clear hp;go_wp2;go_loopw [10,30] (fun gr j ws=> ∃ t:Nat,t<=m/\j= .int .i64 (t:Int)/\gr= .bool (any2 G k m||anyb (G k) t)/\MRow ws (w.heap.size+1) n m (mpart m F (p+t))/\MRow ws w.heap.size 0 0 (fun _=>0)/\Below w.heap.size w ws) (fun _ j _=>m- (intOf j).toNat)
    case atStart=>exact⟨0,by omega,rfl,by rw [HT0.out];show _=Value.bool (any2 G k m||false);rw [Bool.or_false],rG,rR,kB⟩
    case round=>
     obtain⟨t,ht,rfl,rfl,rG1,rR1,kB1⟩:=hrel;obtain⟨T,hT⟩: ∃ T,T=(any2 G k m||anyb (G k) t):=⟨_,rfl⟩;by_cases h5:t<m
     · have HC:=Hid.mkV (HCL.out k t h h5 _ kB1);have HA:=Hid.mkV (any2_col G k t m);obtain⟨R,hR⟩: ∃ R,R=F k t:=⟨_,rfl⟩;obtain⟨g,hg⟩: ∃ g,g=G k t:=⟨_,rfl⟩;rw [← hR,← hg] at HC;rw [← hT,← hg] at HA;rw [← hT];have HR:=Hid.mkV hR;clear hR hg hT;go_wp2_with fail
       rw [HK.out,Oper.upon_enter];refine HC.out.mono ?_;rintro e w2 ⟨rfl,k2⟩;have rG2:=rG1.keep k2;have rR2:=rR1.keep k2;have kB2:=below_tr kB1 k2;go_wp2_with fail
       refine(row_any (w.heap.size+1) k m p n _ _ rG2 HP.out h4 (by omega) (by omega) (by omega)).mono ?_;rintro e w3 ⟨rfl,k3⟩;have rG3:=rG2.keep k3;have rR3:=rR2.keep k3;have kB3:=below_tr kB2 k3;have c3:=rG3.cell (show p+t<36 by omega) (show p+2+t=p+t+2 by omega);have f3:=rG3.free (p+2+t);have HG3:=Hid.mkV rG3;have HR3:=Hid.mkV rR3;have HB3:=Hid.mkV kB3;clear rG3 rR3 kB3 rG2 rR2 kB2 rG1 rR1 kB1 rG rR kB k2 k3;cases T
       all_goals go_wp2
       all_goals go_roundw
       all_goals first
        |(simp [intOf];omega)
        |(refine⟨t+1,by omega,by go_num,by rw [HA.out];first|rfl|simp,(HG3.out.set (p+t) R (by omega)).congr (fun i _=> ?_),HR3.out.other _ (by show w.heap.size≠w.heap.size+1;omega),HB3.out.trans (below_setM HB3.out.size (by show w.heap.size<=w.heap.size+1;omega) _)⟩
          rw [HR.out,HP.out]
          exact mpart_step h5 i)
     · obtain rfl:t=m:=by omega
       rw [← hT];have HT:=Hid.mkV hT;clear hT;go_wp2;go_roundw
       case rel=>exact⟨k+1,by omega,by go_num,by rw [HT.out,any2_row],by rw [Nat.succ_mul,← HP.out];exact rG1,rR1,kB1⟩
       case measure=>simp [intOf];omega
  · obtain rfl:k=n:=by omega
    go_wp2_with (first
     |(refine wpList_loadM (by rfl) _ (by rfl) _ _ _ _ (by rfl) (by with_reducible exact rG) ?_)
     |(refine wpList_storeM rfl _ _ (by rfl) _ _ _ _ _ _ _ (by rfl) (by rfl) (by with_reducible exact rR) ?_)
     |fail)
    exact bodyPost_ret (results_M3 Tryz.results235 _ _ w.heap.size _ _ _ rfl (rR.row _ _ _)) rfl ⟨by rw [← HT0.out];rfl,below_row kB (Nat.le_refl _) _⟩
section
set_option maxRecDepth 10000
theorem byNumber_Eye(n m:Nat)(F:Nat->Nat->Int)(G:Nat->Nat->Bool)(w:World)(h1:1<=n)(h2:n<=6)(h3:1<=m)(h4:m<=6)
 (hcl: ∀ i j,i<n->j<m-> ∀ w1,Below w.heap.size w w1->Calls Tryz.prog 286 #[.int .i64 (i:Int), .int .i64 (j:Int)] w1 fun e w'=>e= .returned (.tuple #[.int .i64 (F i j), .bool (G i j), .nilIface])/\Below w1.heap.size w1 w'):
 Calls Tryz.prog 235 #[.int .i64 (n:Int), .int .i64 (m:Int), .func (.func 286) #[] #[]] w fun e w'=>e= .returned (.tuple #[.agg (mvals n m (mz n m F)).toArray, .bool (any2 G n m), .nilIface])/\Below w.heap.size w w':=
 byNumber_any 286 #[] (fun _ _=>rfl) n m F G w h1 h2 h3 h4 hcl
theorem byNumber_Turn(p0:Value)(n m:Nat)(F:Nat->Nat->Int)(G:Nat->Nat->Bool)(w:World)(h1:1<=n)(h2:n<=6)(h3:1<=m)(h4:m<=6)
 (hcl: ∀ i j,i<n->j<m-> ∀ w1,Below w.heap.size w w1->Calls Tryz.prog 238 #[.int .i64 (i:Int), .int .i64 (j:Int),p0] w1 fun e w'=>e= .returned (.tuple #[.int .i64 (F i j), .bool (G i j), .nilIface])/\Below w1.heap.size w1 w'):
 Calls Tryz.prog 235 #[.int .i64 (n:Int), .int .i64 (m:Int), .func (.func 238) #[] #[p0]] w fun e w'=>e= .returned (.tuple #[.agg (mvals n m (mz n m F)).toArray, .bool (any2 G n m), .nilIface])/\Below w.heap.size w w':=
 byNumber_any 238 #[p0] (fun _ _=>rfl) n m F G w h1 h2 h3 h4 hcl
theorem byNumber_Even(p0:Value)(n m:Nat)(F:Nat->Nat->Int)(G:Nat->Nat->Bool)(w:World)(h1:1<=n)(h2:n<=6)(h3:1<=m)(h4:m<=6)
 (hcl: ∀ i j,i<n->j<m-> ∀ w1,Below w.heap.size w w1->Calls Tryz.prog 241 #[.int .i64 (i:Int), .int .i64 (j:Int),p0] w1 fun e w'=>e= .returned (.tuple #[.int .i64 (F i j), .bool (G i j), .nilIface])/\Below w1.heap.size w1 w'):
 Calls Tryz.prog 235 #[.int .i64 (n:Int), .int .i64 (m:Int), .func (.func 241) #[] #[p0]] w fun e w'=>e= .returned (.tuple #[.agg (mvals n m (mz n m F)).toArray, .bool (any2 G n m), .nilIface])/\Below w.heap.size w w':=
 byNumber_any 241 #[p0] (fun _ _=>rfl) n m F G w h1 h2 h3 h4 hcl
theorem byNumber_byPairs(p0 p1 p2:Value)(n m:Nat)(F:Nat->Nat->Int)(G:Nat->Nat->Bool)(w:World)(h1:1<=n)(h2:n<=6)(h3:1<=m)(h4:m<=6)
 (hcl: ∀ i j,i<n->j<m-> ∀ w1,Below w.heap.size w w1->Calls Tryz.prog 280 #[.int .i64 (i:Int), .int .i64 (j:Int),p0,p1,p2] w1 fun e w'=>e= .returned (.tuple #[.int .i64 (F i j), .bool (G i j), .nilIface])/\Below w1.heap.size w1 w'):
 Calls Tryz.prog 235 #[.int .i64 (n:Int), .int .i64 (m:Int), .func (.func 280) #[] #[p0,p1,p2]] w fun e w'=>e= .returned (.tuple #[.agg (mvals n m (mz n m F)).toArray, .bool (any2 G n m), .nilIface])/\Below w.heap.size w w':=
 byNumber_any 280 #[p0,p1,p2] (fun _ _=>rfl) n m F G w h1 h2 h3 h4 hcl
theorem byNumber_Mul(p0 p1:Value)(n m:Nat)(F:Nat->Nat->Int)(G:Nat->Nat->Bool)(w:World)(h1:1<=n)(h2:n<=6)(h3:1<=m)(h4:m<=6)
 (hcl: ∀ i j,i<n->j<m-> ∀ w1,Below w.heap.size w w1->Calls Tryz.prog 239 #[.int .i64 (i:Int), .int .i64 (j:Int),p0,p1] w1 fun e w'=>e= .returned (.tuple #[.int .i64 (F i j), .bool (G i j), .nilIface])/\Below w1.heap.size w1 w'):
 Calls Tryz.prog 235 #[.int .i64 (n:Int), .int .i64 (m:Int), .func (.func 239) #[] #[p0,p1]] w fun e w'=>e= .returned (.tuple #[.agg (mvals n m (mz n m F)).toArray, .bool (any2 G n m), .nilIface])/\Below w.heap.size w w':=
 byNumber_any 239 #[p0,p1] (fun _ _=>rfl) n m F G w h1 h2 h3 h4 hcl
theorem byNumber_Apply(p0 p1:Value)(n m:Nat)(F:Nat->Nat->Int)(G:Nat->Nat->Bool)(w:World)(h1:1<=n)(h2:n<=6)(h3:1<=m)(h4:m<=6)
 (hcl: ∀ i j,i<n->j<m-> ∀ w1,Below w.heap.size w w1->Calls Tryz.prog 236 #[.int .i64 (i:Int), .int .i64 (j:Int),p0,p1] w1 fun e w'=>e= .returned (.tuple #[.int .i64 (F i j), .bool (G i j), .nilIface])/\Below w1.heap.size w1 w'):
 Calls Tryz.prog 235 #[.int .i64 (n:Int), .int .i64 (m:Int), .func (.func 236) #[] #[p0,p1]] w fun e w'=>e= .returned (.tuple #[.agg (mvals n m (mz n m F)).toArray, .bool (any2 G n m), .nilIface])/\Below w.heap.size w w':=
 byNumber_any 236 #[p0,p1] (fun _ _=>rfl) n m F G w h1 h2 h3 h4 hcl
theorem byNumber_Outer(p0 p1:Value)(n m:Nat)(F:Nat->Nat->Int)(G:Nat->Nat->Bool)(w:World)(h1:1<=n)(h2:n<=6)(h3:1<=m)(h4:m<=6)
 (hcl: ∀ i j,i<n->j<m-> ∀ w1,Below w.heap.size w w1->Calls Tryz.prog 299 #[.int .i64 (i:Int), .int .i64 (j:Int),p0,p1] w1 fun e w'=>e= .returned (.tuple #[.int .i64 (F i j), .bool (G i j), .nilIface])/\Below w1.heap.size w1 w'):
 Calls Tryz.prog 235 #[.int .i64 (n:Int), .int .i64 (m:Int), .func (.func 299) #[] #[p0,p1]] w fun e w'=>e= .returned (.tuple #[.agg (mvals n m (mz n m F)).toArray, .bool (any2 G n m), .nilIface])/\Below w.heap.size w w':=
 byNumber_any 299 #[p0,p1] (fun _ _=>rfl) n m F G w h1 h2 h3 h4 hcl
end
end
section
open Go.RowKit Vc Mt
namespace Mt
theorem any2_no(n m:Nat):any2 (fun _ _=>false) n m=false:=any2_false.2 fun _ _ _ _=>rfl
theorem may_mz{n m:Nat}{F:Nat->Nat->Int}(h1:1<=n)(h2:n<=6)(h3:1<=m)(h4:m<=6):May n m (mz n m F):=⟨n,m,rfl,rfl,h1,h2,h3,h4,fun k hk _=>mz_behind hk⟩
end Mt
theorem mat_any(n m i j:Nat)(F:Nat->Nat->Int)(w:World)(h1:1<=n)(h2:n<=6)(h3:1<=m)(h4:m<=6)(hi:i<n)(hj:j<m):
 Calls Tryz.prog 245 #[.agg (mvals n m (mz n m F)).toArray, .int .i64 (i:Int), .int .i64 (j:Int)] w fun e w'=>e= .returned (.tuple #[.int .i64 (F i j), .nilIface])/\Below w.heap.size w w':=by
 have rA:=mrow_new w n m (mz n m F);have hB:=below_al (Below.refl _ w) (.cells (mvals n m (mz n m F)).toArray 53);obtain⟨z,hz⟩: ∃ z,z=mz n m F:=⟨_,rfl⟩;have hM:May n m z:=by rw [hz];exact may_mz h1 h2 h3 h4
 have hF:Hid (z (i*m+j)=F i j):=by rw [hz];exact mz_at hi hj
 rw [← hz] at rA hB;rw [← hz];obtain⟨W,hW⟩: ∃ W,W=w.alloc (.cells (mvals n m z).toArray 53):=⟨_,rfl⟩;obtain⟨g,hg⟩: ∃ g,g=w.heap.size:=⟨_,rfl⟩;rw [← hW] at rA hB;rw [← hg] at rA;have HW:=Hid.mkV hW;have HG:=Hid.mkV hg;have HM:=Hid.mkV hM;have h36:=size_le h2 h4;obtain⟨p,hp⟩: ∃ p,p=i*m:=⟨_,rfl⟩;rw [← hp] at hF;have hpl:p+m<=n*m:=by rw [hp];exact place_le hi
 have HP:=Hid.mkV hp;have ei:decide (0<=(i:Int)/\(i:Int)<n)=true:=decide_eq_true ⟨by omega,by omega⟩;have ej:decide (0<=(j:Int)/\(j:Int)<m)=true:=decide_eq_true ⟨by omega,by omega⟩;clear hz hW hg hM hp;go_enter Tryz.func245,Tryz.ntmps245
 go_wp2_with (first
  |(rw [← HW.out,← HG.out];refine wpList_loadM (by rfl) _ (by rfl) _ _ _ _ (by rfl) (by with_reducible exact rA) ?_)
  |fail)
 refine(check_may W HM.out).mono ?_;rintro e w1 ⟨rfl,k1⟩;have r1:=rA.keep k1;have B1:=below_tr hB k1;have c0:=r1.rows;have c1:=r1.cols;clear rA hB k1;go_wp2_with fail
 refine(within_any i n w1).mono ?_;rintro e w2 ⟨rfl,rfl⟩;rw [ei];go_wp2_with fail
 refine(within_any j m w2).mono ?_;rintro e w3 ⟨rfl,rfl⟩;rw [ej];go_wp2_with fail
 refine(row_any g i m p n _ w3 r1 HP.out h4 (by omega) (by omega) (by omega)).mono ?_;rintro e w4 ⟨rfl,k4⟩;have r4:=r1.keep k4;have cc:=r4.cell (show p+j<36 by omega) (show p+2+j=p+j+2 by omega);rw [hF.out] at cc;go_wp2;go_ret2;exact⟨rfl,below_tr B1 k4⟩
theorem mrow_any(n m i:Nat)(F:Nat->Nat->Int)(w:World)(h1:1<=n)(h2:n<=6)(h3:1<=m)(h4:m<=6)(hi:i<n):
 Calls Tryz.prog 118 #[.agg (mvals n m (mz n m F)).toArray, .int .i64 (i:Int)] w fun e w'=> ∃ co cc,e= .returned (.tuple #[.slice co m cc, .nilIface])/\Sl w' co m cc (F i)/\Fresh w.heap.size co/\Below w.heap.size w w':=by
 have rA:=mrow_new w n m (mz n m F);have hB:=below_al (Below.refl _ w) (.cells (mvals n m (mz n m F)).toArray 53);obtain⟨z,hz⟩: ∃ z,z=mz n m F:=⟨_,rfl⟩;have hM:May n m z:=by rw [hz];exact may_mz h1 h2 h3 h4
 have hF:Hid (∀ j,j<m->z (i*m+j)=F i j):=by rw [hz];exact fun j hj=>mz_at hi hj
 rw [← hz] at rA hB;rw [← hz];obtain⟨W,hW⟩: ∃ W,W=w.alloc (.cells (mvals n m z).toArray 53):=⟨_,rfl⟩;obtain⟨g,hg⟩: ∃ g,g=w.heap.size:=⟨_,rfl⟩;rw [← hW] at rA hB;rw [← hg] at rA;have HW:=Hid.mkV hW;have HG:=Hid.mkV hg;have HM:=Hid.mkV hM;have h36:=size_le h2 h4;obtain⟨p,hp⟩: ∃ p,p=i*m:=⟨_,rfl⟩;rw [← hp] at hF;have hpl:p+m<=n*m:=by rw [hp];exact place_le hi
 have HP:=Hid.mkV hp;have ei:decide (0<=(i:Int)/\(i:Int)<n)=true:=decide_eq_true ⟨by omega,by omega⟩;clear hz hW hg hM hp;go_enter Tryz.func118,Tryz.ntmps118
 go_wp2_with (first
  |(rw [← HW.out,← HG.out];refine wpList_loadM (by rfl) _ (by rfl) _ _ _ _ (by rfl) (by with_reducible exact rA) ?_)
  |fail)
 refine(check_may W HM.out).mono ?_;rintro e w1 ⟨rfl,k1⟩;have r1:=rA.keep k1;have B1:=below_tr hB k1;have c0:=r1.rows;have c1:=r1.cols;clear rA hB k1;go_wp2_with fail
 refine(within_any i n w1).mono ?_;rintro e w2 ⟨rfl,rfl⟩;rw [ei];go_wp2_with fail
 refine(row_any g i m p n _ w2 r1 HP.out h4 (by omega) (by omega) (by omega)).mono ?_;rintro e w4 ⟨rfl,k4⟩;have r4:=r1.keep k4;have s4:Sl w4 (some ⟨g,p+2,none⟩) m (36- p) (F i):=(r4.sl (by omega) (by omega) (by omega) rfl).congr hF.out;have B4:=below_tr B1 k4;go_wp2_with fail
 refine(copied_any _ m _ _ w4 s4 (by omega)).mono ?_;rintro e w5 ⟨co,cc,rfl,s5,f5,k5⟩;have hsz:=B4.size;go_wp2;go_ret2;exact⟨co,cc,rfl,s5,fun x hx=>Nat.le_trans hsz (f5 x hx),below_tr B4 k5⟩
theorem mteFa1{p:Prop}(h:p:=by
 rintro e w1 ⟨rfl,k1⟩;have r1:=rA.keep k1;have rR:=r1.alloc (.cells (mvals 0 0 (fun _=>0)).toArray 53);have rN:=mrow_new w1 0 0 (fun _=>0);have B1:=below_tr hB k1;have B2:=below_al B1 (.cells (mvals 0 0 (fun _=>0)).toArray 53);have hne:w.heap.size≠w1.heap.size:=by have:=r1.lt;omega
 go_wp2_with (first
  |(rw [zeroM];refine wpList_storeM rfl _ _ (by rfl) _ _ _ _ _ _ _ (by rfl) (by rfl) (by with_reducible exact rN) ?_)
  |(refine wpList_loadM (by rfl) _ (by rfl) _ _ _ _ (by rfl) (by with_reducible exact rN.row _ _ _) ?_)
  |(refine wpList_storeM rfl _ _ (by rfl) _ _ _ _ _ _ _ (by rfl) (by rfl) (by with_reducible exact rR.rowOther hne _) ?_)
  |fail)
 exact bodyPost_ret (results_M2 Tryz.results251 _ _ w.heap.size _ _ _ rfl ((rR.rowOther hne _).row _ _ _)) rfl ⟨rfl,below_row (below_row B2 B1.size _) (Nat.le_refl _) _⟩):p:=h
theorem meye1_any(i j:Nat)(w:World)(hi:i<=6)(hj:j<=6):
 Calls Tryz.prog 286 #[.int .i64 (i:Int), .int .i64 (j:Int)] w fun e w'=>e= .returned (.tuple #[.int .i64 (if i=j then 1048576 else 0), .bool false, .nilIface])/\Below w.heap.size w w':=by
 by_cases h:i=j
 · subst h;rw [if_pos rfl];go_enter Tryz.func286,Tryz.ntmps286
   go_wp2;go_ret3;exact⟨rfl,Below.refl _ _⟩
 · rw [if_neg h];have e1:(((i:Nat):Int)==((j:Nat):Int))=false:=beq_eq_false_iff_ne.2 (by omega);clear h;go_enter Tryz.func286,Tryz.ntmps286
   go_wp2;go_ret3;exact⟨rfl,Below.refl _ _⟩
namespace Mt
def eyeF:Nat->Nat->Int:=fun i j=>if i=j then 1048576 else 0
end Mt
theorem meye_any(n:Nat)(w:World)(h1:1<=n)(h2:n<=6):
 Calls Tryz.prog 251 #[.int .i64 (n:Int)] w fun e w'=>e= .returned (.tuple #[.agg (mvals n n (mz n n eyeF)).toArray, .nilIface])/\Below w.heap.size w w':=by
 have rA:=mrow_new w 0 0 (fun _=>0);have hB:=below_al (Below.refl _ w) (.cells (mvals 0 0 (fun _=>0)).toArray 53);obtain⟨W,hW⟩: ∃ W,W=w.alloc (.cells (mvals 0 0 (fun _=>0)).toArray 53):=⟨_,rfl⟩;rw [← hW] at rA hB;have HW:=Hid.mkV hW;have HN:=Hid.mkV (byNumber_Eye n n eyeF (fun _ _=>false) W h1 h2 h1 h2 (fun i j hi hj w1 _=>meye1_any i j w1 (by omega) (by omega)));rw [any2_no] at HN;clear hW;obtain⟨z,hz⟩: ∃ z,z=mz n n eyeF:=⟨_,rfl⟩;rw [← hz] at HN;rw [← hz];clear hz;go_enter Tryz.func251,Tryz.ntmps251
 go_wp2_with fail
 rw [zeroM,← HW.out];refine HN.out.mono ?_;exact mteFa1
end
section
open Go.RowKit Vc Mt
namespace Mt
theorem splice_mvals(r c:Int)(z y:Nat->Int)(p m:Nat)(h:p+m<=36):splice (mvals r c z) (p+2) (vals m y)=mvals r c (fun k=>if p<=k/\k<p+m then y (k- p) else z k):=by
 apply List.ext_getElem?;intro i;unfold splice;rw [vals_len];have hl:(mvals r c z).length=38:=mvals_len r c z;match i with
 |0=>simp [mvals,List.getElem?_append]
 |1=>simp [mvals,List.getElem?_append]
 |i+2=>
  by_cases h1:i<p
  · rw [List.getElem?_append_left (by rw [List.length_take,hl];omega),List.getElem?_take,if_pos (by omega),mvals_at (by omega),mvals_at (by omega),if_neg (by omega)]
  · rw [List.getElem?_append_right (by rw [List.length_take,hl];omega),List.length_take,hl];by_cases h2:i<p+m
    · rw [List.getElem?_append_left (by rw [vals_len];omega),show i+2- min (p+2) 38=i- p by omega,vals_at (by omega),mvals_at (by omega),if_pos ⟨by omega,h2⟩]
    · rw [List.getElem?_append_right (by rw [vals_len];omega),vals_len,List.getElem?_drop,show p+2+m+(i+2- min (p+2) 38- m)=i+2 by omega];by_cases h3:i<36
      · rw [mvals_at h3,mvals_at h3,if_neg (by omega)]
      · rw [List.getElem?_eq_none (by rw [mvals_len];omega),List.getElem?_eq_none (by rw [mvals_len];omega)]
theorem mpart_row{c i:Nat}{F:Nat->Nat->Int}(k:Nat):(if i*c<=k/\k<i*c+c then F i (k- i*c) else mpart c F (i*c) k)=mpart c F ((i+1)*c) k:=by
 unfold mpart;rw [Nat.succ_mul];by_cases h1:k<i*c
 · rw [if_neg (by omega),if_pos h1,if_pos (by omega)]
 · by_cases h2:k<i*c+c
   · rw [if_pos ⟨by omega,h2⟩,if_pos h2];have e:k=i*c+(k- i*c):=by omega
     rw [show F (k/c) (k%c)=F ((i*c+(k- i*c))/c) ((i*c+(k- i*c))%c) by rw [← e],place_div (by omega),place_mod (by omega)]
   · rw [if_neg (by omega),if_neg h1,if_neg h2]
end Mt
theorem mof_any(n m:Nat)(lo:Option Addr)(cm:Nat)(A:Nat->Option Addr)(C:Nat->Nat)(Z:Nat->Nat->Int)(w:World)(h1:1<=n)(h2:n<=6)(h3:1<=m)(h4:m<=6)(h:Sls w lo n cm A (fun _=>m) C)(hz: ∀ k,k<n->Sl w (A k) m (C k) (Z k)):
 Calls Tryz.prog 140 #[.slice lo n cm] w fun e w'=>e= .returned (.tuple #[.agg (mvals n m (mz n m Z)).toArray, .nilIface])/\Below w.heap.size w w':=by
 obtain⟨x,hlo,hc⟩:=h.get;obtain rfl:=hlo (by omega);have l1:=h.le;have l2:=h.cap;have rA:=mrow_new w 0 0 (fun _=>0);have hB:=below_al (Below.refl _ w) (.cells (mvals 0 0 (fun _=>0)).toArray 53);obtain⟨W,hW⟩: ∃ W,W=w.alloc (.cells (mvals 0 0 (fun _=>0)).toArray 53):=⟨_,rfl⟩;have hsz:W.heap.size=w.heap.size+1:=by rw [hW];simp
 rw [← hW] at rA hB;have c0:W.cell? x=some (.slice (A 0) m (C 0)):=keep_cell hB (hc 0 (by omega));have HW:=Hid.mkV hW;have HC:=Hid.mkV hc;have HZ:=Hid.mkV hz;have HS:=Hid.mkV (size_yes n m W h1 h2 h3 h4);have h36:=size_le h2 h4;have rN:=mrow_new W 0 0 (fun _=>0);have rR:=rA.alloc (.cells (mvals 0 0 (fun _=>0)).toArray 53);have hBN:=below_al hB (.cells (mvals 0 0 (fun _=>0)).toArray 53);have en:((n:Int)==0)=false:=beq_eq_false_iff_ne.2 (by omega);obtain⟨g,hg⟩: ∃ g,g=W.heap.size:=⟨_,rfl⟩;rw [← hg] at rN;have hwg:w.heap.size<g:=by omega
 have HG:=Hid.mkV hg;clear hW hc hz h hlo hg hsz;go_enter Tryz.func140,Tryz.ntmps140
 go_wp2_with (first
  |(rw [zeroM,← HW.out])
  |fail)
 refine HS.out.mono ?_;rintro e w' ⟨rfl,rfl⟩
 go_wp2_with (first
  |(refine wpList_build2 rfl _ _ (by rfl) _ _ (by rfl) (by rfl) ?_)
  |(rw [zeroM,← HG.out];refine wpList_storeM rfl _ _ (by rfl) _ _ _ _ _ _ _ (by rfl) (by rfl) (by with_reducible exact rN) ?_)
  |fail)
 go_loopw [31] (fun i wr=> ∃ k:Nat,k<=n/\i= .int .i64 (k:Int)/\MRow wr g n m (mpart m Z (k*m))/\MRow wr w.heap.size 0 0 (fun _=>0)/\Below w.heap.size w wr) (fun i _=>n- (intOf i).toNat)
 case atStart=>exact⟨0,by omega,rfl,(rN.row _ _ _).congr (fun k _=>by rw [Nat.zero_mul,mpart_zero]),rR.rowOther (by omega) _,below_row hBN (by omega) _⟩
 case round=>
  obtain⟨k,hk,rfl,rG,rR1,kB⟩:=hrel;by_cases h:k<n
  ·have c1:=keep_cell kB (HC.out k h);have cm1:=rG.cols;have sZ:=(HZ.out k h).keep kB;obtain⟨p,hp⟩: ∃ p,p=k*m:=⟨_,rfl⟩;rw [← hp] at rG;have hpl:p+m<=n*m:=by rw [hp];exact place_le h
   have HP:=Hid.mkV hp;have l3:=sZ.le;have l4:=sZ.cap;have HSZ:=Hid.mkV sZ;obtain⟨ak,hak⟩: ∃ ak,ak=A k:=⟨_,rfl⟩;obtain⟨ck,hck⟩: ∃ ck,ck=C k:=⟨_,rfl⟩;rw [← hak,← hck] at HSZ c1;rw [← hck] at l3 l4;clear hp sZ hak hck;go_wp2_with fail
   refine(row_any g k m p n _ _ rG HP.out h4 (by omega) (by omega) (by omega)).mono ?_;rintro e w3 ⟨rfl,k3⟩;have r3:=rG.keep k3;have q3:=rR1.keep k3;have B3:=below_tr kB k3;have S3:=Hid.mkV (HSZ.out.keep k3);obtain⟨Y,hY⟩: ∃ Y,Y=vals m (Z k):=⟨_,rfl⟩;obtain⟨X,hX⟩: ∃ X,X=mvals n m (mpart m Z p):=⟨_,rfl⟩;have r3':=Hid.mkV r3;have hg3:Hid (w3.heap[g]?=some (.cells X.toArray 53 (0,0))):=by rw [hX];exact r3
   have HY:=Hid.mkV hY;have HX:=Hid.mkV hX;have Q3:=Hid.mkV q3;have BB3:=Hid.mkV B3;clear hY hX rG rR1 kB r3 q3 B3;go_wp2_with (refine wpList_copy_splice rfl _ _ 27 27 (by rfl) 2 Tryz.underlying27 sizeI64 _ _ _ _ _ _ (by rfl) (by rfl) g (p+2) X 53 hg3.out Y (by rw [HY.out,vals_len];exact(Nat.min_self m).symm) (fun h0=>⟨rfl,by rw [HY.out] at h0 ⊢;exact Sl.src S3.out (by rwa [vals_len] at h0)⟩) (by rw [HY.out,HX.out,vals_len,mvals_len];omega) (by rw [HY.out];exact one_vals m _) g w3 (Below.refl _ _) (Nat.le_refl _) ?_)
   intro w4 hw4 hB4
   have r4:MRow w4 g n m (mpart m Z ((k+1)*m)):=by
    have e:=hw4.out;rw [HY.out,HX.out,splice_mvals _ _ _ _ p m (by omega)] at e;exact(show MRow w4 g n m _ from e).congr (fun i _=>by rw [HP.out];exact mpart_row i)
   have q4:MRow w4 w.heap.size 0 0 (fun _=>0):=by
    unfold MRow;rw [hB4.block _ hwg];exact Q3.out
   have B4:Below w.heap.size w w4:=BB3.out.trans (hB4.mono (by omega));clear hw4 hB4;go_wp2;go_roundw
   case rel=>exact⟨k+1,by omega,by go_num,r4,q4,B4⟩
   case measure=>simp [intOf];omega
  ·obtain rfl:k=n:=by omega
   go_wp2_with (first
    |(refine wpList_loadM (by rfl) _ (by rfl) _ _ _ _ (by rfl) (by with_reducible exact rG) ?_)
    |(refine wpList_storeM rfl _ _ (by rfl) _ _ _ _ _ _ _ (by rfl) (by rfl) (by with_reducible exact rR1) ?_)
    |fail)
   exact bodyPost_ret (results_M2 Tryz.results140 _ _ w.heap.size _ _ _ rfl (rR1.row _ _ _)) rfl ⟨rfl,below_row kB (Nat.le_refl _) _⟩
theorem mof_nil(lo:Option Addr)(cm:Nat)(w:World):
 Calls Tryz.prog 140 #[.slice lo 0 cm] w fun e w'=>e= .returned (.tuple #[.agg (mvals 0 0 (fun _=>0)).toArray, .iface 93 (.int .i64 1)])/\Below w.heap.size w w':=by
 have rA:=mrow_new w 0 0 (fun _=>0);have hB:=below_al (Below.refl _ w) (.cells (mvals 0 0 (fun _=>0)).toArray 53);go_enter Tryz.func140,Tryz.ntmps140
 go_wp2_with (first
  |(refine wpList_build0 rfl (by rfl) ?_)
  |(rw [zeroM];refine wpList_storeM rfl _ _ (by rfl) _ _ _ _ _ _ _ (by rfl) (by rfl) (by with_reducible exact rA) ?_)
  |fail)
 exact bodyPost_ret (results_M2 Tryz.results140 _ _ w.heap.size _ _ _ rfl (rA.row _ _ _)) rfl ⟨rfl,below_row hB (Nat.le_refl _) _⟩
theorem mof_size(n:Nat)(lo:Option Addr)(cm:Nat)(A:Nat->Option Addr)(L C:Nat->Nat)(w:World)(h1:1<=n)(h:Sls w lo n cm A L C)(hL:L 0<=9223372036854775807)(hbad: ¬(n<=6/\1<=L 0/\L 0<=6)):
 Calls Tryz.prog 140 #[.slice lo n cm] w fun e w'=>e= .returned (.tuple #[.agg (mvals 0 0 (fun _=>0)).toArray, .iface 93 (.int .i64 1)])/\Below w.heap.size w w':=by
 obtain⟨x,hlo,hc⟩:=h.get;obtain rfl:=hlo (by omega);have l1:=h.le;have l2:=h.cap;have rA:=mrow_new w 0 0 (fun _=>0);have hB:=below_al (Below.refl _ w) (.cells (mvals 0 0 (fun _=>0)).toArray 53);obtain⟨W,hW⟩: ∃ W,W=w.alloc (.cells (mvals 0 0 (fun _=>0)).toArray 53):=⟨_,rfl⟩;rw [← hW] at rA hB;obtain⟨m,hm⟩: ∃ m,m=L 0:=⟨_,rfl⟩;have c0:W.cell? x=some (.slice (A 0) (L 0) (C 0)):=keep_cell hB (hc 0 (by omega));rw [← hm] at hbad hL c0;have HW:=Hid.mkV hW;have HS:=Hid.mkV (size_no n m W (by omega));have en:((n:Int)==0)=false:=beq_eq_false_iff_ne.2 (by omega);clear hW hc h hlo hm hbad;go_enter Tryz.func140,Tryz.ntmps140
 go_wp2_with (first
  |(rw [zeroM,← HW.out])
  |fail)
 refine HS.out.mono ?_;rintro e w' ⟨rfl,rfl⟩
 go_wp2_with (first
  |(refine wpList_build0 rfl (by rfl) ?_)
  |(refine wpList_storeM rfl _ _ (by rfl) _ _ _ _ _ _ _ (by rfl) (by rfl) (by with_reducible exact rA) ?_)
  |fail)
 exact bodyPost_ret (results_M2 Tryz.results140 _ _ w.heap.size _ _ _ rfl (rA.row _ _ _)) rfl ⟨rfl,below_row hB (Nat.le_refl _) _⟩
theorem mof_other(n m q:Nat)(lo:Option Addr)(cm:Nat)(A:Nat->Option Addr)(L C:Nat->Nat)(Z:Nat->Nat->Int)(w:World)(h1:1<=n)(h2:n<=6)(h3:1<=m)(h4:m<=6)(h:Sls w lo n cm A L C)(hz: ∀ k,k<n->Sl w (A k) (L k) (C k) (Z k))
 (hm:L 0=m) (hq:q<n) (hbad:L q≠m) (hok: ∀ k,k<q->L k=m):
 Calls Tryz.prog 140 #[.slice lo n cm] w fun e w'=>e= .returned (.tuple #[.agg (mvals 0 0 (fun _=>0)).toArray, .iface 93 (.int .i64 1)])/\Below w.heap.size w w':=by
 obtain⟨x,hlo,hc⟩:=h.get;obtain rfl:=hlo (by omega);have l1:=h.le;have l2:=h.cap;have rA:=mrow_new w 0 0 (fun _=>0);have hB:=below_al (Below.refl _ w) (.cells (mvals 0 0 (fun _=>0)).toArray 53);obtain⟨W,hW⟩: ∃ W,W=w.alloc (.cells (mvals 0 0 (fun _=>0)).toArray 53):=⟨_,rfl⟩;have hsz:W.heap.size=w.heap.size+1:=by rw [hW];simp
 rw [← hW] at rA hB;have c0:W.cell? x=some (.slice (A 0) m (C 0)):=by rw [← hm];exact keep_cell hB (hc 0 (by omega))
 have HW:=Hid.mkV hW;have HC:=Hid.mkV hc;have HZ:=Hid.mkV hz;have HOK:=Hid.mkV hok;have HBAD:=Hid.mkV hbad;have HS:=Hid.mkV (size_yes n m W h1 h2 h3 h4);have h36:=size_le h2 h4;have rN:=mrow_new W 0 0 (fun _=>0);have rR:=rA.alloc (.cells (mvals 0 0 (fun _=>0)).toArray 53);have hBN:=below_al hB (.cells (mvals 0 0 (fun _=>0)).toArray 53);have en:((n:Int)==0)=false:=beq_eq_false_iff_ne.2 (by omega);obtain⟨g,hg⟩: ∃ g,g=W.heap.size:=⟨_,rfl⟩;rw [← hg] at rN;have hwg:w.heap.size<g:=by omega
 have HG:=Hid.mkV hg;clear hW hc hz h hlo hg hsz hbad hok hm;go_enter Tryz.func140,Tryz.ntmps140
 go_wp2_with (first
  |(rw [zeroM,← HW.out])
  |fail)
 refine HS.out.mono ?_;rintro e w' ⟨rfl,rfl⟩
 go_wp2_with (first
  |(refine wpList_build2 rfl _ _ (by rfl) _ _ (by rfl) (by rfl) ?_)
  |(rw [zeroM,← HG.out];refine wpList_storeM rfl _ _ (by rfl) _ _ _ _ _ _ _ (by rfl) (by rfl) (by with_reducible exact rN) ?_)
  |fail)
 go_loopw [31] (fun i wr=> ∃ (k:Nat) (z:Nat->Int),k<=q/\i= .int .i64 (k:Int)/\MRow wr g n m z/\MRow wr w.heap.size 0 0 (fun _=>0)/\Below w.heap.size w wr) (fun i _=>n- (intOf i).toNat)
 case atStart=>exact⟨0,_,by omega,rfl,rN.row _ _ _,rR.rowOther (by omega) _,below_row hBN (by omega) _⟩
 case round=>
  obtain⟨k,z,hk,rfl,rG,rR1,kB⟩:=hrel;have h:k<n:=by omega
  have c1:=keep_cell kB (HC.out k h);have cm1:=rG.cols;have sZ:=(HZ.out k h).keep kB;by_cases hkq:k<q
  ·rw [HOK.out k hkq] at c1 sZ;obtain⟨p,hp⟩: ∃ p,p=k*m:=⟨_,rfl⟩;have hpl:p+m<=n*m:=by rw [hp];exact place_le h
   have HP:=Hid.mkV hp;have l3:=sZ.le;have l4:=sZ.cap;have HSZ:=Hid.mkV sZ;obtain⟨ak,hak⟩: ∃ ak,ak=A k:=⟨_,rfl⟩;obtain⟨ck,hck⟩: ∃ ck,ck=C k:=⟨_,rfl⟩;rw [← hak,← hck] at HSZ c1;rw [← hck] at l3 l4;clear hp sZ hak hck;go_wp2_with fail
   refine(row_any g k m p n _ _ rG HP.out h4 (by omega) (by omega) (by omega)).mono ?_;rintro e w3 ⟨rfl,k3⟩;have r3:=rG.keep k3;have q3:=rR1.keep k3;have B3:=below_tr kB k3;have S3:=Hid.mkV (HSZ.out.keep k3);obtain⟨Y,hY⟩: ∃ Y,Y=vals m (Z k):=⟨_,rfl⟩;obtain⟨X,hX⟩: ∃ X,X=mvals n m z:=⟨_,rfl⟩;have hg3:Hid (w3.heap[g]?=some (.cells X.toArray 53 (0,0))):=by rw [hX];exact r3
   have HY:=Hid.mkV hY;have HX:=Hid.mkV hX;have Q3:=Hid.mkV q3;have BB3:=Hid.mkV B3;clear hY hX rG rR1 kB r3 q3 B3;go_wp2_with (refine wpList_copy_splice rfl _ _ 27 27 (by rfl) 2 Tryz.underlying27 sizeI64 _ _ _ _ _ _ (by rfl) (by rfl) g (p+2) X 53 hg3.out Y (by rw [HY.out,vals_len];exact(Nat.min_self m).symm) (fun h0=>⟨rfl,by rw [HY.out] at h0 ⊢;exact Sl.src S3.out (by rwa [vals_len] at h0)⟩) (by rw [HY.out,HX.out,vals_len,mvals_len];omega) (by rw [HY.out];exact one_vals m _) g w3 (Below.refl _ _) (Nat.le_refl _) ?_)
   intro w4 hw4 hB4
   have r4: ∃ z',MRow w4 g n m z':=by
    have e:=hw4.out;rw [HY.out,HX.out,splice_mvals _ _ _ _ p m (by omega)] at e;exact⟨_,e⟩
   obtain⟨z',r4⟩:=r4
   have q4:MRow w4 w.heap.size 0 0 (fun _=>0):=by
    unfold MRow;rw [hB4.block _ hwg];exact Q3.out
   have B4:Below w.heap.size w w4:=BB3.out.trans (hB4.mono (by omega));clear hw4 hB4;go_wp2;go_roundw
   case rel=>exact⟨k+1,z',by omega,by go_num,r4,q4,B4⟩
   case measure=>simp [intOf];omega
  ·have hh:=HBAD.out;rw [show q=k by omega] at hh;have l3:=sZ.le;have l4:=sZ.cap;obtain⟨l,hl⟩: ∃ l,l=L k:=⟨_,rfl⟩;rw [← hl] at c1 hh l3;have e4:(((l:Nat):Int) !=((m:Nat):Int))=true:=by rw [bne_iff_ne];omega
   clear hl hh sZ
   go_wp2_with (first
    |(refine wpList_build0 rfl (by rfl) ?_)
    |(refine wpList_storeM rfl _ _ (by rfl) _ _ _ _ _ _ _ (by rfl) (by rfl) (by with_reducible exact rR1) ?_)
    |fail)
   exact bodyPost_ret (results_M2 Tryz.results140 _ _ w.heap.size _ _ _ rfl (rR1.row _ _ _)) rfl ⟨rfl,below_row kB (Nat.le_refl _) _⟩
theorem mturn1_any(n m i j g:Nat)(F:Nat->Nat->Int)(w:World)(h1:1<=n)(h2:n<=6)(h3:1<=m)(h4:m<=6)(hi:i<m)(hj:j<n)(r:MRow w g n m (mz n m F)):
 Calls Tryz.prog 238 #[.int .i64 (i:Int), .int .i64 (j:Int), .pointer (some ⟨g,0,none⟩)] w fun e w'=>e= .returned (.tuple #[.int .i64 (F j i), .bool false, .nilIface])/\Below w.heap.size w w':=by
 have h36:=size_le h2 h4;obtain⟨p,hp⟩: ∃ p,p=j*m:=⟨_,rfl⟩;have hpl:p+m<=n*m:=by rw [hp];exact place_le hj
 have hF:Hid (mz n m F (p+i)=F j i):=by rw [hp];exact mz_at hj hi
 have HP:=Hid.mkV hp;clear hp;go_enter Tryz.func238,Tryz.ntmps238
 go_wp2_with fail
 refine(row_any g j m p n _ _ r HP.out h4 (by omega) (by omega) (by omega)).mono ?_;rintro e w1 ⟨rfl,k1⟩;have cc:=(r.keep k1).cell (show p+i<36 by omega) (show p+2+i=p+i+2 by omega);rw [hF.out] at cc;clear r;go_wp2;go_ret3;exact⟨rfl,k1⟩
theorem mturn_any(n m:Nat)(F:Nat->Nat->Int)(w:World)(h1:1<=n)(h2:n<=6)(h3:1<=m)(h4:m<=6):
 Calls Tryz.prog 153 #[.agg (mvals n m (mz n m F)).toArray] w fun e w'=>e= .returned (.tuple #[.agg (mvals m n (mz m n (fun i j=>F j i))).toArray, .nilIface])/\Below w.heap.size w w':=by
 have rM:=(mrow_new w n m (mz n m F)).alloc (.cells (mvals 0 0 (fun _=>0)).toArray 53);have rA:=mrow_new1 w (.cells (mvals n m (mz n m F)).toArray 53) 0 0 (fun _=>0);have hB:=below_al (below_al (Below.refl _ w) (.cells (mvals n m (mz n m F)).toArray 53)) (.cells (mvals 0 0 (fun _=>0)).toArray 53);obtain⟨W,hW⟩: ∃ W,W=(w.alloc (.cells (mvals n m (mz n m F)).toArray 53)).alloc (.cells (mvals 0 0 (fun _=>0)).toArray 53):=⟨_,rfl⟩;rw [← hW] at rM rA hB;have HCk:=Hid.mkV (check_may W (may_mz (F:=F) h1 h2 h3 h4));have HN:=Hid.mkV (fun W' (b:Below W.heap.size W W')=>byNumber_Turn (.pointer (some ⟨w.heap.size,0,none⟩)) m n (fun i j=>F j i) (fun _ _=>false) W' h3 h4 h1 h2 (fun i j hi hj w1 k1=>mturn1_any n m i j w.heap.size F w1 h1 h2 h3 h4 hi hj (rM.keep (below_tr b k1))));rw [any2_no] at HN;obtain⟨z,hz⟩: ∃ z,z=mz n m F:=⟨_,rfl⟩;obtain⟨z2,hz2⟩: ∃ z,z=mz m n (fun i j=>F j i):=⟨_,rfl⟩;rw [← hz] at HCk rM hW;rw [← hz2] at HN;rw [← hz,← hz2];have HW:=Hid.mkV hW;clear hz hz2 hW;go_enter Tryz.func153,Tryz.ntmps153
 go_wp2_with (first
  |(rw [zeroM,← HW.out];refine wpList_loadM (by rfl) _ (by rfl) _ _ _ _ (by rfl) (by with_reducible exact rM) ?_)
  |fail)
 refine HCk.out.mono ?_;rintro e w1 ⟨rfl,k1⟩;have m1:=rM.keep k1;have r1:=rA.keep k1;have B1:=below_tr hB k1;have c0:=m1.rows;have c1:=m1.cols;have HN1:=Hid.mkV (HN.out w1 k1);clear HCk HN rM rA hB k1;go_wp2_with fail
 refine HN1.out.mono ?_;rintro e w2 ⟨rfl,k2⟩;have r2:=r1.keep k2;have rR:=r2.alloc (.cells (mvals 0 0 (fun _=>0)).toArray 53);have rN:=mrow_new w2 0 0 (fun _=>0);have B2:=below_tr B1 k2;have B3:=below_al B2 (.cells (mvals 0 0 (fun _=>0)).toArray 53);have hne:w.heap.size+1≠w2.heap.size:=by have:=r2.lt;omega
 go_wp2_with (first
  |(rw [zeroM];refine wpList_storeM rfl _ _ (by rfl) _ _ _ _ _ _ _ (by rfl) (by rfl) (by with_reducible exact rN) ?_)
  |(refine wpList_loadM (by rfl) _ (by rfl) _ _ _ _ (by rfl) (by with_reducible exact rN.row _ _ _) ?_)
  |(refine wpList_storeM rfl _ _ (by rfl) _ _ _ _ _ _ _ (by rfl) (by rfl) (by with_reducible exact rR.rowOther hne _) ?_)
  |fail)
 exact bodyPost_ret (results_M2 Tryz.results153 _ _ (w.heap.size+1) _ _ _ rfl ((rR.rowOther hne _).row _ _ _)) rfl ⟨rfl,below_row (below_row B3 B2.size _) (by omega) _⟩
theorem mturn_not(r c:Int)(z:Nat->Int)(w:World)(h: ¬May r c z):
 Calls Tryz.prog 153 #[.agg (mvals r c z).toArray] w fun e w'=>e= .returned (.tuple #[.agg (mvals 0 0 (fun _=>0)).toArray, .iface 93 (.int .i64 1)])/\Below w.heap.size w w':=by
 have rM:=(mrow_new w r c z).alloc (.cells (mvals 0 0 (fun _=>0)).toArray 53);have rA:=mrow_new1 w (.cells (mvals r c z).toArray 53) 0 0 (fun _=>0);have hB:=below_al (below_al (Below.refl _ w) (.cells (mvals r c z).toArray 53)) (.cells (mvals 0 0 (fun _=>0)).toArray 53);obtain⟨W,hW⟩: ∃ W,W=(w.alloc (.cells (mvals r c z).toArray 53)).alloc (.cells (mvals 0 0 (fun _=>0)).toArray 53):=⟨_,rfl⟩;rw [← hW] at rM rA hB;have HCk:=Hid.mkV (check_not W h);have HW:=Hid.mkV hW;clear hW h;go_enter Tryz.func153,Tryz.ntmps153
 go_wp2_with (first
  |(rw [zeroM,← HW.out];refine wpList_loadM (by rfl) _ (by rfl) _ _ _ _ (by rfl) (by with_reducible exact rM) ?_)
  |fail)
 refine HCk.out.mono ?_;rintro e w1 ⟨rfl,k1⟩;have r1:=rA.keep k1;have B1:=below_tr hB k1
 go_wp2_with (first
  |(refine wpList_build0 rfl (by rfl) ?_)
  |(refine wpList_storeM rfl _ _ (by rfl) _ _ _ _ _ _ _ (by rfl) (by rfl) (by with_reducible exact r1) ?_)
  |fail)
 exact bodyPost_ret (results_M2 Tryz.results153 _ _ (w.heap.size+1) _ _ _ rfl (r1.row _ _ _)) rfl ⟨rfl,below_row B1 (by omega) _⟩
end
section
open Go.RowKit
namespace St
def CRow(w:World)(b:Nat)(t:TypeId)(cs:List Value):Prop:=w.heap[b]?=some (.cells cs.toArray t (0,0))
theorem CRow.lt{w:World}{b:Nat}{t:TypeId}{cs:List Value}(h:CRow w b t cs):b<w.heap.size:=by
 rcases Nat.lt_or_ge b w.heap.size with k|k
 · exact k
 · unfold CRow at h;rw [Array.getElem?_eq_none k] at h;cases h
theorem CRow.cell{w:World}{b:Nat}{t:TypeId}{cs:List Value}(h:CRow w b t cs){k:Nat}{v:Value}(hv:cs[k]?=some v){o:Nat}(ho:o=k):w.cell? ⟨b,o,none⟩=some v:=by
 subst ho;rw [cell_of_row w b o _ _ (0,0) h,List.getElem?_toArray];exact hv
theorem CRow.free{w:World}{b:Nat}{t:TypeId}{cs:List Value}(h:CRow w b t cs)(j:Nat):w.frozen? ⟨b,j,none⟩=false:=frozen_of_row w b j _ _ h
theorem CRow.range{w:World}{b:Nat}{t:TypeId}{cs:List Value}(h:CRow w b t cs):w.rangeAt b 0 cs:=by
 intro j v hv;rw [cell_of_row w b (0+j) _ _ (0,0) h,Nat.zero_add,List.getElem?_toArray];exact hv
theorem CRow.mid{w:World}{b:Nat}{t:TypeId}{cs ds:List Value}(h:CRow w b t cs){o:Nat}(hd: ∀ j v,ds[j]?=some v->cs[o+j]?=some v):w.rangeAt b o ds:=by
 intro j v hv;rw [cell_of_row w b (o+j) _ _ (0,0) h,List.getElem?_toArray];exact hd j v hv
theorem CRow.keep{w w':World}{b:Nat}{t:TypeId}{cs:List Value}(h:CRow w b t cs)(hb:Below w.heap.size w w'):CRow w' b t cs:=by
 unfold CRow;rw [hb.block b h.lt];exact h
theorem CRow.alloc{w:World}{b:Nat}{t:TypeId}{cs:List Value}(h:CRow w b t cs)(o:Obj):CRow (w.alloc o) b t cs:=by
 unfold CRow;rw [Below.heap_alloc w o b h.lt];exact h
theorem CRow.drew{w:World}{b:Nat}{t:TypeId}{cs:List Value}(h:CRow w b t cs):CRow w.drew b t cs:=h
theorem CRow.drewN{w:World}{b:Nat}{t:TypeId}{cs:List Value}(h:CRow w b t cs)(n:Nat):CRow (w.drewN n) b t cs:=h
theorem CRow.set{w:World}{b:Nat}{t:TypeId}{cs:List Value}(h:CRow w b t cs)(j:Nat)(v:Value):CRow (w.setCell ⟨b,j,none⟩ v) b t (cs.set j v):=by
 have e:(cs.set j v).toArray=cs.toArray.setIfInBounds j v:=by simp
 unfold CRow;rw [e];exact heap_setCell_same w b j _ _ _ h
theorem CRow.other{w:World}{b:Nat}{t:TypeId}{cs:List Value}(h:CRow w b t cs){p:Addr}(u:Value)(hne:b≠p.block):CRow (w.setCell p u) b t cs:=by
 unfold CRow;rw [heap_setCell_other w p b u hne];exact h
theorem CRow.row{w:World}{b:Nat}{t:TypeId}{cs:List Value}(h:CRow w b t cs)(ds:List Value):CRow (w.setRow b ds.toArray) b t ds:=setRow_heap w b _ _ _ (0,0) h
theorem CRow.rowOther{w:World}{b g:Nat}{t:TypeId}{cs:List Value}(h:CRow w b t cs)(hne:b≠g)(ds:Array Value):CRow (w.setRow g ds) b t cs:=by
 unfold CRow;rw [setRow_other w g b ds hne];exact h
theorem crow_new(w:World)(t:TypeId)(cs:List Value):CRow (w.alloc (.cells cs.toArray t)) w.heap.size t cs:=heap_alloc_new w _
theorem crow_new1(w:World)(A:Obj)(t:TypeId)(cs:List Value):CRow ((w.alloc A).alloc (.cells cs.toArray t)) (w.heap.size+1) t cs:=by
 have h:=crow_new (w.alloc A) t cs;rwa [show(w.alloc A).heap.size=w.heap.size+1 by simp] at h
theorem crow_new2(w:World)(A B:Obj)(t:TypeId)(cs:List Value):CRow (((w.alloc A).alloc B).alloc (.cells cs.toArray t)) (w.heap.size+1+1) t cs:=by
 have h:=crow_new ((w.alloc A).alloc B) t cs;rwa [show((w.alloc A).alloc B).heap.size=w.heap.size+1+1 by simp] at h
theorem crow_new3(w:World)(A B C:Obj)(t:TypeId)(cs:List Value):CRow ((((w.alloc A).alloc B).alloc C).alloc (.cells cs.toArray t)) (w.heap.size+1+1+1) t cs:=by
 have h:=crow_new (((w.alloc A).alloc B).alloc C) t cs;rwa [show(((w.alloc A).alloc B).alloc C).heap.size=w.heap.size+1+1+1 by simp] at h
structure Is(t:TypeId)(n:Nat):Prop where
 size:(Tryz.prog.info? t).map (·.size)=some n
 row: ∃ d,Tryz.prog.underlying t=some d/\d.isRow=true
theorem wpList_want{ops:Array Oper}{rest:List Oper}{o:Oper}{a:Act}{w:World}{Q:Exit->Act->World->Prop}(hw:Region.wanted o (yielded ops a.tmps)=true)
 (h: ∀ K:Act->World->Prop,(∀ a w,wpList Tryz.prog ops Q rest a w->K a w)->o.wp Tryz.prog a w K Q):wpList Tryz.prog ops Q (o::rest) a w:=
 wpList_step fun K hK=>by rw [if_pos hw];exact h K hK
theorem wpList_load{ops:Array Oper}{rest:List Oper}{o:Oper}{a:Act}{w:World}{Q:Exit->Act->World->Prop}{t:TypeId}{n:Nat}(S:Is t n)(hw:Region.wanted o (yielded ops a.tmps)=true)(x:Operand)(ho:o.op= .load t x)
 (b:Nat) (cs:List Value) (hx:a.eval x= .pointer (some ⟨b,0,none⟩)) (hr:CRow w b t cs) (hl:cs.length=n)
 (h:wpList Tryz.prog ops Q rest (a.put o.dst (.agg cs.toArray)) w):wpList Tryz.prog ops Q (o::rest) a w:=by
 obtain⟨d,hu,hd⟩:=S.row;exact wpList_want hw fun _ hK=>wp_load_mid _ x ho b 0 hx cs d hr.range hu hd (by rw [S.size,hl]) (hK _ _ h)
theorem wpList_part{ops:Array Oper}{rest:List Oper}{o:Oper}{a:Act}{w:World}{Q:Exit->Act->World->Prop}{t:TypeId}{n:Nat}(S:Is t n)(hw:Region.wanted o (yielded ops a.tmps)=true)(x:Operand)(ho:o.op= .load t x)
 (b p:Nat) (ds:List Value) (hx:a.eval x= .pointer (some ⟨b,p,none⟩)) (hr:w.rangeAt b p ds) (hl:ds.length=n)
 (h:wpList Tryz.prog ops Q rest (a.put o.dst (.agg ds.toArray)) w):wpList Tryz.prog ops Q (o::rest) a w:=by
 obtain⟨d,hu,hd⟩:=S.row;exact wpList_want hw fun _ hK=>wp_load_mid _ x ho b p hx ds d hr hu hd (by rw [S.size,hl]) (hK _ _ h)
theorem wpList_store{ops:Array Oper}{rest:List Oper}{o:Oper}{a:Act}{w:World}{Q:Exit->Act->World->Prop}{t:TypeId}{n:Nat}(S:Is t n)(hgd:o.guard=none)(x y:Operand)(ho:o.op= .store t x y)
 (b:Nat) (cs ds:List Value) (hx:a.eval x= .pointer (some ⟨b,0,none⟩)) (hy:a.eval y= .agg ds.toArray) (hr:CRow w b t cs) (hl:cs.length=n) (hd:ds.length=n) (h1: ∀ v∈ds,v.oneCell'=true)
 (h:wpList Tryz.prog ops Q rest (a.put o.dst undef) (w.setRow b ds.toArray)):wpList Tryz.prog ops Q (o::rest) a w:=
 wpList_store_row hgd _ x y ho b _ hx hy _ _ hr (by rw [S.size,List.size_toArray,hd]) (by rw [List.size_toArray,List.size_toArray,hl,hd]) (all_oneCell_toArray h1) h
theorem below_row{B g:Nat}{w0 w:World}(hb:Below B w0 w)(hBg:B<=g)(cs:Array Value):Below B w0 (w.setRow g cs):=
 hb.trans ⟨rfl,rfl,rfl,by simp,fun k hk=>setRow_other w g k cs (by omega)⟩
theorem below_set{B:Nat}{w:World}{x:Addr}(hB:B<=w.heap.size)(hx:B<=x.block)(v:Value):Below B w (w.setCell x v):=
 ⟨rfl,rfl,rfl,by simp,fun k hk=>heap_setCell_other w x k v (by omega)⟩
theorem wpList_storeNew{ops:Array Oper}{rest:List Oper}{o:Oper}{a:Act}{Q:Exit->Act->World->Prop}{t:TypeId}{n:Nat}(S:Is t n)(hgd:o.guard=none)(x y:Operand)(ho:o.op= .store t x y)(w2:World)
 (cs ds:List Value) (hx:a.eval x= .pointer (some ⟨w2.heap.size,0,none⟩)) (hy:a.eval y= .agg ds.toArray) (hl:cs.length=n) (hd:ds.length=n) (h1: ∀ v∈ds,v.oneCell'=true)
 (h: ∀ w3,CRow w3 w2.heap.size t ds->Below w2.heap.size w2 w3->wpList Tryz.prog ops Q rest (a.put o.dst undef) w3):wpList Tryz.prog ops Q (o::rest) a (w2.alloc (.cells cs.toArray t)):=
 wpList_store S hgd x y ho _ cs ds hx hy (crow_new w2 t cs) hl hd h1 (h _ ((crow_new w2 t cs).row _) (below_row (below_al (Below.refl _ _) _) (Nat.le_refl _) _))
theorem results_1{fn:Func}{p:Tmp}{t:TypeId}{n:Nat}(S:Is t n)(h:fn.results= #[.cell p t])(tmps:Array Value)(w:World)(b:Nat)(cs:List Value)(hp:tmps.getD p undef= .pointer (some ⟨b,0,none⟩))
 (hr:CRow w b t cs) (hl:cs.length=n):(results fn tmps).run Tryz.prog w= .ok (.agg cs.toArray) w:=by
 obtain⟨d,hu,hd⟩:=S.row;have hp':tmps[p]?.getD undef= .pointer (some ⟨b,0,none⟩):=by simpa using hp
 have hL:=run_loadVar_mid w b 0 t cs d hr.range hu hd (by rw [S.size,hl]);simp [results,h,hp',asAddr,hL]
theorem results_2{fn:Func}{p u:Tmp}{t:TypeId}{n:Nat}(S:Is t n)(h:fn.results= #[.cell p t, .tmp u])(tmps:Array Value)(w:World)(b:Nat)(cs:List Value)(hp:tmps.getD p undef= .pointer (some ⟨b,0,none⟩))
 (hr:CRow w b t cs) (hl:cs.length=n):(results fn tmps).run Tryz.prog w= .ok (.tuple #[.agg cs.toArray,tmps.getD u undef]) w:=by
 obtain⟨d,hu,hd⟩:=S.row;have hp':tmps[p]?.getD undef= .pointer (some ⟨b,0,none⟩):=by simpa using hp
 have hL:=run_loadVar_mid w b 0 t cs d hr.range hu hd (by rw [S.size,hl]);simp [results,h,hp',asAddr,hL]
theorem results_3{fn:Func}{p u v:Tmp}{t:TypeId}{n:Nat}(S:Is t n)(h:fn.results= #[.cell p t, .tmp u, .tmp v])(tmps:Array Value)(w:World)(b:Nat)(cs:List Value)(hp:tmps.getD p undef= .pointer (some ⟨b,0,none⟩))
 (hr:CRow w b t cs) (hl:cs.length=n):(results fn tmps).run Tryz.prog w= .ok (.tuple #[.agg cs.toArray,tmps.getD u undef,tmps.getD v undef]) w:=by
 obtain⟨d,hu,hd⟩:=S.row;have hp':tmps[p]?.getD undef= .pointer (some ⟨b,0,none⟩):=by simpa using hp
 have hL:=run_loadVar_mid w b 0 t cs d hr.range hu hd (by rw [S.size,hl]);simp [results,h,hp',asAddr,hL]
theorem made{B:Nat}{w0 w:World}(D:Below B w0 w)(t:TypeId)(Z:List Value): ∃ g x,g=w.heap.size/\x=w.alloc (.cells Z.toArray t)/\CRow x g t Z/\w0.heap.size<=g/\Below w.heap.size w x:=
 ⟨_,_,rfl,rfl,crow_new w t Z,D.size,below_al (Below.refl _ w) _⟩
end St
end
section
open Go.RowKit Vc St
namespace Ld
structure But(P:Nat->Prop)(w w':World):Prop where
 os:w'.os=w.os
 tape:w'.tape=w.tape
 output:w'.output=w.output
 size:w.heap.size<=w'.heap.size
 block: ∀ k,k<w.heap.size-> ¬P k->w'.heap[k]?=w.heap[k]?
theorem But.refl(P:Nat->Prop)(w:World):But P w w:=⟨rfl,rfl,rfl,Nat.le_refl _,fun _ _ _=>rfl⟩
theorem But.trans{P:Nat->Prop}{a b c:World}(h:But P a b)(k:But P b c):But P a c:=
 ⟨k.os.trans h.os,k.tape.trans h.tape,k.output.trans h.output,Nat.le_trans h.size k.size,fun i hi hp=>(k.block i (Nat.lt_of_lt_of_le hi h.size) hp).trans (h.block i hi hp)⟩
theorem but_of{P:Nat->Prop}{a b:World}(h:Below a.heap.size a b):But P a b:=⟨h.os,h.tape,h.output,h.size,fun i hi _=>h.block i hi⟩
theorem But.then{P:Nat->Prop}{a b c:World}(h:But P a b)(k:Below b.heap.size b c):But P a c:=h.trans (but_of k)
theorem But.mono{P Q:Nat->Prop}{a b:World}(h:But P a b)(e: ∀ k,P k->Q k):But Q a b:=⟨h.os,h.tape,h.output,h.size,fun i hi hp=>h.block i hi fun q=>hp (e i q)⟩
theorem But.al{P:Nat->Prop}{a b:World}(h:But P a b)(o:Obj):But P a (b.alloc o):=h.then (below_al (Below.refl _ _) o)
theorem But.drew{P:Nat->Prop}{a b:World}(h:But P a b):But P a b.drew:=⟨h.os,h.tape,h.output,h.size,h.block⟩
theorem But.set{P:Nat->Prop}{a b:World}(h:But P a b){p:Addr}(v:Value)(hp:P p.block):But P a (b.setCell p v):=
 h.trans ⟨rfl,rfl,rfl,by simp,fun k hk hn=>heap_setCell_other b p k v (fun e=>hn (e▸hp))⟩
theorem But.setNew{P:Nat->Prop}{a b:World}(h:But P a b){p:Addr}(v:Value)(hp:a.heap.size<=p.block):But P a (b.setCell p v):=
 ⟨h.os,h.tape,h.output,by simp [h.size],fun k hk hn=>(heap_setCell_other b p k v (by omega)).trans (h.block k hk hn)⟩
theorem But.rowNew{P:Nat->Prop}{a b:World}(h:But P a b){g:Nat}(cs:Array Value)(hp:a.heap.size<=g):But P a (b.setRow g cs):=
 ⟨h.os,h.tape,h.output,by simp [h.size],fun k hk hn=>(setRow_other b g k cs (by omega)).trans (h.block k hk hn)⟩
theorem But.below{P:Nat->Prop}{B:Nat}{w0 a b:World}(h:But P a b)(h0:Below B w0 a)(hB:B<=a.heap.size)(hP: ∀ k,P k->B<=k):Below B w0 b:=
 h0.trans ⟨h.os,h.tape,h.output,h.size,fun k hk=>h.block k (by omega) (fun q=>by have:=hP k q;omega)⟩
theorem But.cell{P:Nat->Prop}{a b:World}(h:But P a b){x:Addr}{v:Value}(hc:a.cell? x=some v)(hx: ¬P x.block):b.cell? x=some v:=by
 have hlt:=World.block_lt_of_cell? a _ hc;rw [World.cell?_of_block (h.block x.block hlt hx)];exact hc
theorem addr_block(x:Addr)(k:Nat):(x.add k).block=x.block:=by unfold Addr.add;split<;>rfl
theorem slBut{P:Nat->Prop}{a b:World}{ao:Option Addr}{n ca:Nat}{z:Nat->Int}(h:Sl a ao n ca z)(k:But P a b)(hx: ∀ x,ao=some x-> ¬P x.block):Sl b ao n ca z:=
 ⟨h.le,h.cap,fun j hj=>by
  obtain⟨x,e,hc⟩:=h.at' j hj
  exact⟨x,e,k.cell hc (by rw [addr_block];exact hx x e)⟩⟩
theorem crowBut{P:Nat->Prop}{a b:World}{g:Nat}{t:TypeId}{cs:List Value}(h:CRow a g t cs)(k:But P a b)(hx: ¬P g):CRow b g t cs:=by
 unfold CRow;rw [k.block g h.lt hx];exact h
end Ld
end
section
open Go.RowKit Vc Mt St
namespace Ld
def fvals(n:Int)(z d:Nat->Int):List Value:= .int .i64 n::(vals 36 z++vals 6 d)
theorem fvals_len(n:Int)(z d:Nat->Int):(fvals n z d).length=43:=by simp [fvals,vals_len]
theorem fvals_n(n:Int)(z d:Nat->Int):(fvals n z d)[0]?=some (.int .i64 n):=rfl
theorem fvals_z{n:Int}{z d:Nat->Int}{k:Nat}(h:k<36):(fvals n z d)[k+1]?=some (.int .i64 (z k)):=by
 show(vals 36 z++vals 6 d)[k]?=_;rw [List.getElem?_append_left (by rw [vals_len];exact h)];exact vals_at h
theorem fvals_d{n:Int}{z d:Nat->Int}{k:Nat}(h:k<6):(fvals n z d)[k+37]?=some (.int .i64 (d k)):=by
 show(vals 36 z++vals 6 d)[k+36]?=_;rw [List.getElem?_append_right (by rw [vals_len];omega),vals_len,Nat.add_sub_cancel];exact vals_at h
theorem fvals_setz{n:Int}{z d:Nat->Int}{j:Nat}(h:j<36)(x:Int):(fvals n z d).set (j+1) (.int .i64 x)=fvals n (fun k=>if k=j then x else z k) d:=by
 show Value.int .i64 n::(vals 36 z++vals 6 d).set j (.int .i64 x)=_;rw [List.set_append_left _ _ (by rw [vals_len];exact h),vals_set];rfl
theorem fvals_setd{n:Int}{z d:Nat->Int}(j:Nat)(x:Int):(fvals n z d).set (j+37) (.int .i64 x)=fvals n z (fun k=>if k=j then x else d k):=by
 show Value.int .i64 n::(vals 36 z++vals 6 d).set (j+36) (.int .i64 x)=_;rw [List.set_append_right _ _ (by rw [vals_len];omega),vals_len,Nat.add_sub_cancel,vals_set];rfl
theorem fvals_congr{n:Int}{z d z' d':Nat->Int}(h: ∀ k,k<36->z k=z' k)(h': ∀ k,k<6->d k=d' k):fvals n z d=fvals n z' d':=by
 unfold fvals;rw [vals_congr h,vals_congr h']
theorem one_fvals(n:Int)(z d:Nat->Int): ∀ v∈fvals n z d,v.oneCell'=true:=by
 intro v hv;rcases List.mem_cons.1 hv with rfl|hv
 · rfl
 rcases List.mem_append.1 hv with hv|hv
 · exact one_vals _ _ v hv
 · exact one_vals _ _ v hv
theorem isF:Is 161 43:=⟨by kernel_rfl,⟨_,Tryz.underlying161,rfl⟩⟩
abbrev FRow(w:World)(g:Nat)(n:Int)(z d:Nat->Int):Prop:=CRow w g 161 (fvals n z d)
theorem FRow.n{w:World}{g:Nat}{n:Int}{z d:Nat->Int}(h:FRow w g n z d):w.cell? ⟨g,0,none⟩=some (.int .i64 n):=h.cell (fvals_n n z d) rfl
theorem FRow.z{w:World}{g:Nat}{n:Int}{z d:Nat->Int}(h:FRow w g n z d){k o:Nat}(hk:k<36)(ho:o=k+1):w.cell? ⟨g,o,none⟩=some (.int .i64 (z k)):=h.cell (fvals_z hk) ho
theorem FRow.d{w:World}{g:Nat}{n:Int}{z d:Nat->Int}(h:FRow w g n z d){k o:Nat}(hk:k<6)(ho:o=k+37):w.cell? ⟨g,o,none⟩=some (.int .i64 (d k)):=h.cell (fvals_d hk) ho
theorem FRow.setz{w:World}{g:Nat}{n:Int}{z d:Nat->Int}(h:FRow w g n z d){k o:Nat}(hk:k<36)(ho:o=k+1)(x:Int):FRow (w.setCell ⟨g,o,none⟩ (.int .i64 x)) g n (fun i=>if i=k then x else z i) d:=by
 subst ho;have h':=CRow.set h (k+1) (.int .i64 x);rwa [fvals_setz hk] at h'
theorem FRow.setd{w:World}{g:Nat}{n:Int}{z d:Nat->Int}(h:FRow w g n z d){k o:Nat}(ho:o=k+37)(x:Int):FRow (w.setCell ⟨g,o,none⟩ (.int .i64 x)) g n z (fun i=>if i=k then x else d i):=by
 subst ho;have h':=CRow.set h (k+37) (.int .i64 x);rwa [fvals_setd] at h'
theorem FRow.congr{w:World}{g:Nat}{n:Int}{z d z' d':Nat->Int}(h:FRow w g n z d)(e: ∀ k,k<36->z k=z' k)(e': ∀ k,k<6->d k=d' k):FRow w g n z' d':=by
 unfold FRow;rw [← fvals_congr e e'];exact h
theorem FRow.sl{w:World}{g:Nat}{n:Int}{z d:Nat->Int}(h:FRow w g n z d){p m ca o:Nat}(hp:p+m<=36)(hc:m<=ca)(hc2:ca<=9223372036854775807)(ho:o=p+1):Sl w (some ⟨g,o,none⟩) m ca (fun j=>z (p+j)):=
 ⟨hc,hc2,fun k hk=>⟨_,rfl,by rw [Addr.add_lit];exact h.z (by omega) (by omega)⟩⟩
theorem zeroF:(#[.int .i64 0, .int .i64 0, .int .i64 0, .int .i64 0, .int .i64 0, .int .i64 0, .int .i64 0, .int .i64 0, .int .i64 0, .int .i64 0, .int .i64 0, .int .i64 0, .int .i64 0, .int .i64 0, .int .i64 0, .int .i64 0, .int .i64 0, .int .i64 0, .int .i64 0, .int .i64 0, .int .i64 0, .int .i64 0, .int .i64 0, .int .i64 0, .int .i64 0, .int .i64 0, .int .i64 0, .int .i64 0, .int .i64 0, .int .i64 0, .int .i64 0, .int .i64 0, .int .i64 0, .int .i64 0, .int .i64 0, .int .i64 0, .int .i64 0, .int .i64 0, .int .i64 0, .int .i64 0, .int .i64 0, .int .i64 0, .int .i64 0]:Array Value)=(fvals 0 (fun _=>0) (fun _=>0)).toArray:=by kernel_rfl
theorem builtF0:Tryz.prog.built 161 []=some (fvals 0 (fun _=>0) (fun _=>0)).toArray:=by kernel_rfl
theorem builtF1(n:Int):Tryz.prog.built 161 [(0, .int .i64 n)]=some (fvals n (fun _=>0) (fun _=>0)).toArray:=by kernel_rfl
theorem wpList_buildF0{ops:Array Oper}{rest:List Oper}{o:Oper}{a:Act}{w:World}{Q:Exit->Act->World->Prop}(hw:Region.wanted o (yielded ops a.tmps)=true)(ho:o.op= .build 161 #[])
 (h:wpList Tryz.prog ops Q rest (a.put o.dst (.agg (fvals 0 (fun _=>0) (fun _=>0)).toArray)) w):wpList Tryz.prog ops Q (o::rest) a w:=
 wpList_want hw fun _ hK=>by
  unfold Oper.wp execOp
  have em:((#[]:Array (Nat×Operand)).map fun(i,x)=>(i,a.eval x)).toList= []:=by simp
  simp only [ho,Sem.run_bind,run_build w 161 _ _ (by rw [em];exact builtF0),Result.andThen_ok]
  exact hK _ _ h
theorem wpList_buildF1{ops:Array Oper}{rest:List Oper}{o:Oper}{a:Act}{w:World}{Q:Exit->Act->World->Prop}(hw:Region.wanted o (yielded ops a.tmps)=true)(x:Operand)(ho:o.op= .build 161 #[(0,x)])(n:Int)(hx:a.eval x= .int .i64 n)
 (h:wpList Tryz.prog ops Q rest (a.put o.dst (.agg (fvals n (fun _=>0) (fun _=>0)).toArray)) w):wpList Tryz.prog ops Q (o::rest) a w:=
 wpList_want hw fun _ hK=>by
  unfold Oper.wp execOp
  have em:((#[(0,x)]:Array (Nat×Operand)).map fun(i,x)=>(i,a.eval x)).toList= [(0, .int .i64 n)]:=by simp [hx]
  simp only [ho,Sem.run_bind,run_build w 161 _ _ (by rw [em];exact builtF1 n),Result.andThen_ok]
  exact hK _ _ h
abbrev SRow(w:World)(s:Nat)(o:Bool):Prop:=CRow w s 343 [.bool o]
theorem SRow.o{w:World}{s:Nat}{o:Bool}(h:SRow w s o):w.cell? ⟨s,0,none⟩=some (.bool o):=h.cell (k:=0) rfl rfl
theorem SRow.set{w:World}{s:Nat}{o:Bool}(h:SRow w s o)(v:Bool):SRow (w.setCell ⟨s,0,none⟩ (.bool v)) s v:=CRow.set h 0 (.bool v)
end Ld
end
end Go.Proofs.YtcefcokpjbebhaaGreatDoor
