/-
  What all texts of this seat's walks lean on: worlds that grow, cells that stay, results.
-/
import Derived.Test.YtcefcokpjbebhaaGreatDoorProg
import Derived.WalkKit
import Derived.Deep.QuietTactic
import Derived.BigQuiet
import Derived.WalkSpells
import Derived.WalkLawsBesides
import Derived.Maps.AppendAt
import Derived.OwnWalk
import Derived.Test.YtcefcokpjbebhaaGreatDoorM1
import Derived.Laws.Rows
import Derived.Laws.Tables
import Derived.Laws.ResultCell
import Derived.KernelRfl
import Derived.Laws.Bits64b
import Derived.Laws.BitsAllLaws
set_option linter.unusedSimpArgs false
set_option linter.unusedVariables false
set_option maxHeartbeats 8000000
namespace Go.Proofs.YtcefcokpjbebhaaGreatDoor
section
open Go.RowKit
theorem af{a w:World}(h:Below a.heap.size a w)(o:Obj):Below a.heap.size a (w.alloc o):=h.alloc h.size o
theorem ae{a b c:World}(h:Below a.heap.size a b)(k:Below b.heap.size b c):Below a.heap.size a c:=h.trans (k.mono h.size)
theorem ah{W w1:World}(hb:Below W.heap.size W w1){a:Addr}{v:Value}(h:W.cell? a=some v):w1.cell? a=some v:=(hb.cell (World.block_lt_of_cell? W _ h)).trans h
theorem eP{W w1:World}(hb:Below W.heap.size W w1){a:Addr}{v:Value}(h:W.cell? a=some v)(hf:W.frozen? a=false):w1.frozen? a=false:=(hb.frozen (World.block_lt_of_cell? W _ h)).trans hf
namespace Dec
theorem iQ{a b:Bool}(h:a=b):Ending.returned (.bool a)= .returned (.bool b):=by rw [h]
theorem oH{k:IntKind}{a b:Int}(h:a=b):Ending.returned (.int k a)= .returned (.int k b):=by rw [h]
end Dec
end
section
open Go.RowKit
namespace Vc
theorem Hid.mkV{p:Prop}(h:p):Hid p:=h
theorem below_drewN{B:Nat}{a w:World}(h:Below B a w)(n:Nat):Below B a (w.drewN n):=⟨h.os,h.tape,h.output,h.size,h.block⟩
theorem az(w:World):Below w.heap.size w w.drew:=(Below.refl _ w).drew
theorem iY:(Tryz.prog.info? 2).map (fun i=>(i.zero,i.size,i.bytes))=some (some (.int .i64 0),1,8):=by kernel_rfl
def vals(n:Nat)(z:Nat->Int):List Value:=(List.range n).map fun k=>Value.int .i64 (z k)
theorem aK(n:Nat)(z:Nat->Int):(vals n z).length=n:=by simp [vals]
theorem dI{n k:Nat}{z:Nat->Int}(h:k<n):(vals n z)[k]?=some (.int .i64 (z k)):=by simp [vals,h]
theorem mY(n:Nat)(z:Nat->Int):vals n z++ [.int .i64 (z n)]=vals (n+1) z:=by simp [vals,List.range_succ]
theorem dZ{n:Nat}{z z':Nat->Int}(h: ∀ k,k<n->z k=z' k):vals n z=vals n z':=by
 unfold vals;exact List.map_congr_left fun k hk=>by rw [h k (List.mem_range.1 hk)]
theorem fG(n j:Nat)(x:Int)(z:Nat->Int):(vals n z).set j (.int .i64 x)=vals n (fun k=>if k=j then x else z k):=by
 apply List.ext_getElem?;intro i;by_cases hi:i<n
 · rw [dI hi,List.getElem?_set,aK];by_cases e:j=i
   · subst e;simp [hi]
   · rw [if_neg e,dI hi,if_neg (fun h=>e h.symm)]
 · rw [List.getElem?_eq_none (by simp [aK];omega),List.getElem?_eq_none (by rw [aK];omega)]
structure Sl(w:World)(ao:Option Addr)(n ca:Nat)(z:Nat->Int):Prop where
 le:n<=ca
 cap:ca<=9223372036854775807
 at': ∀ k,k<n-> ∃ x,ao=some x/\w.cell? (x.add k)=some (.int .i64 (z k))
theorem Sl.get{w:World}{ao:Option Addr}{n ca:Nat}{z:Nat->Int}(h:Sl w ao n ca z): ∃ x,(0<n->ao=some x)/\ ∀ k,k<n->w.cell? (x.add k)=some (.int .i64 (z k)):=by
 cases ao with
 |none=>exact⟨⟨0,0,none⟩,fun h0=>(by obtain⟨x,hx,_⟩:=h.at' 0 h0;cases hx),fun k hk=>(by obtain⟨x,hx,_⟩:=h.at' k hk;cases hx)⟩
 |some x=>exact⟨x,fun _=>rfl,fun k hk=>by obtain⟨y,hy,hc⟩:=h.at' k hk;cases hy;exact hc⟩
theorem Sl.keep{w w':World}{ao:Option Addr}{n ca:Nat}{z:Nat->Int}(h:Sl w ao n ca z)(b:Below w.heap.size w w'):Sl w' ao n ca z:=
 ⟨h.le,h.cap,fun k hk=>by obtain⟨x,hx,hc⟩:=h.at' k hk;exact⟨x,hx,ah b hc⟩⟩
theorem Sl.congr{w:World}{ao:Option Addr}{n ca:Nat}{z z':Nat->Int}(h:Sl w ao n ca z)(e: ∀ k,k<n->z k=z' k):Sl w ao n ca z':=
 ⟨h.le,h.cap,fun k hk=>by rw [← e k hk];exact h.at' k hk⟩
theorem Sl.none(w:World)(z:Nat->Int):Sl w none 0 0 z:=⟨Nat.le_refl _,om1,fun k hk=>by omega⟩
def B64(z:Nat->Int):Prop:= ∀ k,-9223372036854775808<=z k/\z k<=9223372036854775807
def dN(g:Nat->Bool):Nat->Bool
 |0=>false
 |k+1=>dN g k||g k
theorem sN{g h:Nat->Bool}: ∀ {n:Nat},(∀ k,k<n->g k=h k)->dN g n=dN h n
 |0,_=>rfl
 |n+1,e=>by unfold dN;rw [sN fun k hk=>e k om1,e n om1]
theorem jT{g:Nat->Bool}: ∀ {n:Nat},dN g n=false↔ ∀ k,k<n->g k=false
 |0=>⟨fun _ k hk=>by omega,fun _=>rfl⟩
 |n+1=>by
  unfold dN
  rw [Bool.or_eq_false_iff,jT]
  refine⟨fun h k hk=> ?_,fun h=>⟨fun k hk=>h k om1,h n om1⟩⟩
  rcases Nat.lt_or_ge k n with c|c
  · exact h.1 k c
  · obtain rfl:k=n:=om1
    exact h.2
structure Own(B:Nat)(w0 w:World)(v:Value)(n:Nat)(z:Nat->Int):Prop where
 row:w.ownsRow B 2 1 v n (vals n z)
 below:Below B w0 w
 base:B<=w.heap.size
theorem Own.nil{B:Nat}{w0 w:World}(h:Below B w0 w)(hB:B<=w.heap.size)(z:Nat->Int):Own B w0 w (.slice none 0 0) 0 z:=⟨World.ownsRow_nil _ _ _ _,h,hB⟩
theorem Own.sl{B:Nat}{w0 w:World}{v:Value}{n:Nat}{z:Nat->Int}(h:Own B w0 w v n z): ∃ ao ca,v= .slice ao n ca/\Sl w ao n ca z:=by
 obtain⟨⟨h1,h2⟩,_,_⟩:=h;rcases h2 with⟨rfl,rfl⟩|⟨g,cap,cur,rfl,hb,hg,hn,hc,hs,ht⟩
 · exact⟨_,_,rfl,Sl.none _ _⟩
 · refine⟨_,_,rfl,hn,hc,fun k hk=>⟨_,rfl, ?_⟩⟩;have e:=dI (z:=z) hk;rw [← ht] at e
   have e2:cur[k]?=some (.int .i64 (z k)):=by
    rw [List.getElem?_take] at e;split at e
    · simpa using e
    · cases e
   rw [Addr.add_lit,Nat.zero_add];simp [World.cell?,hg,e2]
theorem jF{w w':World}{B:Nat}{t:TypeId}{s:Nat}{v:Value}{n:Nat}{xs:List Value}(h:w.ownsRow B t s v n xs)(b:Below w.heap.size w w'):w'.ownsRow B t s v n xs:=by
 obtain⟨h1,h2⟩:=h;refine⟨h1, ?_⟩;rcases h2 with h2|⟨g,cap,cur,rfl,hb,hg,hn,hc,hs,ht⟩
 · exact Or.inl h2
 · refine Or.inr ⟨g,cap,cur,rfl,hb, ?_,hn,hc,hs,ht⟩
   have hlt:g<w.heap.size:=by
    rcases Nat.lt_or_ge g w.heap.size with k|k
    · exact k
    · rw [Array.getElem?_eq_none k] at hg;cases hg
   exact(b.block g hlt).trans hg
theorem Own.keep{B:Nat}{w0 w w':World}{v:Value}{n:Nat}{z:Nat->Int}(h:Own B w0 w v n z)(b:Below w.heap.size w w'):Own B w0 w' v n z:=
 ⟨jF h.row b,h.below.trans (b.mono h.base),Nat.le_trans h.base b.size⟩
theorem Own.drew{B:Nat}{w0 w:World}{v:Value}{n:Nat}{z:Nat->Int}(h:Own B w0 w v n z):Own B w0 w.drew v n z:=⟨h.row,h.below.drew,h.base⟩
theorem Own.cell{B:Nat}{w0 w:World}{g n c:Nat}{z:Nat->Int}(h:Own B w0 w (.slice (some ⟨g,0,none⟩) n c) n z){j:Nat}(hj:j<n):w.cell? ⟨g,j,none⟩=some (.int .i64 (z j)):=by
 rw [h.row.cellAt j om1];exact dI hj
theorem Own.free{B:Nat}{w0 w:World}{g n c:Nat}{z:Nat->Int}(h:Own B w0 w (.slice (some ⟨g,0,none⟩) n c) n z)(j:Nat):w.frozen? ⟨g,j,none⟩=false:=h.row.frozenAt j
theorem Own.set{B:Nat}{w0 w:World}{g n c:Nat}{z:Nat->Int}(h:Own B w0 w (.slice (some ⟨g,0,none⟩) n c) n z)(j:Nat)(x:Int):Own B w0 (w.setCell ⟨g,j,none⟩ (.int .i64 x)) (.slice (some ⟨g,0,none⟩) n c) n (fun k=>if k=j then x else z k):=by
 obtain⟨h1,h2⟩:=h.row.stored j (.int .i64 x);rw [fG] at h1;exact⟨h1,h.below.grown h2 h.base (fun k hk=>by cases hk;exact(h.row.lt g rfl).1),Nat.le_trans h.base h2.size⟩
theorem Own.congr{B:Nat}{w0 w:World}{v:Value}{n:Nat}{z z':Nat->Int}(h:Own B w0 w v n z)(e: ∀ k,k<n->z k=z' k):Own B w0 w v n z':=⟨by rw [← dZ e];exact h.row,h.below,h.base⟩
theorem Own.from{B B':Nat}{w0 w1 w:World}{v:Value}{n:Nat}{z:Nat->Int}(h:Own B w1 w v n z)(b:Below B' w0 w1)(hB:B'<=B):Below B' w0 w:=b.trans (h.below.mono hB)
theorem iR{B:Nat}{w0 w:World}{g n:Nat}(h:w.ownsRow B 2 1 (.slice (some ⟨g,0,none⟩) n n) n (madeCells #[Value.int .i64 0] n).toList)(hg:w0.grownBy w none)(hB:B<=w0.heap.size):
 Own B w0 w (.slice (some ⟨g,0,none⟩) n n) n (fun _=>0):=by
 refine⟨?_,(Below.refl _ _).grown hg hB (by intro k hk;cases hk),by have:=hg.size;omega⟩
 have e:(madeCells #[Value.int .i64 0] n).toList=vals n (fun _=>0):=by
  rw [toList_madeCells_one];apply List.ext_getElem?;intro i;by_cases hi:i<n
  · rw [dI hi,List.getElem?_replicate,if_pos hi]
  · rw [List.getElem?_eq_none (by simp;omega),List.getElem?_eq_none (by rw [aK];omega)]
 rw [e] at h;exact h
theorem dm{ops:Array Oper}{rest:List Oper}{o:Oper}{a:Act}{Q:Exit->Act->World->Prop}{wr:World}(hgd:o.guard=none)(s x:Operand)
 (ho:o.op= .call { callee:= .builtin .append,args:= #[s,x],argTypes:= #[27,27] }) (B:Nat) (w0:World) (v:Value) (n:Nat) (z:Nat->Int) (hs:a.eval s=v) (hown:Own B w0 wr v n z) (hl:n<=2000000) (y:Int) (hy:y=z n)
 (hx:a.eval x= .slice (some ⟨wr.heap.size,0,none⟩) 1 1)
 (h: ∀ v' w',Own B w0 w' v' (n+1) z->wpList Tryz.prog ops Q rest (a.put o.dst v') w'):wpList Tryz.prog ops Q (o::rest) a (wr.alloc (.cells #[.int .i64 y] 2)):=by
 obtain⟨i0,hi,hz0,hz1,hz2⟩:=info_parts iY;subst hy;refine wpList_append_own _ hgd s x 27 ho B 2 i0 (.int .i64 0) 1 8 Tryz.underlying27 hi hz0 hz1 hz2 rfl (by decide) v n (vals n z) hs (hown.row.alloc _) ⟨wr.heap.size,0,none⟩ 1 1 [.int .i64 (z n)] hx rfl (cell_one_new _ _ _) (by intro u hu;simp at hu;subst hu;rfl) (by unfold maxLen;omega) om1 (by have:=hown.base;simp;omega) ?_;intro v' w' h1 h2 _;rw [mY] at h1;refine h v' w' ⟨h1, ?_,Nat.le_trans (by have:=hown.base;simp;omega) h2.size⟩;refine(hown.below.alloc hown.base _).grown h2 (by have:=hown.base;simp;omega) ?_;intro k hk;exact(hown.row.lt k hk).1
structure Sls(w:World)(lo:Option Addr)(m cm:Nat)(A:Nat->Option Addr)(L C:Nat->Nat):Prop where
 le:m<=cm
 cap:cm<=9223372036854775807
 at': ∀ j,j<m-> ∃ x,lo=some x/\w.cell? (x.add j)=some (.slice (A j) (L j) (C j))
theorem Sls.get{w:World}{lo:Option Addr}{m cm:Nat}{A:Nat->Option Addr}{L C:Nat->Nat}(h:Sls w lo m cm A L C): ∃ x,(0<m->lo=some x)/\ ∀ k,k<m->w.cell? (x.add k)=some (.slice (A k) (L k) (C k)):=by
 cases lo with
 |none=>exact⟨⟨0,0,none⟩,fun h0=>(by obtain⟨x,hx,_⟩:=h.at' 0 h0;cases hx),fun k hk=>(by obtain⟨x,hx,_⟩:=h.at' k hk;cases hx)⟩
 |some x=>exact⟨x,fun _=>rfl,fun k hk=>by obtain⟨y,hy,hc⟩:=h.at' k hk;cases hy;exact hc⟩
theorem Sls.keep{w w':World}{lo:Option Addr}{m cm:Nat}{A:Nat->Option Addr}{L C:Nat->Nat}(h:Sls w lo m cm A L C)(b:Below w.heap.size w w'):Sls w' lo m cm A L C:=
 ⟨h.le,h.cap,fun k hk=>by obtain⟨x,hx,hc⟩:=h.at' k hk;exact⟨x,hx,ah b hc⟩⟩
end Vc
end
section
open Go.RowKit Lg Dec
theorem Am(a b:Int)(w:World)(ha:In8 a)(hb:In8 b):
 Calls Tryz.prog 261 #[.agg #[.int .u64 (wd 0 a), .int .u64 (wd 1 a), .int .u64 (wd 2 a), .int .u64 (wd 3 a), .int .u64 (wd 4 a), .int .u64 (wd 5 a), .int .u64 (wd 6 a), .int .u64 (wd 7 a)], .agg #[.int .u64 (wd 0 b), .int .u64 (wd 1 b), .int .u64 (wd 2 b), .int .u64 (wd 3 b), .int .u64 (wd 4 b), .int .u64 (wd 5 b), .int .u64 (wd 6 b), .int .u64 (wd 7 b)]] w fun e w'=>e= .returned (.bool (decide (a<b)))/\Below w.heap.size w w':=by
 have WA:Hid (a=wd 0 a+4294967296*wd 1 a+18446744073709551616*wd 2 a+79228162514264337593543950336*wd 3 a+340282366920938463463374607431768211456*wd 4 a+1461501637330902918203684832716283019655932542976*wd 5 a+6277101735386680763835789423207666416102355444464034512896*wd 6 a+26959946667150639794667015087019630673637144422540572481103610249216*wd 7 a):=WZ ha;have WB:Hid (b=wd 0 b+4294967296*wd 1 b+18446744073709551616*wd 2 b+79228162514264337593543950336*wd 3 b+340282366920938463463374607431768211456*wd 4 b+1461501637330902918203684832716283019655932542976*wd 5 b+6277101735386680763835789423207666416102355444464034512896*wd 6 b+26959946667150639794667015087019630673637144422540572481103610249216*wd 7 b):=WZ hb;have a0:=iJ 0 a;have b0:=iJ 0 b;have a1:=iJ 1 a;have b1:=iJ 1 b;have a2:=iJ 2 a;have b2:=iJ 2 b;have a3:=iJ 3 a;have b3:=iJ 3 b;have a4:=iJ 4 a;have b4:=iJ 4 b;have a5:=iJ 5 a;have b5:=iJ 5 b;have a6:=iJ 6 a;have b6:=iJ 6 b;have a7:=iJ 7 a;have b7:=iJ 7 b;go_enter Tryz.func261,Tryz.ntmps261
 go_wp2;refine wp_loop_rounds 9 ?_;by_cases h7:wd 7 a=wd 7 b
 · have h7b:(wd 7 a !=wd 7 b)=false:=by simpa using h7
   have H7:Hid (wd 7 a=wd 7 b):=h7;clear h7;rw [rounds_succ];go_wp2;go_quiet (fail)
   go_wp2;by_cases h6:wd 6 a=wd 6 b
   · have h6b:(wd 6 a !=wd 6 b)=false:=by simpa using h6
     have H6:Hid (wd 6 a=wd 6 b):=h6;clear h6;rw [rounds_succ];go_wp2;go_quiet (fail)
     go_wp2;by_cases h5:wd 5 a=wd 5 b
     · have h5b:(wd 5 a !=wd 5 b)=false:=by simpa using h5
       have H5:Hid (wd 5 a=wd 5 b):=h5;clear h5;rw [rounds_succ];go_wp2;go_quiet (fail)
       go_wp2;by_cases h4:wd 4 a=wd 4 b
       · have h4b:(wd 4 a !=wd 4 b)=false:=by simpa using h4
         have H4:Hid (wd 4 a=wd 4 b):=h4;clear h4;rw [rounds_succ];go_wp2;go_quiet (fail)
         go_wp2;by_cases h3:wd 3 a=wd 3 b
         · have h3b:(wd 3 a !=wd 3 b)=false:=by simpa using h3
           have H3:Hid (wd 3 a=wd 3 b):=h3;clear h3;rw [rounds_succ];go_wp2;go_quiet (fail)
           go_wp2;by_cases h2:wd 2 a=wd 2 b
           · have h2b:(wd 2 a !=wd 2 b)=false:=by simpa using h2
             have H2:Hid (wd 2 a=wd 2 b):=h2;clear h2;rw [rounds_succ];go_wp2;go_quiet (fail)
             go_wp2;by_cases h1:wd 1 a=wd 1 b
             · have h1b:(wd 1 a !=wd 1 b)=false:=by simpa using h1
               have H1:Hid (wd 1 a=wd 1 b):=h1;clear h1;rw [rounds_succ];go_wp2;go_quiet (fail)
               go_wp2;by_cases h0:wd 0 a=wd 0 b
               · have h0b:(wd 0 a !=wd 0 b)=false:=by simpa using h0
                 have H0:Hid (wd 0 a=wd 0 b):=h0;clear h0;rw [rounds_succ];go_wp2;go_quiet (fail)
                 go_wp2
                 have K:Hid (false=decide (a<b)):=by
                  unfold Hid;have:=WA.out;have:=WB.out;have:=H0.out;have:=H1.out;have:=H2.out;have:=H3.out;have:=H4.out;have:=H5.out;have:=H6.out;have:=H7.out;symm;rw [decide_eq_false_iff_not];omega
                 rw [rounds_succ];go_wp2;go_ret;exact⟨iQ K.out,by repeat(first|exact af (af (Below.refl _ _) _) _|refine below_drewN ?_ _)⟩
               · have h0b:(wd 0 a !=wd 0 b)=true:=by simpa using h0
                 have K:Hid (decide (wd 0 a<wd 0 b)=decide (a<b)):=by
                  unfold Hid;have:=WA.out;have:=WB.out;have:=H1.out;have:=H2.out;have:=H3.out;have:=H4.out;have:=H5.out;have:=H6.out;have:=H7.out;rw [decide_eq_decide];omega
                 clear h0;rw [rounds_succ];go_wp2;go_quiet (fail)
                 go_wp2;go_quiet (fail)
                 go_wp2;go_ret;exact⟨iQ K.out,by repeat(first|exact af (af (Below.refl _ _) _) _|refine below_drewN ?_ _)⟩
             · have h1b:(wd 1 a !=wd 1 b)=true:=by simpa using h1
               have K:Hid (decide (wd 1 a<wd 1 b)=decide (a<b)):=by
                unfold Hid;have:=WA.out;have:=WB.out;have:=H2.out;have:=H3.out;have:=H4.out;have:=H5.out;have:=H6.out;have:=H7.out;rw [decide_eq_decide];omega
               clear h1;rw [rounds_succ];go_wp2;go_quiet (fail)
               go_wp2;go_quiet (fail)
               go_wp2;go_ret;exact⟨iQ K.out,by repeat(first|exact af (af (Below.refl _ _) _) _|refine below_drewN ?_ _)⟩
           · have h2b:(wd 2 a !=wd 2 b)=true:=by simpa using h2
             have K:Hid (decide (wd 2 a<wd 2 b)=decide (a<b)):=by
              unfold Hid;have:=WA.out;have:=WB.out;have:=H3.out;have:=H4.out;have:=H5.out;have:=H6.out;have:=H7.out;rw [decide_eq_decide];omega
             clear h2;rw [rounds_succ];go_wp2;go_quiet (fail)
             go_wp2;go_quiet (fail)
             go_wp2;go_ret;exact⟨iQ K.out,by repeat(first|exact af (af (Below.refl _ _) _) _|refine below_drewN ?_ _)⟩
         · have h3b:(wd 3 a !=wd 3 b)=true:=by simpa using h3
           have K:Hid (decide (wd 3 a<wd 3 b)=decide (a<b)):=by
            unfold Hid;have:=WA.out;have:=WB.out;have:=H4.out;have:=H5.out;have:=H6.out;have:=H7.out;rw [decide_eq_decide];omega
           clear h3;rw [rounds_succ];go_wp2;go_quiet (fail)
           go_wp2;go_quiet (fail)
           go_wp2;go_ret;exact⟨iQ K.out,by repeat(first|exact af (af (Below.refl _ _) _) _|refine below_drewN ?_ _)⟩
       · have h4b:(wd 4 a !=wd 4 b)=true:=by simpa using h4
         have K:Hid (decide (wd 4 a<wd 4 b)=decide (a<b)):=by
          unfold Hid;have:=WA.out;have:=WB.out;have:=H5.out;have:=H6.out;have:=H7.out;rw [decide_eq_decide];omega
         clear h4;rw [rounds_succ];go_wp2;go_quiet (fail)
         go_wp2;go_quiet (fail)
         go_wp2;go_ret;exact⟨iQ K.out,by repeat(first|exact af (af (Below.refl _ _) _) _|refine below_drewN ?_ _)⟩
     · have h5b:(wd 5 a !=wd 5 b)=true:=by simpa using h5
       have K:Hid (decide (wd 5 a<wd 5 b)=decide (a<b)):=by
        unfold Hid;have:=WA.out;have:=WB.out;have:=H6.out;have:=H7.out;rw [decide_eq_decide];omega
       clear h5;rw [rounds_succ];go_wp2;go_quiet (fail)
       go_wp2;go_quiet (fail)
       go_wp2;go_ret;exact⟨iQ K.out,by repeat(first|exact af (af (Below.refl _ _) _) _|refine below_drewN ?_ _)⟩
   · have h6b:(wd 6 a !=wd 6 b)=true:=by simpa using h6
     have K:Hid (decide (wd 6 a<wd 6 b)=decide (a<b)):=by
      unfold Hid;have:=WA.out;have:=WB.out;have:=H7.out;rw [decide_eq_decide];omega
     clear h6;rw [rounds_succ];go_wp2;go_quiet (fail)
     go_wp2;go_quiet (fail)
     go_wp2;go_ret;exact⟨iQ K.out,by repeat(first|exact af (af (Below.refl _ _) _) _|refine below_drewN ?_ _)⟩
 · have h7b:(wd 7 a !=wd 7 b)=true:=by simpa using h7
   have K:Hid (decide (wd 7 a<wd 7 b)=decide (a<b)):=by
    unfold Hid;have:=WA.out;have:=WB.out;rw [decide_eq_decide];omega
   clear h7;rw [rounds_succ];go_wp2;go_quiet (fail)
   go_wp2;go_quiet (fail)
   go_wp2;go_ret;exact⟨iQ K.out,by repeat(first|exact af (af (Below.refl _ _) _) _|refine below_drewN ?_ _)⟩
end
section
open Go.RowKit Lg Dec
namespace Lg
def fE(w:World)(b:Nat)(s:Bool)(x0 x1 x2 x3 x4 x5 x6 x7:Int):Prop:=w.heap[b]?=some (.cells #[.bool s, .int .u64 x0, .int .u64 x1, .int .u64 x2, .int .u64 x3, .int .u64 x4, .int .u64 x5, .int .u64 x6, .int .u64 x7] 277 (0,0))
section
theorem fE.lt{w:World}{b:Nat}{s:Bool}{x0 x1 x2 x3 x4 x5 x6 x7:Int}(h:fE w b s x0 x1 x2 x3 x4 x5 x6 x7):b<w.heap.size:=by
 rcases Nat.lt_or_ge b w.heap.size with k|k
 · exact k
 · unfold fE at h;rw [Array.getElem?_eq_none k] at h;cases h
theorem jG(w:World)(s:Bool)(x0 x1 x2 x3 x4 x5 x6 x7:Int):fE (w.alloc (.cells #[.bool s, .int .u64 x0, .int .u64 x1, .int .u64 x2, .int .u64 x3, .int .u64 x4, .int .u64 x5, .int .u64 x6, .int .u64 x7] 277)) w.heap.size s x0 x1 x2 x3 x4 x5 x6 x7:=heap_alloc_new w _
theorem Ap(w:World)(A:Obj)(s:Bool)(x0 x1 x2 x3 x4 x5 x6 x7:Int):fE ((w.alloc A).alloc (.cells #[.bool s, .int .u64 x0, .int .u64 x1, .int .u64 x2, .int .u64 x3, .int .u64 x4, .int .u64 x5, .int .u64 x6, .int .u64 x7] 277)) (w.heap.size+1) s x0 x1 x2 x3 x4 x5 x6 x7:=by
 have h:=jG (w.alloc A) s x0 x1 x2 x3 x4 x5 x6 x7;rwa [show(w.alloc A).heap.size=w.heap.size+1 by simp] at h
theorem Aq(w:World)(A B:Obj)(s:Bool)(x0 x1 x2 x3 x4 x5 x6 x7:Int):fE (((w.alloc A).alloc B).alloc (.cells #[.bool s, .int .u64 x0, .int .u64 x1, .int .u64 x2, .int .u64 x3, .int .u64 x4, .int .u64 x5, .int .u64 x6, .int .u64 x7] 277)) (w.heap.size+1+1) s x0 x1 x2 x3 x4 x5 x6 x7:=by
 have h:=jG ((w.alloc A).alloc B) s x0 x1 x2 x3 x4 x5 x6 x7;rwa [show((w.alloc A).alloc B).heap.size=w.heap.size+1+1 by simp] at h
theorem fE.alloc{w:World}{b:Nat}{s:Bool}{x0 x1 x2 x3 x4 x5 x6 x7:Int}(h:fE w b s x0 x1 x2 x3 x4 x5 x6 x7)(o:Obj):fE (w.alloc o) b s x0 x1 x2 x3 x4 x5 x6 x7:=by
 unfold fE;rw [Below.heap_alloc w o b h.lt];exact h
theorem fE.keep{w w':World}{b:Nat}{s:Bool}{x0 x1 x2 x3 x4 x5 x6 x7:Int}(h:fE w b s x0 x1 x2 x3 x4 x5 x6 x7)(hb:Below w.heap.size w w'):fE w' b s x0 x1 x2 x3 x4 x5 x6 x7:=by
 unfold fE;rw [hb.block b h.lt];exact h
theorem fE.drewN{w:World}{b:Nat}{s:Bool}{x0 x1 x2 x3 x4 x5 x6 x7:Int}(h:fE w b s x0 x1 x2 x3 x4 x5 x6 x7)(n:Nat):fE (w.drewN n) b s x0 x1 x2 x3 x4 x5 x6 x7:=h
theorem fE.drew{w:World}{b:Nat}{s:Bool}{x0 x1 x2 x3 x4 x5 x6 x7:Int}(h:fE w b s x0 x1 x2 x3 x4 x5 x6 x7):fE w.drew b s x0 x1 x2 x3 x4 x5 x6 x7:=h
theorem fE.set0{w:World}{b:Nat}{s:Bool}{x0 x1 x2 x3 x4 x5 x6 x7:Int}(h:fE w b s x0 x1 x2 x3 x4 x5 x6 x7)(v:Int):fE (w.setCell ⟨b,1,none⟩ (.int .u64 v)) b s v x1 x2 x3 x4 x5 x6 x7:=heap_setCell_same w b 1 _ _ _ h
theorem fE.c0{w:World}{b:Nat}{s:Bool}{x0 x1 x2 x3 x4 x5 x6 x7:Int}(h:fE w b s x0 x1 x2 x3 x4 x5 x6 x7):w.cell? ⟨b,1,none⟩=some (.int .u64 x0):=by rw [cell_of_row w b 1 _ _ (0,0) h];rfl
theorem fE.set1{w:World}{b:Nat}{s:Bool}{x0 x1 x2 x3 x4 x5 x6 x7:Int}(h:fE w b s x0 x1 x2 x3 x4 x5 x6 x7)(v:Int):fE (w.setCell ⟨b,2,none⟩ (.int .u64 v)) b s x0 v x2 x3 x4 x5 x6 x7:=heap_setCell_same w b 2 _ _ _ h
theorem fE.c1{w:World}{b:Nat}{s:Bool}{x0 x1 x2 x3 x4 x5 x6 x7:Int}(h:fE w b s x0 x1 x2 x3 x4 x5 x6 x7):w.cell? ⟨b,2,none⟩=some (.int .u64 x1):=by rw [cell_of_row w b 2 _ _ (0,0) h];rfl
theorem fE.set2{w:World}{b:Nat}{s:Bool}{x0 x1 x2 x3 x4 x5 x6 x7:Int}(h:fE w b s x0 x1 x2 x3 x4 x5 x6 x7)(v:Int):fE (w.setCell ⟨b,3,none⟩ (.int .u64 v)) b s x0 x1 v x3 x4 x5 x6 x7:=heap_setCell_same w b 3 _ _ _ h
theorem fE.c2{w:World}{b:Nat}{s:Bool}{x0 x1 x2 x3 x4 x5 x6 x7:Int}(h:fE w b s x0 x1 x2 x3 x4 x5 x6 x7):w.cell? ⟨b,3,none⟩=some (.int .u64 x2):=by rw [cell_of_row w b 3 _ _ (0,0) h];rfl
theorem fE.set3{w:World}{b:Nat}{s:Bool}{x0 x1 x2 x3 x4 x5 x6 x7:Int}(h:fE w b s x0 x1 x2 x3 x4 x5 x6 x7)(v:Int):fE (w.setCell ⟨b,4,none⟩ (.int .u64 v)) b s x0 x1 x2 v x4 x5 x6 x7:=heap_setCell_same w b 4 _ _ _ h
theorem fE.c3{w:World}{b:Nat}{s:Bool}{x0 x1 x2 x3 x4 x5 x6 x7:Int}(h:fE w b s x0 x1 x2 x3 x4 x5 x6 x7):w.cell? ⟨b,4,none⟩=some (.int .u64 x3):=by rw [cell_of_row w b 4 _ _ (0,0) h];rfl
theorem fE.set4{w:World}{b:Nat}{s:Bool}{x0 x1 x2 x3 x4 x5 x6 x7:Int}(h:fE w b s x0 x1 x2 x3 x4 x5 x6 x7)(v:Int):fE (w.setCell ⟨b,5,none⟩ (.int .u64 v)) b s x0 x1 x2 x3 v x5 x6 x7:=heap_setCell_same w b 5 _ _ _ h
theorem fE.c4{w:World}{b:Nat}{s:Bool}{x0 x1 x2 x3 x4 x5 x6 x7:Int}(h:fE w b s x0 x1 x2 x3 x4 x5 x6 x7):w.cell? ⟨b,5,none⟩=some (.int .u64 x4):=by rw [cell_of_row w b 5 _ _ (0,0) h];rfl
theorem fE.set5{w:World}{b:Nat}{s:Bool}{x0 x1 x2 x3 x4 x5 x6 x7:Int}(h:fE w b s x0 x1 x2 x3 x4 x5 x6 x7)(v:Int):fE (w.setCell ⟨b,6,none⟩ (.int .u64 v)) b s x0 x1 x2 x3 x4 v x6 x7:=heap_setCell_same w b 6 _ _ _ h
theorem fE.c5{w:World}{b:Nat}{s:Bool}{x0 x1 x2 x3 x4 x5 x6 x7:Int}(h:fE w b s x0 x1 x2 x3 x4 x5 x6 x7):w.cell? ⟨b,6,none⟩=some (.int .u64 x5):=by rw [cell_of_row w b 6 _ _ (0,0) h];rfl
theorem fE.set6{w:World}{b:Nat}{s:Bool}{x0 x1 x2 x3 x4 x5 x6 x7:Int}(h:fE w b s x0 x1 x2 x3 x4 x5 x6 x7)(v:Int):fE (w.setCell ⟨b,7,none⟩ (.int .u64 v)) b s x0 x1 x2 x3 x4 x5 v x7:=heap_setCell_same w b 7 _ _ _ h
theorem fE.c6{w:World}{b:Nat}{s:Bool}{x0 x1 x2 x3 x4 x5 x6 x7:Int}(h:fE w b s x0 x1 x2 x3 x4 x5 x6 x7):w.cell? ⟨b,7,none⟩=some (.int .u64 x6):=by rw [cell_of_row w b 7 _ _ (0,0) h];rfl
theorem fE.set7{w:World}{b:Nat}{s:Bool}{x0 x1 x2 x3 x4 x5 x6 x7:Int}(h:fE w b s x0 x1 x2 x3 x4 x5 x6 x7)(v:Int):fE (w.setCell ⟨b,8,none⟩ (.int .u64 v)) b s x0 x1 x2 x3 x4 x5 x6 v:=heap_setCell_same w b 8 _ _ _ h
theorem fE.c7{w:World}{b:Nat}{s:Bool}{x0 x1 x2 x3 x4 x5 x6 x7:Int}(h:fE w b s x0 x1 x2 x3 x4 x5 x6 x7):w.cell? ⟨b,8,none⟩=some (.int .u64 x7):=by rw [cell_of_row w b 8 _ _ (0,0) h];rfl
theorem fE.cs{w:World}{b:Nat}{s:Bool}{x0 x1 x2 x3 x4 x5 x6 x7:Int}(h:fE w b s x0 x1 x2 x3 x4 x5 x6 x7):w.cell? ⟨b,0,none⟩=some (.bool s):=by rw [cell_of_row w b 0 _ _ (0,0) h];rfl
theorem fE.free{w:World}{b:Nat}{s:Bool}{x0 x1 x2 x3 x4 x5 x6 x7:Int}(h:fE w b s x0 x1 x2 x3 x4 x5 x6 x7)(j:Nat):w.frozen? ⟨b,j,none⟩=false:=frozen_of_row w b j _ _ h
theorem fE.other{w:World}{b:Nat}{s:Bool}{x0 x1 x2 x3 x4 x5 x6 x7:Int}(h:fE w b s x0 x1 x2 x3 x4 x5 x6 x7){p:Addr}(u:Value)(hne:b≠p.block):fE (w.setCell p u) b s x0 x1 x2 x3 x4 x5 x6 x7:=by
 unfold fE;rw [heap_setCell_other w p b u hne];exact h
theorem fE.row{w:World}{b:Nat}{s:Bool}{x0 x1 x2 x3 x4 x5 x6 x7:Int}(h:fE w b s x0 x1 x2 x3 x4 x5 x6 x7)(s':Bool)(y0 y1 y2 y3 y4 y5 y6 y7:Int):fE (w.setRow b #[.bool s', .int .u64 y0, .int .u64 y1, .int .u64 y2, .int .u64 y3, .int .u64 y4, .int .u64 y5, .int .u64 y6, .int .u64 y7]) b s' y0 y1 y2 y3 y4 y5 y6 y7:=setRow_heap w b _ _ _ (0,0) h
theorem fE.aY{w:World}{b:Nat}{s:Bool}{x0 x1 x2 x3 x4 x5 x6 x7:Int}(h:fE w b s x0 x1 x2 x3 x4 x5 x6 x7){g:Nat}(hne:b≠g)(cs:Array Value):fE (w.setRow g cs) b s x0 x1 x2 x3 x4 x5 x6 x7:=by
 unfold fE;rw [setRow_other w g b cs hne];exact h
end
theorem below_setRow{B g:Nat}{w0 w:World}(hb:Below B w0 w)(hBg:B<=g)(cs:Array Value):Below B w0 (w.setRow g cs):=
 hb.trans ⟨rfl,rfl,rfl,by simp,fun k hk=>setRow_other w g k cs om1⟩
theorem Au:(Tryz.prog.info? 277).map (·.size)=some 9:=by kernel_rfl
theorem jf{ops:Array Oper}{rest:List Oper}{o:Oper}{a:Act}{w:World}{Q:Exit->Act->World->Prop}(hgd:o.guard=none)(x:Operand)(ho:o.op= .load 277 x)
 (b:Nat) (s:Bool) (x0 x1 x2 x3 x4 x5 x6 x7:Int) (hx:a.eval x= .pointer (some ⟨b,0,none⟩)) (hr:fE w b s x0 x1 x2 x3 x4 x5 x6 x7)
 (h:wpList Tryz.prog ops Q rest (a.put o.dst (.agg #[.bool s, .int .u64 x0, .int .u64 x1, .int .u64 x2, .int .u64 x3, .int .u64 x4, .int .u64 x5, .int .u64 x6, .int .u64 x7])) w):wpList Tryz.prog ops Q (o::rest) a w:=
 wpList_load_row hgd _ x ho b hx _ _ _ _ hr Tryz.underlying277 rfl Au h
theorem jr{ops:Array Oper}{rest:List Oper}{o:Oper}{a:Act}{w:World}{Q:Exit->Act->World->Prop}(hgd:o.guard=none)(x y:Operand)(ho:o.op= .store 277 x y)
 (b:Nat) (s s':Bool) (x0 x1 x2 x3 x4 x5 x6 x7 y0 y1 y2 y3 y4 y5 y6 y7:Int) (hx:a.eval x= .pointer (some ⟨b,0,none⟩)) (hy:a.eval y= .agg #[.bool s, .int .u64 x0, .int .u64 x1, .int .u64 x2, .int .u64 x3, .int .u64 x4, .int .u64 x5, .int .u64 x6, .int .u64 x7]) (hr:fE w b s' y0 y1 y2 y3 y4 y5 y6 y7)
 (h:wpList Tryz.prog ops Q rest (a.put o.dst undef) (w.setRow b #[.bool s, .int .u64 x0, .int .u64 x1, .int .u64 x2, .int .u64 x3, .int .u64 x4, .int .u64 x5, .int .u64 x6, .int .u64 x7])):wpList Tryz.prog ops Q (o::rest) a w:=
 wpList_store_row hgd _ x y ho b _ hx hy _ _ hr Au rfl (by kernel_rfl) h
theorem vM{fn:Func}{p:Tmp}(h:fn.results= #[.cell p 277])(tmps:Array Value)(w:World)(b:Nat)(s:Bool)(x0 x1 x2 x3 x4 x5 x6 x7:Int)(hp:tmps.getD p undef= .pointer (some ⟨b,0,none⟩))
 (hr:fE w b s x0 x1 x2 x3 x4 x5 x6 x7):(results fn tmps).run Tryz.prog w= .ok (.agg #[.bool s, .int .u64 x0, .int .u64 x1, .int .u64 x2, .int .u64 x3, .int .u64 x4, .int .u64 x5, .int .u64 x6, .int .u64 x7]) w:=
 results_cell_row h tmps w b _ _ _ _ hp hr Tryz.underlying277 rfl Au
end Lg
end
section
open Go.RowKit
namespace Lg
theorem PO(w:World)(A B C:Obj)(s:Bool)(x0 x1 x2 x3 x4 x5 x6 x7:Int):fE ((((w.alloc A).alloc B).alloc C).alloc (.cells #[.bool s, .int .u64 x0, .int .u64 x1, .int .u64 x2, .int .u64 x3, .int .u64 x4, .int .u64 x5, .int .u64 x6, .int .u64 x7] 277)) (w.heap.size+1+1+1) s x0 x1 x2 x3 x4 x5 x6 x7:=by
 have h:=jG (((w.alloc A).alloc B).alloc C) s x0 x1 x2 x3 x4 x5 x6 x7;rwa [show(((w.alloc A).alloc B).alloc C).heap.size=w.heap.size+1+1+1 by simp] at h
theorem aW{w:World}{a p:Addr}{v:Value}(h:w.cell? a=some v)(hne:a.block≠p.block)(u:Value):(w.setCell p u).cell? a=some v:=
 (World.cell?_of_block (Below.heap_setCell w p u a.block hne)).trans h
def o9(w:World)(b:Nat)(s:Bool)(d:Nat->Int):Prop:=fE w b s (d 0) (d 1) (d 2) (d 3) (d 4) (d 5) (d 6) (d 7)
theorem o9.cell{w:World}{b:Nat}{s:Bool}{d:Nat->Int}(h:o9 w b s d): ∀ {k:Nat},k<8->w.cell? ⟨b,1+k,none⟩=some (.int .u64 (d k))
 |0,_=>h.c0|1,_=>h.c1|2,_=>h.c2|3,_=>h.c3|4,_=>h.c4|5,_=>h.c5|6,_=>h.c6|7,_=>h.c7
 |n+8,hk=>absurd hk om1
theorem o9.set{w:World}{b:Nat}{s:Bool}{d:Nat->Int}(h:o9 w b s d)(v:Int): ∀ {k:Nat},k<8->o9 (w.setCell ⟨b,1+k,none⟩ (.int .u64 v)) b s (fun j=>if j=k then v else d j)
 |0,_=>h.set0 v|1,_=>h.set1 v|2,_=>h.set2 v|3,_=>h.set3 v|4,_=>h.set4 v|5,_=>h.set5 v|6,_=>h.set6 v|7,_=>h.set7 v
 |n+8,hk=>absurd hk om1
theorem o9.congr{w:World}{b:Nat}{s:Bool}{d e:Nat->Int}(h:o9 w b s d)(he: ∀ j,j<8->d j=e j):o9 w b s e:=by
 unfold o9 at*;rw [← he 0 om1,← he 1 om1,← he 2 om1,← he 3 om1,← he 4 om1,← he 5 om1,← he 6 om1,← he 7 om1];exact h
theorem o9.drewN{w:World}{b:Nat}{s:Bool}{d:Nat->Int}(h:o9 w b s d)(n:Nat):o9 (w.drewN n) b s d:=h
theorem o9.other{w:World}{b:Nat}{s:Bool}{d:Nat->Int}(h:o9 w b s d){p:Addr}(u:Value)(hne:b≠p.block):o9 (w.setCell p u) b s d:=fE.other h u hne
theorem o9.keep{w w':World}{b:Nat}{s:Bool}{d:Nat->Int}(h:o9 w b s d)(hb:Below w.heap.size w w'):o9 w' b s d:=fE.keep h hb
theorem o9.free{w:World}{b:Nat}{s:Bool}{d:Nat->Int}(h:o9 w b s d)(j:Nat):w.frozen? ⟨b,j,none⟩=false:=fE.free h j
theorem o9.cs{w:World}{b:Nat}{s:Bool}{d:Nat->Int}(h:o9 w b s d):w.cell? ⟨b,0,none⟩=some (.bool s):=fE.cs h
def Aw(K:Nat)(f g:Nat->Int):Nat->Int:=fun j=>if j<K then f j else g j
def cr:Int->Int->Int->Nat->Int
 |_,_,c,0=>c
 |a,b,c,k+1=>cr (a/4294967296) (b/4294967296) ((a%4294967296+b%4294967296+c)/4294967296) k
theorem cr_bd: ∀ (k:Nat) (a b c:Int),0<=c->c<=1->0<=cr a b c k/\cr a b c k<=1
 |0,_,_,c,h0,h1=>⟨h0,h1⟩
 |k+1,a,b,c,h0,h1=>cr_bd k _ _ _ om1 om1
theorem PQ: ∀ (k:Nat) (a b c:Int),cr a b c (k+1)=(wd k a+wd k b+cr a b c k)/4294967296
 |0,a,b,c=>rfl
 |k+1,a,b,c=>PQ k (a/4294967296) (b/4294967296) ((a%4294967296+b%4294967296+c)/4294967296)
theorem PS: ∀ (k:Nat) (a b c:Int),0<=c->c<=1->wd k (a+b+c)=(wd k a+wd k b+cr a b c k)%4294967296
 |0,a,b,c,_,_=>by show(a+b+c)%4294967296=(a%4294967296+b%4294967296+c)%4294967296;omega
 |k+1,a,b,c,h0,h1=>by
  have:=PS k (a/4294967296) (b/4294967296) ((a%4294967296+b%4294967296+c)/4294967296) om1 om1
  have e:(a+b+c)/4294967296=a/4294967296+b/4294967296+(a%4294967296+b%4294967296+c)/4294967296:=om1
  show wd k ((a+b+c)/4294967296)=_
  rw [e];exact this
def br:Int->Int->Int->Nat->Int
 |_,_,c,0=>c
 |a,b,c,k+1=>br (a/4294967296) (b/4294967296) (1- (4294967296+a%4294967296- b%4294967296- c)/4294967296) k
theorem YH: ∀ (k:Nat) (a b c:Int),0<=c->c<=1->0<=br a b c k/\br a b c k<=1
 |0,_,_,c,h0,h1=>⟨h0,h1⟩
 |k+1,a,b,c,h0,h1=>YH k _ _ _ om1 om1
theorem Je: ∀ (k:Nat) (a b c:Int),br a b c (k+1)=1- (4294967296+wd k a- wd k b- br a b c k)/4294967296
 |0,a,b,c=>rfl
 |k+1,a,b,c=>Je k (a/4294967296) (b/4294967296) (1- (4294967296+a%4294967296- b%4294967296- c)/4294967296)
theorem Jf: ∀ (k:Nat) (a b c:Int),0<=c->c<=1->wd k (a- b- c)=(4294967296+wd k a- wd k b- br a b c k)%4294967296
 |0,a,b,c,_,_=>by show(a- b- c)%4294967296=(4294967296+a%4294967296- b%4294967296- c)%4294967296;omega
 |k+1,a,b,c,h0,h1=>by
  have:=Jf k (a/4294967296) (b/4294967296) (1- (4294967296+a%4294967296- b%4294967296- c)/4294967296) om1 om1
  have e:(a- b- c)/4294967296=a/4294967296- b/4294967296- (1- (4294967296+a%4294967296- b%4294967296- c)/4294967296):=om1
  show wd k ((a- b- c)/4294967296)=_
  rw [e];exact this
end Lg
end
section
open Go.RowKit
namespace Dec
def Tg(w:World)(b:Nat):Prop:= ∃ cs fz,w.heap[b]?=some (.cells cs 3 fz)
theorem Tg.lt{w:World}{b:Nat}(h:Tg w b):b<w.heap.size:=by
 obtain⟨cs,fz,e⟩:=h;rcases Nat.lt_or_ge b w.heap.size with k|k
 · exact k
 · rw [Array.getElem?_eq_none k] at e;cases e
theorem Tg.below{w w':World}{b B:Nat}(h:Tg w b)(hb:Below B w w')(hB:b<B):Tg w' b:=by
 obtain⟨cs,fz,e⟩:=h;exact⟨cs,fz,(hb.block b hB).trans e⟩
theorem Tg.set{w:World}{b:Nat}(h:Tg w b)(p:Addr)(u:Value):Tg (w.setCell p u) b:=by
 obtain⟨cs,fz,e⟩:=h;by_cases k:p.block=b
 · subst k;refine⟨if p.spot.isSome then cs else cs.setIfInBounds p.off u,fz, ?_⟩;simp only [World.setCell,Array.getElem?_modify,e];simp
 · refine⟨cs,fz, ?_⟩;simp only [World.setCell,Array.getElem?_modify];rw [if_neg k];exact e
def Rd(w:World)(v:Value)(l:List Nat):Prop:=
 (v= .slice none 0 0/\l= [])\/ ∃ b off cap:Nat,v= .slice (some ⟨b,off,none⟩) l.length cap/\l.length<=cap/\Tg w b/\ ∀ t,t<l.length->w.cell? ⟨b,off+t,none⟩=some (.int .i64 ((l.getD t 0:Nat):Int))
theorem Rd.below{w w':World}{v:Value}{l:List Nat}{B:Nat}(h:Rd w v l)(hb:Below B w w')(hB:w.heap.size<=B):Rd w' v l:=by
 rcases h with h|⟨b,off,cap,hv,hc,hlt,hcell⟩
 · exact Or.inl h
 · exact Or.inr ⟨b,off,cap,hv,hc,hlt.below hb (Nat.lt_of_lt_of_le hlt.lt hB),fun t ht=>(hb.cell (p:=⟨b,off+t,none⟩) (show b<B from Nat.lt_of_lt_of_le hlt.lt hB)).trans (hcell t ht)⟩
end Dec
open Dec
theorem KZ(w:World):
 Calls Tryz.prog 260 #[.slice none 0 0] w fun e w'=>e= .returned (.slice none 0 0)/\w'=w:=by
 go_enter Tryz.func260,Tryz.ntmps260
 go_wp2;refine wp_loop_rounds 1 ?_;rw [rounds_succ];go_wp2;go_ret;exact⟨rfl,rfl⟩
theorem Gn(b off cap:Nat)(l:List Nat)(w:World)(hs:Small l)(hlc:l.length<=cap)(hm:l.length<=4000000)
 (hc: ∀ t,t<l.length->w.cell? ⟨b,off+t,none⟩=some (.int .i64 ((l.getD t 0:Nat):Int))):
 Calls Tryz.prog 260 #[.slice (some ⟨b,off,none⟩) l.length cap] w fun e w'=>e= .returned (.slice (some ⟨b,off,none⟩) (bZ (val l)).length cap)/\w'=w:=by
 obtain⟨n,hn⟩: ∃ n,n=l.length:=⟨_,rfl⟩;rw [← hn];rw [← hn] at hm hlc;have Hn:Hid (n=l.length):=hn;clear hn;go_enter Tryz.func260,Tryz.ntmps260
 go_wp2;go_loop [0] (fun d=> ∃ k:Nat,k<=n/\d= .slice (some ⟨b,off,none⟩) k cap/\val (l.take k)=val l) (fun d=>match d with| .slice _ k _=>k|_=>0)
 case atStart=>exact⟨n,Nat.le_refl _,rfl,by rw [Hn.out,pg (Nat.le_refl _)]⟩
 case round=>
  obtain⟨k,hk,rfl,hv⟩:=hrel;have HV:Hid (val (l.take k)=val l):=hv;clear hv;by_cases h0:0<k
  · have hck:=hc (k- 1) (by rw [← Hn.out];omega);go_wp2
    · have h1:(((l[k- 1]?.getD 0:Nat):Int)==0)=true:=by assumption
      go_round
      case rel=>
       refine⟨k- 1,om1,rfl, ?_⟩;rw [← HV.out];have:=Pv (l:=l) (k:=k- 1) (by simpa using h1);rwa [show k- 1+1=k by omega] at this
      case measure=>simp;omega
    · have h1:(((l[k- 1]?.getD 0:Nat):Int)==0)=false:=by assumption
      go_ret;have e:=Gh hs (by rw [← Hn.out];exact hk) HV.out (Or.inr (by simpa using h1));exact⟨by rw [← e];simp [show min k l.length=k by rw [← Hn.out];omega],rfl⟩
  · go_wp2;go_ret;have e:=Gh hs (by rw [← Hn.out];exact hk) HV.out (Or.inl om1);exact⟨by rw [← e];simp [show min k l.length=k by rw [← Hn.out];omega],rfl⟩
theorem sQ(v:Value)(l:List Nat)(w:World)(hs:Small l)(hm:l.length<=4000000)(h:Rd w v l):
 Calls Tryz.prog 260 #[v] w fun e w'=> ∃ v',e= .returned v'/\Rd w v' (bZ (val l))/\w'=w:=by
 rcases h with⟨rfl,rfl⟩|⟨b,off,cap,rfl,hlc,hlt,hc⟩
 · refine(KZ w).mono ?_;rintro e w' ⟨rfl,rfl⟩;exact⟨_,rfl,Or.inl ⟨rfl,rfl⟩,rfl⟩
 · refine(Gn b off cap l w hs hlc hm hc).mono ?_;rintro e w' ⟨rfl,rfl⟩;have hl:=bH (oN hs);refine⟨_,rfl,Or.inr ⟨b,off,cap,rfl,om1,hlt,fun t ht=> ?_⟩,rfl⟩;rw [hc t om1,vG hs ht]
theorem YI(ao bo:Option Addr)(ca n cb:Nat)(w:World)(hn:n<=1000000):
 Calls Tryz.prog 187 #[.slice ao 0 ca, .slice bo n cb] w fun e w'=>e= .returned (.bool (decide (0<n)))/\w'=w:=by
 by_cases h:n=0
 · subst h;go_enter Tryz.func187,Tryz.ntmps187
   go_wp2;refine wp_loop_rounds 1 ?_;rw [rounds_succ];go_wp2;go_ret;exact⟨rfl,rfl⟩
 · have h1:0<n:=om1;go_enter Tryz.func187,Tryz.ntmps187
   go_wp2;go_ret;exact⟨by simp [h1],rfl⟩
theorem YJ(ao bo:Option Addr)(n ca cb:Nat)(w:World)(hn:n<=1000000):
 Calls Tryz.prog 187 #[.slice ao n ca, .slice bo 0 cb] w fun e w'=>e= .returned (.bool false)/\w'=w:=by
 by_cases h:n=0
 · subst h;go_enter Tryz.func187,Tryz.ntmps187
   go_wp2;refine wp_loop_rounds 1 ?_;rw [rounds_succ];go_wp2;go_ret;exact⟨rfl,rfl⟩
 · have h1:0<n:=om1;go_enter Tryz.func187,Tryz.ntmps187
   go_wp2;go_ret;exact⟨rfl,rfl⟩
theorem YK(ao bo:Option Addr)(n m ca cb:Nat)(w:World)(hn:n<=1000000)(hm:m<=1000000)(hne:n≠m):
 Calls Tryz.prog 187 #[.slice ao n ca, .slice bo m cb] w fun e w'=>e= .returned (.bool (decide (n<m)))/\w'=w:=by
 have hd:(((n:Nat):Int) !=((m:Nat):Int))=true:=by simp;omega
 have hd2:decide (((n:Nat):Int)<((m:Nat):Int))=decide (n<m):=by simp
 go_enter Tryz.func187,Tryz.ntmps187
 go_wp2;go_ret;exact⟨by first|rfl|(rw [hd2])|simp,rfl⟩
theorem PT(ba oa bb ob n ca cb:Nat)(x y:List Nat)(w:World)(hn:n<=1000000)(hx:x.length=n)(hy:y.length=n)(hsx:Small x)(hsy:Small y)
 (hca: ∀ t,t<n->w.cell? ⟨ba,oa+t,none⟩=some (.int .i64 ((x.getD t 0:Nat):Int))) (hcb: ∀ t,t<n->w.cell? ⟨bb,ob+t,none⟩=some (.int .i64 ((y.getD t 0:Nat):Int)))
 (hba:ba<w.heap.size) (hbb:bb<w.heap.size):
 Calls Tryz.prog 187 #[.slice (some ⟨ba,oa,none⟩) n ca, .slice (some ⟨bb,ob,none⟩) n cb] w fun e w'=>e= .returned (.bool (decide (val x<val y)))/\Below w.heap.size w w':=by
 have Hx:Hid (x.length=n):=hx;have Hy:Hid (y.length=n):=hy;clear hx hy;go_enter Tryz.func187,Tryz.ntmps187
 go_wp2;go_loopw [5] (fun i wr=> ∃ k:Nat,k<=n/\i= .int .i64 ((k:Int)- 1)/\x.drop k=y.drop k/\Below w.heap.size w wr) (fun i _=>((intOf i)+1).toNat)
 case atStart=>exact⟨n,Nat.le_refl _,rfl,by rw [List.drop_of_length_le (by rw [Hx.out];exact Nat.le_refl _),List.drop_of_length_le (by rw [Hy.out];exact Nat.le_refl _)],Below.refl _ _⟩
 case round=>
  obtain⟨k,hk,rfl,hd,hb⟩:=hrel;have HD:Hid (x.drop k=y.drop k):=hd;clear hd;by_cases h0:0<k
  · have ga:wr.cell? ⟨ba,oa+(k- 1),none⟩=some (.int .i64 ((x.getD (k- 1) 0:Nat):Int)):=(hb.cell (p:=⟨ba,oa+(k- 1),none⟩) hba).trans (hca (k- 1) om1);have gb:wr.cell? ⟨bb,ob+(k- 1),none⟩=some (.int .i64 ((y.getD (k- 1) 0:Nat):Int)):=(hb.cell (p:=⟨bb,ob+(k- 1),none⟩) hbb).trans (hcb (k- 1) om1);go_wp2;go_quiet (fail)
    go_wp2
    · have h1:(((x[k- 1]?.getD 0:Nat):Int) !=((y[k- 1]?.getD 0:Nat):Int))=true:=by assumption
      go_quiet (fail)
      go_wp2;go_ret;refine⟨?_,below_drewN (below_drewN hb _) _⟩;have e:=UR (k:=k) hsx hsy (Hx.out.trans Hy.out.symm) h0 (by rw [Hx.out];exact hk) HD.out (by simpa only [List.getD] using Px h1);simp only [List.getD] at e;exact iQ e
    · have h1:(((x[k- 1]?.getD 0:Nat):Int) !=((y[k- 1]?.getD 0:Nat):Int))=false:=by assumption
      go_roundw
      case rel=>
       refine⟨k- 1,om1,by go_num, ?_,below_drewN hb _⟩;exact drop_step (by rw [Hx.out];omega) (by rw [Hy.out];omega) h0 HD.out (by simpa only [List.getD] using Py h1)
      case measure=>simp [intOf];omega
  · go_wp2;go_ret;refine⟨?_,hb⟩;have:k=0:=om1;subst this;have e:=HD.out;simp only [List.drop_zero] at e;rw [e];simp
theorem yN(va vb:Value)(x y:Nat)(w:World)(hx:(bZ x).length<=1000000)(hy:(bZ y).length<=1000000)(ha:Rd w va (bZ x))(hb:Rd w vb (bZ y)):
 Calls Tryz.prog 187 #[va,vb] w fun e w'=>e= .returned (.bool (decide (x<y)))/\Below w.heap.size w w':=by
 have sl: ∀ {v:Value} {l:List Nat},Rd w v l-> ∃ ao cap,v= .slice ao l.length cap:=by
  intro v l h;rcases h with⟨rfl,rfl⟩|⟨b,off,cap,rfl,_⟩
  · exact⟨_,_,rfl⟩
  · exact⟨_,_,rfl⟩
 by_cases hne:(bZ x).length=(bZ y).length
 · rcases ha with⟨rfl,e⟩|⟨ba,oa,ca,rfl,_,hba,hca⟩
   · obtain⟨bo,cb,rfl⟩:=sl hb;rw [← hne,e];refine(YI _ _ 0 0 _ w om1).mono ?_;rintro e1 w' ⟨rfl,rfl⟩;refine⟨iQ ?_,Below.refl _ _⟩;have h1:=(gI x).1 e;have h2:=(gI y).1 (List.length_eq_zero_iff.1 (by rw [← hne,e];rfl));rw [h1,h2]
   · rcases hb with⟨rfl,e⟩|⟨bb,ob,cb,rfl,_,hbb,hcb⟩
     · refine(YJ _ _ _ _ _ w hx).mono ?_;rintro e1 w' ⟨rfl,rfl⟩;refine⟨iQ ?_,Below.refl _ _⟩;have h2:=(gI y).1 e;rw [h2];simp
     · rw [← hne];refine(PT ba oa bb ob _ ca cb (bZ x) (bZ y) w hx rfl hne.symm (eU _) (eU _) hca (by rw [hne];exact hcb) hba.lt hbb.lt).mono ?_;rintro e1 w' ⟨rfl,hw⟩;rw [eH,eH];exact⟨rfl,hw⟩
 · obtain⟨ao,ca,rfl⟩:=sl ha;obtain⟨bo,cb,rfl⟩:=sl hb;refine(YK ao bo _ _ ca cb w hx hy hne).mono ?_;rintro e1 w' ⟨rfl,rfl⟩;refine⟨iQ ?_,Below.refl _ _⟩;rcases Nat.lt_or_gt_of_ne hne with h|h
   · rw [decide_eq_true h,decide_eq_true (qE h)]
   · have:=qE h;rw [decide_eq_false om1,decide_eq_false om1]
end
section
open Go.RowKit
namespace Dec
theorem Tryz.xE:(Tryz.prog.info? 3).map (fun i=>(i.zero,i.size,i.bytes))=some (some (.int .i64 0),1,8):=by kernel_rfl
def vals(l:List Nat):List Value:=l.map fun d=>Value.int .i64 ((d:Nat):Int)
structure Own(B:Nat)(w0 w:World)(v:Value)(l:List Nat):Prop where
 row:w.ownsRow B 3 1 v l.length (vals l)
 below:Below B w0 w
 base:B<=w.heap.size
theorem Own.nil{B:Nat}{w0 w:World}(h:Below B w0 w)(hB:B<=w.heap.size):Own B w0 w (.slice none 0 0) []:=⟨World.ownsRow_nil _ _ _ _,h,hB⟩
theorem Own.rd{B:Nat}{w0 w:World}{v:Value}{l:List Nat}(h:Own B w0 w v l):Rd w v l:=by
 obtain⟨⟨h1,h2⟩,_,_⟩:=h;rcases h2 with⟨rfl,h0⟩|⟨g,cap,cur,rfl,hb,hg,hn,hc,hs,ht⟩
 · exact Or.inl ⟨rfl,List.length_eq_zero_iff.1 h0⟩
 · have hlt:g<w.heap.size:=by
    rcases Nat.lt_or_ge g w.heap.size with k|k
    · exact k
    · rw [Array.getElem?_eq_none k] at hg;cases hg
   refine Or.inr ⟨g,0,cap,rfl,hn,⟨_,_,hg⟩,fun t htl=> ?_⟩
   have e:(vals l)[t]?=some (.int .i64 ((l.getD t 0:Nat):Int)):=by
    simp [vals,List.getD,List.getElem?_eq_getElem htl]
   rw [← ht] at e
   have e2:cur[t]?=some (.int .i64 ((l.getD t 0:Nat):Int)):=by
    rw [List.getElem?_take] at e;split at e
    · simpa using e
    · cases e
   simp [World.cell?,hg,e2]
theorem dm{ops:Array Oper}{rest:List Oper}{o:Oper}{a:Act}{Q:Exit->Act->World->Prop}{wr:World}(hgd:o.guard=none)(s x:Operand)
 (ho:o.op= .call { callee:= .builtin .append,args:= #[s,x],argTypes:= #[188,188] }) (B:Nat) (w0:World) (v:Value) (l:List Nat) (hs:a.eval s=v) (hown:Own B w0 wr v l) (hl:l.length<=2000000) (z:Int) (d:Nat)
 (hx:a.eval x= .slice (some ⟨wr.heap.size,0,none⟩) 1 1) (hz:z=(d:Int))
 (h: ∀ v' w',Own B w0 w' v' (l++ [d])->wpList Tryz.prog ops Q rest (a.put o.dst v') w'):wpList Tryz.prog ops Q (o::rest) a (wr.alloc (.cells #[.int .i64 z] 3)):=by
 obtain⟨i0,hi,hz0,hz1,hz2⟩:=info_parts Tryz.xE;subst hz;refine wpList_append_own _ hgd s x 188 ho B 3 i0 (.int .i64 0) 1 8 Tryz.underlying188 hi hz0 hz1 hz2 rfl (by decide) v l.length (vals l) hs (hown.row.alloc _) ⟨wr.heap.size,0,none⟩ 1 1 [.int .i64 (d:Int)] hx rfl (cell_one_new _ _ _) (by intro u hu;simp at hu;subst hu;rfl) (by unfold maxLen;omega) om1 (by have:=hown.base;simp;omega) ?_;intro v' w' h1 h2 _;refine h v' w' ⟨by simpa [vals] using h1, ?_,Nat.le_trans (by have:=hown.base;simp;omega) h2.size⟩;refine(hown.below.alloc hown.base _).grown h2 (by have:=hown.base;simp;omega) ?_;intro k hk;exact(hown.row.lt k hk).1
end Dec
open Dec
theorem Dec.Rd.shape{w:World}{v:Value}{l:List Nat}(h:Rd w v l): ∃ ao b off cap,v= .slice ao l.length cap/\l.length<=cap/\(ao=some ⟨b,off,none⟩\/(ao=none/\l.length=0))/\
 ∀ t,t<l.length->b<w.heap.size/\w.cell? ⟨b,off+t,none⟩=some (.int .i64 ((l.getD t 0:Nat):Int)):=by
 rcases h with⟨rfl,rfl⟩|⟨b,off,cap,rfl,hlc,hlt,hc⟩
 · exact⟨none,0,0,0,rfl,Nat.le_refl _,Or.inr ⟨rfl,rfl⟩,fun t ht=>by simp at ht⟩
 · exact⟨_,b,off,cap,rfl,hlc,Or.inl rfl,fun t ht=>⟨hlt.lt,hc t ht⟩⟩
theorem EC{p:Prop}(h:p:=by
 have Hend:Hid (Small (o++ [cv])/\val (o++ [cv])=val x+val y):=hend;clear hend;go_wp2_with (at_builtin;refine dm rl1 (.tmp 47) (.tmp 49) rl1 w.heap.size w _ o rl1 hown ?_ _ cv rl1 rl1 ?_)
 · have:=hpl.1;omega
 · intro v' w' hown';go_wp2_with fail
   refine(sQ _ _ _ Hend.out.1 (by have:=hpl.1;simp;omega) hown'.rd).mono ?_;rintro e w1 ⟨v1,rfl,hrd,rfl⟩;go_wp2;go_ret
   exact⟨_,rfl,by rw [← Hend.out.2];exact hrd,hown'.below⟩):p:=h
theorem PU{p:Prop}(h:p:=by
 go_wp2;go_roundw
 case rel=>exact⟨k+1,_,(cv+x.getD k 0+y.getD k 0)/10,om1,om1,by go_num,by simp only [List.getD];have hy0:=HY.out (by rw [Hy.out];omega);first|go_num|(congr 1;omega),by simp only [List.getD];omega,uD hpl,hown'⟩
 case measure=>simp [intOf];omega):p:=h
theorem PV{p:Prop}(h:p:=by
 go_wp2;go_roundw
 case rel=>exact⟨k+1,_,(cv+x.getD k 0+y.getD k 0)/10,om1,om1,by go_num,by simp only [List.getD];have hx0:=HX.out (by rw [Hx.out];omega);first|go_num|(congr 1;omega),by simp only [List.getD];omega,uD hpl,hown'⟩
 case measure=>simp [intOf];omega):p:=h
theorem Ny(ao bo:Option Addr)(ba oa ca bb ob cb n m:Nat)(x y:List Nat)(w:World)(hn:n<=1000000)(hm:m<=1000000)(hx:x.length=n)(hy:y.length=m)(hsx:Small x)(hsy:Small y)
 (hao:ao=some ⟨ba,oa,none⟩\/(ao=none/\n=0)) (hbo:bo=some ⟨bb,ob,none⟩\/(bo=none/\m=0))
 (hca: ∀ t,t<n->ba<w.heap.size/\w.cell? ⟨ba,oa+t,none⟩=some (.int .i64 ((x.getD t 0:Nat):Int))) (hcb: ∀ t,t<m->bb<w.heap.size/\w.cell? ⟨bb,ob+t,none⟩=some (.int .i64 ((y.getD t 0:Nat):Int))):
 Calls Tryz.prog 186 #[.slice ao n ca, .slice bo m cb] w fun e w'=> ∃ v,e= .returned v/\Rd w' v (bZ (val x+val y))/\Below w.heap.size w w':=by
 have Hx:Hid (x.length=n):=hx;have Hy:Hid (y.length=m):=hy;clear hx hy;rcases hao with rfl|⟨rfl,rfl⟩
 ·rcases hbo with rfl|⟨rfl,rfl⟩
  ·go_enter Tryz.func186,Tryz.ntmps186
   go_wp2
   go_loopw [5,6,7] (fun out c i wr=> ∃ (k:Nat) (o:List Nat) (cv:Nat),k<=n+m/\(k<=n\/k<=m)/\i= .int .i64 k/\c= .int .i64 cv/\cv<=1/\yg x y k o cv/\Own w.heap.size w wr out o)
    (fun _ _ i _=>(n+m)- (intOf i).toNat)
   case atStart=>exact⟨0,[],0,Nat.zero_le _,Or.inl (Nat.zero_le _),rfl,rfl,Nat.zero_le _,nM x y,Own.nil (Below.refl _ _) (Nat.le_refl _)⟩
   case round=>
    obtain⟨k,o,cv,hk,hkk,rfl,rfl,hcv,hpl,hown⟩:=hrel;have ga:k<n->wr.cell? ⟨ba,oa+k,none⟩=some (.int .i64 ((x.getD k 0:Nat):Int)):=fun h=>(hown.below.cell (p:=⟨ba,oa+k,none⟩) (hca k h).1).trans (hca k h).2;have gb:k<m->wr.cell? ⟨bb,ob+k,none⟩=some (.int .i64 ((y.getD k 0:Nat):Int)):=fun h=>(hown.below.cell (p:=⟨bb,ob+k,none⟩) (hcb k h).1).trans (hcb k h).2;have dx:=hsx k;have dy:=hsy k;have HX:Hid (x.length<=k->x[k]?.getD 0=0):=fun h=>by simp [List.getElem?_eq_none h]
    have HY:Hid (y.length<=k->y[k]?.getD 0=0):=fun h=>by simp [List.getElem?_eq_none h]
    simp only [List.getD] at dx dy;by_cases h1:k<n
    ·by_cases h2:k<m
     ·go_wp2_with (at_builtin;refine dm rl1 (.tmp 40) (.tmp 43) rl1 w.heap.size w _ o rl1 hown ?_ _ ((cv+x.getD k 0+y.getD k 0)%10) rl1 ?_ ?_)
      ·have:=hpl.1;omega
      ·simp only [List.getD];omega
      ·intro v' w' hown';go_wp2;go_roundw
       case rel=>exact⟨k+1,_,(cv+x.getD k 0+y.getD k 0)/10,om1,om1,by go_num,by simp only [List.getD];first|go_num|(congr 1;omega),by simp only [List.getD];omega,uD hpl,hown'⟩
       case measure=>simp [intOf];omega
     ·go_wp2_with (at_builtin;refine dm rl1 (.tmp 40) (.tmp 43) rl1 w.heap.size w _ o rl1 hown ?_ _ ((cv+x.getD k 0+y.getD k 0)%10) rl1 ?_ ?_)
      ·have:=hpl.1;omega
      ·simp only [List.getD];have hy0:=HY.out (by rw [Hy.out];omega);omega
      ·intro v' w' hown';exact PU
    ·by_cases h2:k<m
     ·go_wp2_with (at_builtin;refine dm rl1 (.tmp 40) (.tmp 43) rl1 w.heap.size w _ o rl1 hown ?_ _ ((cv+x.getD k 0+y.getD k 0)%10) rl1 ?_ ?_)
      ·have:=hpl.1;omega
      ·simp only [List.getD];have hx0:=HX.out (by rw [Hx.out];omega);omega
      ·intro v' w' hown';exact PV
     ·have hend:=sJ hpl (by rw [Hx.out];omega) (by rw [Hy.out];omega) hcv;exact EC
  ·go_enter Tryz.func186,Tryz.ntmps186
   go_wp2
   go_loopw [5,6,7] (fun out c i wr=> ∃ (k:Nat) (o:List Nat) (cv:Nat),k<=n+0/\(k<=n\/k<=0)/\i= .int .i64 k/\c= .int .i64 cv/\cv<=1/\yg x y k o cv/\Own w.heap.size w wr out o)
    (fun _ _ i _=>(n+0)- (intOf i).toNat)
   case atStart=>exact⟨0,[],0,Nat.zero_le _,Or.inl (Nat.zero_le _),rfl,rfl,Nat.zero_le _,nM x y,Own.nil (Below.refl _ _) (Nat.le_refl _)⟩
   case round=>
    obtain⟨k,o,cv,hk,hkk,rfl,rfl,hcv,hpl,hown⟩:=hrel;have ga:k<n->wr.cell? ⟨ba,oa+k,none⟩=some (.int .i64 ((x.getD k 0:Nat):Int)):=fun h=>(hown.below.cell (p:=⟨ba,oa+k,none⟩) (hca k h).1).trans (hca k h).2;have dx:=hsx k;have dy:=hsy k;have HX:Hid (x.length<=k->x[k]?.getD 0=0):=fun h=>by simp [List.getElem?_eq_none h]
    have HY:Hid (y.length<=k->y[k]?.getD 0=0):=fun h=>by simp [List.getElem?_eq_none h]
    simp only [List.getD] at dx dy;by_cases h1:k<n
    ·go_wp2_with (at_builtin;refine dm rl1 (.tmp 40) (.tmp 43) rl1 w.heap.size w _ o rl1 hown ?_ _ ((cv+x.getD k 0+y.getD k 0)%10) rl1 ?_ ?_)
     ·have:=hpl.1;omega
     ·simp only [List.getD];have hy0:=HY.out (by rw [Hy.out];omega);omega
     ·intro v' w' hown';exact PU
    ·have hend:=sJ hpl (by rw [Hx.out];omega) (by rw [Hy.out];omega) hcv;exact EC
 ·rcases hbo with rfl|⟨rfl,rfl⟩
  ·go_enter Tryz.func186,Tryz.ntmps186
   go_wp2
   go_loopw [5,6,7] (fun out c i wr=> ∃ (k:Nat) (o:List Nat) (cv:Nat),k<=0+m/\(k<=0\/k<=m)/\i= .int .i64 k/\c= .int .i64 cv/\cv<=1/\yg x y k o cv/\Own w.heap.size w wr out o)
    (fun _ _ i _=>(0+m)- (intOf i).toNat)
   case atStart=>exact⟨0,[],0,Nat.zero_le _,Or.inl (Nat.zero_le _),rfl,rfl,Nat.zero_le _,nM x y,Own.nil (Below.refl _ _) (Nat.le_refl _)⟩
   case round=>
    obtain⟨k,o,cv,hk,hkk,rfl,rfl,hcv,hpl,hown⟩:=hrel;have gb:k<m->wr.cell? ⟨bb,ob+k,none⟩=some (.int .i64 ((y.getD k 0:Nat):Int)):=fun h=>(hown.below.cell (p:=⟨bb,ob+k,none⟩) (hcb k h).1).trans (hcb k h).2;have dx:=hsx k;have dy:=hsy k;have HX:Hid (x.length<=k->x[k]?.getD 0=0):=fun h=>by simp [List.getElem?_eq_none h]
    have HY:Hid (y.length<=k->y[k]?.getD 0=0):=fun h=>by simp [List.getElem?_eq_none h]
    simp only [List.getD] at dx dy;by_cases h1:k<m
    ·go_wp2_with (at_builtin;refine dm rl1 (.tmp 40) (.tmp 43) rl1 w.heap.size w _ o rl1 hown ?_ _ ((cv+x.getD k 0+y.getD k 0)%10) rl1 ?_ ?_)
     ·have:=hpl.1;omega
     ·simp only [List.getD];have hx0:=HX.out (by rw [Hx.out];omega);omega
     ·intro v' w' hown';exact PV
    ·have hend:=sJ hpl (by rw [Hx.out];omega) (by rw [Hy.out];omega) hcv;exact EC
  ·go_enter Tryz.func186,Tryz.ntmps186
   go_wp2
   go_loopw [5,6,7] (fun out c i wr=> ∃ (k:Nat) (o:List Nat) (cv:Nat),k<=0+0/\(k<=0\/k<=0)/\i= .int .i64 k/\c= .int .i64 cv/\cv<=1/\yg x y k o cv/\Own w.heap.size w wr out o)
    (fun _ _ i _=>(0+0)- (intOf i).toNat)
   case atStart=>exact⟨0,[],0,Nat.zero_le _,Or.inl (Nat.zero_le _),rfl,rfl,Nat.zero_le _,nM x y,Own.nil (Below.refl _ _) (Nat.le_refl _)⟩
   case round=>
    obtain⟨k,o,cv,hk,hkk,rfl,rfl,hcv,hpl,hown⟩:=hrel;have dx:=hsx k;have dy:=hsy k;have HX:Hid (x.length<=k->x[k]?.getD 0=0):=fun h=>by simp [List.getElem?_eq_none h]
    have HY:Hid (y.length<=k->y[k]?.getD 0=0):=fun h=>by simp [List.getElem?_eq_none h]
    simp only [List.getD] at dx dy;have hend:=sJ hpl (by rw [Hx.out];omega) (by rw [Hy.out];omega) hcv;exact EC
theorem U5(va vb:Value)(x y:Nat)(w:World)(hx:(bZ x).length<=1000000)(hy:(bZ y).length<=1000000)(ha:Rd w va (bZ x))(hb:Rd w vb (bZ y)):
 Calls Tryz.prog 186 #[va,vb] w fun e w'=> ∃ v,e= .returned v/\Rd w' v (bZ (x+y))/\Below w.heap.size w w':=by
 obtain⟨ao,ba,oa,ca,rfl,_,hao,hca⟩:=ha.shape;obtain⟨bo,bb,ob,cb,rfl,_,hbo,hcb⟩:=hb.shape;have:=Ny ao bo ba oa ca bb ob cb _ _ (bZ x) (bZ y) w hx hy rfl rfl (eU _) (eU _) hao hbo hca hcb;rw [eH,eH] at this;exact this
theorem Jg{p:Prop}(h:p:=by
 have Hend:Hid (Small o/\val o=val x- val y):=hend;clear hend;go_wp2_with fail
 refine(sQ _ _ _ Hend.out.1 (by have:=hpl.1;omega) hown.rd).mono ?_;rintro e w1 ⟨v1,rfl,hrd,rfl⟩;go_wp2;go_ret
 exact⟨_,rfl,by rw [← Hend.out.2];exact hrd,hown.below⟩):p:=h
theorem PW{p:Prop}(h:p:=by
 go_wp2;go_roundw
 case rel=>exact⟨k+1,_,1,om1,by go_num,by go_num,om1,iL hpl (by(try simp only [List.getD]);have hy0:=HY.out (by rw [Hy.out];omega);omega) (by simp only [List.getD];have hy0:=HY.out (by rw [Hy.out];omega);omega),hown'⟩
 case measure=>simp [intOf];omega):p:=h
theorem PX{p:Prop}(h:p:=by
 go_wp2;go_roundw
 case rel=>exact⟨k+1,_,0,om1,by go_num,by go_num,om1,iL hpl (by(try simp only [List.getD]);have hy0:=HY.out (by rw [Hy.out];omega);omega) (by simp only [List.getD];have hy0:=HY.out (by rw [Hy.out];omega);omega),hown'⟩
 case measure=>simp [intOf];omega):p:=h
theorem PY{p:Prop}(h:p:=by
 have dx:=hsx k;have dy:=hsy k;have HY:Hid (y.length<=k->y[k]?.getD 0=0):=fun h=>by simp [List.getElem?_eq_none h]
 simp only [List.getD] at dx dy;have hend:=kQ hpl (by rw [Hx.out];omega) (by rw [Hy.out];omega) hcv hle
 exact Jg):p:=h
theorem Jh(ao bo:Option Addr)(ba oa ca bb ob cb n m:Nat)(x y:List Nat)(w:World)(hn:n<=1000000)(hmn:m<=n)(hx:x.length=n)(hy:y.length=m)(hsx:Small x)(hsy:Small y)(hle:val y<=val x)
 (hao:ao=some ⟨ba,oa,none⟩\/(ao=none/\n=0)) (hbo:bo=some ⟨bb,ob,none⟩\/(bo=none/\m=0))
 (hca: ∀ t,t<n->ba<w.heap.size/\w.cell? ⟨ba,oa+t,none⟩=some (.int .i64 ((x.getD t 0:Nat):Int))) (hcb: ∀ t,t<m->bb<w.heap.size/\w.cell? ⟨bb,ob+t,none⟩=some (.int .i64 ((y.getD t 0:Nat):Int))):
 Calls Tryz.prog 188 #[.slice ao n ca, .slice bo m cb] w fun e w'=> ∃ v,e= .returned v/\Rd w' v (bZ (val x- val y))/\Below w.heap.size w w':=by
 have Hx:Hid (x.length=n):=hx;have Hy:Hid (y.length=m):=hy;clear hx hy;rcases hao with rfl|⟨rfl,rfl⟩
 ·rcases hbo with rfl|⟨rfl,rfl⟩
  ·go_enter Tryz.func188,Tryz.ntmps188
   go_wp2
   go_loopw [5,6,7] (fun out c i wr=> ∃ (k:Nat) (o:List Nat) (cv:Nat),k<=n/\i= .int .i64 k/\c= .int .i64 cv/\cv<=1/\lZ x y k o cv/\Own w.heap.size w wr out o)
    (fun _ _ i _=>n- (intOf i).toNat)
   case atStart=>exact⟨0,[],0,Nat.zero_le _,rfl,rfl,Nat.zero_le _,iw x y,Own.nil (Below.refl _ _) (Nat.le_refl _)⟩
   case round=>
    obtain⟨k,o,cv,hk,rfl,rfl,hcv,hpl,hown⟩:=hrel;have ga:k<n->wr.cell? ⟨ba,oa+k,none⟩=some (.int .i64 ((x.getD k 0:Nat):Int)):=fun h=>(hown.below.cell (p:=⟨ba,oa+k,none⟩) (hca k h).1).trans (hca k h).2;have gb:k<m->wr.cell? ⟨bb,ob+k,none⟩=some (.int .i64 ((y.getD k 0:Nat):Int)):=fun h=>(hown.below.cell (p:=⟨bb,ob+k,none⟩) (hcb k h).1).trans (hcb k h).2;have dx:=hsx k;have dy:=hsy k;have HY:Hid (y.length<=k->y[k]?.getD 0=0):=fun h=>by simp [List.getElem?_eq_none h]
    simp only [List.getD] at dx dy;by_cases h1:k<n
    ·by_cases h2:k<m
     ·by_cases h3:x[k]?.getD 0<cv+y[k]?.getD 0
      ·go_wp2_with (at_builtin;refine dm rl1 (.tmp 35) (.tmp 37) rl1 w.heap.size w _ o rl1 hown ?_ _ (x.getD k 0+10- cv- y.getD k 0) rl1 ?_ ?_)
       ·have:=hpl.1;omega
       ·simp only [List.getD];omega
       ·intro v' w' hown';go_wp2;go_roundw
        case rel=>exact⟨k+1,_,1,om1,by go_num,by go_num,om1,iL hpl (by(try simp only [List.getD]);omega) (by simp only [List.getD];omega),hown'⟩
        case measure=>simp [intOf];omega
      ·go_wp2_with (at_builtin;refine dm rl1 (.tmp 35) (.tmp 37) rl1 w.heap.size w _ o rl1 hown ?_ _ (x.getD k 0- cv- y.getD k 0) rl1 ?_ ?_)
       ·have:=hpl.1;omega
       ·simp only [List.getD];omega
       ·intro v' w' hown';go_wp2;go_roundw
        case rel=>exact⟨k+1,_,0,om1,by go_num,by go_num,om1,iL hpl (by(try simp only [List.getD]);omega) (by simp only [List.getD];omega),hown'⟩
        case measure=>simp [intOf];omega
     ·by_cases h3:x[k]?.getD 0<cv
      ·go_wp2_with (at_builtin;refine dm rl1 (.tmp 35) (.tmp 37) rl1 w.heap.size w _ o rl1 hown ?_ _ (x.getD k 0+10- cv- y.getD k 0) rl1 ?_ ?_)
       ·have:=hpl.1;omega
       ·simp only [List.getD];have hy0:=HY.out (by rw [Hy.out];omega);omega
       ·intro v' w' hown';exact PW
      ·go_wp2_with (at_builtin;refine dm rl1 (.tmp 35) (.tmp 37) rl1 w.heap.size w _ o rl1 hown ?_ _ (x.getD k 0- cv- y.getD k 0) rl1 ?_ ?_)
       ·have:=hpl.1;omega
       ·simp only [List.getD];have hy0:=HY.out (by rw [Hy.out];omega);omega
       ·intro v' w' hown';exact PX
    ·have hend:=kQ hpl (by rw [Hx.out];omega) (by rw [Hy.out];omega) hcv hle;exact Jg
  ·go_enter Tryz.func188,Tryz.ntmps188
   go_wp2
   go_loopw [5,6,7] (fun out c i wr=> ∃ (k:Nat) (o:List Nat) (cv:Nat),k<=n/\i= .int .i64 k/\c= .int .i64 cv/\cv<=1/\lZ x y k o cv/\Own w.heap.size w wr out o)
    (fun _ _ i _=>n- (intOf i).toNat)
   case atStart=>exact⟨0,[],0,Nat.zero_le _,rfl,rfl,Nat.zero_le _,iw x y,Own.nil (Below.refl _ _) (Nat.le_refl _)⟩
   case round=>
    obtain⟨k,o,cv,hk,rfl,rfl,hcv,hpl,hown⟩:=hrel;have ga:k<n->wr.cell? ⟨ba,oa+k,none⟩=some (.int .i64 ((x.getD k 0:Nat):Int)):=fun h=>(hown.below.cell (p:=⟨ba,oa+k,none⟩) (hca k h).1).trans (hca k h).2;have dx:=hsx k;have dy:=hsy k;have HY:Hid (y.length<=k->y[k]?.getD 0=0):=fun h=>by simp [List.getElem?_eq_none h]
    simp only [List.getD] at dx dy;by_cases h1:k<n
    ·by_cases h3:x[k]?.getD 0<cv
     ·go_wp2_with (at_builtin;refine dm rl1 (.tmp 35) (.tmp 37) rl1 w.heap.size w _ o rl1 hown ?_ _ (x.getD k 0+10- cv- y.getD k 0) rl1 ?_ ?_)
      ·have:=hpl.1;omega
      ·simp only [List.getD];have hy0:=HY.out (by rw [Hy.out];omega);omega
      ·intro v' w' hown';exact PW
     ·go_wp2_with (at_builtin;refine dm rl1 (.tmp 35) (.tmp 37) rl1 w.heap.size w _ o rl1 hown ?_ _ (x.getD k 0- cv- y.getD k 0) rl1 ?_ ?_)
      ·have:=hpl.1;omega
      ·simp only [List.getD];have hy0:=HY.out (by rw [Hy.out];omega);omega
      ·intro v' w' hown';exact PX
    ·have hend:=kQ hpl (by rw [Hx.out];omega) (by rw [Hy.out];omega) hcv hle;exact Jg
 ·obtain rfl:m=0:=om1;rcases hbo with rfl|⟨rfl,_⟩
  ·go_enter Tryz.func188,Tryz.ntmps188
   go_wp2
   go_loopw [5,6,7] (fun out c i wr=> ∃ (k:Nat) (o:List Nat) (cv:Nat),k<=0/\i= .int .i64 k/\c= .int .i64 cv/\cv<=1/\lZ x y k o cv/\Own w.heap.size w wr out o)
    (fun _ _ i _=>0- (intOf i).toNat)
   case atStart=>exact⟨0,[],0,Nat.zero_le _,rfl,rfl,Nat.zero_le _,iw x y,Own.nil (Below.refl _ _) (Nat.le_refl _)⟩
   case round=>
    obtain⟨k,o,cv,hk,rfl,rfl,hcv,hpl,hown⟩:=hrel;have gb:k<0->wr.cell? ⟨bb,ob+k,none⟩=some (.int .i64 ((y.getD k 0:Nat):Int)):=fun h=>(hown.below.cell (p:=⟨bb,ob+k,none⟩) (hcb k h).1).trans (hcb k h).2;exact PY
  ·go_enter Tryz.func188,Tryz.ntmps188
   go_wp2
   go_loopw [5,6,7] (fun out c i wr=> ∃ (k:Nat) (o:List Nat) (cv:Nat),k<=0/\i= .int .i64 k/\c= .int .i64 cv/\cv<=1/\lZ x y k o cv/\Own w.heap.size w wr out o)
    (fun _ _ i _=>0- (intOf i).toNat)
   case atStart=>exact⟨0,[],0,Nat.zero_le _,rfl,rfl,Nat.zero_le _,iw x y,Own.nil (Below.refl _ _) (Nat.le_refl _)⟩
   case round=>
    obtain⟨k,o,cv,hk,rfl,rfl,hcv,hpl,hown⟩:=hrel;exact PY
theorem vN(va vb:Value)(x y:Nat)(w:World)(hx:(bZ x).length<=1000000)(hle:y<=x)(ha:Rd w va (bZ x))(hb:Rd w vb (bZ y)):
 Calls Tryz.prog 188 #[va,vb] w fun e w'=> ∃ v,e= .returned v/\Rd w' v (bZ (x- y))/\Below w.heap.size w w':=by
 obtain⟨ao,ba,oa,ca,rfl,_,hao,hca⟩:=ha.shape;obtain⟨bo,bb,ob,cb,rfl,_,hbo,hcb⟩:=hb.shape;have:=Jh ao bo ba oa ca bb ob cb _ _ (bZ x) (bZ y) w hx (bg hle) rfl rfl (eU _) (eU _) (by rw [eH,eH];exact hle) hao hbo hca hcb;rw [eH,eH] at this;exact this
end
section
open Go.RowKit Dt
namespace Pr
def InV(z:Int):Prop:= -4611686018427387903<=z/\z<=4611686018427387903
instance (z:Int):Decidable (InV z):=by unfold InV;infer_instance
def oK(X:Nat->Int)(P:Nat->Nat->Int):Prop:= ∀ i,i<6->InV (X i)/\0<=P i i/\ ∀ j,j<6->InV (P i j)/\P i j=P j i
theorem qH(a b:Nat->Int)(n:Nat):dk a b n=dk b a n:=by
 induction n with
 |zero=>rfl
 |succ n ih=>unfold dk;rw [ih,Int.mul_comm (a n)]
theorem Hid.mkQ{p:Prop}(h:p):Hid p:=h
end Pr
end
section
namespace Tg
def YL:List Int:= [576460752303423488,340304653033718298,179807632645220259,91273161881380487,45813697873323707,22929182573009054,11467389120678282,5734044481687724,2867065987018958,1433538461969102,716769914547871,358385042719534,179192532040472,89596267355325,44798133844548,22399066943135,11199533474175,5599766737413,2799883368747,1399941684379,699970842190,349985421095,174992710548,87496355274,43748177637,21874088818,10937044409,5468522205,2734261102,1367130551,683565276,341782638,170891319,85445659,42722830,21361415,10680707,5340354,2670177,1335088]
def ang(k:Nat):Int:=YL.getD k 0
theorem PZ{k:Nat}(h:k<40):0<ang k/\ang k<=576460752303423488:=by
 have: ∀ j,j<40->0<ang j/\ang j<=576460752303423488:=by decide
 exact this k h
def fl(n:Int)(k:Nat):Int:=n/2^k
theorem P5(n:Int):fl n 0=n:=by unfold fl;rw [Int.pow_zero,Int.ediv_one]
theorem P6(n:Int)(k:Nat):fl n (k+1)=fl n k/2:=by
 unfold fl;have h:(0:Int)<2^k:=Int.pow_pos om1;rw [Int.ediv_ediv,if_neg (fun h=>absurd h.1 om1),Int.sub_zero,Int.pow_succ]
theorem U6{n B:Int}(k:Nat)(h0: -B<=n)(h1:n<=B): -(fl B k+1)<=fl n k/\fl n k<=fl B k:=by
 induction k with
 |zero=>rw [P5,P5];omega
 |succ k ih=>rw [P6,P6];omega
def gr:Nat->Int
 |0=>1152921504606846976
 |k+1=>gr k+fl (gr k) k+1
theorem YM{k:Nat}(h:k<=40):0<=gr k/\gr k<=5600000000000000000:=by
 have: ∀ j,j<41->0<=gr j/\gr j<=5600000000000000000:=by decide
 exact this k om1
structure St where
 x:Int
 y:Int
 z:Int
deriving DecidableEq
def lf(k:Nat)(s:St):St:=⟨s.x- fl s.y k,s.y+fl s.x k,s.z- ang k⟩
def rt(k:Nat)(s:St):St:=⟨s.x+fl s.y k,s.y- fl s.x k,s.z+ang k⟩
def bst(s:St):Nat->St
 |0=>s
 |k+1=>if 0<=(bst s k).z then lf k (bst s k) else rt k (bst s k)
def zs:Nat->Int
 |0=>576460752303423488
 |k+1=>zs k+ang k
theorem zs_le{k:Nat}(h:k<=40):0<=zs k/\zs k<=2000000000000000000:=by
 have: ∀ j,j<41->0<=zs j/\zs j<=2000000000000000000:=by decide
 exact this k om1
structure Ok(k:Nat)(s:St):Prop where
 x0: -gr k<=s.x
 x1:s.x<=gr k
 y0: -gr k<=s.y
 y1:s.y<=gr k
 z0: -zs k<=s.z
 z1:s.z<=zs k
theorem Ok.lf{k:Nat}{s:St}(h:Ok k s)(hk:k<40):Ok (k+1) (lf k s):=by
 obtain⟨x0,x1,y0,y1,z0,z1⟩:=h;have a:=U6 k x0 x1;have b:=U6 k y0 y1;have c:=PZ hk;have d:=YM (k:=k) om1;have e:gr (k+1)=gr k+fl (gr k) k+1:=rfl;have f:zs (k+1)=zs k+ang k:=rfl;constructor<;>simp only [Tg.lf]<;>omega
theorem Ok.rt{k:Nat}{s:St}(h:Ok k s)(hk:k<40):Ok (k+1) (rt k s):=by
 obtain⟨x0,x1,y0,y1,z0,z1⟩:=h;have a:=U6 k x0 x1;have b:=U6 k y0 y1;have c:=PZ hk;have d:=YM (k:=k) om1;have e:gr (k+1)=gr k+fl (gr k) k+1:=rfl;have f:zs (k+1)=zs k+ang k:=rfl;constructor<;>simp only [Tg.rt]<;>omega
theorem Ok.bst{s:St}(h:Ok 0 s): ∀ {k:Nat},k<=40->Ok k (bst s k)
 |0,_=>h
 |k+1,hk=>by
  have:=Ok.bst h (k:=k) om1
  unfold Tg.bst
  split
  · exact this.lf om1
  · exact this.rt om1
theorem Ok.bd{k:Nat}{s:St}(h:Ok k s)(hk:k<=40):(-5600000000000000000<=s.x/\s.x<=5600000000000000000)/\(-5600000000000000000<=s.y/\s.y<=5600000000000000000)/\(-2000000000000000000<=s.z/\s.z<=2000000000000000000):=by
 obtain⟨x0,x1,y0,y1,z0,z1⟩:=h;have d:=YM hk;have e:=zs_le hk;omega
end Tg
open Go.RowKit Tg
namespace Tg
def Xc:Array Value:= #[.int .i64 576460752303423488, .int .i64 340304653033718298, .int .i64 179807632645220259, .int .i64 91273161881380487, .int .i64 45813697873323707, .int .i64 22929182573009054, .int .i64 11467389120678282, .int .i64 5734044481687724, .int .i64 2867065987018958, .int .i64 1433538461969102, .int .i64 716769914547871, .int .i64 358385042719534, .int .i64 179192532040472, .int .i64 89596267355325, .int .i64 44798133844548, .int .i64 22399066943135, .int .i64 11199533474175, .int .i64 5599766737413, .int .i64 2799883368747, .int .i64 1399941684379, .int .i64 699970842190, .int .i64 349985421095, .int .i64 174992710548, .int .i64 87496355274, .int .i64 43748177637, .int .i64 21874088818, .int .i64 10937044409, .int .i64 5468522205, .int .i64 2734261102, .int .i64 1367130551, .int .i64 683565276, .int .i64 341782638, .int .i64 170891319, .int .i64 85445659, .int .i64 42722830, .int .i64 21361415, .int .i64 10680707, .int .i64 5340354, .int .i64 2670177, .int .i64 1335088]
theorem YN:Xc.toList=YL.map (Value.int .i64):=rl1
theorem P7(w:World): ∀ {k:Nat},k<40->(Instr.index 386 (.agg Xc) (.int .i64 (k:Int))).run Tryz.prog w= .ok (.int .i64 (ang k)) w
 |0,_=>by kernel_rfl
 |1,_=>by kernel_rfl
 |2,_=>by kernel_rfl
 |3,_=>by kernel_rfl
 |4,_=>by kernel_rfl
 |5,_=>by kernel_rfl
 |6,_=>by kernel_rfl
 |7,_=>by kernel_rfl
 |8,_=>by kernel_rfl
 |9,_=>by kernel_rfl
 |10,_=>by kernel_rfl
 |11,_=>by kernel_rfl
 |12,_=>by kernel_rfl
 |13,_=>by kernel_rfl
 |14,_=>by kernel_rfl
 |15,_=>by kernel_rfl
 |16,_=>by kernel_rfl
 |17,_=>by kernel_rfl
 |18,_=>by kernel_rfl
 |19,_=>by kernel_rfl
 |20,_=>by kernel_rfl
 |21,_=>by kernel_rfl
 |22,_=>by kernel_rfl
 |23,_=>by kernel_rfl
 |24,_=>by kernel_rfl
 |25,_=>by kernel_rfl
 |26,_=>by kernel_rfl
 |27,_=>by kernel_rfl
 |28,_=>by kernel_rfl
 |29,_=>by kernel_rfl
 |30,_=>by kernel_rfl
 |31,_=>by kernel_rfl
 |32,_=>by kernel_rfl
 |33,_=>by kernel_rfl
 |34,_=>by kernel_rfl
 |35,_=>by kernel_rfl
 |36,_=>by kernel_rfl
 |37,_=>by kernel_rfl
 |38,_=>by kernel_rfl
 |39,_=>by kernel_rfl
 |n+40,h=>absurd h om1
end Tg
def iM(w:World):Prop:= ∃ t,w.heap[3]?=some (.cells Xc t (0,0))
theorem iM.lt{w:World}(h:iM w):3<w.heap.size:=by
 obtain⟨t,h⟩:=h;rcases Nat.lt_or_ge 3 w.heap.size with k|k
 · exact k
 · rw [Array.getElem?_eq_none k] at h;cases h
theorem iM.below{w w':World}(h:iM w)(hb:Below w.heap.size w w'):iM w':=by
 have hl:=h.lt;obtain⟨t,h⟩:=h;exact⟨t,(hb.block _ hl).trans h⟩
theorem U7:(Tryz.prog.info? 386).map (·.size)=some Xc.size:=by kernel_rfl
theorem CZ{ops:Array Oper}{rest:List Oper}{o:Oper}{a:Act}{w:World}{Q:Exit->Act->World->Prop}(hgd:o.guard=none)(x:Operand)(ho:o.op= .load 386 x)
 (hx:a.eval x= .pointer (some ⟨3,0,none⟩)) (hr:iM w)
 (h:wpList Tryz.prog ops Q rest (a.put o.dst (.agg Xc)) w):wpList Tryz.prog ops Q (o::rest) a w:=by
 obtain⟨t,hr⟩:=hr;exact wpList_load_row hgd _ x ho 3 hx _ _ _ _ hr Tryz.underlying386 rfl U7 h
end
section
open Go.RowKit
namespace Tn
def rne(n d:Int):Int:=if 2*(n%d)<d\/2*(n%d)=d/\n/d%2=0 then n/d else n/d+1
theorem Gp(n d c:Int)(hd:0<d)(hc:0<c):rne (n*c) (d*c)=rne n d:=by
 have h1:n*c/(d*c)=n/d:=Int.mul_ediv_mul_of_pos_left n d hc
 have h2:n*c%(d*c)=n%d*c:=by
  rw [Int.mul_comm n c,Int.mul_comm d c,Int.mul_emod_mul_of_pos _ _ hc,Int.mul_comm]
 unfold rne;rw [h1,h2]
 have e1:2*(n%d*c)<d*c↔2*(n%d)<d:=by
  rw [← Int.mul_assoc];exact⟨fun h=>Int.lt_of_mul_lt_mul_right h (Int.le_of_lt hc),fun h=>Int.mul_lt_mul_of_pos_right h hc⟩
 have e2:2*(n%d*c)=d*c↔2*(n%d)=d:=by
  rw [← Int.mul_assoc];exact⟨fun h=>Int.eq_of_mul_eq_mul_right om1 h,fun h=>by rw [h]⟩
 simp only [e1,e2]
theorem xG(X D E:Int)(hD:0<D)(hE:0<E)(hDE:D*E=18446744073709551616):
 X%18446744073709551616/D+X/18446744073709551616%18446744073709551616*E%18446744073709551616=X/D%18446744073709551616/\X%18446744073709551616/D<E/\0<=X%18446744073709551616/D/\ ∃ k:Int,0<=k/\X/18446744073709551616%18446744073709551616*E%18446744073709551616=E*k:=by
 have hX:X=D*(E*(X/18446744073709551616))+X%18446744073709551616:=by
  rw [← Int.mul_assoc,hDE];omega
 generalize hY:X/18446744073709551616=Y at*;generalize hr:X%18446744073709551616=r at*;have hr0:0<=r:=om1;have hr1:r<18446744073709551616:=om1
 have e1:X/D=E*Y+r/D:=by
  rw [hX,Int.add_comm,Int.add_mul_ediv_left _ _ om1,Int.add_comm]
 have hlt:r/D<E:=Int.ediv_lt_of_lt_mul hD (by rw [Int.mul_comm,hDE];exact hr1);have h0:0<=r/D:=Int.ediv_nonneg hr0 om1
 have e2:Y%18446744073709551616*E%18446744073709551616=E*(Y%D):=by
  have:Y%18446744073709551616*E%18446744073709551616=Y*E%18446744073709551616:=by
   rw [Int.mul_emod,Int.emod_emod_of_dvd _ (Int.dvd_refl _),← Int.mul_emod]
  rw [this,← hDE,Int.mul_comm D E,Int.mul_comm Y E,Int.mul_emod_mul_of_pos _ _ hE]
 have hm0:0<=Y%D:=Int.emod_nonneg _ om1;have hm1:Y%D<D:=Int.emod_lt_of_pos _ hD;refine⟨?_,hlt,h0,Y%D,hm0,e2⟩;rw [e2,e1]
 have e3:(E*Y+r/D)%18446744073709551616=E*(Y%D)+r/D:=by
  have hb:E*(Y%D)+r/D<18446744073709551616:=by
   have:E*(Y%D+1)<=E*D:=Int.mul_le_mul_of_nonneg_left om1 om1;rw [Int.mul_add,Int.mul_comm E D,hDE] at this;omega
  have hb0:0<=E*(Y%D):=Int.mul_nonneg om1 hm0
  have:E*Y+r/D=E*(Y%D)+r/D+18446744073709551616*(Y/D):=by
   have:=Int.emod_add_mul_ediv Y D;have h2:E*Y=E*(Y%D)+E*(D*(Y/D)):=by rw [← Int.mul_add,this]
   rw [h2,← Int.mul_assoc E D,Int.mul_comm E D,hDE];omega
  rw [this,Int.add_mul_emod_self_left];exact Int.emod_eq_of_lt om1 hb
 rw [e3];omega
theorem Ji(a b E:Int)(q:Nat)(hE:(2:Int)^q=E)(ha0:0<=a)(ha:a<E)(hb0:0<=b)(hb1:b<18446744073709551616)(hEW:E<=18446744073709551616)(hk: ∃ k:Int,0<=k/\b=E*k):bits .or .u64 a b=a+b:=by
 obtain⟨k,hk0,hk⟩:=hk;obtain⟨A,rfl⟩:=Int.eq_ofNat_of_zero_le ha0;obtain⟨B,rfl⟩:=Int.eq_ofNat_of_zero_le hb0;obtain⟨K,rfl⟩:=Int.eq_ofNat_of_zero_le hk0;have hE':E=((2^q:Nat):Int):=by rw [← hE];simp
 subst hE';rw [bits_or_u64_nat A B om1 om1];have hB:B=2^q*K:=by have:=hk;rw [← Int.natCast_mul] at this;omega
 rw [Nat.or_comm,nat_join q B A (by rw [hB];exact Nat.mul_mod_right _ _) om1];omega
theorem Az(a b:Int)(p q:Nat)(D E:Int)(ha0:0<=a)(ha:a<18446744073709551616)(hb0:0<=b)(hb:b<18446744073709551616)(hpq:p+q=64)(hD:(2:Int)^p=D)(hE:(2:Int)^q=E):
 ∃ rest last:Int,bits .or .u64 (IntKind.u64.wrap (a*E)) (b/D)=rest/\IntKind.u64.wrap (b*E)=last/\0<=rest/\rest<18446744073709551616/\0<=last/\
  rne (a*18446744073709551616+b) (18446744073709551616*D)=if 9223372036854775808<rest\/rest=9223372036854775808/\(last≠0\/a/D%2=1) then a/D+1 else a/D:=by
 have hD0:0<D:=by rw [← hD];exact Int.pow_pos om1
 have hE0:0<E:=by rw [← hE];exact Int.pow_pos om1
 have hDE:D*E=18446744073709551616:=by rw [← hD,← hE,← Int.pow_add,hpq];rfl
 have hEW:E<=18446744073709551616:=by
  have:1*E<=D*E:=Int.mul_le_mul_of_nonneg_right om1 om1;omega
 generalize hX:a*18446744073709551616+b=X;have hXa:X/18446744073709551616=a:=om1;have hXb:X%18446744073709551616=b:=om1;obtain⟨h1,h2,h3,k,hk0,h4⟩:=xG X D E hD0 hE0 hDE;rw [hXa,hXb,Int.emod_eq_of_lt ha0 ha] at h1;rw [hXb] at h2 h3;rw [hXa,Int.emod_eq_of_lt ha0 ha] at h4
 have o1:bits .or .u64 (b/D) (IntKind.u64.wrap (a*E))=X/D%18446744073709551616:=by
  rw [IntKind.wrap_u64,Ji _ _ E q hE h3 h2 om1 om1 hEW ⟨k,hk0,h4⟩,h1]
 have oc:bits .or .u64 (IntKind.u64.wrap (a*E)) (b/D)=bits .or .u64 (b/D) (IntKind.u64.wrap (a*E)):=by
  have hx0:0<=IntKind.u64.wrap (a*E):=by rw [IntKind.wrap_u64];omega
  have hx1:IntKind.u64.wrap (a*E)<18446744073709551616:=by rw [IntKind.wrap_u64];omega
  generalize IntKind.u64.wrap (a*E)=u at*;obtain⟨U,rfl⟩:=Int.eq_ofNat_of_zero_le hx0;have h6:b/D<18446744073709551616:=om1;generalize b/D=v at*;obtain⟨V,rfl⟩:=Int.eq_ofNat_of_zero_le h3;rw [bits_or_u64_nat U V om1 om1,bits_or_u64_nat V U om1 om1,Nat.or_comm]
 refine⟨X/D%18446744073709551616,_,by rw [oc,o1],rfl,om1,om1,by rw [IntKind.wrap_u64];omega, ?_⟩
 have hl:IntKind.u64.wrap (b*E)=E*(b%D):=by
  rw [IntKind.wrap_u64];have:(18446744073709551616:Int)=E*D:=by rw [Int.mul_comm];exact hDE.symm
  rw [Int.mul_comm b E,this,Int.mul_emod_mul_of_pos _ _ hE0]
 have hbD:b%D=X%D:=by
  rw [← hXb];exact Int.emod_emod_of_dvd X ⟨E,hDE.symm⟩
 have hl0:IntKind.u64.wrap (b*E)≠0↔X%D≠0:=by
  rw [hl,hbD];constructor
  ·intro h e;rw [e] at h;simp at h
  ·intro h e;rcases Int.mul_eq_zero.1 e with e|e<;>omega
 have hm0:0<=X%D:=Int.emod_nonneg _ om1;have hm1:X%D<D:=Int.emod_lt_of_pos _ hD0
 have hq:X/(18446744073709551616*D)=a/D:=by
  rw [← hXa,Int.ediv_ediv,if_neg (fun h=>absurd h.1 om1),Int.sub_zero]
 have hr:X%(18446744073709551616*D)=(X/D%18446744073709551616)*D+X%D:=by
  have e1:=Int.emod_add_mul_ediv X D;have e2:=Int.emod_add_mul_ediv (X/D) 18446744073709551616;have e3:=Int.emod_add_mul_ediv X (18446744073709551616*D)
  have e4:X/D/18446744073709551616=X/(18446744073709551616*D):=by
   rw [Int.ediv_ediv,if_neg (fun h=>absurd h.1 om1),Int.mul_comm,Int.sub_zero]
  rw [e4] at e2;generalize X/(18446744073709551616*D)=Y at*;generalize hZ:X/D%18446744073709551616=Z at*;have e5:D*(X/D)=D*(Z+18446744073709551616*Y):=by rw [e2]
  have e6:D*(Z+18446744073709551616*Y)=Z*D+18446744073709551616*D*Y:=by
   rw [Int.mul_add,Int.mul_comm D Z,← Int.mul_assoc,Int.mul_comm D]
  omega
 unfold rne;rw [hq,hr];simp only [hl0];generalize hR:X/D%18446744073709551616=R at*;generalize X%D=r at*;have hR0:0<=R:=om1;rcases Int.lt_trichotomy R 9223372036854775808 with c|c|c
 ·have:(R+1)*D<=9223372036854775808*D:=Int.mul_le_mul_of_nonneg_right om1 om1;rw [Int.add_mul] at this;rw [if_pos (Or.inl om1),if_neg om1]
 ·subst c;by_cases c2:r=0
  ·subst c2;by_cases c3:a/D%2=0
   ·rw [if_pos (Or.inr ⟨om1,c3⟩),if_neg om1]
   ·rw [if_neg om1,if_pos om1]
  ·rw [if_neg om1,if_pos om1]
 ·have:9223372036854775809*D<=R*D:=Int.mul_le_mul_of_nonneg_right om1 om1;rw [if_neg om1,if_pos (Or.inl c)]
end Tn
end
section
namespace Gw
open Qn
theorem La{a b d:Int}(hd:0<d)(h:a<=b):rne a d<=rne b d:=by
 have e1:=Int.mul_ediv_add_emod a d;have e2:=Int.mul_ediv_add_emod b d;have q:=Int.ediv_le_ediv hd h;unfold rne;rcases Int.lt_or_le (a/d) (b/d) with k|k
 · split<;>split<;>omega
 · have ek:a/d=b/d:=om1;rw [ek] at e1 ⊢;split<;>split<;>omega
theorem Qa{n1 d1 n2 d2:Int}(h1:0<d1)(h2:0<d2)(h:n1*d2<=n2*d1):rne n1 d1<=rne n2 d2:=by
 have e1:rne (n1*d2) (d1*d2)=rne n1 d1:=Tn.Gp n1 d1 d2 h1 h2;have e2:rne (n2*d1) (d2*d1)=rne n2 d2:=Tn.Gp n2 d2 d1 h2 h1;rw [← e1,← e2,Int.mul_comm d2 d1];exact La (Int.mul_pos h1 h2) h
theorem YO(n:Int){d:Int}(hd:0<d):2*(d*rne n d)<=2*n+d/\2*n- d<=2*(d*rne n d):=by
 have e:=Int.mul_ediv_add_emod n d;have r0:=Int.emod_nonneg n (show d≠0 by omega);have r1:=Int.emod_lt_of_pos n hd;unfold rne;split
 · omega
 · rw [Int.mul_add,Int.mul_one];omega
theorem DF{a b:Int}(h:a<=b):clamp a<=clamp b:=by
 unfold clamp;split<;>split<;>(try split)<;>(try split)<;>omega
theorem Lc{a b a2 b2:Int}(ha0:0<=a)(ha:a<=a2)(hb0:0<=b)(hb:b<=b2):tim a b<=tim a2 b2:=
 DF (La (by decide) (Int.mul_le_mul ha hb hb0 om1))
theorem Xd{a b:Int}(ha:0<=a)(hb:0<=b):0<=tim a b:=by
 have h:=Lc (a:=0) (b:=0) (a2:=a) (b2:=b) om1 ha om1 hb;have e:tim 0 0=0:=by decide
 omega
theorem Qb{a b:Int}(n:Nat)(ha:0<=a)(h:a<=b):0<=a.tdiv n/\a.tdiv n<=b.tdiv n:=by
 rw [Int.tdiv_eq_ediv_of_nonneg ha,Int.tdiv_eq_ediv_of_nonneg (show 0<=b by omega)];refine⟨Int.ediv_nonneg ha (Int.natCast_nonneg n), ?_⟩;rcases Nat.eq_zero_or_pos n with k|k
 · subst k;simp
 · exact Int.ediv_le_ediv om1 h
theorem ED{r s:Int}(h0:0<=r)(h:r<=s): ∀ n,0<=td r n/\td r n<=td s n
 |0=>by unfold td;omega
 |n+1=>by
  have ih:=ED h0 h n
  have:=Lc ih.1 ih.2 h0 h
  exact Qb _ (Xd ih.1 h0) this
theorem Le{r:Int}(h0:0<=r)(h1:r<=1125899906842624):td r 1=r:=by
 have e:tim 1125899906842624 r=r:=by
  have:=(yh (a:=r) (b:=1125899906842624) (A:=1125899906842624) om1 om1 om1 om1 om1).1;have hc:tim 1125899906842624 r=tim r 1125899906842624:=by unfold tim;rw [Int.mul_comm]
  rw [hc,this];exact Pj r (2^50) (by decide)
 show(tim 1125899906842624 r).tdiv ((0+1:Nat):Int)=r;rw [e];exact Int.tdiv_one r
theorem Jj{r:Int}(n:Nat)(h0:0<=r)(h1:r<=1125899906842624):
 2251799813685248*(((n:Int)+1)*td r (n+1))<=2*(td r n*r)+1125899906842624/\
 2*(td r n*r)- 1125899906842624<=2251799813685248*(((n:Int)+1)*td r (n+1)+n):=by
 have b:=YC h0 h1 n;have t0:=(ED h0 (Int.le_refl r) n).1;have q:=(yh (a:=td r n) (b:=r) (A:=1125899906842624) b.1 b.2 om1 h1 om1).1;have q0:=Xd t0 h0;have e:=YO (td r n*r) (d:=2^50) (by decide);rw [← q,show(2:Int)^50=1125899906842624 from rfl] at e;have hv:td r (n+1)=(tim (td r n) r)/((n+1:Nat):Int):=Int.tdiv_eq_ediv_of_nonneg q0;obtain⟨Q,hQ⟩: ∃ Q,Q=tim (td r n) r:=⟨_,rfl⟩;rw [← hQ] at e q0 hv;have m:=Int.mul_ediv_add_emod Q ((n+1:Nat):Int);have m0:=Int.emod_nonneg Q (show((n+1:Nat):Int)≠0 by omega);have m1:=Int.emod_lt_of_pos Q (show(0:Int)<((n+1:Nat):Int) by omega);rw [← hv,show((n+1:Nat):Int)=(n:Int)+1 by omega] at m;rw [show((n+1:Nat):Int)=(n:Int)+1 by omega] at m0 m1;omega
def ta:Nat->Int
 |0=>1000000
 |n+1=>ta n*7/(10*((n:Int)+1))+1
def al:Nat->Int
 |0=>0
 |1=>1000000
 |n+2=>(7*al (n+1)+10*ta (n+1))/(10*((n:Int)+2))+1
theorem U8: ∀ n,0<=ta n
 |0=>by unfold ta;omega
 |n+1=>by
  have:=U8 n
  unfold ta
  have:=Int.ediv_nonneg (a:=ta n*7) (b:=10*((n:Int)+1)) om1 om1
  omega
theorem al_nn: ∀ n,0<=al n
 |0=>by unfold al;omega
 |1=>by unfold al;omega
 |n+2=>by
  have:=al_nn (n+1)
  have:=U8 (n+1)
  unfold al
  have:=Int.ediv_nonneg (a:=7*al (n+1)+10*ta (n+1)) (b:=10*((n:Int)+2)) om1 om1
  omega
theorem up_div(a b:Int)(hb:0<b):a<=b*(a/b+1):=by
 have e:=Int.mul_ediv_add_emod a b;have:=Int.emod_lt_of_pos a hb;rw [Int.mul_add,Int.mul_one];omega
theorem td_ta{r:Int}(h0:0<=r)(h1:10*r<=7881299347898368): ∀ n,1000000*td r n<=ta n*1125899906842624+2000000
 |0=>by unfold td ta;omega
 |n+1=>by
  have ih:=td_ta h0 h1 n
  have nx:=(Jj n h0 om1).1
  have tn:=U8 n
  obtain⟨A,hA⟩: ∃ A,A=ta n*1125899906842624+2000000:=⟨_,rfl⟩
  rw [← hA] at ih
  have p1:1000000*td r n*r<=A*r:=Int.mul_le_mul_of_nonneg_right ih h0
  have p2:A*(10*r)<=A*7881299347898368:=Int.mul_le_mul_of_nonneg_left h1 om1
  have p3:A*(10*r)=10*(A*r):=by rw [← Int.mul_assoc,Int.mul_comm A 10,Int.mul_assoc]
  have p4:1000000*td r n*r=1000000*(td r n*r):=Int.mul_assoc _ _ _
  have u:=up_div (ta n*7) (10*((n:Int)+1)) om1
  have e:ta (n+1)=ta n*7/(10*((n:Int)+1))+1:=rfl
  rw [← e] at u
  have u2:10*((n:Int)+1)*ta (n+1)=10*(((n:Int)+1)*ta (n+1)):=Int.mul_assoc _ _ _
  have key:((n:Int)+1)*(1000000*td r (n+1))<=((n:Int)+1)*(ta (n+1)*1125899906842624+2000000):=by
   have f1:((n:Int)+1)*(1000000*td r (n+1))=1000000*(((n:Int)+1)*td r (n+1)):=by rw [← Int.mul_assoc,Int.mul_comm _ 1000000,Int.mul_assoc]
   have f2:((n:Int)+1)*(ta (n+1)*1125899906842624+2000000)=1125899906842624*(((n:Int)+1)*ta (n+1))+2000000*((n:Int)+1):=by
    rw [Int.mul_add,← Int.mul_assoc,Int.mul_comm _ 1125899906842624,Int.mul_comm _ 2000000]
   rw [f1,f2];omega
  exact Int.le_of_mul_le_mul_left key om1
theorem td_al{r s:Int}(h0:0<=r)(hrs:r<=s)(h1:10*s<=7881299347898368): ∀ n,1<=n->1000000*(td s n- td r n)<=al n*(s- r)+3000000
 |0,h=>absurd h om1
 |1,_=>by
  rw [Le h0 om1,Le om1 om1]
  show _<=1000000*(s- r)+3000000
  omega
 |n+2,_=>by
  have ih:=td_al h0 hrs h1 (n+1) om1
  have t1:=(Jj (n+1) h0 om1).2
  have t2:=(Jj (n+1) (r:=s) om1 om1).1
  have mo:=ED h0 hrs (n+1)
  have ht:=td_ta h0 (show 10*r<=7881299347898368 by omega) (n+1)
  have tn:=U8 (n+1)
  have an:=al_nn (n+1)
  obtain⟨δ,hδ⟩: ∃ δ,δ=s- r:=⟨_,rfl⟩
  have d0:0<=δ:=om1
  have d1:10*δ<=7881299347898368:=om1
  rw [← hδ] at ih ⊢
  obtain⟨t,ht'⟩: ∃ t,t=td r (n+1):=⟨_,rfl⟩
  obtain⟨u,hu⟩: ∃ u,u=td s (n+1):=⟨_,rfl⟩
  rw [← ht'] at ih t1 mo ht
  rw [← hu] at ih t2 mo
  have hs:s=r+δ:=om1
  have hp:u*s- t*r=(u- t)*s+t*δ:=by
   rw [Int.sub_mul,hs,Int.mul_add t];omega
  obtain⟨A,hA⟩: ∃ A,A=al (n+1)*δ+3000000:=⟨_,rfl⟩;rw [← hA] at ih;have hA0:0<=A:=by have:=Int.mul_nonneg an d0;omega
  have p1:1000000*(u- t)*s<=A*s:=Int.mul_le_mul_of_nonneg_right ih om1;have p2:A*(10*s)<=A*7881299347898368:=Int.mul_le_mul_of_nonneg_left h1 hA0;have p3:A*(10*s)=10*(A*s):=by rw [← Int.mul_assoc,Int.mul_comm A 10,Int.mul_assoc]
  have p4:1000000*(u- t)*s=1000000*((u- t)*s):=Int.mul_assoc _ _ _;have p5:1000000*t*δ<=(ta (n+1)*1125899906842624+2000000)*δ:=Int.mul_le_mul_of_nonneg_right ht d0;have p6:1000000*t*δ=1000000*(t*δ):=Int.mul_assoc _ _ _
  have p7:(ta (n+1)*1125899906842624+2000000)*δ=1125899906842624*(ta (n+1)*δ)+2000000*δ:=by
   rw [Int.add_mul,Int.mul_comm (ta (n+1)),Int.mul_assoc]
  have e:al (n+2)=(7*al (n+1)+10*ta (n+1))/(10*((n:Int)+2))+1:=rfl;have w:=up_div (7*al (n+1)+10*ta (n+1)) (10*((n:Int)+2)) om1;rw [← e] at w;have w1:=Int.mul_le_mul_of_nonneg_right w d0;have w2:(7*al (n+1)+10*ta (n+1))*δ=7*(al (n+1)*δ)+10*(ta (n+1)*δ):=by rw [Int.add_mul,Int.mul_assoc,Int.mul_assoc]
  have w3:10*((n:Int)+2)*al (n+2)*δ=10*(((n:Int)+2)*(al (n+2)*δ)):=by rw [Int.mul_assoc,Int.mul_assoc]
  have c1:((n+1:Nat):Int)+1=(n:Int)+2:=om1;have c2:((n+1:Nat):Int)=(n:Int)+1:=om1;rw [c1] at t1 t2;rw [c2] at t1;rw [show n+1+1=n+2 from rfl] at t1 t2
  have key:((n:Int)+2)*(1000000*(td s (n+2)- td r (n+2)))<=((n:Int)+2)*(al (n+2)*δ+3000000):=by
   have f1:((n:Int)+2)*(1000000*(td s (n+2)- td r (n+2)))=1000000*(((n:Int)+2)*td s (n+2))- 1000000*(((n:Int)+2)*td r (n+2)):=by
    rw [← Int.mul_assoc,Int.mul_comm _ 1000000,Int.mul_assoc,Int.mul_sub,Int.mul_sub]
   have f2:((n:Int)+2)*(al (n+2)*δ+3000000)=((n:Int)+2)*(al (n+2)*δ)+3000000*((n:Int)+2):=by
    rw [Int.mul_add,Int.mul_comm _ 3000000]
   rw [f1,f2];omega
  exact Int.le_of_mul_le_mul_left key om1
theorem ps21(r:Int):ps r 21=td r 0- td r 1+td r 2- td r 3+td r 4- td r 5+td r 6- td r 7+td r 8- td r 9+td r 10- td r 11+td r 12- td r 13+td r 14- td r 15+td r 16- td r 17+td r 18- td r 19+td r 20:=by
 have h0:ps r 0=0:=rfl;have e0:ps r 0+td r 0=ps r 1:=mf r 0 om1;have e1:ps r 1- td r 1=ps r 2:=qG r 1 om1;have e2:ps r 2+td r 2=ps r 3:=mf r 2 om1;have e3:ps r 3- td r 3=ps r 4:=qG r 3 om1;have e4:ps r 4+td r 4=ps r 5:=mf r 4 om1;have e5:ps r 5- td r 5=ps r 6:=qG r 5 om1;have e6:ps r 6+td r 6=ps r 7:=mf r 6 om1;have e7:ps r 7- td r 7=ps r 8:=qG r 7 om1;have e8:ps r 8+td r 8=ps r 9:=mf r 8 om1;have e9:ps r 9- td r 9=ps r 10:=qG r 9 om1;have e10:ps r 10+td r 10=ps r 11:=mf r 10 om1;have e11:ps r 11- td r 11=ps r 12:=qG r 11 om1;have e12:ps r 12+td r 12=ps r 13:=mf r 12 om1;have e13:ps r 13- td r 13=ps r 14:=qG r 13 om1;have e14:ps r 14+td r 14=ps r 15:=mf r 14 om1;have e15:ps r 15- td r 15=ps r 16:=qG r 15 om1;have e16:ps r 16+td r 16=ps r 17:=mf r 16 om1;have e17:ps r 17- td r 17=ps r 18:=qG r 17 om1;have e18:ps r 18+td r 18=ps r 19:=mf r 18 om1;have e19:ps r 19- td r 19=ps r 20:=qG r 19 om1;have e20:ps r 20+td r 20=ps r 21:=mf r 20 om1;omega
theorem YP:al 2=700001/\al 4=57167/\al 6=1401/\al 8<=30/\al 10<=10/\al 12<=10/\al 14<=10/\al 16<=10/\al 18<=10/\al 20<=10:=by decide
theorem Qc{p:Prop}(h:p:=by
 have m:=fun n=>ED h0 hrs n;have d:=fun n h=>td_al h0 hrs h1 n h;have z: ∀ x,td x 0=1125899906842624:=fun _=>rfl;obtain⟨v2,v4,v6,v8,v10,v12,v14,v16,v18,v20⟩:=YP;have dd:0<=s- r:=om1
 have g: ∀ (n:Nat) (c:Int),1<=n->al n<=c->1000000*(td s n- td r n)<=c*(s- r)+3000000:=fun n c hn hc=>by
  have:=d n hn;have:=Int.mul_le_mul_of_nonneg_right hc dd;omega
 have g2:=g 2 700001 om1 om1;have g4:=g 4 57167 om1 om1;have g6:=g 6 1401 om1 om1;have g8:=g 8 30 om1 om1;have g10:=g 10 10 om1 om1;have g12:=g 12 10 om1 om1;have g14:=g 14 10 om1 om1;have g16:=g 16 10 om1 om1;have g18:=g 18 10 om1 om1;have g20:=g 20 10 om1 om1;rw [ps21 r,ps21 s,z r,z s,Le h0 om1,Le om1 om1];have m3:=m 3;have m5:=m 5;have m7:=m 7;have m9:=m 9;have m11:=m 11;have m13:=m 13;have m15:=m 15;have m17:=m 17;have m19:=m 19
 omega):p:=h
theorem Qd{r s:Int}(h0:0<=r)(hrs:r<=s)(h1:10*s<=7881299347898368):ps s 21<=ps r 21+30:=by
 exact Qc
theorem Xe:ps 0 21=1125899906842624:=by decide+kernel
theorem Qe:ps 780414346020670 21=562949953421312:=by decide+kernel
theorem YQ{r:Int}(h0:0<=r)(h1:r<=780414346020670):562949953421282<=ps r 21/\ps r 21<=1125899906842654:=by
 have a:=Qd h0 h1 om1;have b:=Qd (r:=0) (s:=r) om1 h0 om1;rw [Qe] at a;rw [Xe] at b;omega
end Gw
end
set_option linter.unusedSectionVars false
section
namespace Gw
open Qn
theorem Jk{r s:Int}(h0:0<=r)(hrs:r<=s)(h1:10*s<=7881299347898368):5*ps s 21+(s- r)<=5*ps r 21+150:=by
 exact Qc
theorem ex_nn{z:Int}(hz:z<=0):0<=ex z:=by
 unfold ex;split
 · omega
 · have:=YQ (Jb z).1 (Int.le_of_lt (Jb z).2);have hp:(0:Int)<2^(20+(hv z).toNat):=Int.pow_pos om1;have:=Dz (n:=ps (rs z) 21) (d:=2^(20+(hv z).toNat)) (A:=0) hp om1;omega
theorem YR{x y:Int}(hxy:x<=y)(hy:y<=0):ex x<=ex y:=by
 by_cases he:x=y
 · rw [he];exact Int.le_refl _
 by_cases hx:x< -47185920
 · have e:ex x=0:=by unfold ex;rw [if_pos hx]
   have:=ex_nn hy;omega
 · have bx:=Nw (x:=x) om1 om1;have by':=Nw (x:=y) hy om1;have hk:hv y<=hv x:=by unfold hv;omega
   have rx:=Jb x;have ry:=Jb y;have sx:=YQ rx.1 (Int.le_of_lt rx.2);have sy:=YQ ry.1 (Int.le_of_lt ry.2);have qx: -x*1073741824=780414346020670*hv x+rs x:=by unfold hv rs;omega
   have qy: -y*1073741824=780414346020670*hv y+rs y:=by unfold hv rs;omega
   have ex1:ex x=rne (ps (rs x) 21) (2^(20+(hv x).toNat)):=by unfold ex;rw [if_neg hx]
   have ey1:ex y=rne (ps (rs y) 21) (2^(20+(hv y).toNat)):=by unfold ex;rw [if_neg om1]
   have low:=Jk (r:=rs y) (s:=780414346020670) ry.1 om1 om1;have high:=Jk (r:=0) (s:=rs x) om1 rx.1 om1;rw [Qe] at low;rw [Xe] at high
   have hfall:hv y=hv x->ps (rs x) 21<=ps (rs y) 21:=fun e=>by
    have:=Jk (r:=rs y) (s:=rs x) ry.1 om1 om1;omega
   have hone:hv x=hv y+1->ps (rs x) 21<=2*ps (rs y) 21:=fun e=>by omega
   rw [ex1,ey1];obtain⟨X,hX⟩: ∃ X,X=ps (rs x) 21:=⟨_,rfl⟩;obtain⟨Y,hY⟩: ∃ Y,Y=ps (rs y) 21:=⟨_,rfl⟩;rw [← hX] at sx hfall hone ⊢;rw [← hY] at sy hfall hone ⊢;clear low high ex1 ey1 hX hY;obtain⟨j,hj⟩: ∃ j:Nat,j=(hv y).toNat:=⟨_,rfl⟩;obtain⟨i,hi⟩: ∃ i:Nat,(hv x).toNat=j+i:=⟨(hv x).toNat- j,om1⟩;rw [hi,← hj];have hD:(0:Int)<2^(20+j):=Int.pow_pos om1;have hDD:(2:Int)^(20+(j+i))=2^(20+j)*2^i:=by rw [← Int.pow_add];congr 1;omega
   obtain⟨D,hDe⟩: ∃ D,D=(2:Int)^(20+j):=⟨_,rfl⟩;rw [hDD,← hDe];rw [← hDe] at hD
   have key: ∀ c:Int,0<c->X<=c*Y->rne X (D*c)<=rne Y D:=fun c hc h=>by
    refine Qa (Int.mul_pos hD hc) hD ?_;have:=Int.mul_le_mul_of_nonneg_right h (Int.le_of_lt hD);have e:c*Y*D=Y*(D*c):=by rw [Int.mul_comm c Y,Int.mul_assoc,Int.mul_comm c D]
    omega
   match i,hi with
   |0,hi=>exact key (2^0) (by decide) (by have:=hfall om1;rw [Int.pow_zero,Int.one_mul];exact this)
   |1,hi=>exact key (2^1) (by decide) (by have:=hone om1;rw [Int.pow_one];exact this)
   |i+2,hi=>
    have h4:(1:Int)<=2^i:=by have:(0:Int)<2^i:=Int.pow_pos om1
                            omega
    have e4:(2:Int)^(i+2)=4*2^i:=by rw [Int.pow_add,Int.mul_comm];rfl
    rw [e4];refine key _ om1 ?_;have f:1*Y<=2^i*Y:=Int.mul_le_mul_of_nonneg_right h4 om1;rw [Int.mul_assoc];omega
theorem Qg:ex 0=1073741824:=by decide+kernel
theorem ex_in{z:Int}(hz:z<=0):0<=ex z/\ex z<=1073741824:=⟨ex_nn hz,by have:=YR hz (Int.le_refl 0);rw [Qg] at this;exact this⟩
end Gw
namespace Cn
section
variable {n:Nat} {m:Int} {a:Nat->Int} (hS:0<tot a n)
include hS
end
end Cn
end
section
namespace Lk
open Qn Gw Cn
def bl(l c:Nat->Int):Nat->Int
 |0=> -1
 |k+1=>if 0<c k/\(bl l c k<0\/l (bl l c k).toNat<l k) then(k:Int) else bl l c k
theorem Jl(l c:Nat->Int): ∀ n,(bl l c n= -1/\ ∀ i,i<n->c i<=0)\/(0<=bl l c n/\(bl l c n).toNat<n/\0<c (bl l c n).toNat/\ ∀ i,i<n->0<c i->l i<=l (bl l c n).toNat)
 |0=>Or.inl ⟨rfl,fun i hi=>by omega⟩
 |n+1=>by
  have ih:=Jl l c n
  have u:bl l c (n+1)=if 0<c n/\(bl l c n<0\/l (bl l c n).toNat<l n) then(n:Int) else bl l c n:=rfl
  by_cases h:0<c n/\(bl l c n<0\/l (bl l c n).toNat<l n)
  · rw [u,if_pos h]
    refine Or.inr ⟨om1,om1,by rw [Int.toNat_natCast];exact h.1,fun i hi h0=> ?_⟩
    rw [Int.toNat_natCast]
    by_cases e:i=n
    · subst e;omega
    · rcases ih with⟨_,h2⟩|⟨h1,_,_,h4⟩
      · have:=h2 i om1;omega
      · have:=h4 i om1 h0;omega
  · rw [u,if_neg h]
    rcases ih with⟨h1,h2⟩|⟨h1,h2,h3,h4⟩
    · refine Or.inl ⟨h1,fun i hi=> ?_⟩
      by_cases e:i=n
      · subst e;omega
      · exact h2 i om1
    · refine Or.inr ⟨h1,om1,h3,fun i hi h0=> ?_⟩
      by_cases e:i=n
      · subst e;omega
      · exact h4 i om1 h0
theorem bl_lo(l c:Nat->Int)(n:Nat): -1<=bl l c n/\bl l c n<n:=by
 rcases Jl l c n with⟨e,_⟩|⟨e1,e,_⟩<;>omega
theorem bl_yes{l c:Nat->Int}{k:Nat}(h1:0<c k)(h2:bl l c k<0\/l (bl l c k).toNat<l k):bl l c (k+1)=(k:Int):=if_pos ⟨h1,h2⟩
theorem bl_no{l c:Nat->Int}{k:Nat}(h: ¬(0<c k/\(bl l c k<0\/l (bl l c k).toNat<l k))):bl l c (k+1)=bl l c k:=if_neg h
def wz(l c:Nat->Int)(n:Nat)(i:Nat):Int:=if c i=0\/n<=i then 0 else ex (clamp (l i- l (bl l c n).toNat))*c i
def wo(l c:Nat->Int)(n:Nat):Nat->Bool
 |0=>false
 |k+1=>wo l c n k||(!decide (c k=0) && great (l k- l (bl l c n).toNat))
structure Qh(n:Nat)(l c:Nat->Int)(fl:Int):Prop where
 ch:Ch n c 0
 lo:0<=fl
 hi:fl<=67108864
 each: ∀ k,k<n-> -4611686018427387903<=l k/\l k<=4611686018427387903
theorem vC{d:Int}(h:d<=0):clamp d<=0:=by have:=DF h;have e:clamp 0=0:=by decide
                                       omega
section
variable {n:Nat} {l c:Nat->Int} {fl:Int} (h:Qh n l c fl)
include h
theorem Nz:0<=bl l c n/\(bl l c n).toNat<n/\0<c (bl l c n).toNat/\ ∀ i,i<n->0<c i->l i<=l (bl l c n).toNat:=by
 rcases Jl l c n with⟨_,h2⟩|h1
 · exfalso;have e:tot c n=tot (fun _=>0) n:=iC fun k hk=>by have:=h2 k hk;have:=(h.ch.nn hk).1;omega
   rw [h.ch.sum,jc,Int.zero_mul] at e;omega
 · exact h1
theorem YS{i:Nat}(hi:i<n)(h0:c i≠0):clamp (l i- l (bl l c n).toNat)<=0:=vC (by
 have:=(Nz h).2.2.2 i hi (by have:=(h.ch.nn hi).1;omega);omega)
theorem Qi(i:Nat):0<=wz l c n i/\wz l c n i<=1152921504606846976:=by
 unfold wz;split
 · omega
 · rename_i h0
   have hi:i<n:=om1;have a:=ex_in (YS h hi om1);have b:=h.ch.nn hi;exact⟨Int.mul_nonneg a.1 b.1,Int.le_trans (Int.mul_le_mul a.2 b.2 b.1 om1) om1⟩
theorem Xf:Ah n (wz l c n) fl:=⟨h.ch.one,h.ch.four,h.lo,h.hi,fun k hk=>by have:=Qi h k;omega⟩
theorem YT:wz l c n (bl l c n).toNat=1073741824*c (bl l c n).toNat:=by
 have b:=Nz h;unfold wz;rw [if_neg om1,Int.sub_self,show clamp 0=0 by decide,Qg]
theorem Xg:0<tot (wz l c n) n:=by
 have b:=Nz h;have e:=iP (a:=wz l c n) (n:=n) (fun k hk=>(Qi h k).1) b.2.1;rw [YT h] at e;omega
end
section
variable {n:Nat} {c:Nat->Int} (h:Ch n c 0)
include h
end
end Lk
end
end Go.Proofs.YtcefcokpjbebhaaGreatDoor
