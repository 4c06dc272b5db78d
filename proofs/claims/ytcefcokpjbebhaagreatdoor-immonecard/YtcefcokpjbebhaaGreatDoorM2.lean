/-
  What all texts of this seat's walks lean on: worlds that grow, cells that stay, results.
-/
import Derived.Test.YtcefcokpjbebhaaGreatDoorProg
import Derived.WalkKit
import Derived.Deep.QuietTactic
import Derived.BigQuiet
import Derived.WalkSpells
import Derived.WalkLawsBesides
import Derived.Maps.AppendAt
import Derived.OwnWalk
import Derived.Test.YtcefcokpjbebhaaGreatDoorM1
import Derived.Laws.Rows
import Derived.Laws.Tables
import Derived.Laws.ResultCell
import Derived.KernelRfl
import Derived.Laws.Bits64b
import Derived.Laws.BitsAllLaws
set_option linter.unusedSimpArgs false
set_option linter.unusedVariables false
namespace Go.Proofs.YtcefcokpjbebhaaGreatDoor
section
open Go.RowKit
theorem below_al{a w:World}(h:Below a.heap.size a w)(o:Obj):Below a.heap.size a (w.alloc o):=h.alloc h.size o
theorem below_tr{a b c:World}(h:Below a.heap.size a b)(k:Below b.heap.size b c):Below a.heap.size a c:=h.trans (k.mono h.size)
theorem keep_cell{W w1:World}(hb:Below W.heap.size W w1){a:Addr}{v:Value}(h:W.cell? a=some v):w1.cell? a=some v:=(hb.cell (World.block_lt_of_cell? W _ h)).trans h
namespace Dec
end Dec
end
section
open Go.RowKit
namespace Vc
theorem Hid.mkV{p:Prop}(h:p):Hid p:=h
theorem below_drewN{B:Nat}{a w:World}(h:Below B a w)(n:Nat):Below B a (w.drewN n):=⟨h.os,h.tape,h.output,h.size,h.block⟩
theorem below_drew'(w:World):Below w.heap.size w w.drew:=(Below.refl _ w).drew
theorem infoI64:(Tryz.prog.info? 2).map (fun i=>(i.zero,i.size,i.bytes))=some (some (.int .i64 0),1,8):=by kernel_rfl
def vals(n:Nat)(z:Nat->Int):List Value:=(List.range n).map fun k=>Value.int .i64 (z k)
theorem vals_len(n:Nat)(z:Nat->Int):(vals n z).length=n:=by simp [vals]
theorem vals_at{n k:Nat}{z:Nat->Int}(h:k<n):(vals n z)[k]?=some (.int .i64 (z k)):=by simp [vals,h]
theorem vals_congr{n:Nat}{z z':Nat->Int}(h: ∀ k,k<n->z k=z' k):vals n z=vals n z':=by
 unfold vals;exact List.map_congr_left fun k hk=>by rw [h k (List.mem_range.1 hk)]
theorem vals_set(n j:Nat)(x:Int)(z:Nat->Int):(vals n z).set j (.int .i64 x)=vals n (fun k=>if k=j then x else z k):=by
 apply List.ext_getElem?;intro i;by_cases hi:i<n
 · rw [vals_at hi,List.getElem?_set,vals_len];by_cases e:j=i
   · subst e;simp [hi]
   · rw [if_neg e,vals_at hi,if_neg (fun h=>e h.symm)]
 · rw [List.getElem?_eq_none (by simp [vals_len];omega),List.getElem?_eq_none (by rw [vals_len];omega)]
structure Sl(w:World)(ao:Option Addr)(n ca:Nat)(z:Nat->Int):Prop where
 le:n<=ca
 cap:ca<=9223372036854775807
 at': ∀ k,k<n-> ∃ x,ao=some x/\w.cell? (x.add k)=some (.int .i64 (z k))
theorem Sl.get{w:World}{ao:Option Addr}{n ca:Nat}{z:Nat->Int}(h:Sl w ao n ca z): ∃ x,(0<n->ao=some x)/\ ∀ k,k<n->w.cell? (x.add k)=some (.int .i64 (z k)):=by
 cases ao with
 |none=>exact⟨⟨0,0,none⟩,fun h0=>(by obtain⟨x,hx,_⟩:=h.at' 0 h0;cases hx),fun k hk=>(by obtain⟨x,hx,_⟩:=h.at' k hk;cases hx)⟩
 |some x=>exact⟨x,fun _=>rfl,fun k hk=>by obtain⟨y,hy,hc⟩:=h.at' k hk;cases hy;exact hc⟩
theorem Sl.keep{w w':World}{ao:Option Addr}{n ca:Nat}{z:Nat->Int}(h:Sl w ao n ca z)(b:Below w.heap.size w w'):Sl w' ao n ca z:=
 ⟨h.le,h.cap,fun k hk=>by obtain⟨x,hx,hc⟩:=h.at' k hk;exact⟨x,hx,keep_cell b hc⟩⟩
theorem Sl.congr{w:World}{ao:Option Addr}{n ca:Nat}{z z':Nat->Int}(h:Sl w ao n ca z)(e: ∀ k,k<n->z k=z' k):Sl w ao n ca z':=
 ⟨h.le,h.cap,fun k hk=>by rw [← e k hk];exact h.at' k hk⟩
theorem Sl.none(w:World)(z:Nat->Int):Sl w none 0 0 z:=⟨Nat.le_refl _,by omega,fun k hk=>by omega⟩
def B64(z:Nat->Int):Prop:= ∀ k,-9223372036854775808<=z k/\z k<=9223372036854775807
def anyb(g:Nat->Bool):Nat->Bool
 |0=>false
 |k+1=>anyb g k||g k
theorem anyb_congr{g h:Nat->Bool}: ∀ {n:Nat},(∀ k,k<n->g k=h k)->anyb g n=anyb h n
 |0,_=>rfl
 |n+1,e=>by unfold anyb;rw [anyb_congr fun k hk=>e k (by omega),e n (by omega)]
theorem anyb_false{g:Nat->Bool}: ∀ {n:Nat},anyb g n=false↔ ∀ k,k<n->g k=false
 |0=>⟨fun _ k hk=>by omega,fun _=>rfl⟩
 |n+1=>by
  unfold anyb
  rw [Bool.or_eq_false_iff,anyb_false]
  refine⟨fun h k hk=> ?_,fun h=>⟨fun k hk=>h k (by omega),h n (by omega)⟩⟩
  rcases Nat.lt_or_ge k n with c|c
  · exact h.1 k c
  · obtain rfl:k=n:=by omega
    exact h.2
structure Own(B:Nat)(w0 w:World)(v:Value)(n:Nat)(z:Nat->Int):Prop where
 row:w.ownsRow B 2 1 v n (vals n z)
 below:Below B w0 w
 base:B<=w.heap.size
theorem Own.sl{B:Nat}{w0 w:World}{v:Value}{n:Nat}{z:Nat->Int}(h:Own B w0 w v n z): ∃ ao ca,v= .slice ao n ca/\Sl w ao n ca z:=by
 obtain⟨⟨h1,h2⟩,_,_⟩:=h;rcases h2 with⟨rfl,rfl⟩|⟨g,cap,cur,rfl,hb,hg,hn,hc,hs,ht⟩
 · exact⟨_,_,rfl,Sl.none _ _⟩
 · refine⟨_,_,rfl,hn,hc,fun k hk=>⟨_,rfl, ?_⟩⟩;have e:=vals_at (z:=z) hk;rw [← ht] at e
   have e2:cur[k]?=some (.int .i64 (z k)):=by
    rw [List.getElem?_take] at e;split at e
    · simpa using e
    · cases e
   rw [Addr.add_lit,Nat.zero_add];simp [World.cell?,hg,e2]
theorem row_keep{w w':World}{B:Nat}{t:TypeId}{s:Nat}{v:Value}{n:Nat}{xs:List Value}(h:w.ownsRow B t s v n xs)(b:Below w.heap.size w w'):w'.ownsRow B t s v n xs:=by
 obtain⟨h1,h2⟩:=h;refine⟨h1, ?_⟩;rcases h2 with h2|⟨g,cap,cur,rfl,hb,hg,hn,hc,hs,ht⟩
 · exact Or.inl h2
 · refine Or.inr ⟨g,cap,cur,rfl,hb, ?_,hn,hc,hs,ht⟩
   have hlt:g<w.heap.size:=by
    rcases Nat.lt_or_ge g w.heap.size with k|k
    · exact k
    · rw [Array.getElem?_eq_none k] at hg;cases hg
   exact(b.block g hlt).trans hg
theorem Own.keep{B:Nat}{w0 w w':World}{v:Value}{n:Nat}{z:Nat->Int}(h:Own B w0 w v n z)(b:Below w.heap.size w w'):Own B w0 w' v n z:=
 ⟨row_keep h.row b,h.below.trans (b.mono h.base),Nat.le_trans h.base b.size⟩
theorem Own.cell{B:Nat}{w0 w:World}{g n c:Nat}{z:Nat->Int}(h:Own B w0 w (.slice (some ⟨g,0,none⟩) n c) n z){j:Nat}(hj:j<n):w.cell? ⟨g,j,none⟩=some (.int .i64 (z j)):=by
 rw [h.row.cellAt j (by omega)];exact vals_at hj
theorem Own.free{B:Nat}{w0 w:World}{g n c:Nat}{z:Nat->Int}(h:Own B w0 w (.slice (some ⟨g,0,none⟩) n c) n z)(j:Nat):w.frozen? ⟨g,j,none⟩=false:=h.row.frozenAt j
theorem Own.set{B:Nat}{w0 w:World}{g n c:Nat}{z:Nat->Int}(h:Own B w0 w (.slice (some ⟨g,0,none⟩) n c) n z)(j:Nat)(x:Int):Own B w0 (w.setCell ⟨g,j,none⟩ (.int .i64 x)) (.slice (some ⟨g,0,none⟩) n c) n (fun k=>if k=j then x else z k):=by
 obtain⟨h1,h2⟩:=h.row.stored j (.int .i64 x);rw [vals_set] at h1;exact⟨h1,h.below.grown h2 h.base (fun k hk=>by cases hk;exact(h.row.lt g rfl).1),Nat.le_trans h.base h2.size⟩
theorem own_made{B:Nat}{w0 w:World}{g n:Nat}(h:w.ownsRow B 2 1 (.slice (some ⟨g,0,none⟩) n n) n (madeCells #[Value.int .i64 0] n).toList)(hg:w0.grownBy w none)(hB:B<=w0.heap.size):
 Own B w0 w (.slice (some ⟨g,0,none⟩) n n) n (fun _=>0):=by
 refine⟨?_,(Below.refl _ _).grown hg hB (by intro k hk;cases hk),by have:=hg.size;omega⟩
 have e:(madeCells #[Value.int .i64 0] n).toList=vals n (fun _=>0):=by
  rw [toList_madeCells_one];apply List.ext_getElem?;intro i;by_cases hi:i<n
  · rw [vals_at hi,List.getElem?_replicate,if_pos hi]
  · rw [List.getElem?_eq_none (by simp;omega),List.getElem?_eq_none (by rw [vals_len];omega)]
 rw [e] at h;exact h
structure Sls(w:World)(lo:Option Addr)(m cm:Nat)(A:Nat->Option Addr)(L C:Nat->Nat):Prop where
 le:m<=cm
 cap:cm<=9223372036854775807
 at': ∀ j,j<m-> ∃ x,lo=some x/\w.cell? (x.add j)=some (.slice (A j) (L j) (C j))
theorem Sls.get{w:World}{lo:Option Addr}{m cm:Nat}{A:Nat->Option Addr}{L C:Nat->Nat}(h:Sls w lo m cm A L C): ∃ x,(0<m->lo=some x)/\ ∀ k,k<m->w.cell? (x.add k)=some (.slice (A k) (L k) (C k)):=by
 cases lo with
 |none=>exact⟨⟨0,0,none⟩,fun h0=>(by obtain⟨x,hx,_⟩:=h.at' 0 h0;cases hx),fun k hk=>(by obtain⟨x,hx,_⟩:=h.at' k hk;cases hx)⟩
 |some x=>exact⟨x,fun _=>rfl,fun k hk=>by obtain⟨y,hy,hc⟩:=h.at' k hk;cases hy;exact hc⟩
theorem Sls.keep{w w':World}{lo:Option Addr}{m cm:Nat}{A:Nat->Option Addr}{L C:Nat->Nat}(h:Sls w lo m cm A L C)(b:Below w.heap.size w w'):Sls w' lo m cm A L C:=
 ⟨h.le,h.cap,fun k hk=>by obtain⟨x,hx,hc⟩:=h.at' k hk;exact⟨x,hx,keep_cell b hc⟩⟩
end Vc
end
section
open Go.RowKit Lg Dec
end
section
open Go.RowKit Lg Dec
namespace Lg
section
end
end Lg
end
section
open Go.RowKit
namespace Lg
end Lg
end
section
open Go.RowKit
namespace Dec
end Dec
open Dec
end
section
open Go.RowKit
namespace Dec
end Dec
open Dec
end
section
open Go.RowKit Dt
namespace Pr
def InV(z:Int):Prop:= -4611686018427387903<=z/\z<=4611686018427387903
instance (z:Int):Decidable (InV z):=by unfold InV;infer_instance
def MayV(X:Nat->Int)(P:Nat->Nat->Int):Prop:= ∀ i,i<6->InV (X i)/\0<=P i i/\ ∀ j,j<6->InV (P i j)/\P i j=P j i
theorem dk_comm(a b:Nat->Int)(n:Nat):dk a b n=dk b a n:=by
 induction n with
 |zero=>rfl
 |succ n ih=>unfold dk;rw [ih,Int.mul_comm (a n)]
theorem Hid.mkQ{p:Prop}(h:p):Hid p:=h
end Pr
end
section
namespace Tg
def angs:List Int:= [576460752303423488,340304653033718298,179807632645220259,91273161881380487,45813697873323707,22929182573009054,11467389120678282,5734044481687724,2867065987018958,1433538461969102,716769914547871,358385042719534,179192532040472,89596267355325,44798133844548,22399066943135,11199533474175,5599766737413,2799883368747,1399941684379,699970842190,349985421095,174992710548,87496355274,43748177637,21874088818,10937044409,5468522205,2734261102,1367130551,683565276,341782638,170891319,85445659,42722830,21361415,10680707,5340354,2670177,1335088]
def ang(k:Nat):Int:=angs.getD k 0
theorem ang_bd{k:Nat}(h:k<40):0<ang k/\ang k<=576460752303423488:=by
 have: ∀ j,j<40->0<ang j/\ang j<=576460752303423488:=by decide
 exact this k h
def fl(n:Int)(k:Nat):Int:=n/2^k
theorem fl_zero(n:Int):fl n 0=n:=by unfold fl;rw [Int.pow_zero,Int.ediv_one]
theorem fl_succ(n:Int)(k:Nat):fl n (k+1)=fl n k/2:=by
 unfold fl;have h:(0:Int)<2^k:=Int.pow_pos (by omega);rw [Int.ediv_ediv,if_neg (fun h=>absurd h.1 (by omega)),Int.sub_zero,Int.pow_succ]
theorem fl_bd{n B:Int}(k:Nat)(h0: -B<=n)(h1:n<=B): -(fl B k+1)<=fl n k/\fl n k<=fl B k:=by
 induction k with
 |zero=>rw [fl_zero,fl_zero];omega
 |succ k ih=>rw [fl_succ,fl_succ];omega
def gr:Nat->Int
 |0=>1152921504606846976
 |k+1=>gr k+fl (gr k) k+1
theorem gr_le{k:Nat}(h:k<=40):0<=gr k/\gr k<=5600000000000000000:=by
 have: ∀ j,j<41->0<=gr j/\gr j<=5600000000000000000:=by decide
 exact this k (by omega)
structure St where
 x:Int
 y:Int
 z:Int
deriving DecidableEq
def lf(k:Nat)(s:St):St:=⟨s.x- fl s.y k,s.y+fl s.x k,s.z- ang k⟩
def rt(k:Nat)(s:St):St:=⟨s.x+fl s.y k,s.y- fl s.x k,s.z+ang k⟩
def bst(s:St):Nat->St
 |0=>s
 |k+1=>if 0<=(bst s k).z then lf k (bst s k) else rt k (bst s k)
def zs:Nat->Int
 |0=>576460752303423488
 |k+1=>zs k+ang k
theorem zs_le{k:Nat}(h:k<=40):0<=zs k/\zs k<=2000000000000000000:=by
 have: ∀ j,j<41->0<=zs j/\zs j<=2000000000000000000:=by decide
 exact this k (by omega)
structure Ok(k:Nat)(s:St):Prop where
 x0: -gr k<=s.x
 x1:s.x<=gr k
 y0: -gr k<=s.y
 y1:s.y<=gr k
 z0: -zs k<=s.z
 z1:s.z<=zs k
theorem Ok.lf{k:Nat}{s:St}(h:Ok k s)(hk:k<40):Ok (k+1) (lf k s):=by
 obtain⟨x0,x1,y0,y1,z0,z1⟩:=h;have a:=fl_bd k x0 x1;have b:=fl_bd k y0 y1;have c:=ang_bd hk;have d:=gr_le (k:=k) (by omega);have e:gr (k+1)=gr k+fl (gr k) k+1:=rfl;have f:zs (k+1)=zs k+ang k:=rfl;constructor<;>simp only [Tg.lf]<;>omega
theorem Ok.rt{k:Nat}{s:St}(h:Ok k s)(hk:k<40):Ok (k+1) (rt k s):=by
 obtain⟨x0,x1,y0,y1,z0,z1⟩:=h;have a:=fl_bd k x0 x1;have b:=fl_bd k y0 y1;have c:=ang_bd hk;have d:=gr_le (k:=k) (by omega);have e:gr (k+1)=gr k+fl (gr k) k+1:=rfl;have f:zs (k+1)=zs k+ang k:=rfl;constructor<;>simp only [Tg.rt]<;>omega
theorem Ok.bst{s:St}(h:Ok 0 s): ∀ {k:Nat},k<=40->Ok k (bst s k)
 |0,_=>h
 |k+1,hk=>by
  have:=Ok.bst h (k:=k) (by omega)
  unfold Tg.bst
  split
  · exact this.lf (by omega)
  · exact this.rt (by omega)
theorem Ok.bd{k:Nat}{s:St}(h:Ok k s)(hk:k<=40):(-5600000000000000000<=s.x/\s.x<=5600000000000000000)/\(-5600000000000000000<=s.y/\s.y<=5600000000000000000)/\(-2000000000000000000<=s.z/\s.z<=2000000000000000000):=by
 obtain⟨x0,x1,y0,y1,z0,z1⟩:=h;have d:=gr_le hk;have e:=zs_le hk;omega
end Tg
open Go.RowKit Tg
namespace Tg
def tabV:Array Value:= #[.int .i64 576460752303423488, .int .i64 340304653033718298, .int .i64 179807632645220259, .int .i64 91273161881380487, .int .i64 45813697873323707, .int .i64 22929182573009054, .int .i64 11467389120678282, .int .i64 5734044481687724, .int .i64 2867065987018958, .int .i64 1433538461969102, .int .i64 716769914547871, .int .i64 358385042719534, .int .i64 179192532040472, .int .i64 89596267355325, .int .i64 44798133844548, .int .i64 22399066943135, .int .i64 11199533474175, .int .i64 5599766737413, .int .i64 2799883368747, .int .i64 1399941684379, .int .i64 699970842190, .int .i64 349985421095, .int .i64 174992710548, .int .i64 87496355274, .int .i64 43748177637, .int .i64 21874088818, .int .i64 10937044409, .int .i64 5468522205, .int .i64 2734261102, .int .i64 1367130551, .int .i64 683565276, .int .i64 341782638, .int .i64 170891319, .int .i64 85445659, .int .i64 42722830, .int .i64 21361415, .int .i64 10680707, .int .i64 5340354, .int .i64 2670177, .int .i64 1335088]
theorem tabV_eq:tabV.toList=angs.map (Value.int .i64):=by rfl
theorem run_angle(w:World): ∀ {k:Nat},k<40->(Instr.index 386 (.agg tabV) (.int .i64 (k:Int))).run Tryz.prog w= .ok (.int .i64 (ang k)) w
 |0,_=>by kernel_rfl
 |1,_=>by kernel_rfl
 |2,_=>by kernel_rfl
 |3,_=>by kernel_rfl
 |4,_=>by kernel_rfl
 |5,_=>by kernel_rfl
 |6,_=>by kernel_rfl
 |7,_=>by kernel_rfl
 |8,_=>by kernel_rfl
 |9,_=>by kernel_rfl
 |10,_=>by kernel_rfl
 |11,_=>by kernel_rfl
 |12,_=>by kernel_rfl
 |13,_=>by kernel_rfl
 |14,_=>by kernel_rfl
 |15,_=>by kernel_rfl
 |16,_=>by kernel_rfl
 |17,_=>by kernel_rfl
 |18,_=>by kernel_rfl
 |19,_=>by kernel_rfl
 |20,_=>by kernel_rfl
 |21,_=>by kernel_rfl
 |22,_=>by kernel_rfl
 |23,_=>by kernel_rfl
 |24,_=>by kernel_rfl
 |25,_=>by kernel_rfl
 |26,_=>by kernel_rfl
 |27,_=>by kernel_rfl
 |28,_=>by kernel_rfl
 |29,_=>by kernel_rfl
 |30,_=>by kernel_rfl
 |31,_=>by kernel_rfl
 |32,_=>by kernel_rfl
 |33,_=>by kernel_rfl
 |34,_=>by kernel_rfl
 |35,_=>by kernel_rfl
 |36,_=>by kernel_rfl
 |37,_=>by kernel_rfl
 |38,_=>by kernel_rfl
 |39,_=>by kernel_rfl
 |n+40,h=>absurd h (by omega)
end Tg
def AngTab(w:World):Prop:= ∃ t,w.heap[3]?=some (.cells tabV t (0,0))
theorem AngTab.lt{w:World}(h:AngTab w):3<w.heap.size:=by
 obtain⟨t,h⟩:=h;rcases Nat.lt_or_ge 3 w.heap.size with k|k
 · exact k
 · rw [Array.getElem?_eq_none k] at h;cases h
theorem AngTab.below{w w':World}(h:AngTab w)(hb:Below w.heap.size w w'):AngTab w':=by
 have hl:=h.lt;obtain⟨t,h⟩:=h;exact⟨t,(hb.block _ hl).trans h⟩
theorem size_tab:(Tryz.prog.info? 386).map (·.size)=some tabV.size:=by kernel_rfl
theorem wpList_loadTab{ops:Array Oper}{rest:List Oper}{o:Oper}{a:Act}{w:World}{Q:Exit->Act->World->Prop}(hgd:o.guard=none)(x:Operand)(ho:o.op= .load 386 x)
 (hx:a.eval x= .pointer (some ⟨3,0,none⟩)) (hr:AngTab w)
 (h:wpList Tryz.prog ops Q rest (a.put o.dst (.agg tabV)) w):wpList Tryz.prog ops Q (o::rest) a w:=by
 obtain⟨t,hr⟩:=hr;exact wpList_load_row hgd _ x ho 3 hx _ _ _ _ hr Tryz.underlying386 rfl size_tab h
end
section
open Go.RowKit
namespace Tn
def rne(n d:Int):Int:=if 2*(n%d)<d\/2*(n%d)=d/\n/d%2=0 then n/d else n/d+1
theorem rne_scale(n d c:Int)(hd:0<d)(hc:0<c):rne (n*c) (d*c)=rne n d:=by
 have h1:n*c/(d*c)=n/d:=Int.mul_ediv_mul_of_pos_left n d hc
 have h2:n*c%(d*c)=n%d*c:=by
  rw [Int.mul_comm n c,Int.mul_comm d c,Int.mul_emod_mul_of_pos _ _ hc,Int.mul_comm]
 unfold rne;rw [h1,h2]
 have e1:2*(n%d*c)<d*c↔2*(n%d)<d:=by
  rw [← Int.mul_assoc];exact⟨fun h=>Int.lt_of_mul_lt_mul_right h (Int.le_of_lt hc),fun h=>Int.mul_lt_mul_of_pos_right h hc⟩
 have e2:2*(n%d*c)=d*c↔2*(n%d)=d:=by
  rw [← Int.mul_assoc];exact⟨fun h=>Int.eq_of_mul_eq_mul_right (by omega) h,fun h=>by rw [h]⟩
 simp only [e1,e2]
theorem shift_word(X D E:Int)(hD:0<D)(hE:0<E)(hDE:D*E=18446744073709551616):
 X%18446744073709551616/D+X/18446744073709551616%18446744073709551616*E%18446744073709551616=X/D%18446744073709551616/\X%18446744073709551616/D<E/\0<=X%18446744073709551616/D/\ ∃ k:Int,0<=k/\X/18446744073709551616%18446744073709551616*E%18446744073709551616=E*k:=by
 have hX:X=D*(E*(X/18446744073709551616))+X%18446744073709551616:=by
  rw [← Int.mul_assoc,hDE];omega
 generalize hY:X/18446744073709551616=Y at*;generalize hr:X%18446744073709551616=r at*;have hr0:0<=r:=by omega
 have hr1:r<18446744073709551616:=by omega
 have e1:X/D=E*Y+r/D:=by
  rw [hX,Int.add_comm,Int.add_mul_ediv_left _ _ (by omega),Int.add_comm]
 have hlt:r/D<E:=Int.ediv_lt_of_lt_mul hD (by rw [Int.mul_comm,hDE];exact hr1);have h0:0<=r/D:=Int.ediv_nonneg hr0 (by omega)
 have e2:Y%18446744073709551616*E%18446744073709551616=E*(Y%D):=by
  have:Y%18446744073709551616*E%18446744073709551616=Y*E%18446744073709551616:=by
   rw [Int.mul_emod,Int.emod_emod_of_dvd _ (Int.dvd_refl _),← Int.mul_emod]
  rw [this,← hDE,Int.mul_comm D E,Int.mul_comm Y E,Int.mul_emod_mul_of_pos _ _ hE]
 have hm0:0<=Y%D:=Int.emod_nonneg _ (by omega);have hm1:Y%D<D:=Int.emod_lt_of_pos _ hD;refine⟨?_,hlt,h0,Y%D,hm0,e2⟩;rw [e2,e1]
 have e3:(E*Y+r/D)%18446744073709551616=E*(Y%D)+r/D:=by
  have hb:E*(Y%D)+r/D<18446744073709551616:=by
   have:E*(Y%D+1)<=E*D:=Int.mul_le_mul_of_nonneg_left (by omega) (by omega);rw [Int.mul_add,Int.mul_comm E D,hDE] at this;omega
  have hb0:0<=E*(Y%D):=Int.mul_nonneg (by omega) hm0
  have:E*Y+r/D=E*(Y%D)+r/D+18446744073709551616*(Y/D):=by
   have:=Int.emod_add_mul_ediv Y D;have h2:E*Y=E*(Y%D)+E*(D*(Y/D)):=by rw [← Int.mul_add,this]
   rw [h2,← Int.mul_assoc E D,Int.mul_comm E D,hDE];omega
  rw [this,Int.add_mul_emod_self_left];exact Int.emod_eq_of_lt (by omega) hb
 rw [e3];omega
theorem or_word(a b E:Int)(q:Nat)(hE:(2:Int)^q=E)(ha0:0<=a)(ha:a<E)(hb0:0<=b)(hb1:b<18446744073709551616)(hEW:E<=18446744073709551616)(hk: ∃ k:Int,0<=k/\b=E*k):bits .or .u64 a b=a+b:=by
 obtain⟨k,hk0,hk⟩:=hk;obtain⟨A,rfl⟩:=Int.eq_ofNat_of_zero_le ha0;obtain⟨B,rfl⟩:=Int.eq_ofNat_of_zero_le hb0;obtain⟨K,rfl⟩:=Int.eq_ofNat_of_zero_le hk0;have hE':E=((2^q:Nat):Int):=by rw [← hE];simp
 subst hE';rw [bits_or_u64_nat A B (by omega) (by omega)];have hB:B=2^q*K:=by have:=hk;rw [← Int.natCast_mul] at this;omega
 rw [Nat.or_comm,nat_join q B A (by rw [hB];exact Nat.mul_mod_right _ _) (by omega)];omega
theorem low_facts(a b:Int)(p q:Nat)(D E:Int)(ha0:0<=a)(ha:a<18446744073709551616)(hb0:0<=b)(hb:b<18446744073709551616)(hpq:p+q=64)(hD:(2:Int)^p=D)(hE:(2:Int)^q=E):
 ∃ rest last:Int,bits .or .u64 (IntKind.u64.wrap (a*E)) (b/D)=rest/\IntKind.u64.wrap (b*E)=last/\0<=rest/\rest<18446744073709551616/\0<=last/\
  rne (a*18446744073709551616+b) (18446744073709551616*D)=if 9223372036854775808<rest\/rest=9223372036854775808/\(last≠0\/a/D%2=1) then a/D+1 else a/D:=by
 have hD0:0<D:=by rw [← hD];exact Int.pow_pos (by omega)
 have hE0:0<E:=by rw [← hE];exact Int.pow_pos (by omega)
 have hDE:D*E=18446744073709551616:=by rw [← hD,← hE,← Int.pow_add,hpq];rfl
 have hEW:E<=18446744073709551616:=by
  have:1*E<=D*E:=Int.mul_le_mul_of_nonneg_right (by omega) (by omega);omega
 generalize hX:a*18446744073709551616+b=X;have hXa:X/18446744073709551616=a:=by omega
 have hXb:X%18446744073709551616=b:=by omega
 obtain⟨h1,h2,h3,k,hk0,h4⟩:=shift_word X D E hD0 hE0 hDE;rw [hXa,hXb,Int.emod_eq_of_lt ha0 ha] at h1;rw [hXb] at h2 h3;rw [hXa,Int.emod_eq_of_lt ha0 ha] at h4
 have o1:bits .or .u64 (b/D) (IntKind.u64.wrap (a*E))=X/D%18446744073709551616:=by
  rw [IntKind.wrap_u64,or_word _ _ E q hE h3 h2 (by omega) (by omega) hEW ⟨k,hk0,h4⟩,h1]
 have oc:bits .or .u64 (IntKind.u64.wrap (a*E)) (b/D)=bits .or .u64 (b/D) (IntKind.u64.wrap (a*E)):=by
  have hx0:0<=IntKind.u64.wrap (a*E):=by rw [IntKind.wrap_u64];omega
  have hx1:IntKind.u64.wrap (a*E)<18446744073709551616:=by rw [IntKind.wrap_u64];omega
  generalize IntKind.u64.wrap (a*E)=u at*;obtain⟨U,rfl⟩:=Int.eq_ofNat_of_zero_le hx0;have h6:b/D<18446744073709551616:=by omega
  generalize b/D=v at*;obtain⟨V,rfl⟩:=Int.eq_ofNat_of_zero_le h3;rw [bits_or_u64_nat U V (by omega) (by omega),bits_or_u64_nat V U (by omega) (by omega),Nat.or_comm]
 refine⟨X/D%18446744073709551616,_,by rw [oc,o1],rfl,by omega,by omega,by rw [IntKind.wrap_u64];omega, ?_⟩
 have hl:IntKind.u64.wrap (b*E)=E*(b%D):=by
  rw [IntKind.wrap_u64];have:(18446744073709551616:Int)=E*D:=by rw [Int.mul_comm];exact hDE.symm
  rw [Int.mul_comm b E,this,Int.mul_emod_mul_of_pos _ _ hE0]
 have hbD:b%D=X%D:=by
  rw [← hXb];exact Int.emod_emod_of_dvd X ⟨E,hDE.symm⟩
 have hl0:IntKind.u64.wrap (b*E)≠0↔X%D≠0:=by
  rw [hl,hbD];constructor
  ·intro h e;rw [e] at h;simp at h
  ·intro h e;rcases Int.mul_eq_zero.1 e with e|e<;>omega
 have hm0:0<=X%D:=Int.emod_nonneg _ (by omega);have hm1:X%D<D:=Int.emod_lt_of_pos _ hD0
 have hq:X/(18446744073709551616*D)=a/D:=by
  rw [← hXa,Int.ediv_ediv,if_neg (fun h=>absurd h.1 (by omega)),Int.sub_zero]
 have hr:X%(18446744073709551616*D)=(X/D%18446744073709551616)*D+X%D:=by
  have e1:=Int.emod_add_mul_ediv X D;have e2:=Int.emod_add_mul_ediv (X/D) 18446744073709551616;have e3:=Int.emod_add_mul_ediv X (18446744073709551616*D)
  have e4:X/D/18446744073709551616=X/(18446744073709551616*D):=by
   rw [Int.ediv_ediv,if_neg (fun h=>absurd h.1 (by omega)),Int.mul_comm,Int.sub_zero]
  rw [e4] at e2;generalize X/(18446744073709551616*D)=Y at*;generalize hZ:X/D%18446744073709551616=Z at*;have e5:D*(X/D)=D*(Z+18446744073709551616*Y):=by rw [e2]
  have e6:D*(Z+18446744073709551616*Y)=Z*D+18446744073709551616*D*Y:=by
   rw [Int.mul_add,Int.mul_comm D Z,← Int.mul_assoc,Int.mul_comm D]
  omega
 unfold rne;rw [hq,hr];simp only [hl0];generalize hR:X/D%18446744073709551616=R at*;generalize X%D=r at*;have hR0:0<=R:=by omega
 rcases Int.lt_trichotomy R 9223372036854775808 with c|c|c
 ·have:(R+1)*D<=9223372036854775808*D:=Int.mul_le_mul_of_nonneg_right (by omega) (by omega);rw [Int.add_mul] at this;rw [if_pos (Or.inl (by omega)),if_neg (by omega)]
 ·subst c;by_cases c2:r=0
  ·subst c2;by_cases c3:a/D%2=0
   ·rw [if_pos (Or.inr ⟨by omega,c3⟩),if_neg (by omega)]
   ·rw [if_neg (by omega),if_pos (by omega)]
  ·rw [if_neg (by omega),if_pos (by omega)]
 ·have:9223372036854775809*D<=R*D:=Int.mul_le_mul_of_nonneg_right (by omega) (by omega);rw [if_neg (by omega),if_pos (Or.inl c)]
end Tn
end
section
namespace Gw
open Qn
theorem rne_mono{a b d:Int}(hd:0<d)(h:a<=b):rne a d<=rne b d:=by
 have e1:=Int.mul_ediv_add_emod a d;have e2:=Int.mul_ediv_add_emod b d;have q:=Int.ediv_le_ediv hd h;unfold rne;rcases Int.lt_or_le (a/d) (b/d) with k|k
 · split<;>split<;>omega
 · have ek:a/d=b/d:=by omega
   rw [ek] at e1 ⊢;split<;>split<;>omega
theorem rne_cross{n1 d1 n2 d2:Int}(h1:0<d1)(h2:0<d2)(h:n1*d2<=n2*d1):rne n1 d1<=rne n2 d2:=by
 have e1:rne (n1*d2) (d1*d2)=rne n1 d1:=Tn.rne_scale n1 d1 d2 h1 h2;have e2:rne (n2*d1) (d2*d1)=rne n2 d2:=Tn.rne_scale n2 d2 d1 h2 h1;rw [← e1,← e2,Int.mul_comm d2 d1];exact rne_mono (Int.mul_pos h1 h2) h
theorem rne_err(n:Int){d:Int}(hd:0<d):2*(d*rne n d)<=2*n+d/\2*n- d<=2*(d*rne n d):=by
 have e:=Int.mul_ediv_add_emod n d;have r0:=Int.emod_nonneg n (show d≠0 by omega);have r1:=Int.emod_lt_of_pos n hd;unfold rne;split
 · omega
 · rw [Int.mul_add,Int.mul_one];omega
theorem clamp_mono{a b:Int}(h:a<=b):clamp a<=clamp b:=by
 unfold clamp;split<;>split<;>(try split)<;>(try split)<;>omega
theorem tim_mono{a b a2 b2:Int}(ha0:0<=a)(ha:a<=a2)(hb0:0<=b)(hb:b<=b2):tim a b<=tim a2 b2:=
 clamp_mono (rne_mono (by decide) (Int.mul_le_mul ha hb hb0 (by omega)))
theorem tim_nn{a b:Int}(ha:0<=a)(hb:0<=b):0<=tim a b:=by
 have h:=tim_mono (a:=0) (b:=0) (a2:=a) (b2:=b) (by omega) ha (by omega) hb;have e:tim 0 0=0:=by decide
 omega
theorem tdiv_mono{a b:Int}(n:Nat)(ha:0<=a)(h:a<=b):0<=a.tdiv n/\a.tdiv n<=b.tdiv n:=by
 rw [Int.tdiv_eq_ediv_of_nonneg ha,Int.tdiv_eq_ediv_of_nonneg (show 0<=b by omega)];refine⟨Int.ediv_nonneg ha (Int.natCast_nonneg n), ?_⟩;rcases Nat.eq_zero_or_pos n with k|k
 · subst k;simp
 · exact Int.ediv_le_ediv (by omega) h
theorem td_mono{r s:Int}(h0:0<=r)(h:r<=s): ∀ n,0<=td r n/\td r n<=td s n
 |0=>by unfold td;omega
 |n+1=>by
  have ih:=td_mono h0 h n
  have:=tim_mono ih.1 ih.2 h0 h
  exact tdiv_mono _ (tim_nn ih.1 h0) this
theorem td_one{r:Int}(h0:0<=r)(h1:r<=1125899906842624):td r 1=r:=by
 have e:tim 1125899906842624 r=r:=by
  have:=(tim_eq (a:=r) (b:=1125899906842624) (A:=1125899906842624) (by omega) (by omega) (by omega) (by omega) (by omega)).1;have hc:tim 1125899906842624 r=tim r 1125899906842624:=by unfold tim;rw [Int.mul_comm]
  rw [hc,this];exact rne_mul r (2^50) (by decide)
 show(tim 1125899906842624 r).tdiv ((0+1:Nat):Int)=r;rw [e];exact Int.tdiv_one r
theorem td_next{r:Int}(n:Nat)(h0:0<=r)(h1:r<=1125899906842624):
 2251799813685248*(((n:Int)+1)*td r (n+1))<=2*(td r n*r)+1125899906842624/\
 2*(td r n*r)- 1125899906842624<=2251799813685248*(((n:Int)+1)*td r (n+1)+n):=by
 have b:=td_bd h0 h1 n;have t0:=(td_mono h0 (Int.le_refl r) n).1;have q:=(tim_eq (a:=td r n) (b:=r) (A:=1125899906842624) b.1 b.2 (by omega) h1 (by omega)).1;have q0:=tim_nn t0 h0;have e:=rne_err (td r n*r) (d:=2^50) (by decide);rw [← q,show(2:Int)^50=1125899906842624 from rfl] at e;have hv:td r (n+1)=(tim (td r n) r)/((n+1:Nat):Int):=Int.tdiv_eq_ediv_of_nonneg q0;obtain⟨Q,hQ⟩: ∃ Q,Q=tim (td r n) r:=⟨_,rfl⟩;rw [← hQ] at e q0 hv;have m:=Int.mul_ediv_add_emod Q ((n+1:Nat):Int);have m0:=Int.emod_nonneg Q (show((n+1:Nat):Int)≠0 by omega);have m1:=Int.emod_lt_of_pos Q (show(0:Int)<((n+1:Nat):Int) by omega);rw [← hv,show((n+1:Nat):Int)=(n:Int)+1 by omega] at m;rw [show((n+1:Nat):Int)=(n:Int)+1 by omega] at m0 m1;omega
def ta:Nat->Int
 |0=>1000000
 |n+1=>ta n*7/(10*((n:Int)+1))+1
def al:Nat->Int
 |0=>0
 |1=>1000000
 |n+2=>(7*al (n+1)+10*ta (n+1))/(10*((n:Int)+2))+1
theorem ta_nn: ∀ n,0<=ta n
 |0=>by unfold ta;omega
 |n+1=>by
  have:=ta_nn n
  unfold ta
  have:=Int.ediv_nonneg (a:=ta n*7) (b:=10*((n:Int)+1)) (by omega) (by omega)
  omega
theorem al_nn: ∀ n,0<=al n
 |0=>by unfold al;omega
 |1=>by unfold al;omega
 |n+2=>by
  have:=al_nn (n+1)
  have:=ta_nn (n+1)
  unfold al
  have:=Int.ediv_nonneg (a:=7*al (n+1)+10*ta (n+1)) (b:=10*((n:Int)+2)) (by omega) (by omega)
  omega
theorem up_div(a b:Int)(hb:0<b):a<=b*(a/b+1):=by
 have e:=Int.mul_ediv_add_emod a b;have:=Int.emod_lt_of_pos a hb;rw [Int.mul_add,Int.mul_one];omega
theorem td_ta{r:Int}(h0:0<=r)(h1:10*r<=7881299347898368): ∀ n,1000000*td r n<=ta n*1125899906842624+2000000
 |0=>by unfold td ta;omega
 |n+1=>by
  have ih:=td_ta h0 h1 n
  have nx:=(td_next n h0 (by omega)).1
  have tn:=ta_nn n
  obtain⟨A,hA⟩: ∃ A,A=ta n*1125899906842624+2000000:=⟨_,rfl⟩
  rw [← hA] at ih
  have p1:1000000*td r n*r<=A*r:=Int.mul_le_mul_of_nonneg_right ih h0
  have p2:A*(10*r)<=A*7881299347898368:=Int.mul_le_mul_of_nonneg_left h1 (by omega)
  have p3:A*(10*r)=10*(A*r):=by rw [← Int.mul_assoc,Int.mul_comm A 10,Int.mul_assoc]
  have p4:1000000*td r n*r=1000000*(td r n*r):=Int.mul_assoc _ _ _
  have u:=up_div (ta n*7) (10*((n:Int)+1)) (by omega)
  have e:ta (n+1)=ta n*7/(10*((n:Int)+1))+1:=rfl
  rw [← e] at u
  have u2:10*((n:Int)+1)*ta (n+1)=10*(((n:Int)+1)*ta (n+1)):=Int.mul_assoc _ _ _
  have key:((n:Int)+1)*(1000000*td r (n+1))<=((n:Int)+1)*(ta (n+1)*1125899906842624+2000000):=by
   have f1:((n:Int)+1)*(1000000*td r (n+1))=1000000*(((n:Int)+1)*td r (n+1)):=by rw [← Int.mul_assoc,Int.mul_comm _ 1000000,Int.mul_assoc]
   have f2:((n:Int)+1)*(ta (n+1)*1125899906842624+2000000)=1125899906842624*(((n:Int)+1)*ta (n+1))+2000000*((n:Int)+1):=by
    rw [Int.mul_add,← Int.mul_assoc,Int.mul_comm _ 1125899906842624,Int.mul_comm _ 2000000]
   rw [f1,f2];omega
  exact Int.le_of_mul_le_mul_left key (by omega)
theorem td_al{r s:Int}(h0:0<=r)(hrs:r<=s)(h1:10*s<=7881299347898368): ∀ n,1<=n->1000000*(td s n- td r n)<=al n*(s- r)+3000000
 |0,h=>absurd h (by omega)
 |1,_=>by
  rw [td_one h0 (by omega),td_one (by omega) (by omega)]
  show _<=1000000*(s- r)+3000000
  omega
 |n+2,_=>by
  have ih:=td_al h0 hrs h1 (n+1) (by omega)
  have t1:=(td_next (n+1) h0 (by omega)).2
  have t2:=(td_next (n+1) (r:=s) (by omega) (by omega)).1
  have mo:=td_mono h0 hrs (n+1)
  have ht:=td_ta h0 (show 10*r<=7881299347898368 by omega) (n+1)
  have tn:=ta_nn (n+1)
  have an:=al_nn (n+1)
  obtain⟨δ,hδ⟩: ∃ δ,δ=s- r:=⟨_,rfl⟩
  have d0:0<=δ:=by omega
  have d1:10*δ<=7881299347898368:=by omega
  rw [← hδ] at ih ⊢
  obtain⟨t,ht'⟩: ∃ t,t=td r (n+1):=⟨_,rfl⟩
  obtain⟨u,hu⟩: ∃ u,u=td s (n+1):=⟨_,rfl⟩
  rw [← ht'] at ih t1 mo ht
  rw [← hu] at ih t2 mo
  have hs:s=r+δ:=by omega
  have hp:u*s- t*r=(u- t)*s+t*δ:=by
   rw [Int.sub_mul,hs,Int.mul_add t];omega
  obtain⟨A,hA⟩: ∃ A,A=al (n+1)*δ+3000000:=⟨_,rfl⟩;rw [← hA] at ih;have hA0:0<=A:=by have:=Int.mul_nonneg an d0;omega
  have p1:1000000*(u- t)*s<=A*s:=Int.mul_le_mul_of_nonneg_right ih (by omega);have p2:A*(10*s)<=A*7881299347898368:=Int.mul_le_mul_of_nonneg_left h1 hA0;have p3:A*(10*s)=10*(A*s):=by rw [← Int.mul_assoc,Int.mul_comm A 10,Int.mul_assoc]
  have p4:1000000*(u- t)*s=1000000*((u- t)*s):=Int.mul_assoc _ _ _;have p5:1000000*t*δ<=(ta (n+1)*1125899906842624+2000000)*δ:=Int.mul_le_mul_of_nonneg_right ht d0;have p6:1000000*t*δ=1000000*(t*δ):=Int.mul_assoc _ _ _
  have p7:(ta (n+1)*1125899906842624+2000000)*δ=1125899906842624*(ta (n+1)*δ)+2000000*δ:=by
   rw [Int.add_mul,Int.mul_comm (ta (n+1)),Int.mul_assoc]
  have e:al (n+2)=(7*al (n+1)+10*ta (n+1))/(10*((n:Int)+2))+1:=rfl;have w:=up_div (7*al (n+1)+10*ta (n+1)) (10*((n:Int)+2)) (by omega);rw [← e] at w;have w1:=Int.mul_le_mul_of_nonneg_right w d0;have w2:(7*al (n+1)+10*ta (n+1))*δ=7*(al (n+1)*δ)+10*(ta (n+1)*δ):=by rw [Int.add_mul,Int.mul_assoc,Int.mul_assoc]
  have w3:10*((n:Int)+2)*al (n+2)*δ=10*(((n:Int)+2)*(al (n+2)*δ)):=by rw [Int.mul_assoc,Int.mul_assoc]
  have c1:((n+1:Nat):Int)+1=(n:Int)+2:=by omega
  have c2:((n+1:Nat):Int)=(n:Int)+1:=by omega
  rw [c1] at t1 t2;rw [c2] at t1;rw [show n+1+1=n+2 from rfl] at t1 t2
  have key:((n:Int)+2)*(1000000*(td s (n+2)- td r (n+2)))<=((n:Int)+2)*(al (n+2)*δ+3000000):=by
   have f1:((n:Int)+2)*(1000000*(td s (n+2)- td r (n+2)))=1000000*(((n:Int)+2)*td s (n+2))- 1000000*(((n:Int)+2)*td r (n+2)):=by
    rw [← Int.mul_assoc,Int.mul_comm _ 1000000,Int.mul_assoc,Int.mul_sub,Int.mul_sub]
   have f2:((n:Int)+2)*(al (n+2)*δ+3000000)=((n:Int)+2)*(al (n+2)*δ)+3000000*((n:Int)+2):=by
    rw [Int.mul_add,Int.mul_comm _ 3000000]
   rw [f1,f2];omega
  exact Int.le_of_mul_le_mul_left key (by omega)
theorem ps21(r:Int):ps r 21=td r 0- td r 1+td r 2- td r 3+td r 4- td r 5+td r 6- td r 7+td r 8- td r 9+td r 10- td r 11+td r 12- td r 13+td r 14- td r 15+td r 16- td r 17+td r 18- td r 19+td r 20:=by
 have h0:ps r 0=0:=rfl;have e0:ps r 0+td r 0=ps r 1:=ps_even r 0 (by omega);have e1:ps r 1- td r 1=ps r 2:=ps_odd r 1 (by omega);have e2:ps r 2+td r 2=ps r 3:=ps_even r 2 (by omega);have e3:ps r 3- td r 3=ps r 4:=ps_odd r 3 (by omega);have e4:ps r 4+td r 4=ps r 5:=ps_even r 4 (by omega);have e5:ps r 5- td r 5=ps r 6:=ps_odd r 5 (by omega);have e6:ps r 6+td r 6=ps r 7:=ps_even r 6 (by omega);have e7:ps r 7- td r 7=ps r 8:=ps_odd r 7 (by omega);have e8:ps r 8+td r 8=ps r 9:=ps_even r 8 (by omega);have e9:ps r 9- td r 9=ps r 10:=ps_odd r 9 (by omega);have e10:ps r 10+td r 10=ps r 11:=ps_even r 10 (by omega);have e11:ps r 11- td r 11=ps r 12:=ps_odd r 11 (by omega);have e12:ps r 12+td r 12=ps r 13:=ps_even r 12 (by omega);have e13:ps r 13- td r 13=ps r 14:=ps_odd r 13 (by omega);have e14:ps r 14+td r 14=ps r 15:=ps_even r 14 (by omega);have e15:ps r 15- td r 15=ps r 16:=ps_odd r 15 (by omega);have e16:ps r 16+td r 16=ps r 17:=ps_even r 16 (by omega);have e17:ps r 17- td r 17=ps r 18:=ps_odd r 17 (by omega);have e18:ps r 18+td r 18=ps r 19:=ps_even r 18 (by omega);have e19:ps r 19- td r 19=ps r 20:=ps_odd r 19 (by omega);have e20:ps r 20+td r 20=ps r 21:=ps_even r 20 (by omega);omega
theorem al_vals:al 2=700001/\al 4=57167/\al 6=1401/\al 8<=30/\al 10<=10/\al 12<=10/\al 14<=10/\al 16<=10/\al 18<=10/\al 20<=10:=by decide
theorem ps_fall{r s:Int}(h0:0<=r)(hrs:r<=s)(h1:10*s<=7881299347898368):ps s 21<=ps r 21+30:=by
 have m:=fun n=>td_mono h0 hrs n;have d:=fun n h=>td_al h0 hrs h1 n h;have z: ∀ x,td x 0=1125899906842624:=fun _=>rfl;obtain⟨v2,v4,v6,v8,v10,v12,v14,v16,v18,v20⟩:=al_vals;have dd:0<=s- r:=by omega
 have g: ∀ (n:Nat) (c:Int),1<=n->al n<=c->1000000*(td s n- td r n)<=c*(s- r)+3000000:=fun n c hn hc=>by
  have:=d n hn;have:=Int.mul_le_mul_of_nonneg_right hc dd;omega
 have g2:=g 2 700001 (by omega) (by omega);have g4:=g 4 57167 (by omega) (by omega);have g6:=g 6 1401 (by omega) (by omega);have g8:=g 8 30 (by omega) (by omega);have g10:=g 10 10 (by omega) (by omega);have g12:=g 12 10 (by omega) (by omega);have g14:=g 14 10 (by omega) (by omega);have g16:=g 16 10 (by omega) (by omega);have g18:=g 18 10 (by omega) (by omega);have g20:=g 20 10 (by omega) (by omega);rw [ps21 r,ps21 s,z r,z s,td_one h0 (by omega),td_one (by omega) (by omega)];have m3:=m 3;have m5:=m 5;have m7:=m 7;have m9:=m 9;have m11:=m 11;have m13:=m 13;have m15:=m 15;have m17:=m 17;have m19:=m 19;omega
theorem ps_low:ps 0 21=1125899906842624:=by decide+kernel
theorem ps_high:ps 780414346020670 21=562949953421312:=by decide+kernel
theorem ps_in{r:Int}(h0:0<=r)(h1:r<=780414346020670):562949953421282<=ps r 21/\ps r 21<=1125899906842654:=by
 have a:=ps_fall h0 h1 (by omega);have b:=ps_fall (r:=0) (s:=r) (by omega) h0 (by omega);rw [ps_high] at a;rw [ps_low] at b;omega
end Gw
end
set_option linter.unusedSectionVars false
section
namespace Gw
open Qn
theorem ps_drop{r s:Int}(h0:0<=r)(hrs:r<=s)(h1:10*s<=7881299347898368):5*ps s 21+(s- r)<=5*ps r 21+150:=by
 have m:=fun n=>td_mono h0 hrs n;have d:=fun n h=>td_al h0 hrs h1 n h;have z: ∀ x,td x 0=1125899906842624:=fun _=>rfl;obtain⟨v2,v4,v6,v8,v10,v12,v14,v16,v18,v20⟩:=al_vals;have dd:0<=s- r:=by omega
 have g: ∀ (n:Nat) (c:Int),1<=n->al n<=c->1000000*(td s n- td r n)<=c*(s- r)+3000000:=fun n c hn hc=>by
  have:=d n hn;have:=Int.mul_le_mul_of_nonneg_right hc dd;omega
 have g2:=g 2 700001 (by omega) (by omega);have g4:=g 4 57167 (by omega) (by omega);have g6:=g 6 1401 (by omega) (by omega);have g8:=g 8 30 (by omega) (by omega);have g10:=g 10 10 (by omega) (by omega);have g12:=g 12 10 (by omega) (by omega);have g14:=g 14 10 (by omega) (by omega);have g16:=g 16 10 (by omega) (by omega);have g18:=g 18 10 (by omega) (by omega);have g20:=g 20 10 (by omega) (by omega);rw [ps21 r,ps21 s,z r,z s,td_one h0 (by omega),td_one (by omega) (by omega)];have m3:=m 3;have m5:=m 5;have m7:=m 7;have m9:=m 9;have m11:=m 11;have m13:=m 13;have m15:=m 15;have m17:=m 17;have m19:=m 19;omega
theorem ex_nn{z:Int}(hz:z<=0):0<=ex z:=by
 unfold ex;split
 · omega
 · have:=ps_in (rs_bd z).1 (Int.le_of_lt (rs_bd z).2);have hp:(0:Int)<2^(20+(hv z).toNat):=Int.pow_pos (by omega);have:=rne_ge (n:=ps (rs z) 21) (d:=2^(20+(hv z).toNat)) (A:=0) hp (by omega);omega
theorem ex_mono{x y:Int}(hxy:x<=y)(hy:y<=0):ex x<=ex y:=by
 by_cases he:x=y
 · rw [he];exact Int.le_refl _
 by_cases hx:x< -47185920
 · have e:ex x=0:=by unfold ex;rw [if_pos hx]
   have:=ex_nn hy;omega
 · have bx:=hv_bd (x:=x) (by omega) (by omega);have by':=hv_bd (x:=y) hy (by omega);have hk:hv y<=hv x:=by unfold hv;omega
   have rx:=rs_bd x;have ry:=rs_bd y;have sx:=ps_in rx.1 (Int.le_of_lt rx.2);have sy:=ps_in ry.1 (Int.le_of_lt ry.2);have qx: -x*1073741824=780414346020670*hv x+rs x:=by unfold hv rs;omega
   have qy: -y*1073741824=780414346020670*hv y+rs y:=by unfold hv rs;omega
   have ex1:ex x=rne (ps (rs x) 21) (2^(20+(hv x).toNat)):=by unfold ex;rw [if_neg hx]
   have ey1:ex y=rne (ps (rs y) 21) (2^(20+(hv y).toNat)):=by unfold ex;rw [if_neg (by omega)]
   have low:=ps_drop (r:=rs y) (s:=780414346020670) ry.1 (by omega) (by omega);have high:=ps_drop (r:=0) (s:=rs x) (by omega) rx.1 (by omega);rw [ps_high] at low;rw [ps_low] at high
   have hfall:hv y=hv x->ps (rs x) 21<=ps (rs y) 21:=fun e=>by
    have:=ps_drop (r:=rs y) (s:=rs x) ry.1 (by omega) (by omega);omega
   have hone:hv x=hv y+1->ps (rs x) 21<=2*ps (rs y) 21:=fun e=>by omega
   rw [ex1,ey1];obtain⟨X,hX⟩: ∃ X,X=ps (rs x) 21:=⟨_,rfl⟩;obtain⟨Y,hY⟩: ∃ Y,Y=ps (rs y) 21:=⟨_,rfl⟩;rw [← hX] at sx hfall hone ⊢;rw [← hY] at sy hfall hone ⊢;clear low high ex1 ey1 hX hY;obtain⟨j,hj⟩: ∃ j:Nat,j=(hv y).toNat:=⟨_,rfl⟩;obtain⟨i,hi⟩: ∃ i:Nat,(hv x).toNat=j+i:=⟨(hv x).toNat- j,by omega⟩;rw [hi,← hj];have hD:(0:Int)<2^(20+j):=Int.pow_pos (by omega);have hDD:(2:Int)^(20+(j+i))=2^(20+j)*2^i:=by rw [← Int.pow_add];congr 1;omega
   obtain⟨D,hDe⟩: ∃ D,D=(2:Int)^(20+j):=⟨_,rfl⟩;rw [hDD,← hDe];rw [← hDe] at hD
   have key: ∀ c:Int,0<c->X<=c*Y->rne X (D*c)<=rne Y D:=fun c hc h=>by
    refine rne_cross (Int.mul_pos hD hc) hD ?_;have:=Int.mul_le_mul_of_nonneg_right h (Int.le_of_lt hD);have e:c*Y*D=Y*(D*c):=by rw [Int.mul_comm c Y,Int.mul_assoc,Int.mul_comm c D]
    omega
   match i,hi with
   |0,hi=>exact key (2^0) (by decide) (by have:=hfall (by omega);rw [Int.pow_zero,Int.one_mul];exact this)
   |1,hi=>exact key (2^1) (by decide) (by have:=hone (by omega);rw [Int.pow_one];exact this)
   |i+2,hi=>
    have h4:(1:Int)<=2^i:=by have:(0:Int)<2^i:=Int.pow_pos (by omega)
                             omega
    have e4:(2:Int)^(i+2)=4*2^i:=by rw [Int.pow_add,Int.mul_comm];rfl
    rw [e4];refine key _ (by omega) ?_;have f:1*Y<=2^i*Y:=Int.mul_le_mul_of_nonneg_right h4 (by omega);rw [Int.mul_assoc];omega
theorem ex_zero:ex 0=1073741824:=by decide+kernel
theorem ex_in{z:Int}(hz:z<=0):0<=ex z/\ex z<=1073741824:=⟨ex_nn hz,by have:=ex_mono hz (Int.le_refl 0);rw [ex_zero] at this;exact this⟩
end Gw
namespace Cn
section
variable {n:Nat} {m:Int} {a:Nat->Int} (hS:0<tot a n)
include hS
end
end Cn
end
section
namespace Lk
open Qn Gw Cn
def bl(l c:Nat->Int):Nat->Int
 |0=> -1
 |k+1=>if 0<c k/\(bl l c k<0\/l (bl l c k).toNat<l k) then(k:Int) else bl l c k
theorem bl_spec(l c:Nat->Int): ∀ n,(bl l c n= -1/\ ∀ i,i<n->c i<=0)\/(0<=bl l c n/\(bl l c n).toNat<n/\0<c (bl l c n).toNat/\ ∀ i,i<n->0<c i->l i<=l (bl l c n).toNat)
 |0=>Or.inl ⟨rfl,fun i hi=>by omega⟩
 |n+1=>by
  have ih:=bl_spec l c n
  have u:bl l c (n+1)=if 0<c n/\(bl l c n<0\/l (bl l c n).toNat<l n) then(n:Int) else bl l c n:=rfl
  by_cases h:0<c n/\(bl l c n<0\/l (bl l c n).toNat<l n)
  · rw [u,if_pos h]
    refine Or.inr ⟨by omega,by omega,by rw [Int.toNat_natCast];exact h.1,fun i hi h0=> ?_⟩
    rw [Int.toNat_natCast]
    by_cases e:i=n
    · subst e;omega
    · rcases ih with⟨_,h2⟩|⟨h1,_,_,h4⟩
      · have:=h2 i (by omega);omega
      · have:=h4 i (by omega) h0;omega
  · rw [u,if_neg h]
    rcases ih with⟨h1,h2⟩|⟨h1,h2,h3,h4⟩
    · refine Or.inl ⟨h1,fun i hi=> ?_⟩
      by_cases e:i=n
      · subst e;omega
      · exact h2 i (by omega)
    · refine Or.inr ⟨h1,by omega,h3,fun i hi h0=> ?_⟩
      by_cases e:i=n
      · subst e;omega
      · exact h4 i (by omega) h0
def wz(l c:Nat->Int)(n:Nat)(i:Nat):Int:=if c i=0\/n<=i then 0 else ex (clamp (l i- l (bl l c n).toNat))*c i
def wo(l c:Nat->Int)(n:Nat):Nat->Bool
 |0=>false
 |k+1=>wo l c n k||(!decide (c k=0) && great (l k- l (bl l c n).toNat))
structure MayL(n:Nat)(l c:Nat->Int)(fl:Int):Prop where
 ch:Ch n c 0
 lo:0<=fl
 hi:fl<=67108864
 each: ∀ k,k<n-> -4611686018427387903<=l k/\l k<=4611686018427387903
theorem clamp_neg{d:Int}(h:d<=0):clamp d<=0:=by have:=clamp_mono h;have e:clamp 0=0:=by decide
                                                omega
section
variable {n:Nat} {l c:Nat->Int} {fl:Int} (h:MayL n l c fl)
include h
theorem bl_in:0<=bl l c n/\(bl l c n).toNat<n/\0<c (bl l c n).toNat/\ ∀ i,i<n->0<c i->l i<=l (bl l c n).toNat:=by
 rcases bl_spec l c n with⟨_,h2⟩|h1
 · exfalso;have e:tot c n=tot (fun _=>0) n:=tot_congr fun k hk=>by have:=h2 k hk;have:=(h.ch.nn hk).1;omega
   rw [h.ch.sum,tot_const,Int.zero_mul] at e;omega
 · exact h1
theorem d_neg{i:Nat}(hi:i<n)(h0:c i≠0):clamp (l i- l (bl l c n).toNat)<=0:=clamp_neg (by
 have:=(bl_in h).2.2.2 i hi (by have:=(h.ch.nn hi).1;omega);omega)
theorem wz_in(i:Nat):0<=wz l c n i/\wz l c n i<=1152921504606846976:=by
 unfold wz;split
 · omega
 · rename_i h0
   have hi:i<n:=by omega
   have a:=ex_in (d_neg h hi (by omega));have b:=h.ch.nn hi;exact⟨Int.mul_nonneg a.1 b.1,Int.le_trans (Int.mul_le_mul a.2 b.2 b.1 (by omega)) (by omega)⟩
theorem wz_may:MayW n (wz l c n) fl:=⟨h.ch.one,h.ch.four,h.lo,h.hi,fun k hk=>by have:=wz_in h k;omega⟩
theorem wz_best:wz l c n (bl l c n).toNat=1073741824*c (bl l c n).toNat:=by
 have b:=bl_in h;unfold wz;rw [if_neg (by omega),Int.sub_self,show clamp 0=0 by decide,ex_zero]
theorem wz_pos:0<tot (wz l c n) n:=by
 have b:=bl_in h;have e:=tot_le_each (a:=wz l c n) (n:=n) (fun k hk=>(wz_in h k).1) b.2.1;rw [wz_best h] at e;omega
theorem ol_ch:Ch n (oc fl (wz l c n) n) fl:=oc_ch (wz_may h) (wz_pos h)
end
section
variable {n:Nat} {c:Nat->Int} (h:Ch n c 0)
include h
end
end Lk
end
end Go.Proofs.YtcefcokpjbebhaaGreatDoor
