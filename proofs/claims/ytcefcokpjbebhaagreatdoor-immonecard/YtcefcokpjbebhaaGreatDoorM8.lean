/-
  Lists of rows: appended to, handed on, held against each other (rowsOf, sameRows, matOf of the laws of layer 8).
-/
import Derived.Test.YtcefcokpjbebhaaGreatDoorM5
import Derived.Test.YtcefcokpjbebhaaGreatDoorM7
import Derived.Deep.AppendLies
import Derived.Deep.RegionHeld3
import Derived.Test.YtcefcokpjbebhaaGreatDoorM2
import Derived.Laws.CopyOwn
set_option linter.unusedSimpArgs false
set_option linter.unusedVariables false
set_option maxHeartbeats 1000000
set_option maxRecDepth 10000
namespace Go.Proofs.YtcefcokpjbebhaaGreatDoor
section
open Go.RowKit Vc Mt
namespace Mt
theorem infoSl:(Tryz.prog.info? 27).map (fun i=>(i.zero,i.size,i.bytes))=some (some (.slice none 0 0),1,24):=by kernel_rfl
def svals(n:Nat)(S:Nat->Value):List Value:=(List.range n).map S
theorem svals_len(n:Nat)(S:Nat->Value):(svals n S).length=n:=by simp [svals]
theorem svals_at{n k:Nat}{S:Nat->Value}(h:k<n):(svals n S)[k]?=some (S k):=by simp [svals,h]
theorem svals_push(n:Nat)(S:Nat->Value)(v:Value):svals n S++ [v]=svals (n+1) (fun k=>if k<n then S k else v):=by
 unfold svals;rw [List.range_succ,List.map_append];congr 1
 · exact List.map_congr_left fun k hk=>by rw [if_pos (List.mem_range.1 hk)]
 · simp
def Grid(w:World)(lo:Option Addr)(n cm m:Nat)(F:Nat->Nat->Int):Prop:= ∃ A C,Sls w lo n cm A (fun _=>m) C/\ ∀ k,k<n->Sl w (A k) m (C k) (F k)
theorem Grid.keep{w w':World}{lo:Option Addr}{n cm m:Nat}{F:Nat->Nat->Int}(h:Grid w lo n cm m F)(b:Below w.heap.size w w'):Grid w' lo n cm m F:=by
 obtain⟨A,C,h1,h2⟩:=h;exact⟨A,C,h1.keep b,fun k hk=>(h2 k hk).keep b⟩
structure Lst(B:Nat)(w0 w:World)(v:Value)(n m:Nat)(F:Nat->Nat->Int):Prop where
 row: ∃ S,w.ownsRow B 27 1 v n (svals n S)/\ ∀ j,j<n-> ∃ a c,S j= .slice a m c/\Sl w a m c (F j)/\ ∀ x,a=some x->v.ownBlock≠some x.block
 below:Below B w0 w
 base:B<=w.heap.size
theorem Lst.keep{B:Nat}{w0 w w':World}{v:Value}{n m:Nat}{F:Nat->Nat->Int}(h:Lst B w0 w v n m F)(b:Below w.heap.size w w'):Lst B w0 w' v n m F:=by
 obtain⟨S,h1,h2⟩:=h.row;refine⟨⟨S,row_keep h1 b,fun j hj=> ?_⟩,h.below.trans (b.mono h.base),Nat.le_trans h.base b.size⟩;obtain⟨a,c,e1,e2,e3⟩:=h2 j hj;exact⟨a,c,e1,e2.keep b,e3⟩
theorem Lst.apart{B:Nat}{w0 w:World}{v:Value}{n m:Nat}{F:Nat->Nat->Int}(h:Lst B w0 w v n m F){B':Nat}(hB:w.heap.size<=B'){ao:Option Addr}(hf:Fresh B' ao): ∀ x,ao=some x->v.ownBlock≠some x.block:=by
 intro x hx e;obtain⟨S,h1,_⟩:=h.row;have h3:=(h1.lt _ e).2;have h4:=hf x hx;omega
theorem Lst.grid{B:Nat}{w0 w:World}{v:Value}{n m:Nat}{F:Nat->Nat->Int}(h:Lst B w0 w v n m F): ∃ lo cm,v= .slice lo n cm/\Grid w lo n cm m F:=by
 obtain⟨S,⟨h1,h2⟩,h3⟩:=h.row;rcases h2 with⟨rfl,rfl⟩|⟨g,cap,cur,rfl,hb,hg,hn,hc,hs,ht⟩
 · exact⟨none,0,rfl,fun _=>none,fun _=>0,⟨Nat.le_refl _,by omega,fun j hj=>by omega⟩,fun k hk=>by omega⟩
 · refine⟨_,_,rfl,fun k=>match S k with| .slice a _ _=>a|_=>none,fun k=>match S k with| .slice _ _ c=>c|_=>0,⟨hn,hc,fun k hk=>⟨_,rfl, ?_⟩⟩,fun k hk=> ?_⟩
   · obtain⟨a,c,e1,e2,e3⟩:=h3 k hk;have e:=svals_at (S:=S) hk;rw [← ht] at e
     have e4:cur[k]?=some (S k):=by
      rw [List.getElem?_take] at e;split at e
      · simpa using e
      · cases e
     rw [Addr.add_lit,Nat.zero_add];simp only [e1] at e4 ⊢;simp [World.cell?,hg,e4]
   · obtain⟨a,c,e1,e2,e3⟩:=h3 k hk;simp only [e1];exact e2
theorem Sl.grown{w w':World}{ao:Option Addr}{n ca:Nat}{z:Nat->Int}{row:Option Nat}(h:Sl w ao n ca z)(g:w.grownBy w' row)(hne: ∀ x,ao=some x->row≠some x.block):Sl w' ao n ca z:=
 ⟨h.le,h.cap,fun k hk=>by
  obtain⟨x,hx,hc⟩:=h.at' k hk
  refine⟨x,hx, ?_⟩
  have hlt:=World.block_lt_of_cell? w _ hc
  have hb:(x.add k).block=x.block:=by unfold Addr.add;split<;>rfl
  have e:=g.block (x.add k).block hlt (by rw [hb];exact fun e=>hne x hx e.symm)
  rw [World.cell?_of_block e]
  exact hc⟩
theorem wpList_pushS{ops:Array Oper}{rest:List Oper}{o:Oper}{a:Act}{Q:Exit->Act->World->Prop}{wr:World}(hgd:o.guard=none)(s x:Operand)
 (ho:o.op= .call { callee:= .builtin .append,args:= #[s,x],argTypes:= #[23,23] }) (B:Nat) (w0:World) (v:Value) (n m:Nat) (F:Nat->Nat->Int) (hs:a.eval s=v) (hL:Lst B w0 wr v n m F) (hm:0<m) (hl:n<=2000000)
 (ra:Option Addr) (rc:Nat) (hr:Sl wr ra m rc (F n)) (hap: ∀ x,ra=some x->v.ownBlock≠some x.block)
 (hx:a.eval x= .slice (some ⟨wr.heap.size,0,none⟩) 1 1)
 (h: ∀ v' w',Lst B w0 w' v' (n+1) m F->wpList Tryz.prog ops Q rest (a.put o.dst v') w'):wpList Tryz.prog ops Q (o::rest) a (wr.alloc (.cells #[.slice ra m rc] 27)):=by
 obtain⟨i0,hi,hz0,hz1,hz2⟩:=info_parts infoSl;obtain⟨S,h1,h2⟩:=hL.row;refine wpList_append_lies _ hgd s x 23 ho B 27 i0 (.slice none 0 0) 1 24 Tryz.underlying23 hi hz0 hz1 hz2 rfl (by decide) v n (svals n S) hs (h1.alloc _) ⟨wr.heap.size,0,none⟩ 1 1 [.slice ra m rc] hx rfl (cell_one_new _ _ _) (by intro u hu;simp at hu;subst hu;rfl) (by omega) (by unfold maxLen;omega) (by omega) (by have:=hL.base;simp;omega) _ rfl ?_;intro g cap w' o1 o2 o3 o4;rw [svals_push] at o1;refine h _ w' ⟨⟨_,o1,fun j hj=> ?_⟩, ?_,Nat.le_trans (by have:=hL.base;simp;omega) o2.size⟩
 · have hg: ∀ b,b<wr.heap.size->v.ownBlock≠some b->g≠b:=fun b hb e1 e2=>by
    rcases o3 with o3|o3
    · exact e1 (by rw [o3,e2])
    · simp at o3;omega
   have hblk: ∀ {ao:Option Addr} {ca:Nat} {z:Nat->Int},Sl wr ao m ca z->(∀ x,ao=some x->v.ownBlock≠some x.block)-> ∃ co,∃ cc,Value.slice ao m ca= .slice co m cc/\Sl w' co m cc z/\ ∀ x,co=some x->Value.ownBlock (.slice (some ⟨g,0,none⟩) (n+1) cap)≠some x.block:=by
    intro ao ca z hsl hne;refine⟨ao,ca,rfl,Sl.grown (hsl.keep (below_al (Below.refl _ _) _)) o2 hne,fun x hx e=> ?_⟩;have e3:g=x.block:=by simpa [Value.ownBlock] using e
    obtain⟨y,hy,hc⟩:=hsl.at' 0 hm;rw [hx] at hy;cases hy
    have hlt:=World.block_lt_of_cell? wr _ hc;have hb:(x.add 0).block=x.block:=by unfold Addr.add;split<;>rfl
    exact hg x.block (by omega) (hne x hx) e3
   by_cases hjn:j<n
   · obtain⟨ao,ca,e1,e2,e3⟩:=h2 j hjn;simp only [if_pos hjn,e1];exact hblk e2 e3
   · obtain rfl:j=n:=by omega
     simp only [if_neg hjn];exact hblk hr hap
 · refine(hL.below.alloc hL.base _).grown o2 (by have:=hL.base;simp;omega) ?_;intro k hk;exact(h1.lt k hk).1
end Mt
theorem matOf_by(v:Value)(r c:Int)(z:Nat->Int)(w:World)(h: ∀ W,Below w.heap.size w W->Calls Tryz.prog 140 #[v] W fun e w'=>e= .returned (.tuple #[.agg (mvals r c z).toArray, .nilIface])/\Below W.heap.size W w'):
 Calls Tryz.prog 66 #[v] w fun e w'=>e= .returned (.agg (mvals r c z).toArray)/\Below w.heap.size w w':=by
 have rA:=mrow_new w 0 0 (fun _=>0);have hB:=below_al (Below.refl _ w) (.cells (mvals 0 0 (fun _=>0)).toArray 53);obtain⟨W,hW⟩: ∃ W,W=w.alloc (.cells (mvals 0 0 (fun _=>0)).toArray 53):=⟨_,rfl⟩;rw [← hW] at rA hB;have HW:=Hid.mkV hW;have HN:=Hid.mkV (h W hB);clear hW h;go_enter Tryz.func66,Tryz.ntmps66
 go_wp2_with fail
 rw [zeroM,← HW.out];refine HN.out.mono ?_;rintro e w1 ⟨rfl,k1⟩;have r1:=rA.keep k1;have rR:=r1.alloc (.cells (mvals 0 0 (fun _=>0)).toArray 53);have rN:=mrow_new w1 0 0 (fun _=>0);have B1:=below_tr hB k1;have B2:=below_al B1 (.cells (mvals 0 0 (fun _=>0)).toArray 53);have hne:w.heap.size≠w1.heap.size:=by have:=r1.lt;omega
 go_wp2_with (first
  |(rw [zeroM];refine wpList_storeM rfl _ _ (by rfl) _ _ _ _ _ _ _ (by rfl) (by rfl) (by with_reducible exact rN) ?_)
  |(refine wpList_loadM (by rfl) _ (by rfl) _ _ _ _ (by rfl) (by with_reducible exact rN.row _ _ _) ?_)
  |(refine wpList_storeM rfl _ _ (by rfl) _ _ _ _ _ _ _ (by rfl) (by rfl) (by with_reducible exact rR.rowOther hne _) ?_)
  |fail)
 exact bodyPost_ret (results_M1 Tryz.results66 _ _ w.heap.size _ _ _ rfl ((rR.rowOther hne _).row _ _ _)) rfl ⟨rfl,below_row (below_row B2 B1.size _) (Nat.le_refl _) _⟩
theorem matOf_no(v:Value)(w:World)(h: ∀ W,Below w.heap.size w W->Calls Tryz.prog 140 #[v] W fun e w'=>e= .returned (.tuple #[.agg (mvals 0 0 (fun _=>0)).toArray, .iface 93 (.int .i64 1)])/\Below W.heap.size W w'):
 Calls Tryz.prog 66 #[v] w fun e w'=>e= .returned (.agg (mvals 0 0 (fun _=>0)).toArray)/\Below w.heap.size w w':=by
 have rA:=mrow_new w 0 0 (fun _=>0);have hB:=below_al (Below.refl _ w) (.cells (mvals 0 0 (fun _=>0)).toArray 53);obtain⟨W,hW⟩: ∃ W,W=w.alloc (.cells (mvals 0 0 (fun _=>0)).toArray 53):=⟨_,rfl⟩;rw [← hW] at rA hB;have HW:=Hid.mkV hW;have HN:=Hid.mkV (h W hB);clear hW h;go_enter Tryz.func66,Tryz.ntmps66
 go_wp2_with fail
 rw [zeroM,← HW.out];refine HN.out.mono ?_;rintro e w1 ⟨rfl,k1⟩;have r1:=rA.keep k1;have rR:=r1.alloc (.cells (mvals 0 0 (fun _=>0)).toArray 53);have rN:=mrow_new w1 0 0 (fun _=>0);have B1:=below_tr hB k1;have B2:=below_al B1 (.cells (mvals 0 0 (fun _=>0)).toArray 53);have hne:w.heap.size≠w1.heap.size:=by have:=r1.lt;omega
 go_wp2_with (first
  |(rw [zeroM];refine wpList_storeM rfl _ _ (by rfl) _ _ _ _ _ _ _ (by rfl) (by rfl) (by with_reducible exact rN) ?_)
  |(refine wpList_build0 rfl (by rfl) ?_)
  |(refine wpList_storeM rfl _ _ (by rfl) _ _ _ _ _ _ _ (by rfl) (by rfl) (by with_reducible exact rR.rowOther hne _) ?_)
  |fail)
 exact bodyPost_ret (results_M1 Tryz.results66 _ _ w.heap.size _ _ _ rfl ((rR.rowOther hne _).row _ _ _)) rfl ⟨rfl,below_row (below_row B2 B1.size _) (Nat.le_refl _) _⟩
end
section
open Go.RowKit Vc Mt
namespace Mt
variable {B:Nat} {w0 w w':World} {L cm n m:Nat} {G:Nat->Nat} {F:Nat->Nat->Int}
end Mt
end
section
open Go.RowKit Vc Mt
namespace Mt
section
variable {B:Nat} {w0 w w':World} {L cm n m:Nat} {G C:Nat->Nat} {F:Nat->Nat->Int}
end
end Mt
end
section
open Go.RowKit Vc
namespace El
def ecells(S:Nat->List Value):Nat->List Value
 |0=> []
 |k+1=>ecells S k++S k
theorem ecells_len{S:Nat->List Value}{s:Nat}: ∀ {n:Nat},(∀ k,k<n->(S k).length=s)->(ecells S n).length=n*s
 |0,_=>by show(0:Nat)=0*s;rw [Nat.zero_mul]
 |n+1,h=>by
  show(ecells S n++S n).length=_
  rw [List.length_append,ecells_len (fun k hk=>h k (by omega)),h n (by omega),Nat.succ_mul]
theorem ecells_at{S:Nat->List Value}{s:Nat}: ∀ {n:Nat},(∀ k,k<n->(S k).length=s)-> ∀ {k j:Nat},k<n->j<s->(ecells S n)[k*s+j]?=(S k)[j]?
 |n+1,h,k,j,hk,hj=>by
  show(ecells S n++S n)[k*s+j]?=_
  have hl:(ecells S n).length=n*s:=ecells_len fun k hk=>h k (by omega)
  by_cases e:k=n
  · subst e
    rw [List.getElem?_append_right (by rw [hl];omega),hl,Nat.add_sub_cancel_left]
  · have h1:k*s+s<=n*s:=by rw [← Nat.succ_mul];exact Nat.mul_le_mul_right s (by omega)
    rw [List.getElem?_append_left (by rw [hl];omega)]
    exact ecells_at (fun k hk=>h k (by omega)) (by omega) hj
theorem ecells_congr{S T:Nat->List Value}: ∀ {n:Nat},(∀ k,k<n->S k=T k)->ecells S n=ecells T n
 |0,_=>rfl
 |n+1,h=>by
  show ecells S n++S n=ecells T n++T n
  rw [ecells_congr (fun k hk=>h k (by omega)),h n (by omega)]
def Rest(P:Nat->Prop)(w w':World):Prop:= ∀ b,b<w.heap.size-> ¬P b->w'.heap[b]?=w.heap[b]?
abbrev own(v:Value):Nat->Prop:=fun q=>v.ownBlock=some q
theorem Rest.refl(P:Nat->Prop)(w:World):Rest P w w:=fun _ _ _=>rfl
theorem Rest.mono{P P':Nat->Prop}{w w':World}(h:Rest P w w')(e: ∀ q,P q->P' q):Rest P' w w':=fun b hb hn=>h b hb (fun q=>hn (e b q))
structure Els(t:TypeId)(s B:Nat)(w0 w:World)(v:Value)(n:Nat)(R:Nat->List Value->World->Prop):Prop where
 row: ∃ S:Nat->List Value,w.ownsRow B t s v n (ecells S n)/\ ∀ k,k<n->(S k).length=s/\ ∀ w',Rest (own v) w w'->R k (S k) w'
 below:Below B w0 w
 base:B<=w.heap.size
section
variable {t:TypeId} {s B:Nat} {w0 w w':World} {v:Value} {n:Nat} {R:Nat->List Value->World->Prop}
theorem Els.lt(h:Els t s B w0 w v n R){g:Nat}(e:v.ownBlock=some g):B<=g/\g<w.heap.size:=by
 obtain⟨S,h1,_⟩:=h.row;exact h1.lt g e
theorem Els.form(h:Els t s B w0 w v n R): ∃ ao ca,v= .slice ao n ca/\n<=ca/\ca<=9223372036854775807:=by
 obtain⟨S,⟨_,h1⟩,_⟩:=h.row;rcases h1 with⟨rfl,rfl⟩|⟨g,cap,cur,rfl,hb,hg,hn,hc,hs,ht⟩
 · exact⟨_,_,rfl,Nat.le_refl _,by omega⟩
 · exact⟨_,_,rfl,hn,by unfold maxLen at hc;omega⟩
theorem Els.at(h:Els t s B w0 w v n R)(h0:0<n): ∃ g cap,∃ S:Nat->List Value,v= .slice (some ⟨g,0,none⟩) n cap/\n<=cap/\cap<=9223372036854775807/\B<=g/\g<w.heap.size/\(∀ k,k<n->(S k).length=s/\R k (S k) w/\ ∀ j u,(S k)[j]?=some u->w.cell? ⟨g,k*s+j,none⟩=some u)/\w.frozen? ⟨g,0,none⟩=false:=by
 obtain⟨S,⟨_,h1⟩,h2⟩:=h.row;rcases h1 with⟨_,e⟩|⟨g,cap,cur,rfl,hb,hg,hn,hc,hs,ht⟩
 · omega
 · have hlt:g<w.heap.size:=by
    rcases Nat.lt_or_ge g w.heap.size with k|k
    · exact k
    · rw [Array.getElem?_eq_none k] at hg;cases hg
   refine⟨g,cap,S,rfl,hn,by unfold maxLen at hc;omega,hb,hlt,fun k hk=>⟨(h2 k hk).1,(h2 k hk).2 w (Rest.refl _ _),fun j u hj=> ?_⟩,frozen_of_row w g 0 _ _ hg⟩
   have hjs:j<s:=by
    have:=(h2 k hk).1;rcases Nat.lt_or_ge j (S k).length with q|q
    · omega
    · rw [List.getElem?_eq_none q] at hj;cases hj
   have e:=ecells_at (fun k hk=>(h2 k hk).1) hk hjs;rw [hj,← ht,List.getElem?_take] at e;split at e
   · rw [cell_of_row w g _ _ _ (0,0) hg];simpa using e
   · cases e
end
end El
end
section
open Go.RowKit Vc Mt
namespace El
theorem one2s(a b:Option Addr)(n m c d:Nat): ∀ u∈ [Value.slice a n c,Value.slice b m d],u.oneCell'=true:=by
 intro u hu;simp only [List.mem_cons,List.not_mem_nil,or_false] at hu;rcases hu with rfl|rfl<;>rfl
end El
end
section
open Go.RowKit Vc Mt St Ld
namespace Ls
theorem rowBut{P:Nat->Prop}{a b:World}{B:Nat}{t:TypeId}{s:Nat}{v:Value}{n:Nat}{xs:List Value}(h:a.ownsRow B t s v n xs)(k:But P a b)(hx: ∀ g,v.ownBlock=some g-> ¬P g):b.ownsRow B t s v n xs:=by
 obtain⟨h1,h2⟩:=h;refine⟨h1, ?_⟩;rcases h2 with h2|⟨g,cap,cur,rfl,hb,hg,hn,hc,hs,ht⟩
 · exact Or.inl h2
 · refine Or.inr ⟨g,cap,cur,rfl,hb, ?_,hn,hc,hs,ht⟩
   have hlt:g<a.heap.size:=by
    rcases Nat.lt_or_ge g a.heap.size with q|q
    · exact q
    · rw [Array.getElem?_eq_none q] at hg;cases hg
   exact(k.block g hlt (hx g rfl)).trans hg
theorem but_grown{w w':World}{row:Option Nat}(g:w.grownBy w' row):But (fun b=>row=some b) w w':=
 ⟨g.os,g.tape,g.output,g.size,fun k hk hp=>g.block k hk (fun e=>hp e.symm)⟩
section
variable {ops:Array Oper} {rest:List Oper} {op:Oper} {ac:Act} {Q:Exit->Act->World->Prop} {wr:World}
end
end Ls
end
section
open Go.RowKit Vc Ld
namespace El
theorem addr_at(g o:Nat)(k:Nat):(⟨g,o,none⟩:Addr).add k=⟨g,o+k,none⟩:=Addr.add_mid g o k
theorem in_row{w:World}{g:Nat}{t:TypeId}{cs:Array Value}(h:w.heap[g]?=some (.cells cs t (0,0))){a:Addr}{v:Value}(hc:w.cell? a=some v)(e:a.block=g): ∃ k:Nat,cs[k]?=some v:=by
 subst e;cases hs:a.spot with
 |none=>
  rw [show a=(⟨a.block,a.off,none⟩:Addr) from by cases a;simp_all] at hc;rw [World.cell?] at hc;simp only [h] at hc;exact⟨a.off,hc⟩
 |some q=>
  exfalso;unfold World.cell? at hc;simp [h,hs] at hc
theorem sl_off{w:World}{g:Nat}{t:TypeId}{cs:Array Value}(h:w.heap[g]?=some (.cells cs t (0,0)))(hn: ∀ (k:Nat) (z:Int),cs[k]?≠some (.int .i64 z)){ao:Option Addr}{n ca:Nat}{z:Nat->Int}(s:Sl w ao n ca z)(h0:0<n): ∀ x,ao=some x->x.block≠g:=by
 intro x hx e;obtain⟨y,hy,hc⟩:=s.at' 0 h0;rw [hx] at hy;cases hy
 obtain⟨k,hk⟩:=in_row h hc (by rw [addr_block];exact e);exact hn k _ hk
structure ERow(w:World)(g:Nat)(t:TypeId)(s n:Nat)(S:Nat->List Value):Prop where
 ex: ∃ cs:Array Value,w.heap[g]?=some (.cells cs t (0,0))/\cs.size=n*s
 at': ∀ k,k<n->(S k).length=s/\w.rangeAt g (k*s) (S k)
section
variable {w w':World} {g:Nat} {t:TypeId} {s n:Nat} {S:Nat->List Value}
theorem ERow.lt(h:ERow w g t s n S):g<w.heap.size:=by
 obtain⟨cs,h1,_⟩:=h.ex;rcases Nat.lt_or_ge g w.heap.size with k|k
 · exact k
 · rw [Array.getElem?_eq_none k] at h1;cases h1
theorem ERow.of(h:ERow w g t s n S)(e:w'.heap[g]?=w.heap[g]?):ERow w' g t s n S:=by
 obtain⟨cs,h1,h2⟩:=h.ex;refine⟨⟨cs,e.trans h1,h2⟩,fun k hk=>⟨(h.at' k hk).1,fun j v hv=> ?_⟩⟩;have hc:=(h.at' k hk).2 j v hv;rw [World.cell?_of_block (show w'.heap[(⟨g,k*s+j,none⟩:Addr).block]?=_ from e)];exact hc
theorem ERow.keep(h:ERow w g t s n S)(b:Below w.heap.size w w'):ERow w' g t s n S:=h.of (b.block g h.lt)
theorem ERow.but{P:Nat->Prop}(h:ERow w g t s n S)(b:But P w w')(hn: ¬P g):ERow w' g t s n S:=h.of (b.block g h.lt hn)
theorem ERow.drew(h:ERow w g t s n S):ERow w.drew g t s n S:=h.of rfl
theorem ERow.drewN(h:ERow w g t s n S)(q:Nat):ERow (w.drewN q) g t s n S:=h.of rfl
theorem ERow.congr{S':Nat->List Value}(h:ERow w g t s n S)(e: ∀ k,k<n->S k=S' k):ERow w g t s n S':=⟨h.ex,fun k hk=>by rw [← e k hk];exact h.at' k hk⟩
theorem ERow.there(h:ERow w g t s n S){k:Nat}(hk:k<n):w.there g (k*s) s:=by
 obtain⟨cs,h1,h2⟩:=h.ex;intro j hj
 have hlt:k*s+j<cs.size:=by
  rw [h2];have h3:k*s+s<=n*s:=by rw [← Nat.succ_mul];exact Nat.mul_le_mul_right s hk
  omega
 refine⟨?_,frozen_of_row w g _ _ _ h1⟩;rw [World.cell?];simp [h1,Array.getElem?_eq_getElem hlt]
theorem erow_new(w:World)(t:TypeId)(s n:Nat)(S:Nat->List Value)(h: ∀ k,k<n->(S k).length=s):ERow (w.alloc (.cells (ecells S n).toArray t)) w.heap.size t s n S:=by
 have hc:=St.crow_new w t (ecells S n);refine⟨⟨_,hc,by rw [List.size_toArray,ecells_len h]⟩,fun k hk=>⟨h k hk,fun j v hv=> ?_⟩⟩
 have hj:j<s:=by
  rcases Nat.lt_or_ge j s with q|q
  · exact q
  · rw [List.getElem?_eq_none (by rw [h k hk];exact q)] at hv;cases hv
 exact hc.cell (k:=k*s+j) (by rw [ecells_at h hk hj];exact hv) rfl
theorem heap_setCells(g:Nat)(t:TypeId): ∀ (vs:List Value) (o:Nat) (w:World) (cs:Array Value),w.heap[g]?=some (.cells cs t (0,0))-> ∃ cs':Array Value,(w.setCells g o vs).heap[g]?=some (.cells cs' t (0,0))/\cs'.size=cs.size
 | [],_,_,cs,h=>⟨cs,h,rfl⟩
 |v::vs,o,w,cs,h=>by
  obtain⟨cs',h1,h2⟩:=heap_setCells g t vs (o+1) (w.setCell ⟨g,o,none⟩ v) _ (heap_setCell_same w g o _ _ _ h)
  exact⟨cs',h1,by rw [h2];simp⟩
theorem but_setCells(g:Nat): ∀ (vs:List Value) (o:Nat) (w:World),But (· =g) w (w.setCells g o vs)
 | [],_,w=>But.refl _ _
 |v::vs,o,w=>((But.refl (· =g) w).set (p:=⟨g,o,none⟩) v rfl).trans (but_setCells g vs (o+1) _)
theorem ERow.set(h:ERow w g t s n S){k:Nat}(hk:k<n){vs:List Value}(hl:vs.length=s):ERow (w.setCells g (k*s) vs) g t s n (fun j=>if j=k then vs else S j):=by
 obtain⟨cs,h1,h2⟩:=h.ex;obtain⟨cs',h3,h4⟩:=heap_setCells g t vs (k*s) w cs h1;refine⟨⟨cs',h3,h4.trans h2⟩,fun j hj=> ?_⟩;by_cases e:j=k
 · subst e;simp only [if_pos];exact⟨hl,World.rangeAt_setCells_same w g (j*s) vs (by rw [hl];exact h.there hj)⟩
 · simp only [if_neg e];refine⟨(h.at' j hj).1,World.rangeAt_setCells_apart (h.at' j hj).2 g (k*s) vs (Or.inr ?_)⟩;rw [(h.at' j hj).1,hl];rcases Nat.lt_or_ge j k with c|c
   · left;rw [← Nat.succ_mul];exact Nat.mul_le_mul_right s c
   · right;rw [← Nat.succ_mul];exact Nat.mul_le_mul_right s (by omega)
end
theorem wpList_storeE{ops:Array Oper}{rest:List Oper}{o:Oper}{a:Act}{w:World}{Q:Exit->Act->World->Prop}{g s n k:Nat}{S:Nat->List Value}(t:TypeId)(hgd:o.guard=none)(x y:Operand)(ho:o.op= .store t x y)(vs:List Value)
 (hx:a.eval x= .pointer (some ⟨g,k*s,none⟩)) (hy:a.eval y= .agg vs.toArray) (hr:ERow w g t s n S) (hk:k<n) (hl:vs.length=s) (hi:(Tryz.prog.info? t).map (·.size)=some s) (h1: ∀ v∈vs,v.oneCell'=true)
 (h: ∀ w',ERow w' g t s n (fun j=>if j=k then vs else S j)->But (· =g) w w'->wpList Tryz.prog ops Q rest (a.put o.dst undef) w'):wpList Tryz.prog ops Q (o::rest) a w:=
 wpList_store_mid hgd t x y ho g (k*s) vs.toArray hx hy (by rw [List.size_toArray,hl];exact hr.there hk) (by rw [List.size_toArray,hl];exact hi) (all_oneCell_toArray h1) (h _ (hr.set hk hl) (but_setCells g _ _ _))
end El
end
section
open Go.RowKit Vc Ld
namespace El
theorem run_copyE(w:World)(dT sT ty elem:TypeId)(s g o dLen dCap:Nat)(a:Addr)(sLen sCap m:Nat)(cur:Array Value)(t:TypeId)(cs:List Value)
 (hu:Tryz.prog.underlying dT=some (.slice elem)) (hs:(Tryz.prog.info? elem).map (·.size)=some s)
 (hg:w.heap[g]?=some (.cells cur t (0,0))) (hm:Nat.min sLen dLen=m) (hn:cs.length=m*s)
 (hsrc: ∀ j v,cs[j]?=some v->w.cell? (a.add j)=some v) (hfit:o+cs.length<=cur.size) (h1: ∀ v∈cs,v.oneCell'=true):
 (Builtin.copy_ #[dT,sT] ty #[.slice (some ⟨g,o,none⟩) dLen dCap, .slice (some a) sLen sCap]).run Tryz.prog w=
   .ok (goInt m) (w.setRow g (cur.toList.take o++cs++cur.toList.drop (o+cs.length)).toArray):=by
 have hl:=run_loadCells_list (P:=Tryz.prog) w a cs hsrc;have hst:=run_storeCells_at Tryz.prog g o t cs 0 cur w hg (by simpa using hfit) h1;rw [hn] at hl;cases hq:Tryz.prog.info? elem with
 |none=>simp [hq] at hs
 |some i=>
  have hi:i.size=s:=by simpa [hq] using hs
  simp [Builtin.copy_,run_underlying hu,Builtin.lenOf,Builtin.firstCells,sizeOf,typeInfo,hq,hi,hm,hl,hst]
theorem erow_row{w:World}{g o s n m:Nat}{t:TypeId}{S T:Nat->List Value}{cur:Array Value}(h:ERow w g t s n S)(hc:w.heap[g]?=some (.cells cur t (0,0)))(hz:cur.size=n*s)(hT: ∀ k,k<m->(T k).length=s)(hom:o+m<=n)(w':World)
 (hw:w'.heap[g]?=some (.cells (cur.toList.take (o*s)++ecells T m++cur.toList.drop (o*s+m*s)).toArray t (0,0))):ERow w' g t s n (fun j=>if j<o then S j else if j<o+m then T (j- o) else S j):=by
 have hl:=ecells_len (n:=m) hT;have h1:o*s+m*s<=n*s:=by rw [← Nat.add_mul];exact Nat.mul_le_mul_right s hom
 have ht:(cur.toList.take (o*s)).length=o*s:=by rw [List.length_take,Array.length_toList,hz];omega
 refine⟨⟨_,hw, ?_⟩,fun j hj=> ?_⟩
 ·rw [List.size_toArray,List.length_append,List.length_append,ht,hl,List.length_drop,Array.length_toList,hz];omega
 ·have cell: ∀ i,w'.cell? ⟨g,i,none⟩=(cur.toList.take (o*s)++ecells T m++cur.toList.drop (o*s+m*s))[i]?:=fun i=>by
   rw [cell_of_row w' g i _ _ _ hw,List.getElem?_toArray]
  have old: ∀ i,w.cell? ⟨g,i,none⟩=cur.toList[i]?:=fun i=>by rw [cell_of_row w g i _ _ _ hc,Array.getElem?_toList]
  show(if j<o then S j else if j<o+m then T (j- o) else S j).length=s/\w'.rangeAt g (j*s) (if j<o then S j else if j<o+m then T (j- o) else S j);by_cases c1:j<o
  ·rw [if_pos c1];refine⟨(h.at' j hj).1,fun i v hv=> ?_⟩
   have hi:i<s:=by
    rcases Nat.lt_or_ge i s with q|q
    ·exact q
    ·rw [List.getElem?_eq_none (by rw [(h.at' j hj).1];exact q)] at hv;cases hv
   have hlt:j*s+i<o*s:=by
    have:=Nat.mul_le_mul_right s (show j+1<=o by omega);rw [Nat.succ_mul] at this;omega
   rw [cell,List.append_assoc,List.getElem?_append_left (by omega),List.getElem?_take_of_lt hlt,← old];exact(h.at' j hj).2 i v hv
  ·rw [if_neg c1];by_cases c2:j<o+m
   ·rw [if_pos c2];refine⟨hT _ (by omega),fun i v hv=> ?_⟩
    have hi:i<s:=by
     rcases Nat.lt_or_ge i s with q|q
     ·exact q
     ·rw [List.getElem?_eq_none (by rw [hT _ (by omega)];exact q)] at hv;cases hv
    obtain⟨d,rfl⟩: ∃ d,j=o+d:=⟨j- o,by omega⟩;rw [show o+d- o=d by omega] at hv
    have hd:d*s+i<m*s:=by
     have:=Nat.mul_le_mul_right s (show d+1<=m by omega);rw [Nat.succ_mul] at this;omega
    rw [cell,List.append_assoc,List.getElem?_append_right (by rw [ht,Nat.add_mul];omega),ht,Nat.add_mul,show o*s+d*s+i- o*s=d*s+i by omega,List.getElem?_append_left (by omega),ecells_at hT (by omega) hi];exact hv
   ·rw [if_neg c2];refine⟨(h.at' j hj).1,fun i v hv=> ?_⟩;have hge:o*s+m*s<=j*s:=by rw [← Nat.add_mul];exact Nat.mul_le_mul_right s (by omega)
    rw [cell,List.getElem?_append_right (by rw [List.length_append,ht,hl];omega),List.length_append,ht,hl,List.getElem?_drop,show o*s+m*s+(j*s+i- (o*s+m*s))=j*s+i by omega,← old];exact(h.at' j hj).2 i v hv
theorem copied{w:World}{g o s n m:Nat}{t:TypeId}{S T:Nat->List Value}(h:ERow w g t s n S)(hT: ∀ k,k<m->(T k).length=s/\ ∀ v∈T k,v.oneCell'=true)(hom:o+m<=n)(dT sT ty elem:TypeId)(dLen dCap:Nat)(a:Addr)(sLen sCap:Nat)
 (hu:Tryz.prog.underlying dT=some (.slice elem)) (hs:(Tryz.prog.info? elem).map (·.size)=some s) (hm:Nat.min sLen dLen=m)
 (hsrc: ∀ j v,(ecells T m)[j]?=some v->w.cell? (a.add j)=some v):
 ∃ w',(Builtin.copy_ #[dT,sT] ty #[.slice (some ⟨g,o*s,none⟩) dLen dCap, .slice (some a) sLen sCap]).run Tryz.prog w= .ok (goInt m) w'/\ERow w' g t s n (fun j=>if j<o then S j else if j<o+m then T (j- o) else S j)/\But (· =g) w w':=by
 obtain⟨cur,hc,hz⟩:=h.ex;have hl:=ecells_len (n:=m) fun k hk=>(hT k hk).1;have h1:o*s+m*s<=n*s:=by rw [← Nat.add_mul];exact Nat.mul_le_mul_right s hom
 have hone: ∀ m',m'<=m-> ∀ v∈ecells T m',v.oneCell'=true:=by
  intro m';induction m' with
  |zero=>intro _ v hv;cases hv
  |succ k ih=>
   intro hk v hv;rcases List.mem_append.1 hv with q|q
   · exact ih (by omega) v q
   · exact(hT k (by omega)).2 v q
 have hr:=run_copyE w dT sT ty elem s g (o*s) dLen dCap a sLen sCap m cur t (ecells T m) hu hs hc hm hl hsrc (by rw [hl,hz];exact h1) (hone m (Nat.le_refl _));refine⟨_,hr, ?_, ?_⟩
 · refine erow_row h hc hz (fun k hk=>(hT k hk).1) hom _ ?_;rw [setRow_heap w g cur _ t (0,0) hc,hl]
 · exact⟨rfl,rfl,rfl,by simp [World.setRow],fun k _ hk=>setRow_other w g k _ hk⟩
theorem wpList_copyE{w:World}{ops:Array Oper}{rest:List Oper}{oo:Oper}{a:Act}{Q:Exit->Act->World->Prop}{g o s n m:Nat}{t:TypeId}{S T:Nat->List Value}(hgd:oo.guard=none)(d x:Operand)(dT sT:TypeId)
 (ho:oo.op= .call { callee:= .builtin .copy,args:= #[d,x],argTypes:= #[dT,sT] }) (dLen dCap:Nat) (ad:Addr) (sLen sCap:Nat) (hd:a.eval d= .slice (some ⟨g,o*s,none⟩) dLen dCap) (hx:a.eval x= .slice (some ad) sLen sCap)
 (elem:TypeId) (hu:Tryz.prog.underlying dT=some (.slice elem)) (hs:(Tryz.prog.info? elem).map (·.size)=some s) (hr:ERow w g t s n S) (hT: ∀ k,k<m->(T k).length=s/\ ∀ v∈T k,v.oneCell'=true) (hom:o+m<=n) (hm:Nat.min sLen dLen=m)
 (hsrc: ∀ j v,(ecells T m)[j]?=some v->w.cell? (ad.add j)=some v)
 (h: ∀ w',ERow w' g t s n (fun j=>if j<o then S j else if j<o+m then T (j- o) else S j)->But (· =g) w w'->wpList Tryz.prog ops Q rest (a.put oo.dst (.int .i64 (m:Int))) w'):wpList Tryz.prog ops Q (oo::rest) a w:=by
 refine wpList_plain hgd fun K hK=> ?_;obtain⟨w',hrun,q1,q2⟩:=copied hr hT hom dT sT oo.type elem dLen dCap ad sLen sCap hu hs hm hsrc;unfold Oper.wp;simp [execOp,ho,resolve,invoke,builtin,hd,hx,hrun,Result.andThen];exact hK _ _ (h w' q1 q2)
theorem step_copyE{w:World}{ops:Array Oper}{oo:Oper}{a:Act}{K:Act->World->Prop}{Q:Exit->Act->World->Prop}{E:Prop}{g o s n m:Nat}{t:TypeId}{S T:Nat->List Value}(hgd:oo.guard=none)(d x:Operand)(dT sT:TypeId)
 (ho:oo.op= .call { callee:= .builtin .copy,args:= #[d,x],argTypes:= #[dT,sT] }) (dLen dCap:Nat) (ad:Addr) (sLen sCap:Nat) (hd:a.eval d= .slice (some ⟨g,o*s,none⟩) dLen dCap) (hx:a.eval x= .slice (some ad) sLen sCap)
 (elem:TypeId) (hu:Tryz.prog.underlying dT=some (.slice elem)) (hs:(Tryz.prog.info? elem).map (·.size)=some s) (hr:ERow w g t s n S) (hT: ∀ k,k<m->(T k).length=s/\ ∀ v∈T k,v.oneCell'=true) (hom:o+m<=n) (hm:Nat.min sLen dLen=m)
 (hsrc: ∀ j v,(ecells T m)[j]?=some v->w.cell? (ad.add j)=some v)
 (h: ∀ w',ERow w' g t s n (fun j=>if j<o then S j else if j<o+m then T (j- o) else S j)->But (· =g) w w'->K (a.put oo.dst (.int .i64 (m:Int))) w'):
 if Region.wanted oo (yielded ops a.tmps)=true then Oper.wp Tryz.prog oo a w K Q else E:=by
 have hw:Region.wanted oo (yielded ops a.tmps)=true:=by simp [Region.wanted,hgd]
 rw [if_pos hw];obtain⟨w',hrun,q1,q2⟩:=copied hr hT hom dT sT oo.type elem dLen dCap ad sLen sCap hu hs hm hsrc;unfold Oper.wp;simp [execOp,ho,resolve,invoke,builtin,hd,hx,hrun,Result.andThen];exact h w' q1 q2
theorem erow_src{w:World}{g s n m:Nat}{t:TypeId}{S T:Nat->List Value}(h:ERow w g t s n S)(hm:m<=n)(hS: ∀ i,i<m->S i=T i)(hT: ∀ k,k<m->(T k).length=s)(hs:0<s): ∀ j v,(ecells T m)[j]?=some v->w.cell? ((⟨g,0,none⟩:Addr).add j)=some v:=by
 intro j v hv
 have hj:j<m*s:=by
  rcases Nat.lt_or_ge j (m*s) with q|q
  · exact q
  · rw [List.getElem?_eq_none (by rw [ecells_len hT];exact q)] at hv;cases hv
 have hd:j/s<m:=Nat.div_lt_of_lt_mul (by rw [Nat.mul_comm];exact hj);obtain⟨a,ha⟩: ∃ a,a=j/s:=⟨_,rfl⟩;obtain⟨b,hb⟩: ∃ b,b=j%s:=⟨_,rfl⟩;have hbs:b<s:=by rw [hb];exact Nat.mod_lt _ hs
 have e:j=a*s+b:=by rw [ha,hb,Nat.mul_comm];exact(Nat.div_add_mod j s).symm
 rw [← ha] at hd;subst e;rw [ecells_at hT hd hbs] at hv;rw [addr_at,Nat.zero_add];exact(h.at' a (by omega)).2 b v (by rw [hS _ hd];exact hv)
end El
end
section
open Go.RowKit Vc Ld
namespace El
abbrev offs(o:Nat)(v u:Value):Nat->Prop:=fun q=>q<o\/v.ownBlock=some q\/u.ownBlock=some q
structure Lsn(t:TypeId)(s o:Nat)(w:World)(v:Value)(n:Nat)(R:Nat->List Value->World->Prop)(u:Value)(m:Nat)(z:Nat->Int):Prop where
 row: ∃ S:Nat->List Value,w.ownsRow o t s v n (ecells S n)/\ ∀ k,k<n->(S k).length=s/\ ∀ W,Rest (offs o v u) w W->R k (S k) W
 num:w.ownsRow o 2 1 u m (vals m z)
 ap: ∀ q,v.ownBlock=some q->u.ownBlock≠some q
 le:o<=w.heap.size
theorem Rest.but{P Q:Nat->Prop}{a b W:World}(k:But Q a b)(hQ: ∀ q,q<a.heap.size->Q q->P q)(h:Rest P b W):Rest P a W:=fun i hi hn=>(h i (Nat.lt_of_lt_of_le hi k.size) hn).trans (k.block i hi (fun q=>hn (hQ i hi q)))
section
variable {t:TypeId} {s o:Nat} {w w':World} {v u:Value} {n m:Nat} {R:Nat->List Value->World->Prop} {z:Nat->Int}
theorem Lsn.nil(h:o<=w.heap.size)(t:TypeId)(s:Nat)(R:Nat->List Value->World->Prop)(z:Nat->Int):Lsn t s o w (.slice none 0 0) 0 R (.slice none 0 0) 0 z:=
 ⟨⟨fun _=> [],World.ownsRow_nil _ _ _ _,fun j hj=>by omega⟩,World.ownsRow_nil _ _ _ _,fun q e=>(by cases e),h⟩
theorem Lsn.but{P:Nat->Prop}(h:Lsn t s o w v n R u m z)(k:But P w w')(hP: ∀ q,q<w.heap.size->P q->q<o):Lsn t s o w' v n R u m z:=by
 obtain⟨S,h1,h2⟩:=h.row
 exact⟨⟨S,Ls.rowBut h1 k (fun g e p=>by have a:=h1.lt g e;have b:=hP g a.2 p;omega),fun j hj=>⟨(h2 j hj).1,fun W r=>(h2 j hj).2 W (Rest.but k (fun q hq p=>Or.inl (hP q hq p)) r)⟩⟩,
  Ls.rowBut h.num k (fun g e p=>by have a:=h.num.lt g e;have b:=hP g a.2 p;omega),h.ap,Nat.le_trans h.le k.size⟩
theorem Lsn.keep(h:Lsn t s o w v n R u m z)(b:Below w.heap.size w w'):Lsn t s o w' v n R u m z:=h.but (but_of (P:=fun _=>False) b) (fun q _ e=>e.elim)
theorem Lsn.put{g:Nat}(h:Lsn t s o w v n R u m z)(hg:g<o)(k:But (· =g) w w'):Lsn t s o w' v n R u m z:=h.but k (fun q _ e=>by omega)
theorem Lsn.els(h:Lsn t s o w v n R u m z):Els t s o w w v n R:=by
 obtain⟨S,h1,h2⟩:=h.row;exact⟨⟨S,h1,fun k hk=>⟨(h2 k hk).1,fun W r=>(h2 k hk).2 W (r.mono fun q e=>Or.inr (Or.inl e))⟩⟩,Below.refl _ _,h.le⟩
theorem Lsn.form(h:Lsn t s o w v n R u m z): ∃ ao ca,v= .slice ao n ca/\n<=ca/\ca<=9223372036854775807:=h.els.form
end
theorem elsFa1{p:Prop}(h:p:=by
 intro g cap w' o1 o2 o3 o4;have bb:But (fun q=>v.ownBlock=some q) wr w':=(but_of (below_al (Below.refl _ wr) _)).trans (Ls.but_grown o2)
 have o3':v.ownBlock=some g\/wr.heap.size<=g:=by
  rcases o3 with o3|o3
  · exact Or.inl o3
  · right;simp at o3;omega
 have e0:ecells S n++cs=ecells (fun k=>if k<n then S k else cs) (n+1):=by
  show _=ecells (fun k=>if k<n then S k else cs) n++(if n<n then S n else cs);rw [if_neg (Nat.lt_irrefl n)];have e1:ecells S n=ecells (fun k=>if k<n then S k else cs) n:=ecells_congr fun k hk=>by show S k=if k<n then S k else cs;rw [if_pos hk]
  rw [← e1]
 rw [e0] at o1
 have key: ∀ W,Rest (offs o (.slice (some ⟨g,0,none⟩) (n+1) cap) u) w' W->Rest (offs o v u) wr W:=fun W r b hbl hne=>by
  have hg:g≠b:=fun e=>by
   rcases o3' with o3|o3
   · exact hne (Or.inr (Or.inl (by rw [o3,e])))
   · omega
  exact(r b (Nat.lt_of_lt_of_le hbl bb.size) (fun e=>by
   rcases e with e|e|e
   · exact hne (Or.inl e)
   · exact hg (by simpa [Value.ownBlock] using e)
   · exact hne (Or.inr (Or.inr e)))).trans (bb.block b hbl (fun e=>hne (Or.inr (Or.inl e))))
 refine h _ w' ⟨⟨_,o1,fun k hk=> ?_⟩,Ls.rowBut hE.num bb (fun q e e2=>hE.ap q e2 e),fun q e e2=> ?_,Nat.le_trans hb bb.size⟩ (bb.mono fun q e=>(r1.lt q e).1)
 · by_cases hkn:k<n
   · simp only [if_pos hkn];exact⟨(r2 k hkn).1,fun W r=>(r2 k hkn).2 W (key W r)⟩
   · obtain rfl:k=n:=by omega
     simp only [if_neg hkn];exact⟨hcs,fun W r=>hR W (key W r)⟩
 · have e3:g=q:=by simpa [Value.ownBlock] using e
   have hq:=(hE.num.lt q e2).2;rcases o3' with o3|o3
   · exact hE.ap q (by rw [o3,e3]) e2
   · omega):p:=h
theorem pushV{ops:Array Oper}{rest:List Oper}{op:Oper}{a:Act}{Q:Exit->Act->World->Prop}{wr:World}(hgd:op.guard=none)(x y:Operand)(T t:TypeId)(s by':Nat)(z0:Value)
 (ho:op.op= .call { callee:= .builtin .append,args:= #[x,y],argTypes:= #[T,T] }) (hT:Tryz.prog.underlying T=some (.slice t)) (hinfo:(Tryz.prog.info? t).map (fun i=>(i.zero,i.size,i.bytes))=some (some z0,s,by')) (hzs:z0.cells.size=s) (hs0:0<s) (hby:by'<=1000)
 (o:Nat) (v u:Value) (n m:Nat) (z:Nat->Int) (R:Nat->List Value->World->Prop) (hs:a.eval x=v) (hE:Lsn t s o wr v n R u m z) (hl:n<=2000000)
 (cs:List Value) (hcs:cs.length=s) (h1: ∀ u∈cs,u.oneCell'=true) (hR: ∀ W,Rest (offs o v u) wr W->R n cs W) (hx:a.eval y= .slice (some ⟨wr.heap.size,0,none⟩) 1 1)
 (h: ∀ v' w',Lsn t s o w' v' (n+1) R u m z->But (fun q=>o<=q) wr w'->wpList Tryz.prog ops Q rest (a.put op.dst v') w'):wpList Tryz.prog ops Q (op::rest) a (wr.alloc (.cells cs.toArray t)):=by
 obtain⟨i0,hi,hz0,hz1,hz2⟩:=info_parts hinfo;obtain⟨S,r1,r2⟩:=hE.row;have hb:=hE.le;have hp:(wr.alloc (.cells cs.toArray t)).heap[wr.heap.size]?=some (.cells cs.toArray t (0,0)):=St.crow_new wr t cs;refine wpList_append_lies _ hgd x y T ho o t i0 z0 s by' hT hi hz0 hz1 hz2 hzs hs0 v n (ecells S n) hs (r1.alloc _) ⟨wr.heap.size,0,none⟩ 1 1 cs hx (by rw [hcs,Nat.one_mul]) (World.news_of_block hp) h1 (by omega) (by unfold maxLen;omega) (Nat.le_trans (Nat.mul_le_mul (Nat.le_refl _) hby) (by omega)) (by simp;omega) _ rfl ?_;exact elsFa1
theorem stepV{ops:Array Oper}{op:Oper}{a:Act}{F:Act->World->Prop}{Q:Exit->Act->World->Prop}{E:Prop}{wr:World}(hgd:op.guard=none)(x y:Operand)(T t:TypeId)(s by':Nat)(z0:Value)
 (ho:op.op= .call { callee:= .builtin .append,args:= #[x,y],argTypes:= #[T,T] }) (hT:Tryz.prog.underlying T=some (.slice t)) (hinfo:(Tryz.prog.info? t).map (fun i=>(i.zero,i.size,i.bytes))=some (some z0,s,by')) (hzs:z0.cells.size=s) (hs0:0<s) (hby:by'<=1000)
 (o:Nat) (v u:Value) (n m:Nat) (z:Nat->Int) (R:Nat->List Value->World->Prop) (hs:a.eval x=v) (hE:Lsn t s o wr v n R u m z) (hl:n<=2000000)
 (cs:List Value) (hcs:cs.length=s) (h1: ∀ u∈cs,u.oneCell'=true) (hR: ∀ W,Rest (offs o v u) wr W->R n cs W) (hx:a.eval y= .slice (some ⟨wr.heap.size,0,none⟩) 1 1)
 (h: ∀ v' w',Lsn t s o w' v' (n+1) R u m z->But (fun q=>o<=q) wr w'->F (a.put op.dst v') w'):if Region.wanted op (yielded ops a.tmps)=true then Oper.wp Tryz.prog op a (wr.alloc (.cells cs.toArray t)) F Q else E:=by
 obtain⟨i0,hi,hz0,hz1,hz2⟩:=info_parts hinfo;obtain⟨S,r1,r2⟩:=hE.row;have hb:=hE.le;have hp:(wr.alloc (.cells cs.toArray t)).heap[wr.heap.size]?=some (.cells cs.toArray t (0,0)):=St.crow_new wr t cs;refine step_append_lies _ hgd x y T ho o t i0 z0 s by' hT hi hz0 hz1 hz2 hzs hs0 v n (ecells S n) hs (r1.alloc _) ⟨wr.heap.size,0,none⟩ 1 1 cs hx (by rw [hcs,Nat.one_mul]) (World.news_of_block hp) h1 (by omega) (by unfold maxLen;omega) (Nat.le_trans (Nat.mul_le_mul (Nat.le_refl _) hby) (by omega)) (by simp;omega) _ rfl ?_;exact elsFa1
end El
end
section
open Go.RowKit Vc Mt St Ld
namespace Ls
section
variable {ops:Array Oper} {rest:List Oper} {op:Oper} {ac:Act} {Q:Exit->Act->World->Prop} {wr:World}
end
end Ls
end
end Go.Proofs.YtcefcokpjbebhaaGreatDoor
