/-
  Lists of rows: appended to, handed on, held against each other (rowsOf, sameRows, matOf of the laws of layer 8).
-/
import Derived.Test.YtcefcokpjbebhaaGreatDoorM5
import Derived.Test.YtcefcokpjbebhaaGreatDoorM7
import Derived.Deep.AppendLies
set_option linter.unusedSimpArgs false
set_option linter.unusedVariables false
set_option maxHeartbeats 1000000
set_option maxRecDepth 10000
namespace Go.Proofs.YtcefcokpjbebhaaGreatDoor
section
open Go.RowKit Vc Mt
namespace Mt
theorem Ba:(Tryz.prog.info? 27).map (fun i=>(i.zero,i.size,i.bytes))=some (some (.slice none 0 0),1,24):=by kernel_rfl
def aB(n:Nat)(S:Nat->Value):List Value:=(List.range n).map S
theorem aA(n:Nat)(S:Nat->Value):(aB n S).length=n:=by simp [aB]
theorem jZ{n k:Nat}{S:Nat->Value}(h:k<n):(aB n S)[k]?=some (S k):=by simp [aB,h]
theorem oQ(n:Nat)(S:Nat->Value)(v:Value):aB n S++ [v]=aB (n+1) (fun k=>if k<n then S k else v):=by
 unfold aB;rw [List.range_succ,List.map_append];congr 1
 · exact List.map_congr_left fun k hk=>by rw [if_pos (List.mem_range.1 hk)]
 · simp
def Grid(w:World)(lo:Option Addr)(n cm m:Nat)(F:Nat->Nat->Int):Prop:= ∃ A C,Sls w lo n cm A (fun _=>m) C/\ ∀ k,k<n->Sl w (A k) m (C k) (F k)
theorem Grid.keep{w w':World}{lo:Option Addr}{n cm m:Nat}{F:Nat->Nat->Int}(h:Grid w lo n cm m F)(b:Below w.heap.size w w'):Grid w' lo n cm m F:=by
 obtain⟨A,C,h1,h2⟩:=h;exact⟨A,C,h1.keep b,fun k hk=>(h2 k hk).keep b⟩
theorem Grid.congr{w:World}{lo:Option Addr}{n cm m:Nat}{F G:Nat->Nat->Int}(h:Grid w lo n cm m F)(e: ∀ i j,i<n->j<m->F i j=G i j):Grid w lo n cm m G:=by
 obtain⟨A,C,h1,h2⟩:=h;exact⟨A,C,h1,fun k hk=>(h2 k hk).congr fun j hj=>e k j hk hj⟩
structure Lst(B:Nat)(w0 w:World)(v:Value)(n m:Nat)(F:Nat->Nat->Int):Prop where
 row: ∃ S,w.ownsRow B 27 1 v n (aB n S)/\ ∀ j,j<n-> ∃ a c,S j= .slice a m c/\Sl w a m c (F j)/\ ∀ x,a=some x->v.ownBlock≠some x.block
 below:Below B w0 w
 base:B<=w.heap.size
theorem Lst.nil{B:Nat}{w0 w:World}(h:Below B w0 w)(hB:B<=w.heap.size)(m:Nat)(F:Nat->Nat->Int):Lst B w0 w (.slice none 0 0) 0 m F:=⟨⟨fun _=>undef,World.ownsRow_nil _ _ _ _,fun j hj=>by omega⟩,h,hB⟩
theorem Lst.keep{B:Nat}{w0 w w':World}{v:Value}{n m:Nat}{F:Nat->Nat->Int}(h:Lst B w0 w v n m F)(b:Below w.heap.size w w'):Lst B w0 w' v n m F:=by
 obtain⟨S,h1,h2⟩:=h.row;refine⟨⟨S,jF h1 b,fun j hj=> ?_⟩,h.below.trans (b.mono h.base),Nat.le_trans h.base b.size⟩;obtain⟨a,c,e1,e2,e3⟩:=h2 j hj;exact⟨a,c,e1,e2.keep b,e3⟩
theorem Lst.apart{B:Nat}{w0 w:World}{v:Value}{n m:Nat}{F:Nat->Nat->Int}(h:Lst B w0 w v n m F){B':Nat}(hB:w.heap.size<=B'){ao:Option Addr}(hf:vV B' ao): ∀ x,ao=some x->v.ownBlock≠some x.block:=by
 intro x hx e;obtain⟨S,h1,_⟩:=h.row;have h3:=(h1.lt _ e).2;have h4:=hf x hx;omega
theorem Lst.grid{B:Nat}{w0 w:World}{v:Value}{n m:Nat}{F:Nat->Nat->Int}(h:Lst B w0 w v n m F): ∃ lo cm,v= .slice lo n cm/\Grid w lo n cm m F:=by
 obtain⟨S,⟨h1,h2⟩,h3⟩:=h.row;rcases h2 with⟨rfl,rfl⟩|⟨g,cap,cur,rfl,hb,hg,hn,hc,hs,ht⟩
 · exact⟨none,0,rfl,fun _=>none,fun _=>0,⟨Nat.le_refl _,om1,fun j hj=>by omega⟩,fun k hk=>by omega⟩
 · refine⟨_,_,rfl,fun k=>match S k with| .slice a _ _=>a|_=>none,fun k=>match S k with| .slice _ _ c=>c|_=>0,⟨hn,hc,fun k hk=>⟨_,rfl, ?_⟩⟩,fun k hk=> ?_⟩
   · obtain⟨a,c,e1,e2,e3⟩:=h3 k hk;have e:=jZ (S:=S) hk;rw [← ht] at e
     have e4:cur[k]?=some (S k):=by
      rw [List.getElem?_take] at e;split at e
      · simpa using e
      · cases e
     rw [Addr.add_lit,Nat.zero_add];simp only [e1] at e4 ⊢;simp [World.cell?,hg,e4]
   · obtain⟨a,c,e1,e2,e3⟩:=h3 k hk;simp only [e1];exact e2
theorem Sl.grown{w w':World}{ao:Option Addr}{n ca:Nat}{z:Nat->Int}{row:Option Nat}(h:Sl w ao n ca z)(g:w.grownBy w' row)(hne: ∀ x,ao=some x->row≠some x.block):Sl w' ao n ca z:=
 ⟨h.le,h.cap,fun k hk=>by
  obtain⟨x,hx,hc⟩:=h.at' k hk
  refine⟨x,hx, ?_⟩
  have hlt:=World.block_lt_of_cell? w _ hc
  have hb:(x.add k).block=x.block:=by unfold Addr.add;split<;>rfl
  have e:=g.block (x.add k).block hlt (by rw [hb];exact fun e=>hne x hx e.symm)
  rw [World.cell?_of_block e]
  exact hc⟩
theorem lN{ops:Array Oper}{rest:List Oper}{o:Oper}{a:Act}{Q:Exit->Act->World->Prop}{wr:World}(hgd:o.guard=none)(s x:Operand)
 (ho:o.op= .call { callee:= .builtin .append,args:= #[s,x],argTypes:= #[23,23] }) (B:Nat) (w0:World) (v:Value) (n m:Nat) (F:Nat->Nat->Int) (hs:a.eval s=v) (hL:Lst B w0 wr v n m F) (hm:0<m) (hl:n<=2000000)
 (ra:Option Addr) (rc:Nat) (hr:Sl wr ra m rc (F n)) (hap: ∀ x,ra=some x->v.ownBlock≠some x.block)
 (hx:a.eval x= .slice (some ⟨wr.heap.size,0,none⟩) 1 1)
 (h: ∀ v' w',Lst B w0 w' v' (n+1) m F->wpList Tryz.prog ops Q rest (a.put o.dst v') w'):wpList Tryz.prog ops Q (o::rest) a (wr.alloc (.cells #[.slice ra m rc] 27)):=by
 obtain⟨i0,hi,hz0,hz1,hz2⟩:=info_parts Ba;obtain⟨S,h1,h2⟩:=hL.row;refine wpList_append_lies _ hgd s x 23 ho B 27 i0 (.slice none 0 0) 1 24 Tryz.underlying23 hi hz0 hz1 hz2 rfl (by decide) v n (aB n S) hs (h1.alloc _) ⟨wr.heap.size,0,none⟩ 1 1 [.slice ra m rc] hx rfl (cell_one_new _ _ _) (by intro u hu;simp at hu;subst hu;rfl) om1 (by unfold maxLen;omega) om1 (by have:=hL.base;simp;omega) _ rfl ?_;intro g cap w' o1 o2 o3 o4;rw [oQ] at o1;refine h _ w' ⟨⟨_,o1,fun j hj=> ?_⟩, ?_,Nat.le_trans (by have:=hL.base;simp;omega) o2.size⟩
 · have hg: ∀ b,b<wr.heap.size->v.ownBlock≠some b->g≠b:=fun b hb e1 e2=>by
    rcases o3 with o3|o3
    · exact e1 (by rw [o3,e2])
    · simp at o3;omega
   have hblk: ∀ {ao:Option Addr} {ca:Nat} {z:Nat->Int},Sl wr ao m ca z->(∀ x,ao=some x->v.ownBlock≠some x.block)-> ∃ co,∃ cc,Value.slice ao m ca= .slice co m cc/\Sl w' co m cc z/\ ∀ x,co=some x->Value.ownBlock (.slice (some ⟨g,0,none⟩) (n+1) cap)≠some x.block:=by
    intro ao ca z hsl hne;refine⟨ao,ca,rfl,Sl.grown (hsl.keep (af (Below.refl _ _) _)) o2 hne,fun x hx e=> ?_⟩;have e3:g=x.block:=by simpa [Value.ownBlock] using e
    obtain⟨y,hy,hc⟩:=hsl.at' 0 hm;rw [hx] at hy;cases hy
    have hlt:=World.block_lt_of_cell? wr _ hc;have hb:(x.add 0).block=x.block:=by unfold Addr.add;split<;>rfl
    exact hg x.block om1 (hne x hx) e3
   by_cases hjn:j<n
   · obtain⟨ao,ca,e1,e2,e3⟩:=h2 j hjn;simp only [if_pos hjn,e1];exact hblk e2 e3
   · obtain rfl:j=n:=om1;simp only [if_neg hjn];exact hblk hr hap
 · refine(hL.below.alloc hL.base _).grown o2 (by have:=hL.base;simp;omega) ?_;intro k hk;exact(h1.lt k hk).1
end Mt
theorem NT(n m:Nat)(F:Nat->Nat->Int)(w:World)(h1:1<=n)(h2:n<=6)(h3:1<=m)(h4:m<=6):
 Calls Tryz.prog 54 #[.agg (aj n m (mz n m F)).toArray] w fun e w'=> ∃ lo cm,e= .returned (.slice lo n cm)/\Grid w' lo n cm m F/\Below w.heap.size w w':=by
 have rA:=bJ w n m (mz n m F);have hB:=af (Below.refl _ w) (.cells (aj n m (mz n m F)).toArray 53);obtain⟨W,hW⟩: ∃ W,W=w.alloc (.cells (aj n m (mz n m F)).toArray 53):=⟨_,rfl⟩;rw [← hW] at rA hB;have HCk:=Hid.mkV (jk W (vW (F:=F) h1 h2 h3 h4));have HR:=Hid.mkV (fun i (hi:i<n) W'=>ET n m i F W' h1 h2 h3 h4 hi);obtain⟨z,hz⟩: ∃ z,z=mz n m F:=⟨_,rfl⟩;rw [← hz] at HCk HR rA hW;rw [← hz];have HW:=Hid.mkV hW;clear hz hW;go_enter Tryz.func54,Tryz.ntmps54
 go_wp2_with (first
  |(rw [← HW.out];refine dw rl1 _ rl1 _ _ _ _ rl1 (by with_reducible exact rA) ?_)
  |fail)
 refine HCk.out.mono ?_;rintro e w1 ⟨rfl,k1⟩;have r1:=rA.keep k1;have B1:=ae hB k1;clear rA hB HCk;go_wp2;go_loopw [3,4] (fun out i wr=> ∃ k:Nat,k<=n/\i= .int .i64 (k:Int)/\Lst w1.heap.size w1 wr out k m F) (fun _ i _=>n- (intOf i).toNat)
 case atStart=>exact⟨0,om1,rfl,Lst.nil (Below.refl _ _) (Nat.le_refl _) _ _⟩
 case round=>
  obtain⟨k,hk,rfl,hL⟩:=hrel;have r2:=r1.keep hL.below;have c0:=r2.rows;by_cases h:k<n
  · have HR1:=Hid.mkV (HR.out k h)
    go_wp2_with (first
     |(refine dw rl1 _ rl1 _ _ _ _ rl1 (by with_reducible exact r2) ?_)
     |fail)
    refine(HR1.out _).mono ?_;rintro e w2 ⟨co,cc,rfl,s2,f2,k2⟩;have hL2:=hL.keep k2;have ap:=hL.apart (Nat.le_refl _) f2;have HS2:=Hid.mkV s2;have HAP:=Hid.mkV ap;clear s2 ap f2;go_wp2_with (at_builtin;refine lN rl1 _ _ rl1 w1.heap.size w1 _ k m F rl1 hL2 om1 om1 co cc HS2.out HAP.out rl1 ?_)
    intro v' w' hL';go_wp2;go_roundw
    case rel=>exact⟨k+1,om1,by go_num,hL'⟩
    case measure=>simp [intOf];omega
  · obtain rfl:k=n:=om1;obtain⟨lo,cm,rfl,hG⟩:=hL.grid;go_wp2;go_ret;exact⟨lo,cm,rfl,hG,ae B1 hL.below⟩
theorem GR(n m ca cb:Nat)(ao bo:Option Addr)(F:Nat->Nat->Int)(w:World)(hn:n<=6)(ga:Grid w ao n ca m F)(gb:Grid w bo n cb m F):
 Calls Tryz.prog 53 #[.slice ao n ca, .slice bo n cb] w fun e w'=>e= .returned (.bool true)/\Below w.heap.size w w':=by
 obtain⟨A,C,hA,hAs⟩:=ga;obtain⟨B,D,hB,hBs⟩:=gb;obtain⟨xa,hao,hca⟩:=hA.get;obtain⟨xb,hbo,hcb⟩:=hB.get;have l1:=hA.le;have l2:=hA.cap;have l3:=hB.le;have l4:=hB.cap;have HAO:=Hid.mkV hao;have HBO:=Hid.mkV hbo;have HCA:=Hid.mkV hca;have HCB:=Hid.mkV hcb;have HAS:=Hid.mkV hAs;have HBS:=Hid.mkV hBs;clear hao hbo hca hcb hAs hBs hA hB;go_enter Tryz.func53,Tryz.ntmps53
 go_wp2;go_loopw [5] (fun i wr=> ∃ k:Nat,k<=n/\i= .int .i64 (k:Int)/\Below w.heap.size w wr) (fun i _=>n- (intOf i).toNat)
 case atStart=>exact⟨0,om1,rfl,Below.refl _ _⟩
 case round=>
  rename World=>wo;obtain⟨k,hk,rfl,hbel⟩:=hrel;by_cases h:k<n
  · obtain rfl:=HAO.out om1;obtain rfl:=HBO.out om1;have c1:=ah hbel (HCA.out k h);have c2:=ah hbel (HCB.out k h);have HNu:=Hid.mkV (fun W (b:Below wo.heap.size wo W)=>EW (A k) (B k) m (C k) (D k) (F k) W ((HAS.out k h).keep (ae hbel b)) ((HBS.out k h).keep (ae hbel b)));obtain⟨ak,hak⟩: ∃ ak,ak=A k:=⟨_,rfl⟩;obtain⟨bk,hbk⟩: ∃ bk,bk=B k:=⟨_,rfl⟩;obtain⟨ck,hck⟩: ∃ ck,ck=C k:=⟨_,rfl⟩;obtain⟨dk,hdk⟩: ∃ dk,dk=D k:=⟨_,rfl⟩;rw [← hak,← hbk,← hck,← hdk] at HNu;rw [← hak,← hck] at c1;rw [← hbk,← hdk] at c2;clear hak hbk hck hdk;go_wp2
    go_region_held3 (fun w'=>w'.cell? (xa.add k)=some (.slice ak m ck)/\w'.cell? (xb.add k)=some (.slice bk m dk))
     (first
       |(refine⟨ah (W:=wo) ?_ c1,ah (W:=wo) ?_ c2⟩<;>first|with_reducible exact Below.refl _ _|with_reducible exact Vc.az _|with_reducible exact kq))
     (first
       |(go_at_call 50;refine(HNu.out _ (Vc.az _)).mono ?_;rintro e wq ⟨rfl,kq'⟩
         have kq:Below wo.heap.size wo wq:=ae (Vc.az _) kq'))
    all_goals go_wp2
    all_goals go_roundw
    all_goals first
     |(simp [intOf];omega)
     |exact⟨k+1,om1,by go_num,ae hbel kq⟩
  · obtain rfl:k=n:=om1;go_wp2;go_ret;exact⟨rfl,hbel⟩
theorem LJ(v:Value)(r c:Int)(z:Nat->Int)(w:World)(h: ∀ W,Below w.heap.size w W->Calls Tryz.prog 140 #[v] W fun e w'=>e= .returned (.tuple #[.agg (aj r c z).toArray, .nilIface])/\Below W.heap.size W w'):
 Calls Tryz.prog 66 #[v] w fun e w'=>e= .returned (.agg (aj r c z).toArray)/\Below w.heap.size w w':=by
 have rA:=bJ w 0 0 (fun _=>0);have hB:=af (Below.refl _ w) (.cells (aj 0 0 (fun _=>0)).toArray 53);obtain⟨W,hW⟩: ∃ W,W=w.alloc (.cells (aj 0 0 (fun _=>0)).toArray 53):=⟨_,rfl⟩;rw [← hW] at rA hB;have HW:=Hid.mkV hW;have HN:=Hid.mkV (h W hB);clear hW h;go_enter Tryz.func66,Tryz.ntmps66
 go_wp2_with fail
 rw [dY,← HW.out];refine HN.out.mono ?_;rintro e w1 ⟨rfl,k1⟩;have r1:=rA.keep k1;have rR:=r1.alloc (.cells (aj 0 0 (fun _=>0)).toArray 53);have rN:=bJ w1 0 0 (fun _=>0);have B1:=ae hB k1;have B2:=af B1 (.cells (aj 0 0 (fun _=>0)).toArray 53);have hne:w.heap.size≠w1.heap.size:=by have:=r1.lt;omega
 go_wp2_with (first
  |(rw [dY];refine aN rfl _ _ rl1 _ _ _ _ _ _ _ rl1 rl1 (by with_reducible exact rN) ?_)
  |(refine dw rl1 _ rl1 _ _ _ _ rl1 (by with_reducible exact rN.row _ _ _) ?_)
  |(refine aN rfl _ _ rl1 _ _ _ _ _ _ _ rl1 rl1 (by with_reducible exact rR.aY hne _) ?_)
  |fail)
 exact bodyPost_ret (dS Tryz.results66 _ _ w.heap.size _ _ _ rfl ((rR.aY hne _).row _ _ _)) rfl ⟨rfl,aJ (aJ B2 B1.size _) (Nat.le_refl _) _⟩
theorem Vq(v:Value)(w:World)(h: ∀ W,Below w.heap.size w W->Calls Tryz.prog 140 #[v] W fun e w'=>e= .returned (.tuple #[.agg (aj 0 0 (fun _=>0)).toArray, .iface 93 (.int .i64 1)])/\Below W.heap.size W w'):
 Calls Tryz.prog 66 #[v] w fun e w'=>e= .returned (.agg (aj 0 0 (fun _=>0)).toArray)/\Below w.heap.size w w':=by
 have rA:=bJ w 0 0 (fun _=>0);have hB:=af (Below.refl _ w) (.cells (aj 0 0 (fun _=>0)).toArray 53);obtain⟨W,hW⟩: ∃ W,W=w.alloc (.cells (aj 0 0 (fun _=>0)).toArray 53):=⟨_,rfl⟩;rw [← hW] at rA hB;have HW:=Hid.mkV hW;have HN:=Hid.mkV (h W hB);clear hW h;go_enter Tryz.func66,Tryz.ntmps66
 go_wp2_with fail
 rw [dY,← HW.out];refine HN.out.mono ?_;rintro e w1 ⟨rfl,k1⟩;have r1:=rA.keep k1;have rR:=r1.alloc (.cells (aj 0 0 (fun _=>0)).toArray 53);have rN:=bJ w1 0 0 (fun _=>0);have B1:=ae hB k1;have B2:=af B1 (.cells (aj 0 0 (fun _=>0)).toArray 53);have hne:w.heap.size≠w1.heap.size:=by have:=r1.lt;omega
 go_wp2_with (first
  |(rw [dY];refine aN rfl _ _ rl1 _ _ _ _ _ _ _ rl1 rl1 (by with_reducible exact rN) ?_)
  |(refine jw rfl rl1 ?_)
  |(refine aN rfl _ _ rl1 _ _ _ _ _ _ _ rl1 rl1 (by with_reducible exact rR.aY hne _) ?_)
  |fail)
 exact bodyPost_ret (dS Tryz.results66 _ _ w.heap.size _ _ _ rfl ((rR.aY hne _).row _ _ _)) rfl ⟨rfl,aJ (aJ B2 B1.size _) (Nat.le_refl _) _⟩
end
section
open Go.RowKit Vc Mt
namespace Mt
structure Rws(B:Nat)(w0 w:World)(v:Value)(n m:Nat)(F:Nat->Nat->Int):Prop where
 row: ∃ (S:Nat->Value) (G:Nat->Nat),w.ownsRow B 27 1 v n (aB n S)/\(∀ j,j<n->S j= .slice (some ⟨G j,0,none⟩) m m/\w.heap[G j]?=some (.cells (vals m (F j)).toArray 2 (0,0))/\v.ownBlock≠some (G j)/\B<=G j)/\ ∀ i j,i<n->j<n->i≠j->G i≠G j
 below:Below B w0 w
 base:B<=w.heap.size
theorem uK{w:World}{g:Nat}{o:Obj}(h:w.heap[g]?=some o):g<w.heap.size:=by
 rcases Nat.lt_or_ge g w.heap.size with k|k
 · exact k
 · rw [Array.getElem?_eq_none k] at h;cases h
theorem Rws.nil{B:Nat}{w0 w:World}(h:Below B w0 w)(hB:B<=w.heap.size)(m:Nat)(F:Nat->Nat->Int):Rws B w0 w (.slice none 0 0) 0 m F:=⟨⟨fun _=>undef,fun _=>0,World.ownsRow_nil _ _ _ _,fun j hj=>by omega,fun i j hi=>by omega⟩,h,hB⟩
theorem Rws.keep{B:Nat}{w0 w w':World}{v:Value}{n m:Nat}{F:Nat->Nat->Int}(h:Rws B w0 w v n m F)(b:Below w.heap.size w w'):Rws B w0 w' v n m F:=by
 obtain⟨S,G,h1,h2,h3⟩:=h.row;refine⟨⟨S,G,jF h1 b,fun j hj=> ?_,h3⟩,h.below.trans (b.mono h.base),Nat.le_trans h.base b.size⟩;obtain⟨e1,e2,e3,e4⟩:=h2 j hj;exact⟨e1,(b.block _ (uK e2)).trans e2,e3,e4⟩
theorem GU{ops:Array Oper}{rest:List Oper}{o:Oper}{a:Act}{Q:Exit->Act->World->Prop}{wp wr:World}(hgd:o.guard=none)(s x:Operand)
 (ho:o.op= .call { callee:= .builtin .append,args:= #[s,x],argTypes:= #[23,23] }) (B:Nat) (w0:World) (v:Value) (n m:Nat) (F:Nat->Nat->Int) (hs:a.eval s=v) (hL0:Rws B w0 wp v n m F) (hk:Below wp.heap.size wp wr) (hl:n<=2000000)
 (g0:Nat) (hr:wr.heap[g0]?=some (.cells (vals m (F n)).toArray 2 (0,0))) (hsz:wp.heap.size<=g0)
 (hx:a.eval x= .slice (some ⟨wr.heap.size,0,none⟩) 1 1)
 (h: ∀ v' w',Rws B w0 w' v' (n+1) m F->wpList Tryz.prog ops Q rest (a.put o.dst v') w'):wpList Tryz.prog ops Q (o::rest) a (wr.alloc (.cells #[.slice (some ⟨g0,0,none⟩) m m] 27)):=by
 obtain⟨i0,hi,hz0,hz1,hz2⟩:=info_parts Ba;have hL:=hL0.keep hk;obtain⟨S,G,h1',h2',h3⟩:=hL0.row;have h1:=jF h1' hk;have hG0: ∀ j,j<n->G j≠g0:=fun j hj e=>by have:=uK (h2' j hj).2.1;omega
 have hap:v.ownBlock≠some g0:=fun e=>by have:=(h1'.lt _ e).2;omega
 have hB0:B<=g0:=Nat.le_trans hL0.base hsz
 have h2: ∀ j,j<n->S j= .slice (some ⟨G j,0,none⟩) m m/\wr.heap[G j]?=some (.cells (vals m (F j)).toArray 2 (0,0))/\v.ownBlock≠some (G j)/\B<=G j:=fun j hj=>by
  obtain⟨e1,e2,e3,e4⟩:=h2' j hj;exact⟨e1,(hk.block _ (uK e2)).trans e2,e3,e4⟩
 refine wpList_append_lies _ hgd s x 23 ho B 27 i0 (.slice none 0 0) 1 24 Tryz.underlying23 hi hz0 hz1 hz2 rfl (by decide) v n (aB n S) hs (h1.alloc _) ⟨wr.heap.size,0,none⟩ 1 1 [.slice (some ⟨g0,0,none⟩) m m] hx rfl (cell_one_new _ _ _) (by intro u hu;simp at hu;subst hu;rfl) om1 (by unfold maxLen;omega) om1 (by have:=hL.base;simp;omega) _ rfl ?_;intro g cap w' o1 o2 o3 o4;rw [oQ] at o1
 have hblk: ∀ {q:Nat} {f:Nat->Int},wr.heap[q]?=some (.cells (vals m f).toArray 2 (0,0))->v.ownBlock≠some q->w'.heap[q]?=some (.cells (vals m f).toArray 2 (0,0))/\Value.ownBlock (.slice (some ⟨g,0,none⟩) (n+1) cap)≠some q:=by
  intro q f hq hv;have hlt:=uK hq;refine⟨?_,fun e=> ?_⟩
  ·rw [o2.block q (by simp;omega) (fun e=>hv e.symm)];exact(Below.heap_alloc _ _ _ hlt).trans hq
  ·have e3:g=q:=by simpa [Value.ownBlock] using e
   rcases o3 with o3|o3
   ·exact hv (by rw [o3,e3])
   ·simp at o3;omega
 refine h _ w' ⟨⟨_,fun k=>if k<n then G k else g0,o1,fun j hj=> ?_,fun i j hi hj hij=> ?_⟩, ?_,Nat.le_trans (by have:=hL.base;simp;omega) o2.size⟩
 ·by_cases hjn:j<n
  ·obtain⟨e1,e2,e3,e4⟩:=h2 j hjn;simp only [if_pos hjn];exact⟨e1,(hblk e2 e3).1,(hblk e2 e3).2,e4⟩
  ·obtain rfl:j=n:=om1;simp only [if_neg hjn];exact⟨trivial,(hblk hr hap).1,(hblk hr hap).2,hB0⟩
 ·by_cases hin:i<n
  ·by_cases hjn:j<n
   ·simp only [if_pos hin,if_pos hjn];exact h3 i j hin hjn hij
   ·simp only [if_pos hin,if_neg hjn];exact hG0 i hin
  ·have hjn:j<n:=om1;simp only [if_neg hin,if_pos hjn];exact fun e=>hG0 j hjn e.symm
 ·refine(hL.below.alloc hL.base _).grown o2 (by have:=hL.base;simp;omega) ?_;intro k hk;exact(h1.lt k hk).1
structure NU(B:Nat)(w0 w:World)(L cm:Nat)(G:Nat->Nat)(n m:Nat)(F:Nat->Nat->Int):Prop where
 list: ∃ cur:Array Value,w.heap[L]?=some (.cells cur 27 (0,0))/\ ∀ k,k<n->cur[k]?=some (.slice (some ⟨G k,0,none⟩) m m)
 row: ∀ k,k<n->w.heap[G k]?=some (.cells (vals m (F k)).toArray 2 (0,0))
 far: ∀ i j,i<n->j<n->i≠j->G i≠G j
 off: ∀ k,k<n->G k≠L
 own: ∀ k,k<n->B<=G k
 ownL:B<=L
 below:Below B w0 w
 base:B<=w.heap.size
 cap:n<=cm
 cap2:cm<=9223372036854775807
theorem Rws.open{B:Nat}{w0 w:World}{v:Value}{n m:Nat}{F:Nat->Nat->Int}(h:Rws B w0 w v n m F)(h0:0<n): ∃ L cm G,v= .slice (some ⟨L,0,none⟩) n cm/\NU B w0 w L cm G n m F:=by
 obtain⟨S,G,⟨h1,h2⟩,h3,h4⟩:=h.row;rcases h2 with⟨rfl,rfl⟩|⟨g,cap,cur,rfl,hb,hg,hn,hc,hs,ht⟩
 · omega
 · refine⟨g,cap,G,rfl,⟨⟨cur,hg,fun k hk=> ?_⟩,fun k hk=>(h3 k hk).2.1,h4,fun k hk e=> ?_,fun k hk=>(h3 k hk).2.2.2,hb,h.below,h.base,hn,hc⟩⟩
   · have e:=jZ (S:=S) hk;rw [← ht] at e
     have e4:cur[k]?=some (S k):=by
      rw [List.getElem?_take] at e;split at e
      · simpa using e
      · cases e
     rw [e4,(h3 k hk).1]
   · exact(h3 k hk).2.2.1 (by simp [Value.ownBlock,e])
variable {B:Nat} {w0 w w':World} {L cm n m:Nat} {G:Nat->Nat} {F:Nat->Nat->Int}
theorem NU.cellL(h:NU B w0 w L cm G n m F){k:Nat}(hk:k<n):w.cell? ⟨L,k,none⟩=some (.slice (some ⟨G k,0,none⟩) m m):=by
 obtain⟨cur,h1,h2⟩:=h.list;simp [World.cell?,h1,h2 k hk]
theorem NU.cell(h:NU B w0 w L cm G n m F){i j:Nat}(hi:i<n)(hj:j<m):w.cell? ⟨G i,j,none⟩=some (.int .i64 (F i j)):=by
 simp [World.cell?,h.row i hi,dI hj]
def put2(F:Nat->Nat->Int)(i j:Nat)(x:Int):Nat->Nat->Int:=fun a b=>if a=i/\b=j then x else F a b
end Mt
end
section
open Go.RowKit Vc Mt
namespace Mt
def Fst(w:World)(g m:Nat)(f:Nat->Int):Prop:= ∃ cur:Array Value,w.heap[g]?=some (.cells cur 2 (0,0))/\ ∀ q,q<m->cur[q]?=some (.int .i64 (f q))
theorem Fst.lt{w:World}{g m:Nat}{f:Nat->Int}(h:Fst w g m f):g<w.heap.size:=by obtain⟨c,h1,_⟩:=h;exact uK h1
theorem Fst.of{w w':World}{g m:Nat}{f:Nat->Int}(h:Fst w g m f)(e:w'.heap[g]?=w.heap[g]?):Fst w' g m f:=by obtain⟨c,h1,h2⟩:=h;exact⟨c,e.trans h1,h2⟩
theorem Fst.congr{w:World}{g m:Nat}{f f':Nat->Int}(h:Fst w g m f)(e: ∀ q,q<m->f q=f' q):Fst w g m f':=by
 obtain⟨c,h1,h2⟩:=h;exact⟨c,h1,fun q hq=>by rw [h2 q hq,e q hq]⟩
theorem Fst.set{w:World}{g m:Nat}{f:Nat->Int}(h:Fst w g m f){j:Nat}(hj:j<m)(x:Int):Fst (w.setCell ⟨g,j,none⟩ (.int .i64 x)) g m (fun q=>if q=j then x else f q):=by
 obtain⟨c,h1,h2⟩:=h;refine⟨_,heap_setCell_same w g j _ _ _ h1,fun q hq=> ?_⟩
 have hlt:j<c.size:=by
  rcases Nat.lt_or_ge j c.size with k|k
  · exact k
  · have:=h2 j hj;rw [Array.getElem?_eq_none k] at this;cases this
 show _=some (Value.int .i64 (if q=j then x else f q));rw [Array.getElem?_setIfInBounds];by_cases e:q=j
 · rw [if_pos e.symm,if_pos hlt,if_pos e]
 · rw [if_neg (fun h=>e h.symm),if_neg e];exact h2 q hq
theorem Fst.cell{w:World}{g m:Nat}{f:Nat->Int}(h:Fst w g m f){j:Nat}(hj:j<m):w.cell? ⟨g,j,none⟩=some (.int .i64 (f j)):=by
 obtain⟨c,h1,h2⟩:=h;simp [World.cell?,h1,h2 j hj]
theorem Fst.free{w:World}{g m:Nat}{f:Nat->Int}(h:Fst w g m f)(j:Nat):w.frozen? ⟨g,j,none⟩=false:=by
 obtain⟨c,h1,h2⟩:=h;exact frozen_of_row w g j _ _ h1
theorem Vr{B:Nat}{w0 w:World}{v:Value}{m:Nat}{z:Nat->Int}(h:Own B w0 w v m z)(hm:0<m): ∃ g cap,v= .slice (some ⟨g,0,none⟩) m cap/\B<=g/\m<=cap/\cap<=9223372036854775807/\Fst w g m z:=by
 obtain⟨h1,h2⟩:=h.row;rcases h2 with⟨rfl,rfl⟩|⟨g,cap,cur,rfl,hb,hg,hn,hc,hs,ht⟩
 · omega
 · refine⟨g,cap,rfl,hb,hn,hc,cur,hg,fun q hq=> ?_⟩;have e:=dI (z:=z) hq;rw [← ht] at e;rw [List.getElem?_take] at e;split at e
   · simpa using e
   · cases e
structure Rwc(B:Nat)(w0 w:World)(v:Value)(n m:Nat)(F:Nat->Nat->Int):Prop where
 row: ∃ (S:Nat->Value) (G C:Nat->Nat),w.ownsRow B 27 1 v n (aB n S)/\(∀ j,j<n->S j= .slice (some ⟨G j,0,none⟩) m (C j)/\Fst w (G j) m (F j)/\(m<=C j/\C j<=9223372036854775807)/\v.ownBlock≠some (G j)/\B<=G j)/\ ∀ i j,i<n->j<n->i≠j->G i≠G j
 below:Below B w0 w
 base:B<=w.heap.size
theorem Rwc.nil{B:Nat}{w0 w:World}(h:Below B w0 w)(hB:B<=w.heap.size)(m:Nat)(F:Nat->Nat->Int):Rwc B w0 w (.slice none 0 0) 0 m F:=⟨⟨fun _=>undef,fun _=>0,fun _=>0,World.ownsRow_nil _ _ _ _,fun j hj=>by omega,fun i j hi=>by omega⟩,h,hB⟩
theorem Rwc.keep{B:Nat}{w0 w w':World}{v:Value}{n m:Nat}{F:Nat->Nat->Int}(h:Rwc B w0 w v n m F)(b:Below w.heap.size w w'):Rwc B w0 w' v n m F:=by
 obtain⟨S,G,C,h1,h2,h3⟩:=h.row;refine⟨⟨S,G,C,jF h1 b,fun j hj=> ?_,h3⟩,h.below.trans (b.mono h.base),Nat.le_trans h.base b.size⟩;obtain⟨e1,e2,e3,e4⟩:=h2 j hj;exact⟨e1,e2.of (b.block _ e2.lt),e3,e4⟩
theorem GV{ops:Array Oper}{rest:List Oper}{o:Oper}{a:Act}{Q:Exit->Act->World->Prop}{wp wr:World}(hgd:o.guard=none)(s x:Operand)
 (ho:o.op= .call { callee:= .builtin .append,args:= #[s,x],argTypes:= #[23,23] }) (B:Nat) (w0:World) (v:Value) (n m:Nat) (F:Nat->Nat->Int) (hs:a.eval s=v) (hL0:Rwc B w0 wp v n m F) (hk:Below wp.heap.size wp wr) (hl:n<=2000000)
 (g0 c0:Nat) (hr:Fst wr g0 m (F n)) (hc0:m<=c0/\c0<=9223372036854775807) (hsz:wp.heap.size<=g0)
 (hx:a.eval x= .slice (some ⟨wr.heap.size,0,none⟩) 1 1)
 (h: ∀ v' w',Rwc B w0 w' v' (n+1) m F->wpList Tryz.prog ops Q rest (a.put o.dst v') w'):wpList Tryz.prog ops Q (o::rest) a (wr.alloc (.cells #[.slice (some ⟨g0,0,none⟩) m c0] 27)):=by
 obtain⟨i0,hi,hz0,hz1,hz2⟩:=info_parts Ba;have hL:=hL0.keep hk;obtain⟨S,G,C,h1',h2',h3⟩:=hL0.row;have h1:=jF h1' hk;have hG0: ∀ j,j<n->G j≠g0:=fun j hj e=>by have:=(h2' j hj).2.1.lt;omega
 have hap:v.ownBlock≠some g0:=fun e=>by have:=(h1'.lt _ e).2;omega
 have hB0:B<=g0:=Nat.le_trans hL0.base hsz;refine wpList_append_lies _ hgd s x 23 ho B 27 i0 (.slice none 0 0) 1 24 Tryz.underlying23 hi hz0 hz1 hz2 rfl (by decide) v n (aB n S) hs (h1.alloc _) ⟨wr.heap.size,0,none⟩ 1 1 [.slice (some ⟨g0,0,none⟩) m c0] hx rfl (cell_one_new _ _ _) (by intro u hu;simp at hu;subst hu;rfl) om1 (by unfold maxLen;omega) om1 (by have:=hL.base;simp;omega) _ rfl ?_;intro g cap w' o1 o2 o3 o4;rw [oQ] at o1
 have hblk: ∀ {q:Nat} {f:Nat->Int},Fst wr q m f->v.ownBlock≠some q->Fst w' q m f/\Value.ownBlock (.slice (some ⟨g,0,none⟩) (n+1) cap)≠some q:=by
  intro q f hq hv;have hlt:=hq.lt;refine⟨hq.of ?_,fun e=> ?_⟩
  ·rw [o2.block q (by simp;omega) (fun e=>hv e.symm)];exact Below.heap_alloc _ _ _ hlt
  ·have e3:g=q:=by simpa [Value.ownBlock] using e
   rcases o3 with o3|o3
   ·exact hv (by rw [o3,e3])
   ·simp at o3;omega
 refine h _ w' ⟨⟨_,fun k=>if k<n then G k else g0,fun k=>if k<n then C k else c0,o1,fun j hj=> ?_,fun i j hi hj hij=> ?_⟩, ?_,Nat.le_trans (by have:=hL.base;simp;omega) o2.size⟩
 ·by_cases hjn:j<n
  ·obtain⟨e1,e2,e3,e4,e5⟩:=h2' j hjn;have e2':=e2.of (hk.block _ e2.lt);simp only [if_pos hjn];exact⟨e1,(hblk e2' e4).1,e3,(hblk e2' e4).2,e5⟩
  ·obtain rfl:j=n:=om1;simp only [if_neg hjn];exact⟨trivial,(hblk hr hap).1,hc0,(hblk hr hap).2,hB0⟩
 ·by_cases hin:i<n
  ·by_cases hjn:j<n
   ·simp only [if_pos hin,if_pos hjn];exact h3 i j hin hjn hij
   ·simp only [if_pos hin,if_neg hjn];exact hG0 i hin
  ·have hjn:j<n:=om1;simp only [if_neg hin,if_pos hjn];exact fun e=>hG0 j hjn e.symm
 ·refine(hL.below.alloc hL.base _).grown o2 (by have:=hL.base;simp;omega) ?_;intro k hk;exact(h1.lt k hk).1
structure ni(B:Nat)(w0 w:World)(L cm:Nat)(G C:Nat->Nat)(n m:Nat)(F:Nat->Nat->Int):Prop where
 list: ∃ cur:Array Value,w.heap[L]?=some (.cells cur 27 (0,0))/\ ∀ k,k<n->cur[k]?=some (.slice (some ⟨G k,0,none⟩) m (C k))
 row: ∀ k,k<n->Fst w (G k) m (F k)
 room: ∀ k,k<n->m<=C k/\C k<=9223372036854775807
 far: ∀ i j,i<n->j<n->i≠j->G i≠G j
 off: ∀ k,k<n->G k≠L
 own: ∀ k,k<n->B<=G k
 ownL:B<=L
 below:Below B w0 w
 base:B<=w.heap.size
 cap:n<=cm
 cap2:cm<=9223372036854775807
theorem Rwc.open{B:Nat}{w0 w:World}{v:Value}{n m:Nat}{F:Nat->Nat->Int}(h:Rwc B w0 w v n m F)(h0:0<n): ∃ L cm G C,v= .slice (some ⟨L,0,none⟩) n cm/\ni B w0 w L cm G C n m F:=by
 obtain⟨S,G,C,⟨h1,h2⟩,h3,h4⟩:=h.row;rcases h2 with⟨rfl,rfl⟩|⟨g,cap,cur,rfl,hb,hg,hn,hc,hs,ht⟩
 · omega
 · refine⟨g,cap,G,C,rfl,⟨⟨cur,hg,fun k hk=> ?_⟩,fun k hk=>(h3 k hk).2.1,fun k hk=>(h3 k hk).2.2.1,h4,fun k hk e=> ?_,fun k hk=>(h3 k hk).2.2.2.2,hb,h.below,h.base,hn,hc⟩⟩
   · have e:=jZ (S:=S) hk;rw [← ht] at e
     have e4:cur[k]?=some (S k):=by
      rw [List.getElem?_take] at e;split at e
      · simpa using e
      · cases e
     rw [e4,(h3 k hk).1]
   · exact(h3 k hk).2.2.2.1 (by simp [Value.ownBlock,e])
section
variable {B:Nat} {w0 w w':World} {L cm n m:Nat} {G C:Nat->Nat} {F:Nat->Nat->Int}
theorem ni.cellL(h:ni B w0 w L cm G C n m F){k:Nat}(hk:k<n):w.cell? ⟨L,k,none⟩=some (.slice (some ⟨G k,0,none⟩) m (C k)):=by
 obtain⟨cur,h1,h2⟩:=h.list;simp [World.cell?,h1,h2 k hk]
theorem ni.cell(h:ni B w0 w L cm G C n m F){i j:Nat}(hi:i<n)(hj:j<m):w.cell? ⟨G i,j,none⟩=some (.int .i64 (F i j)):=(h.row i hi).cell hj
theorem ni.free(h:ni B w0 w L cm G C n m F){i:Nat}(hi:i<n)(j:Nat):w.frozen? ⟨G i,j,none⟩=false:=(h.row i hi).free j
theorem ni.congr{F':Nat->Nat->Int}(h:ni B w0 w L cm G C n m F)(e: ∀ i j,i<n->j<m->F i j=F' i j):ni B w0 w L cm G C n m F':=
 ⟨h.list,fun k hk=>(h.row k hk).congr (fun j hj=>e k j hk hj),h.room,h.far,h.off,h.own,h.ownL,h.below,h.base,h.cap,h.cap2⟩
theorem ni.set(h:ni B w0 w L cm G C n m F){i j:Nat}(hi:i<n)(hj:j<m)(x:Int):ni B w0 (w.setCell ⟨G i,j,none⟩ (.int .i64 x)) L cm G C n m (put2 F i j x):=by
 obtain⟨cur,h1,h2⟩:=h.list;refine⟨⟨cur,(heap_setCell_other w _ L _ (fun e=>h.off i hi e.symm)).trans h1,h2⟩,fun k hk=> ?_,h.room,h.far,h.off,h.own,h.ownL,h.below.setCell (h.own i hi) _,by simp [h.base],h.cap,h.cap2⟩;by_cases e:k=i
 · subst e;refine((h.row k hk).set hj x).congr fun q _=> ?_;unfold put2;by_cases e:q=j
   · rw [if_pos e,if_pos ⟨rfl,e⟩]
   · rw [if_neg e,if_neg (fun h=>e h.2)]
 · refine((h.row k hk).of (heap_setCell_other w _ (G k) _ (h.far k i hk hi e))).congr fun q _=> ?_;unfold put2;rw [if_neg (fun h=>e h.1)]
theorem ni.grid(h:ni B w0 w L cm G C n m F):Grid w (some ⟨L,0,none⟩) n cm m F:=by
 refine⟨fun k=>some ⟨G k,0,none⟩,C,⟨h.cap,h.cap2,fun j hj=>⟨_,rfl, ?_⟩⟩,fun k hk=>⟨(h.room k hk).1,(h.room k hk).2,fun j hj=>⟨_,rfl, ?_⟩⟩⟩
 · rw [Addr.add_lit,Nat.zero_add];exact h.cellL hj
 · rw [Addr.add_lit,Nat.zero_add];exact h.cell hk hj
end
end Mt
end
section
open Go.RowKit Vc
namespace El
def eu(S:Nat->List Value):Nat->List Value
 |0=> []
 |k+1=>eu S k++S k
theorem lG{S:Nat->List Value}{s:Nat}: ∀ {n:Nat},(∀ k,k<n->(S k).length=s)->(eu S n).length=n*s
 |0,_=>by show(0:Nat)=0*s;rw [Nat.zero_mul]
 |n+1,h=>by
  show(eu S n++S n).length=_
  rw [List.length_append,lG (fun k hk=>h k om1),h n om1,Nat.succ_mul]
theorem oU{S:Nat->List Value}{s:Nat}: ∀ {n:Nat},(∀ k,k<n->(S k).length=s)-> ∀ {k j:Nat},k<n->j<s->(eu S n)[k*s+j]?=(S k)[j]?
 |n+1,h,k,j,hk,hj=>by
  show(eu S n++S n)[k*s+j]?=_
  have hl:(eu S n).length=n*s:=lG fun k hk=>h k om1
  by_cases e:k=n
  · subst e
    rw [List.getElem?_append_right (by rw [hl];omega),hl,Nat.add_sub_cancel_left]
  · have h1:k*s+s<=n*s:=by rw [← Nat.succ_mul];exact Nat.mul_le_mul_right s om1
    rw [List.getElem?_append_left (by rw [hl];omega)]
    exact oU (fun k hk=>h k om1) om1 hj
theorem yu{S T:Nat->List Value}: ∀ {n:Nat},(∀ k,k<n->S k=T k)->eu S n=eu T n
 |0,_=>rfl
 |n+1,h=>by
  show eu S n++S n=eu T n++T n
  rw [yu (fun k hk=>h k om1),h n om1]
def Rest(P:Nat->Prop)(w w':World):Prop:= ∀ b,b<w.heap.size-> ¬P b->w'.heap[b]?=w.heap[b]?
abbrev own(v:Value):Nat->Prop:=fun q=>v.ownBlock=some q
theorem Rest.refl(P:Nat->Prop)(w:World):Rest P w w:=fun _ _ _=>rfl
theorem Rest.mono{P P':Nat->Prop}{w w':World}(h:Rest P w w')(e: ∀ q,P q->P' q):Rest P' w w':=fun b hb hn=>h b hb (fun q=>hn (e b q))
theorem Rest.of{P:Nat->Prop}{w w1 w':World}(k:Below w.heap.size w w1)(h:Rest P w1 w'):Rest P w w':=fun b hb hn=>(h b (Nat.lt_of_lt_of_le hb k.size) hn).trans (k.block b hb)
structure Els(t:TypeId)(s B:Nat)(w0 w:World)(v:Value)(n:Nat)(R:Nat->List Value->World->Prop):Prop where
 row: ∃ S:Nat->List Value,w.ownsRow B t s v n (eu S n)/\ ∀ k,k<n->(S k).length=s/\ ∀ w',Rest (own v) w w'->R k (S k) w'
 below:Below B w0 w
 base:B<=w.heap.size
section
variable {t:TypeId} {s B:Nat} {w0 w w':World} {v:Value} {n:Nat} {R:Nat->List Value->World->Prop}
theorem Els.nil(h:Below B w0 w)(hB:B<=w.heap.size)(t:TypeId)(s:Nat)(R:Nat->List Value->World->Prop):Els t s B w0 w (.slice none 0 0) 0 R:=
 ⟨⟨fun _=> [],World.ownsRow_nil _ _ _ _,fun j hj=>by omega⟩,h,hB⟩
theorem Els.keep(h:Els t s B w0 w v n R)(b:Below w.heap.size w w'):Els t s B w0 w' v n R:=by
 obtain⟨S,h1,h2⟩:=h.row;exact⟨⟨S,jF h1 b,fun k hk=>⟨(h2 k hk).1,fun w'' r=>(h2 k hk).2 w'' (Rest.of b r)⟩⟩,h.below.trans (b.mono h.base),Nat.le_trans h.base b.size⟩
theorem Els.lt(h:Els t s B w0 w v n R){g:Nat}(e:v.ownBlock=some g):B<=g/\g<w.heap.size:=by
 obtain⟨S,h1,_⟩:=h.row;exact h1.lt g e
theorem Els.form(h:Els t s B w0 w v n R): ∃ ao ca,v= .slice ao n ca/\n<=ca/\ca<=9223372036854775807:=by
 obtain⟨S,⟨_,h1⟩,_⟩:=h.row;rcases h1 with⟨rfl,rfl⟩|⟨g,cap,cur,rfl,hb,hg,hn,hc,hs,ht⟩
 · exact⟨_,_,rfl,Nat.le_refl _,om1⟩
 · exact⟨_,_,rfl,hn,by unfold maxLen at hc;omega⟩
theorem Els.at(h:Els t s B w0 w v n R)(h0:0<n): ∃ g cap,∃ S:Nat->List Value,v= .slice (some ⟨g,0,none⟩) n cap/\n<=cap/\cap<=9223372036854775807/\B<=g/\g<w.heap.size/\(∀ k,k<n->(S k).length=s/\R k (S k) w/\ ∀ j u,(S k)[j]?=some u->w.cell? ⟨g,k*s+j,none⟩=some u)/\w.frozen? ⟨g,0,none⟩=false:=by
 obtain⟨S,⟨_,h1⟩,h2⟩:=h.row;rcases h1 with⟨_,e⟩|⟨g,cap,cur,rfl,hb,hg,hn,hc,hs,ht⟩
 · omega
 · have hlt:g<w.heap.size:=by
    rcases Nat.lt_or_ge g w.heap.size with k|k
    · exact k
    · rw [Array.getElem?_eq_none k] at hg;cases hg
   refine⟨g,cap,S,rfl,hn,by unfold maxLen at hc;omega,hb,hlt,fun k hk=>⟨(h2 k hk).1,(h2 k hk).2 w (Rest.refl _ _),fun j u hj=> ?_⟩,frozen_of_row w g 0 _ _ hg⟩
   have hjs:j<s:=by
    have:=(h2 k hk).1;rcases Nat.lt_or_ge j (S k).length with q|q
    · omega
    · rw [List.getElem?_eq_none q] at hj;cases hj
   have e:=oU (fun k hk=>(h2 k hk).1) hk hjs;rw [hj,← ht,List.getElem?_take] at e;split at e
   · rw [cell_of_row w g _ _ _ (0,0) hg];simpa using e
   · cases e
end
theorem QM{p:Prop}(h:p:=by
 show _=eu (fun k=>if k<n then S k else cs) n++(if n<n then S n else cs);rw [if_neg (Nat.lt_irrefl n)];have e1:eu S n=eu (fun k=>if k<n then S k else cs) n:=yu fun k hk=>by show S k=if k<n then S k else cs;rw [if_pos hk]
 rw [← e1]):p:=h
theorem Els.Vs{t:TypeId}{s B:Nat}{w0 wr:World}{v:Value}{n:Nat}{R:Nat->List Value->World->Prop}{cs:List Value}(hE:Els t s B w0 wr v n R)(hcs:cs.length=s)(hR: ∀ w',Rest (own v) wr w'->R n cs w'){S:Nat->List Value}
 (h2: ∀ k,k<n->(S k).length=s/\ ∀ w',Rest (own v) wr w'->R k (S k) w') (hr:wr.ownsRow B t s v n (eu S n)) {g cap:Nat} {w':World} (o1:w'.ownsRow B t s (.slice (some ⟨g,0,none⟩) (n+1) cap) (n+1) (eu S n++cs))
 (o2:(wr.alloc (.cells cs.toArray t)).grownBy w' v.ownBlock) (o3:v.ownBlock=some g\/g=wr.heap.size+1):Els t s B w0 w' (.slice (some ⟨g,0,none⟩) (n+1) cap) (n+1) R:=by
 have e0:eu S n++cs=eu (fun k=>if k<n then S k else cs) (n+1):=by
  exact QM
 rw [e0] at o1;have hb:=hE.base
 have key: ∀ w'',Rest (own (.slice (some ⟨g,0,none⟩) (n+1) cap)) w' w''->Rest (own v) wr w'':=fun w'' r b hbl hne=>by
  have hg:g≠b:=fun e=>by
   rcases o3 with o3|o3
   · exact hne (by show v.ownBlock=some b;rw [o3,e])
   · omega
  have hs2:b<(wr.alloc (.cells cs.toArray t)).heap.size:=by simp;omega
  rw [r b (Nat.lt_of_lt_of_le hs2 o2.size) (fun e=>hg (by simpa [own,Value.ownBlock] using e)),o2.block b hs2 (fun e=>hne e.symm),Below.heap_alloc _ _ _ hbl]
 refine⟨⟨_,o1,fun k hk=> ?_⟩, ?_,Nat.le_trans (by simp;omega) o2.size⟩
 · by_cases hkn:k<n
   · simp only [if_pos hkn];exact⟨(h2 k hkn).1,fun w'' r=>(h2 k hkn).2 w'' (key w'' r)⟩
   · obtain rfl:k=n:=om1;simp only [if_neg hkn];exact⟨hcs,fun w'' r=>hR w'' (key w'' r)⟩
 · refine(hE.below.alloc hb _).grown o2 (by simp;omega) ?_;intro k hk;exact(hr.lt k hk).1
theorem push{ops:Array Oper}{rest:List Oper}{o:Oper}{a:Act}{Q:Exit->Act->World->Prop}{wr:World}(hgd:o.guard=none)(x y:Operand)(T t:TypeId)(s by':Nat)(z:Value)
 (ho:o.op= .call { callee:= .builtin .append,args:= #[x,y],argTypes:= #[T,T] }) (hT:Tryz.prog.underlying T=some (.slice t)) (hinfo:(Tryz.prog.info? t).map (fun i=>(i.zero,i.size,i.bytes))=some (some z,s,by')) (hzs:z.cells.size=s) (hs0:0<s) (hby:by'<=1000)
 (B:Nat) (w0:World) (v:Value) (n:Nat) (R:Nat->List Value->World->Prop) (hs:a.eval x=v) (hE:Els t s B w0 wr v n R) (hl:n<=2000000)
 (cs:List Value) (hcs:cs.length=s) (h1: ∀ u∈cs,u.oneCell'=true) (hR: ∀ w',Rest (own v) wr w'->R n cs w') (hx:a.eval y= .slice (some ⟨wr.heap.size,0,none⟩) 1 1)
 (h: ∀ v' w',Els t s B w0 w' v' (n+1) R->wpList Tryz.prog ops Q rest (a.put o.dst v') w'):wpList Tryz.prog ops Q (o::rest) a (wr.alloc (.cells cs.toArray t)):=by
 obtain⟨i0,hi,hz0,hz1,hz2⟩:=info_parts hinfo;obtain⟨S,r1,r2⟩:=hE.row;have hb:=hE.base;have hp:(wr.alloc (.cells cs.toArray t)).heap[wr.heap.size]?=some (.cells cs.toArray t (0,0)):=St.aH wr t cs;refine wpList_append_lies _ hgd x y T ho B t i0 z s by' hT hi hz0 hz1 hz2 hzs hs0 v n (eu S n) hs (r1.alloc _) ⟨wr.heap.size,0,none⟩ 1 1 cs hx (by rw [hcs,Nat.one_mul]) (World.news_of_block hp) h1 om1 (by unfold maxLen;omega) (Nat.le_trans (Nat.mul_le_mul (Nat.le_refl _) hby) om1) (by simp;omega) _ rfl ?_;intro g cap w' o1 o2 o3 o4;exact h _ w' (hE.Vs hcs hR r2 r1 o1 o2 (by simpa using o3))
def Free(B:Nat)(w:World)(R:World->Prop):Prop:= ∀ W,Rest (fun q=>q<B) w W->R W
theorem Free.keep{B:Nat}{w w':World}{R:World->Prop}(h:Free B w R)(k:Below w.heap.size w w'):Free B w' R:=fun W r=>h W (Rest.of k r)
theorem Free.and{B:Nat}{w:World}{R R':World->Prop}(h:Free B w R)(h':Free B w R'):Free B w (fun W=>R W/\R' W):=fun W r=>⟨h W r,h' W r⟩
theorem Free.less{B B':Nat}{w:World}{R:World->Prop}(h:Free B w R)(hB:B'<=B):Free B' w R:=fun W r=>h W (r.mono fun q e=>Nat.lt_of_lt_of_le e hB)
theorem Free.row{B g:Nat}{w:World}{R:World->Prop}(h:Free B w R)(hg:g<B)(cs:Array Value):Free B (w.setRow g cs) R:=fun W r=>h W fun b hb hn=>(r b (by simpa using hb) hn).trans (setRow_other w g b cs om1)
theorem Own.free'{B:Nat}{w0 w:World}{ao:Option Addr}{ca n:Nat}{z:Nat->Int}(h:Own B w0 w (.slice ao n ca) n z):Free B w (fun W=>Sl W ao n ca z):=by
 obtain⟨⟨h1,h2⟩,_,_⟩:=h;intro W r;rcases h2 with⟨e,rfl⟩|⟨g,cap,cur,e,hb,hg,hn,hc,hs,ht⟩
 · injection e with e1 _ e2
   subst e1 e2;exact Sl.none _ _
 · injection e with e1 _ e2
   subst e1 e2
   have hlt:g<w.heap.size:=by
    rcases Nat.lt_or_ge g w.heap.size with k|k
    · exact k
    · rw [Array.getElem?_eq_none k] at hg;cases hg
   have hW:=(r g hlt om1).trans hg;refine⟨hn,by unfold maxLen at hc;omega,fun k hk=>⟨_,rfl, ?_⟩⟩;have e:=dI (z:=z) hk;rw [← ht] at e
   have e2:cur[k]?=some (.int .i64 (z k)):=by
    rw [List.getElem?_take] at e;split at e
    · simpa using e
    · cases e
   rw [Addr.add_lit,Nat.zero_add];simp [World.cell?,hW,e2]
end El
end
section
open Go.RowKit Vc Mt
namespace El
def StR(X:Nat->Nat->Int)(P:Nat->Nat->Nat->Int)(k:Nat)(cs:List Value)(W:World):Prop:= ∃ a c lo cm,cs= [.slice a 6 c, .slice lo 6 cm]/\Sl W a 6 c (X k)/\Grid W lo 6 cm 6 (P k)
theorem ni.free'{B:Nat}{w0 w:World}{L cm n m:Nat}{G C:Nat->Nat}{F:Nat->Nat->Int}(h:ni B w0 w L cm G C n m F):Free B w (fun W=>Grid W (some ⟨L,0,none⟩) n cm m F):=by
 intro W r;obtain⟨cur,h1,h2⟩:=h.list;have hl:W.heap[L]?=some (.cells cur 27 (0,0)):=(r L (uK h1) (by have:=h.ownL;omega)).trans h1;refine⟨fun k=>some ⟨G k,0,none⟩,C,⟨h.cap,h.cap2,fun j hj=>⟨_,rfl, ?_⟩⟩,fun k hk=>⟨(h.room k hk).1,(h.room k hk).2,fun j hj=>⟨_,rfl, ?_⟩⟩⟩
 · rw [Addr.add_lit,Nat.zero_add];simp [World.cell?,hl,h2 j hj]
 · rw [Addr.add_lit,Nat.zero_add];exact((h.row k hk).of (r _ (h.row k hk).lt (by have:=h.own k hk;omega))).cell hj
theorem nJ(a b:Option Addr)(n m c d:Nat): ∀ u∈ [Value.slice a n c,Value.slice b m d],u.oneCell'=true:=by
 intro u hu;simp only [List.mem_cons,List.not_mem_nil,or_false] at hu;rcases hu with rfl|rfl<;>rfl
end El
end
section
open Go.RowKit Vc Mt St Ld
namespace Ls
theorem oV{P:Nat->Prop}{a b:World}{B:Nat}{t:TypeId}{s:Nat}{v:Value}{n:Nat}{xs:List Value}(h:a.ownsRow B t s v n xs)(k:But P a b)(hx: ∀ g,v.ownBlock=some g-> ¬P g):b.ownsRow B t s v n xs:=by
 obtain⟨h1,h2⟩:=h;refine⟨h1, ?_⟩;rcases h2 with h2|⟨g,cap,cur,rfl,hb,hg,hn,hc,hs,ht⟩
 · exact Or.inl h2
 · refine Or.inr ⟨g,cap,cur,rfl,hb, ?_,hn,hc,hs,ht⟩
   have hlt:g<a.heap.size:=by
    rcases Nat.lt_or_ge g a.heap.size with q|q
    · exact q
    · rw [Array.getElem?_eq_none q] at hg;cases hg
   exact(k.block g hlt (hx g rfl)).trans hg
theorem jo{w w':World}{row:Option Nat}(g:w.grownBy w' row):But (fun b=>row=some b) w w':=
 ⟨g.os,g.tape,g.output,g.size,fun k hk hp=>g.block k hk (fun e=>hp e.symm)⟩
structure Sts(o:Nat)(w:World)(vX vP:Value)(a b m:Nat)(X:Nat->Int)(P:Nat->Nat->Int):Prop where
 x:w.ownsRow o 2 1 vX a (vals a X)
 p: ∃ S,w.ownsRow o 27 1 vP b (aB b S)/\ ∀ j,j<b-> ∃ r c,S j= .slice r m c/\Sl w r m c (P j)/\ ∀ x,r=some x->vP.ownBlock≠some x.block/\vX.ownBlock≠some x.block/\o<=x.block
 ap: ∀ q,vX.ownBlock=some q->vP.ownBlock≠some q
 le:o<=w.heap.size
theorem Sts.nil{o:Nat}{w:World}(h:o<=w.heap.size)(m:Nat)(X:Nat->Int)(P:Nat->Nat->Int):Sts o w (.slice none 0 0) (.slice none 0 0) 0 0 m X P:=
 ⟨World.ownsRow_nil _ _ _ _,⟨fun _=>undef,World.ownsRow_nil _ _ _ _,fun j hj=>by omega⟩,fun q e=>(by cases e),h⟩
theorem Sts.keep{o:Nat}{w w':World}{vX vP:Value}{a b m:Nat}{X:Nat->Int}{P:Nat->Nat->Int}(h:Sts o w vX vP a b m X P)(k:Below w.heap.size w w'):Sts o w' vX vP a b m X P:=by
 obtain⟨S,h1,h2⟩:=h.p;refine⟨jF h.x k,⟨S,jF h1 k,fun j hj=> ?_⟩,h.ap,Nat.le_trans h.le k.size⟩;obtain⟨r,c,e1,e2,e3⟩:=h2 j hj;exact⟨r,c,e1,e2.keep k,e3⟩
theorem Sts.put{o g:Nat}{w w':World}{vX vP:Value}{a b m:Nat}{X:Nat->Int}{P:Nat->Nat->Int}(h:Sts o w vX vP a b m X P)(hg:g<o)(k:But (· =g) w w'):Sts o w' vX vP a b m X P:=by
 obtain⟨S,h1,h2⟩:=h.p;refine⟨oV h.x k (fun q e e2=>by have:=(h.x.lt q e).1;omega),⟨S,oV h1 k (fun q e e2=>by have:=(h1.lt q e).1;omega),fun j hj=> ?_⟩,h.ap,Nat.le_trans h.le k.size⟩;obtain⟨r,c,e1,e2,e3⟩:=h2 j hj;exact⟨r,c,e1,lK e2 k (fun x hx e=>by have:=(e3 x hx).2.2;omega),e3⟩
theorem Sts.sl{o:Nat}{w:World}{vX vP:Value}{a b m:Nat}{X:Nat->Int}{P:Nat->Nat->Int}(h:Sts o w vX vP a b m X P): ∃ ao ca,vX= .slice ao a ca/\Sl w ao a ca X:=
 Own.sl (B:=o) (w0:=w) ⟨h.x,Below.refl _ _,h.le⟩
theorem Vt{w:World}{ao:Option Addr}{n ca:Nat}{z:Nat->Int}(h:Sl w ao n ca z)(hn:0<n): ∀ x,ao=some x->x.block<w.heap.size:=fun x hx=>by
 obtain⟨y,hy,hc⟩:=h.at' 0 hn
 rw [hx] at hy
 cases hy
 have hlt:=World.block_lt_of_cell? w _ hc
 rw [dL] at hlt
 exact hlt
section
variable {ops:Array Oper} {rest:List Oper} {op:Oper} {ac:Act} {Q:Exit->Act->World->Prop} {wr:World}
theorem pushX(hgd:op.guard=none)(s x:Operand)
 (ho:op.op= .call { callee:= .builtin .append,args:= #[s,x],argTypes:= #[27,27] }) (o:Nat) (vX vP:Value) (a b m:Nat) (X:Nat->Int) (P:Nat->Nat->Int) (hs:ac.eval s=vX) (hL:Sts o wr vX vP a b m X P) (hm:0<m) (hl:a<=2000000) (y:Int) (hy:y=X a)
 (hx:ac.eval x= .slice (some ⟨wr.heap.size,0,none⟩) 1 1)
 (h: ∀ v' w',Sts o w' v' vP (a+1) b m X P->But (fun q=>o<=q) wr w'->wpList Tryz.prog ops Q rest (ac.put op.dst v') w'):wpList Tryz.prog ops Q (op::rest) ac (wr.alloc (.cells #[.int .i64 y] 2)):=by
 obtain⟨i0,hi,hz0,hz1,hz2⟩:=info_parts iY;subst hy;refine wpList_append_lies _ hgd s x 27 ho o 2 i0 (.int .i64 0) 1 8 Tryz.underlying27 hi hz0 hz1 hz2 rfl (by decide) vX a (vals a X) hs (hL.x.alloc _) ⟨wr.heap.size,0,none⟩ 1 1 [.int .i64 (X a)] hx rfl (cell_one_new _ _ _) (by intro u hu;simp at hu;subst hu;rfl) om1 (by unfold maxLen;omega) om1 (by have:=hL.le;simp;omega) _ rfl ?_;intro g cap w' o1 o2 o3 o4;rw [mY] at o1;have bb:But (fun q=>vX.ownBlock=some q) wr w':=(jb (af (Below.refl _ wr) _)).trans (jo o2);obtain⟨S,p1,p2⟩:=hL.p
 have hg: ∀ q,q<wr.heap.size->vX.ownBlock≠some q->Value.ownBlock (.slice (some ⟨g,0,none⟩) (a+1) cap)≠some q:=fun q hq e1 e2=>by
  have e3:g=q:=by simpa [Value.ownBlock] using e2
  rcases o3 with o3|o3
  · exact e1 (by rw [o3,e3])
  · simp at o3;omega
 refine h _ w' ⟨o1,⟨S,oV p1 bb (fun q e e2=>hL.ap q e2 e),fun j hj=> ?_⟩,fun q e e2=> ?_,Nat.le_trans hL.le bb.size⟩ (bb.mono fun q e=>(hL.x.lt q e).1)
 · obtain⟨r,c,e1,e2,e3⟩:=p2 j hj;exact⟨r,c,e1,lK e2 bb (fun x hx=>(e3 x hx).2.1),fun x hx=>⟨(e3 x hx).1,hg _ (Vt e2 hm x hx) (e3 x hx).2.1,(e3 x hx).2.2⟩⟩
 · exact hg q (p1.lt q e2).2 (fun e'=>hL.ap q e' e2) e
end
end Ls
end
section
open Go.RowKit Vc Ld
namespace El
theorem QN(g o:Nat)(k:Nat):(⟨g,o,none⟩:Addr).add k=⟨g,o+k,none⟩:=Addr.add_mid g o k
theorem yw{w:World}{g:Nat}{t:TypeId}{cs:Array Value}(h:w.heap[g]?=some (.cells cs t (0,0))){a:Addr}{v:Value}(hc:w.cell? a=some v)(e:a.block=g): ∃ k:Nat,cs[k]?=some v:=by
 subst e;cases hs:a.spot with
 |none=>
  rw [show a=(⟨a.block,a.off,none⟩:Addr) from by cases a;simp_all] at hc;rw [World.cell?] at hc;simp only [h] at hc;exact⟨a.off,hc⟩
 |some q=>
  exfalso;unfold World.cell? at hc;simp [h,hs] at hc
theorem Xt{w:World}{g:Nat}{t:TypeId}{cs:Array Value}(h:w.heap[g]?=some (.cells cs t (0,0)))(hn: ∀ (k:Nat) (z:Int),cs[k]?≠some (.int .i64 z)){ao:Option Addr}{n ca:Nat}{z:Nat->Int}(s:Sl w ao n ca z)(h0:0<n): ∀ x,ao=some x->x.block≠g:=by
 intro x hx e;obtain⟨y,hy,hc⟩:=s.at' 0 h0;rw [hx] at hy;cases hy
 obtain⟨k,hk⟩:=yw h hc (by rw [dL];exact e);exact hn k _ hk
structure nG(w:World)(g:Nat)(t:TypeId)(s n:Nat)(S:Nat->List Value):Prop where
 ex: ∃ cs:Array Value,w.heap[g]?=some (.cells cs t (0,0))/\cs.size=n*s
 at': ∀ k,k<n->(S k).length=s/\w.rangeAt g (k*s) (S k)
section
variable {w w':World} {g:Nat} {t:TypeId} {s n:Nat} {S:Nat->List Value}
theorem nG.lt(h:nG w g t s n S):g<w.heap.size:=by
 obtain⟨cs,h1,_⟩:=h.ex;rcases Nat.lt_or_ge g w.heap.size with k|k
 · exact k
 · rw [Array.getElem?_eq_none k] at h1;cases h1
theorem nG.of(h:nG w g t s n S)(e:w'.heap[g]?=w.heap[g]?):nG w' g t s n S:=by
 obtain⟨cs,h1,h2⟩:=h.ex;refine⟨⟨cs,e.trans h1,h2⟩,fun k hk=>⟨(h.at' k hk).1,fun j v hv=> ?_⟩⟩;have hc:=(h.at' k hk).2 j v hv;rw [World.cell?_of_block (show w'.heap[(⟨g,k*s+j,none⟩:Addr).block]?=_ from e)];exact hc
theorem nG.keep(h:nG w g t s n S)(b:Below w.heap.size w w'):nG w' g t s n S:=h.of (b.block g h.lt)
theorem nG.but{P:Nat->Prop}(h:nG w g t s n S)(b:But P w w')(hn: ¬P g):nG w' g t s n S:=h.of (b.block g h.lt hn)
theorem nG.drew(h:nG w g t s n S):nG w.drew g t s n S:=h.of rfl
theorem nG.drewN(h:nG w g t s n S)(q:Nat):nG (w.drewN q) g t s n S:=h.of rfl
theorem nG.congr{S':Nat->List Value}(h:nG w g t s n S)(e: ∀ k,k<n->S k=S' k):nG w g t s n S':=⟨h.ex,fun k hk=>by rw [← e k hk];exact h.at' k hk⟩
theorem nG.there(h:nG w g t s n S){k:Nat}(hk:k<n):w.there g (k*s) s:=by
 obtain⟨cs,h1,h2⟩:=h.ex;intro j hj
 have hlt:k*s+j<cs.size:=by
  rw [h2];have h3:k*s+s<=n*s:=by rw [← Nat.succ_mul];exact Nat.mul_le_mul_right s hk
  omega
 refine⟨?_,frozen_of_row w g _ _ _ h1⟩;rw [World.cell?];simp [h1,Array.getElem?_eq_getElem hlt]
theorem Fa(w:World)(t:TypeId)(s n:Nat)(S:Nat->List Value)(h: ∀ k,k<n->(S k).length=s):nG (w.alloc (.cells (eu S n).toArray t)) w.heap.size t s n S:=by
 have hc:=St.aH w t (eu S n);refine⟨⟨_,hc,by rw [List.size_toArray,lG h]⟩,fun k hk=>⟨h k hk,fun j v hv=> ?_⟩⟩
 have hj:j<s:=by
  rcases Nat.lt_or_ge j s with q|q
  · exact q
  · rw [List.getElem?_eq_none (by rw [h k hk];exact q)] at hv;cases hv
 exact hc.cell (k:=k*s+j) (by rw [oU h hk hj];exact hv) rfl
theorem vZ(g:Nat)(t:TypeId): ∀ (vs:List Value) (o:Nat) (w:World) (cs:Array Value),w.heap[g]?=some (.cells cs t (0,0))-> ∃ cs':Array Value,(w.setCells g o vs).heap[g]?=some (.cells cs' t (0,0))/\cs'.size=cs.size
 | [],_,_,cs,h=>⟨cs,h,rfl⟩
 |v::vs,o,w,cs,h=>by
  obtain⟨cs',h1,h2⟩:=vZ g t vs (o+1) (w.setCell ⟨g,o,none⟩ v) _ (heap_setCell_same w g o _ _ _ h)
  exact⟨cs',h1,by rw [h2];simp⟩
theorem yx(g:Nat): ∀ (vs:List Value) (o:Nat) (w:World),But (· =g) w (w.setCells g o vs)
 | [],_,w=>But.refl _ _
 |v::vs,o,w=>((But.refl (· =g) w).set (p:=⟨g,o,none⟩) v rfl).trans (yx g vs (o+1) _)
theorem nG.set(h:nG w g t s n S){k:Nat}(hk:k<n){vs:List Value}(hl:vs.length=s):nG (w.setCells g (k*s) vs) g t s n (fun j=>if j=k then vs else S j):=by
 obtain⟨cs,h1,h2⟩:=h.ex;obtain⟨cs',h3,h4⟩:=vZ g t vs (k*s) w cs h1;refine⟨⟨cs',h3,h4.trans h2⟩,fun j hj=> ?_⟩;by_cases e:j=k
 · subst e;simp only [if_pos];exact⟨hl,World.rangeAt_setCells_same w g (j*s) vs (by rw [hl];exact h.there hj)⟩
 · simp only [if_neg e];refine⟨(h.at' j hj).1,World.rangeAt_setCells_apart (h.at' j hj).2 g (k*s) vs (Or.inr ?_)⟩;rw [(h.at' j hj).1,hl];rcases Nat.lt_or_ge j k with c|c
   · left;rw [← Nat.succ_mul];exact Nat.mul_le_mul_right s c
   · right;rw [← Nat.succ_mul];exact Nat.mul_le_mul_right s om1
end
theorem mQ{ops:Array Oper}{rest:List Oper}{o:Oper}{a:Act}{w:World}{Q:Exit->Act->World->Prop}{g s n k:Nat}{S:Nat->List Value}(t:TypeId)(hgd:o.guard=none)(x y:Operand)(ho:o.op= .store t x y)(vs:List Value)
 (hx:a.eval x= .pointer (some ⟨g,k*s,none⟩)) (hy:a.eval y= .agg vs.toArray) (hr:nG w g t s n S) (hk:k<n) (hl:vs.length=s) (hi:(Tryz.prog.info? t).map (·.size)=some s) (h1: ∀ v∈vs,v.oneCell'=true)
 (h: ∀ w',nG w' g t s n (fun j=>if j=k then vs else S j)->But (· =g) w w'->wpList Tryz.prog ops Q rest (a.put o.dst undef) w'):wpList Tryz.prog ops Q (o::rest) a w:=
 wpList_store_mid hgd t x y ho g (k*s) vs.toArray hx hy (by rw [List.size_toArray,hl];exact hr.there hk) (by rw [List.size_toArray,hl];exact hi) (all_oneCell_toArray h1) (h _ (hr.set hk hl) (yx g _ _ _))
end El
end
section
open Go.RowKit Vc Ld
namespace El
theorem QO(w:World)(dT sT ty elem:TypeId)(s g o dLen dCap:Nat)(a:Addr)(sLen sCap m:Nat)(cur:Array Value)(t:TypeId)(cs:List Value)
 (hu:Tryz.prog.underlying dT=some (.slice elem)) (hs:(Tryz.prog.info? elem).map (·.size)=some s)
 (hg:w.heap[g]?=some (.cells cur t (0,0))) (hm:Nat.min sLen dLen=m) (hn:cs.length=m*s)
 (hsrc: ∀ j v,cs[j]?=some v->w.cell? (a.add j)=some v) (hfit:o+cs.length<=cur.size) (h1: ∀ v∈cs,v.oneCell'=true):
 (Builtin.copy_ #[dT,sT] ty #[.slice (some ⟨g,o,none⟩) dLen dCap, .slice (some a) sLen sCap]).run Tryz.prog w=
   .ok (goInt m) (w.setRow g (cur.toList.take o++cs++cur.toList.drop (o+cs.length)).toArray):=by
 have hl:=run_loadCells_list (P:=Tryz.prog) w a cs hsrc;have hst:=run_storeCells_at Tryz.prog g o t cs 0 cur w hg (by simpa using hfit) h1;rw [hn] at hl;cases hq:Tryz.prog.info? elem with
 |none=>simp [hq] at hs
 |some i=>
  have hi:i.size=s:=by simpa [hq] using hs
  simp [Builtin.copy_,run_underlying hu,Builtin.lenOf,Builtin.firstCells,sizeOf,typeInfo,hq,hi,hm,hl,hst]
theorem Vu{w:World}{g o s n m:Nat}{t:TypeId}{S T:Nat->List Value}{cur:Array Value}(h:nG w g t s n S)(hc:w.heap[g]?=some (.cells cur t (0,0)))(hz:cur.size=n*s)(hT: ∀ k,k<m->(T k).length=s)(hom:o+m<=n)(w':World)
 (hw:w'.heap[g]?=some (.cells (cur.toList.take (o*s)++eu T m++cur.toList.drop (o*s+m*s)).toArray t (0,0))):nG w' g t s n (fun j=>if j<o then S j else if j<o+m then T (j- o) else S j):=by
 have hl:=lG (n:=m) hT;have h1:o*s+m*s<=n*s:=by rw [← Nat.add_mul];exact Nat.mul_le_mul_right s hom
 have ht:(cur.toList.take (o*s)).length=o*s:=by rw [List.length_take,Array.length_toList,hz];omega
 refine⟨⟨_,hw, ?_⟩,fun j hj=> ?_⟩
 ·rw [List.size_toArray,List.length_append,List.length_append,ht,hl,List.length_drop,Array.length_toList,hz];omega
 ·have cell: ∀ i,w'.cell? ⟨g,i,none⟩=(cur.toList.take (o*s)++eu T m++cur.toList.drop (o*s+m*s))[i]?:=fun i=>by
   rw [cell_of_row w' g i _ _ _ hw,List.getElem?_toArray]
  have old: ∀ i,w.cell? ⟨g,i,none⟩=cur.toList[i]?:=fun i=>by rw [cell_of_row w g i _ _ _ hc,Array.getElem?_toList]
  show(if j<o then S j else if j<o+m then T (j- o) else S j).length=s/\w'.rangeAt g (j*s) (if j<o then S j else if j<o+m then T (j- o) else S j);by_cases c1:j<o
  ·rw [if_pos c1];refine⟨(h.at' j hj).1,fun i v hv=> ?_⟩
   have hi:i<s:=by
    rcases Nat.lt_or_ge i s with q|q
    ·exact q
    ·rw [List.getElem?_eq_none (by rw [(h.at' j hj).1];exact q)] at hv;cases hv
   have hlt:j*s+i<o*s:=by
    have:=Nat.mul_le_mul_right s (show j+1<=o by omega);rw [Nat.succ_mul] at this;omega
   rw [cell,List.append_assoc,List.getElem?_append_left om1,List.getElem?_take_of_lt hlt,← old];exact(h.at' j hj).2 i v hv
  ·rw [if_neg c1];by_cases c2:j<o+m
   ·rw [if_pos c2];refine⟨hT _ om1,fun i v hv=> ?_⟩
    have hi:i<s:=by
     rcases Nat.lt_or_ge i s with q|q
     ·exact q
     ·rw [List.getElem?_eq_none (by rw [hT _ om1];exact q)] at hv;cases hv
    obtain⟨d,rfl⟩: ∃ d,j=o+d:=⟨j- o,om1⟩;rw [show o+d- o=d by omega] at hv
    have hd:d*s+i<m*s:=by
     have:=Nat.mul_le_mul_right s (show d+1<=m by omega);rw [Nat.succ_mul] at this;omega
    rw [cell,List.append_assoc,List.getElem?_append_right (by rw [ht,Nat.add_mul];omega),ht,Nat.add_mul,show o*s+d*s+i- o*s=d*s+i by omega,List.getElem?_append_left om1,oU hT om1 hi];exact hv
   ·rw [if_neg c2];refine⟨(h.at' j hj).1,fun i v hv=> ?_⟩;have hge:o*s+m*s<=j*s:=by rw [← Nat.add_mul];exact Nat.mul_le_mul_right s om1
    rw [cell,List.getElem?_append_right (by rw [List.length_append,ht,hl];omega),List.length_append,ht,hl,List.getElem?_drop,show o*s+m*s+(j*s+i- (o*s+m*s))=j*s+i by omega,← old];exact(h.at' j hj).2 i v hv
theorem copied{w:World}{g o s n m:Nat}{t:TypeId}{S T:Nat->List Value}(h:nG w g t s n S)(hT: ∀ k,k<m->(T k).length=s/\ ∀ v∈T k,v.oneCell'=true)(hom:o+m<=n)(dT sT ty elem:TypeId)(dLen dCap:Nat)(a:Addr)(sLen sCap:Nat)
 (hu:Tryz.prog.underlying dT=some (.slice elem)) (hs:(Tryz.prog.info? elem).map (·.size)=some s) (hm:Nat.min sLen dLen=m)
 (hsrc: ∀ j v,(eu T m)[j]?=some v->w.cell? (a.add j)=some v):
 ∃ w',(Builtin.copy_ #[dT,sT] ty #[.slice (some ⟨g,o*s,none⟩) dLen dCap, .slice (some a) sLen sCap]).run Tryz.prog w= .ok (goInt m) w'/\nG w' g t s n (fun j=>if j<o then S j else if j<o+m then T (j- o) else S j)/\But (· =g) w w':=by
 obtain⟨cur,hc,hz⟩:=h.ex;have hl:=lG (n:=m) fun k hk=>(hT k hk).1;have h1:o*s+m*s<=n*s:=by rw [← Nat.add_mul];exact Nat.mul_le_mul_right s hom
 have hone: ∀ m',m'<=m-> ∀ v∈eu T m',v.oneCell'=true:=by
  intro m';induction m' with
  |zero=>intro _ v hv;cases hv
  |succ k ih=>
   intro hk v hv;rcases List.mem_append.1 hv with q|q
   · exact ih om1 v q
   · exact(hT k om1).2 v q
 have hr:=QO w dT sT ty elem s g (o*s) dLen dCap a sLen sCap m cur t (eu T m) hu hs hc hm hl hsrc (by rw [hl,hz];exact h1) (hone m (Nat.le_refl _));refine⟨_,hr, ?_, ?_⟩
 · refine Vu h hc hz (fun k hk=>(hT k hk).1) hom _ ?_;rw [setRow_heap w g cur _ t (0,0) hc,hl]
 · exact⟨rfl,rfl,rfl,by simp [World.setRow],fun k _ hk=>setRow_other w g k _ hk⟩
theorem GX{w:World}{ops:Array Oper}{rest:List Oper}{oo:Oper}{a:Act}{Q:Exit->Act->World->Prop}{g o s n m:Nat}{t:TypeId}{S T:Nat->List Value}(hgd:oo.guard=none)(d x:Operand)(dT sT:TypeId)
 (ho:oo.op= .call { callee:= .builtin .copy,args:= #[d,x],argTypes:= #[dT,sT] }) (dLen dCap:Nat) (ad:Addr) (sLen sCap:Nat) (hd:a.eval d= .slice (some ⟨g,o*s,none⟩) dLen dCap) (hx:a.eval x= .slice (some ad) sLen sCap)
 (elem:TypeId) (hu:Tryz.prog.underlying dT=some (.slice elem)) (hs:(Tryz.prog.info? elem).map (·.size)=some s) (hr:nG w g t s n S) (hT: ∀ k,k<m->(T k).length=s/\ ∀ v∈T k,v.oneCell'=true) (hom:o+m<=n) (hm:Nat.min sLen dLen=m)
 (hsrc: ∀ j v,(eu T m)[j]?=some v->w.cell? (ad.add j)=some v)
 (h: ∀ w',nG w' g t s n (fun j=>if j<o then S j else if j<o+m then T (j- o) else S j)->But (· =g) w w'->wpList Tryz.prog ops Q rest (a.put oo.dst (.int .i64 (m:Int))) w'):wpList Tryz.prog ops Q (oo::rest) a w:=by
 refine wpList_plain hgd fun K hK=> ?_;obtain⟨w',hrun,q1,q2⟩:=copied hr hT hom dT sT oo.type elem dLen dCap ad sLen sCap hu hs hm hsrc;unfold Oper.wp;simp [execOp,ho,resolve,invoke,builtin,hd,hx,hrun,Result.andThen];exact hK _ _ (h w' q1 q2)
theorem NV{w:World}{ops:Array Oper}{oo:Oper}{a:Act}{K:Act->World->Prop}{Q:Exit->Act->World->Prop}{E:Prop}{g o s n m:Nat}{t:TypeId}{S T:Nat->List Value}(hgd:oo.guard=none)(d x:Operand)(dT sT:TypeId)
 (ho:oo.op= .call { callee:= .builtin .copy,args:= #[d,x],argTypes:= #[dT,sT] }) (dLen dCap:Nat) (ad:Addr) (sLen sCap:Nat) (hd:a.eval d= .slice (some ⟨g,o*s,none⟩) dLen dCap) (hx:a.eval x= .slice (some ad) sLen sCap)
 (elem:TypeId) (hu:Tryz.prog.underlying dT=some (.slice elem)) (hs:(Tryz.prog.info? elem).map (·.size)=some s) (hr:nG w g t s n S) (hT: ∀ k,k<m->(T k).length=s/\ ∀ v∈T k,v.oneCell'=true) (hom:o+m<=n) (hm:Nat.min sLen dLen=m)
 (hsrc: ∀ j v,(eu T m)[j]?=some v->w.cell? (ad.add j)=some v)
 (h: ∀ w',nG w' g t s n (fun j=>if j<o then S j else if j<o+m then T (j- o) else S j)->But (· =g) w w'->K (a.put oo.dst (.int .i64 (m:Int))) w'):
 if Region.wanted oo (yielded ops a.tmps)=true then Oper.wp Tryz.prog oo a w K Q else E:=by
 have hw:Region.wanted oo (yielded ops a.tmps)=true:=by simp [Region.wanted,hgd]
 rw [if_pos hw];obtain⟨w',hrun,q1,q2⟩:=copied hr hT hom dT sT oo.type elem dLen dCap ad sLen sCap hu hs hm hsrc;unfold Oper.wp;simp [execOp,ho,resolve,invoke,builtin,hd,hx,hrun,Result.andThen];exact h w' q1 q2
theorem Vw{w:World}{g s n m:Nat}{t:TypeId}{S T:Nat->List Value}(h:nG w g t s n S)(hm:m<=n)(hS: ∀ i,i<m->S i=T i)(hT: ∀ k,k<m->(T k).length=s)(hs:0<s): ∀ j v,(eu T m)[j]?=some v->w.cell? ((⟨g,0,none⟩:Addr).add j)=some v:=by
 intro j v hv
 have hj:j<m*s:=by
  rcases Nat.lt_or_ge j (m*s) with q|q
  · exact q
  · rw [List.getElem?_eq_none (by rw [lG hT];exact q)] at hv;cases hv
 have hd:j/s<m:=Nat.div_lt_of_lt_mul (by rw [Nat.mul_comm];exact hj);obtain⟨a,ha⟩: ∃ a,a=j/s:=⟨_,rfl⟩;obtain⟨b,hb⟩: ∃ b,b=j%s:=⟨_,rfl⟩;have hbs:b<s:=by rw [hb];exact Nat.mod_lt _ hs
 have e:j=a*s+b:=by rw [ha,hb,Nat.mul_comm];exact(Nat.div_add_mod j s).symm
 rw [← ha] at hd;subst e;rw [oU hT hd hbs] at hv;rw [QN,Nat.zero_add];exact(h.at' a om1).2 b v (by rw [hS _ hd];exact hv)
end El
end
section
open Go.RowKit Vc Ld
namespace El
abbrev Vx(o:Nat)(v u:Value):Nat->Prop:=fun q=>q<o\/v.ownBlock=some q\/u.ownBlock=some q
structure Lsn(t:TypeId)(s o:Nat)(w:World)(v:Value)(n:Nat)(R:Nat->List Value->World->Prop)(u:Value)(m:Nat)(z:Nat->Int):Prop where
 row: ∃ S:Nat->List Value,w.ownsRow o t s v n (eu S n)/\ ∀ k,k<n->(S k).length=s/\ ∀ W,Rest (Vx o v u) w W->R k (S k) W
 num:w.ownsRow o 2 1 u m (vals m z)
 ap: ∀ q,v.ownBlock=some q->u.ownBlock≠some q
 le:o<=w.heap.size
theorem Rest.but{P Q:Nat->Prop}{a b W:World}(k:But Q a b)(hQ: ∀ q,q<a.heap.size->Q q->P q)(h:Rest P b W):Rest P a W:=fun i hi hn=>(h i (Nat.lt_of_lt_of_le hi k.size) hn).trans (k.block i hi (fun q=>hn (hQ i hi q)))
section
variable {t:TypeId} {s o:Nat} {w w':World} {v u:Value} {n m:Nat} {R:Nat->List Value->World->Prop} {z:Nat->Int}
theorem Lsn.nil(h:o<=w.heap.size)(t:TypeId)(s:Nat)(R:Nat->List Value->World->Prop)(z:Nat->Int):Lsn t s o w (.slice none 0 0) 0 R (.slice none 0 0) 0 z:=
 ⟨⟨fun _=> [],World.ownsRow_nil _ _ _ _,fun j hj=>by omega⟩,World.ownsRow_nil _ _ _ _,fun q e=>(by cases e),h⟩
theorem Lsn.but{P:Nat->Prop}(h:Lsn t s o w v n R u m z)(k:But P w w')(hP: ∀ q,q<w.heap.size->P q->q<o):Lsn t s o w' v n R u m z:=by
 obtain⟨S,h1,h2⟩:=h.row
 exact⟨⟨S,Ls.oV h1 k (fun g e p=>by have a:=h1.lt g e;have b:=hP g a.2 p;omega),fun j hj=>⟨(h2 j hj).1,fun W r=>(h2 j hj).2 W (Rest.but k (fun q hq p=>Or.inl (hP q hq p)) r)⟩⟩,
  Ls.oV h.num k (fun g e p=>by have a:=h.num.lt g e;have b:=hP g a.2 p;omega),h.ap,Nat.le_trans h.le k.size⟩
theorem Lsn.keep(h:Lsn t s o w v n R u m z)(b:Below w.heap.size w w'):Lsn t s o w' v n R u m z:=h.but (jb (P:=fun _=>False) b) (fun q _ e=>e.elim)
theorem Lsn.put{g:Nat}(h:Lsn t s o w v n R u m z)(hg:g<o)(k:But (· =g) w w'):Lsn t s o w' v n R u m z:=h.but k (fun q _ e=>by omega)
theorem Lsn.els(h:Lsn t s o w v n R u m z):Els t s o w w v n R:=by
 obtain⟨S,h1,h2⟩:=h.row;exact⟨⟨S,h1,fun k hk=>⟨(h2 k hk).1,fun W r=>(h2 k hk).2 W (r.mono fun q e=>Or.inr (Or.inl e))⟩⟩,Below.refl _ _,h.le⟩
theorem Lsn.sl(h:Lsn t s o w v n R u m z): ∃ ao ca,u= .slice ao m ca/\Sl w ao m ca z:=Own.sl (B:=o) (w0:=w) ⟨h.num,Below.refl _ _,h.le⟩
theorem Lsn.form(h:Lsn t s o w v n R u m z): ∃ ao ca,v= .slice ao n ca/\n<=ca/\ca<=9223372036854775807:=h.els.form
theorem Lsn.free(h:Lsn t s o w v n R u m z){K:World->Prop}(f:Free w.heap.size w' K){W:World}(r:Rest (Vx o v u) w' W):K W:=
 f W (r.mono fun q e=>by
   have hl:=h.le
   obtain⟨S,h1,_⟩:=h.row
   rcases e with e|e|e
   · omega
   · exact(h1.lt q e).2
   · exact(h.num.lt q e).2)
end
theorem Xu{p:Prop}(h:p:=by
 intro g cap w' o1 o2 o3 o4;have bb:But (fun q=>v.ownBlock=some q) wr w':=(jb (af (Below.refl _ wr) _)).trans (Ls.jo o2)
 have o3':v.ownBlock=some g\/wr.heap.size<=g:=by
  rcases o3 with o3|o3
  · exact Or.inl o3
  · right;simp at o3;omega
 have e0:eu S n++cs=eu (fun k=>if k<n then S k else cs) (n+1):=by
  exact QM
 rw [e0] at o1
 have key: ∀ W,Rest (Vx o (.slice (some ⟨g,0,none⟩) (n+1) cap) u) w' W->Rest (Vx o v u) wr W:=fun W r b hbl hne=>by
  have hg:g≠b:=fun e=>by
   rcases o3' with o3|o3
   · exact hne (Or.inr (Or.inl (by rw [o3,e])))
   · omega
  exact(r b (Nat.lt_of_lt_of_le hbl bb.size) (fun e=>by
   rcases e with e|e|e
   · exact hne (Or.inl e)
   · exact hg (by simpa [Value.ownBlock] using e)
   · exact hne (Or.inr (Or.inr e)))).trans (bb.block b hbl (fun e=>hne (Or.inr (Or.inl e))))
 refine h _ w' ⟨⟨_,o1,fun k hk=> ?_⟩,Ls.oV hE.num bb (fun q e e2=>hE.ap q e2 e),fun q e e2=> ?_,Nat.le_trans hb bb.size⟩ (bb.mono fun q e=>(r1.lt q e).1)
 · by_cases hkn:k<n
   · simp only [if_pos hkn];exact⟨(r2 k hkn).1,fun W r=>(r2 k hkn).2 W (key W r)⟩
   · obtain rfl:k=n:=om1;simp only [if_neg hkn];exact⟨hcs,fun W r=>hR W (key W r)⟩
 · have e3:g=q:=by simpa [Value.ownBlock] using e
   have hq:=(hE.num.lt q e2).2;rcases o3' with o3|o3
   · exact hE.ap q (by rw [o3,e3]) e2
   · omega):p:=h
theorem pushV{ops:Array Oper}{rest:List Oper}{op:Oper}{a:Act}{Q:Exit->Act->World->Prop}{wr:World}(hgd:op.guard=none)(x y:Operand)(T t:TypeId)(s by':Nat)(z0:Value)
 (ho:op.op= .call { callee:= .builtin .append,args:= #[x,y],argTypes:= #[T,T] }) (hT:Tryz.prog.underlying T=some (.slice t)) (hinfo:(Tryz.prog.info? t).map (fun i=>(i.zero,i.size,i.bytes))=some (some z0,s,by')) (hzs:z0.cells.size=s) (hs0:0<s) (hby:by'<=1000)
 (o:Nat) (v u:Value) (n m:Nat) (z:Nat->Int) (R:Nat->List Value->World->Prop) (hs:a.eval x=v) (hE:Lsn t s o wr v n R u m z) (hl:n<=2000000)
 (cs:List Value) (hcs:cs.length=s) (h1: ∀ u∈cs,u.oneCell'=true) (hR: ∀ W,Rest (Vx o v u) wr W->R n cs W) (hx:a.eval y= .slice (some ⟨wr.heap.size,0,none⟩) 1 1)
 (h: ∀ v' w',Lsn t s o w' v' (n+1) R u m z->But (fun q=>o<=q) wr w'->wpList Tryz.prog ops Q rest (a.put op.dst v') w'):wpList Tryz.prog ops Q (op::rest) a (wr.alloc (.cells cs.toArray t)):=by
 obtain⟨i0,hi,hz0,hz1,hz2⟩:=info_parts hinfo;obtain⟨S,r1,r2⟩:=hE.row;have hb:=hE.le;have hp:(wr.alloc (.cells cs.toArray t)).heap[wr.heap.size]?=some (.cells cs.toArray t (0,0)):=St.aH wr t cs;refine wpList_append_lies _ hgd x y T ho o t i0 z0 s by' hT hi hz0 hz1 hz2 hzs hs0 v n (eu S n) hs (r1.alloc _) ⟨wr.heap.size,0,none⟩ 1 1 cs hx (by rw [hcs,Nat.one_mul]) (World.news_of_block hp) h1 om1 (by unfold maxLen;omega) (Nat.le_trans (Nat.mul_le_mul (Nat.le_refl _) hby) om1) (by simp;omega) _ rfl ?_;exact Xu
theorem stepV{ops:Array Oper}{op:Oper}{a:Act}{F:Act->World->Prop}{Q:Exit->Act->World->Prop}{E:Prop}{wr:World}(hgd:op.guard=none)(x y:Operand)(T t:TypeId)(s by':Nat)(z0:Value)
 (ho:op.op= .call { callee:= .builtin .append,args:= #[x,y],argTypes:= #[T,T] }) (hT:Tryz.prog.underlying T=some (.slice t)) (hinfo:(Tryz.prog.info? t).map (fun i=>(i.zero,i.size,i.bytes))=some (some z0,s,by')) (hzs:z0.cells.size=s) (hs0:0<s) (hby:by'<=1000)
 (o:Nat) (v u:Value) (n m:Nat) (z:Nat->Int) (R:Nat->List Value->World->Prop) (hs:a.eval x=v) (hE:Lsn t s o wr v n R u m z) (hl:n<=2000000)
 (cs:List Value) (hcs:cs.length=s) (h1: ∀ u∈cs,u.oneCell'=true) (hR: ∀ W,Rest (Vx o v u) wr W->R n cs W) (hx:a.eval y= .slice (some ⟨wr.heap.size,0,none⟩) 1 1)
 (h: ∀ v' w',Lsn t s o w' v' (n+1) R u m z->But (fun q=>o<=q) wr w'->F (a.put op.dst v') w'):if Region.wanted op (yielded ops a.tmps)=true then Oper.wp Tryz.prog op a (wr.alloc (.cells cs.toArray t)) F Q else E:=by
 obtain⟨i0,hi,hz0,hz1,hz2⟩:=info_parts hinfo;obtain⟨S,r1,r2⟩:=hE.row;have hb:=hE.le;have hp:(wr.alloc (.cells cs.toArray t)).heap[wr.heap.size]?=some (.cells cs.toArray t (0,0)):=St.aH wr t cs;refine step_append_lies _ hgd x y T ho o t i0 z0 s by' hT hi hz0 hz1 hz2 hzs hs0 v n (eu S n) hs (r1.alloc _) ⟨wr.heap.size,0,none⟩ 1 1 cs hx (by rw [hcs,Nat.one_mul]) (World.news_of_block hp) h1 om1 (by unfold maxLen;omega) (Nat.le_trans (Nat.mul_le_mul (Nat.le_refl _) hby) om1) (by simp;omega) _ rfl ?_;exact Xu
theorem pushU{ops:Array Oper}{rest:List Oper}{op:Oper}{a:Act}{Q:Exit->Act->World->Prop}{wr:World}{t:TypeId}{s:Nat}(hgd:op.guard=none)(x y:Operand)
 (ho:op.op= .call { callee:= .builtin .append,args:= #[x,y],argTypes:= #[27,27] })
 (o:Nat) (v u:Value) (n m:Nat) (z:Nat->Int) (R:Nat->List Value->World->Prop) (hs:a.eval x=u) (hE:Lsn t s o wr v n R u m z) (hl:m<=2000000) (f:Int) (hf:f=z m)
 (hx:a.eval y= .slice (some ⟨wr.heap.size,0,none⟩) 1 1)
 (h: ∀ u' w',Lsn t s o w' v n R u' (m+1) z->But (fun q=>o<=q) wr w'->wpList Tryz.prog ops Q rest (a.put op.dst u') w'):wpList Tryz.prog ops Q (op::rest) a (wr.alloc (.cells #[.int .i64 f] 2)):=by
 obtain⟨i0,hi,hz0,hz1,hz2⟩:=info_parts iY;subst hf;refine wpList_append_lies _ hgd x y 27 ho o 2 i0 (.int .i64 0) 1 8 Tryz.underlying27 hi hz0 hz1 hz2 rfl (by decide) u m (vals m z) hs (hE.num.alloc _) ⟨wr.heap.size,0,none⟩ 1 1 [.int .i64 (z m)] hx rfl (cell_one_new _ _ _) (by intro u hu;simp at hu;subst hu;rfl) om1 (by unfold maxLen;omega) om1 (by have:=hE.le;simp;omega) _ rfl ?_;intro g cap w' o1 o2 o3 o4;rw [mY] at o1;have bb:But (fun q=>u.ownBlock=some q) wr w':=(jb (af (Below.refl _ wr) _)).trans (Ls.jo o2)
 have o3':u.ownBlock=some g\/wr.heap.size<=g:=by
  rcases o3 with o3|o3
  · exact Or.inl o3
  · right;simp at o3;omega
 obtain⟨S,r1,r2⟩:=hE.row
 have key: ∀ W,Rest (Vx o v (.slice (some ⟨g,0,none⟩) (m+1) cap)) w' W->Rest (Vx o v u) wr W:=fun W r b hbl hne=>by
  have hg:g≠b:=fun e=>by
   rcases o3' with o3|o3
   · exact hne (Or.inr (Or.inr (by rw [o3,e])))
   · omega
  exact(r b (Nat.lt_of_lt_of_le hbl bb.size) (fun e=>by
   rcases e with e|e|e
   · exact hne (Or.inl e)
   · exact hne (Or.inr (Or.inl e))
   · exact hg (by simpa [Value.ownBlock] using e))).trans (bb.block b hbl (fun e=>hne (Or.inr (Or.inr e))))
 refine h _ w' ⟨⟨S,Ls.oV r1 bb (fun q e e2=>hE.ap q e e2),fun k hk=>⟨(r2 k hk).1,fun W r=>(r2 k hk).2 W (key W r)⟩⟩,o1,fun q e e2=> ?_,Nat.le_trans hE.le bb.size⟩ (bb.mono fun q e=>(hE.num.lt q e).1);have e3:g=q:=by simpa [Value.ownBlock] using e2
 have hq:=(r1.lt q e).2;rcases o3' with o3|o3
 · exact hE.ap q e (by rw [o3,e3])
 · omega
end El
end
section
open Go.RowKit Vc Mt St Ld
namespace Ls
structure Tws(o:Nat)(w:World)(vK vB:Value)(nk nb mk mb:Nat)(K B:Nat->Nat->Int):Prop where
 k: ∃ S,w.ownsRow o 27 1 vK nk (aB nk S)/\ ∀ j,j<nk-> ∃ r c,S j= .slice r mk c/\Sl w r mk c (K j)/\ ∀ x,r=some x->vK.ownBlock≠some x.block/\vB.ownBlock≠some x.block/\o<=x.block
 b: ∃ S,w.ownsRow o 27 1 vB nb (aB nb S)/\ ∀ j,j<nb-> ∃ r c,S j= .slice r mb c/\Sl w r mb c (B j)/\ ∀ x,r=some x->vK.ownBlock≠some x.block/\vB.ownBlock≠some x.block/\o<=x.block
 ap: ∀ q,vK.ownBlock=some q->vB.ownBlock≠some q
 le:o<=w.heap.size
theorem Tws.nil{o:Nat}{w:World}(h:o<=w.heap.size)(mk mb:Nat)(K B:Nat->Nat->Int):Tws o w (.slice none 0 0) (.slice none 0 0) 0 0 mk mb K B:=
 ⟨⟨fun _=>undef,World.ownsRow_nil _ _ _ _,fun j hj=>by omega⟩,⟨fun _=>undef,World.ownsRow_nil _ _ _ _,fun j hj=>by omega⟩,fun q e=>(by cases e),h⟩
theorem Tws.swap{o:Nat}{w:World}{vK vB:Value}{nk nb mk mb:Nat}{K B:Nat->Nat->Int}(h:Tws o w vK vB nk nb mk mb K B):Tws o w vB vK nb nk mb mk B K:=by
 obtain⟨S,k1,k2⟩:=h.k;obtain⟨T,b1,b2⟩:=h.b;refine⟨⟨T,b1,fun j hj=> ?_⟩,⟨S,k1,fun j hj=> ?_⟩,fun q e e2=>h.ap q e2 e,h.le⟩
 · obtain⟨r,c,e1,e2,e3⟩:=b2 j hj;exact⟨r,c,e1,e2,fun x hx=>⟨(e3 x hx).2.1,(e3 x hx).1,(e3 x hx).2.2⟩⟩
 · obtain⟨r,c,e1,e2,e3⟩:=k2 j hj;exact⟨r,c,e1,e2,fun x hx=>⟨(e3 x hx).2.1,(e3 x hx).1,(e3 x hx).2.2⟩⟩
theorem Tws.keep{o:Nat}{w w':World}{vK vB:Value}{nk nb mk mb:Nat}{K B:Nat->Nat->Int}(h:Tws o w vK vB nk nb mk mb K B)(kk:Below w.heap.size w w'):Tws o w' vK vB nk nb mk mb K B:=by
 obtain⟨S,k1,k2⟩:=h.k;obtain⟨T,b1,b2⟩:=h.b;refine⟨⟨S,jF k1 kk,fun j hj=> ?_⟩,⟨T,jF b1 kk,fun j hj=> ?_⟩,h.ap,Nat.le_trans h.le kk.size⟩
 · obtain⟨r,c,e1,e2,e3⟩:=k2 j hj;exact⟨r,c,e1,e2.keep kk,e3⟩
 · obtain⟨r,c,e1,e2,e3⟩:=b2 j hj;exact⟨r,c,e1,e2.keep kk,e3⟩
theorem Tws.gridK{o:Nat}{w:World}{vK vB:Value}{nk nb mk mb:Nat}{K B:Nat->Nat->Int}(h:Tws o w vK vB nk nb mk mb K B): ∃ lo cm,vK= .slice lo nk cm/\Grid w lo nk cm mk K:=by
 obtain⟨S,h1,h2⟩:=h.k;have hL:Lst o w w vK nk mk K:=⟨⟨S,h1,fun k hk=>by obtain⟨r,c,e1,e2,e3⟩:=h2 k hk;exact⟨r,c,e1,e2,fun x hx=>(e3 x hx).1⟩⟩,Below.refl _ _,h.le⟩;exact hL.grid
theorem Tws.gridB{o:Nat}{w:World}{vK vB:Value}{nk nb mk mb:Nat}{K B:Nat->Nat->Int}(h:Tws o w vK vB nk nb mk mb K B): ∃ lo cm,vB= .slice lo nb cm/\Grid w lo nb cm mb B:=h.swap.gridK
theorem Tws.apart{o:Nat}{w:World}{vK vB:Value}{nk nb mk mb:Nat}{K B:Nat->Nat->Int}(h:Tws o w vK vB nk nb mk mb K B){ra:Option Addr}(hf:vV w.heap.size ra): ∀ x,ra=some x->vK.ownBlock≠some x.block/\vB.ownBlock≠some x.block/\o<=x.block:=by
 intro x hx;have h3:=hf x hx;have h4:=h.le;obtain⟨S,k1,_⟩:=h.k;obtain⟨T,b1,_⟩:=h.b;exact⟨fun e=>by have:=(k1.lt _ e).2;omega,fun e=>by have:=(b1.lt _ e).2;omega,om1⟩
section
variable {ops:Array Oper} {rest:List Oper} {op:Oper} {ac:Act} {Q:Exit->Act->World->Prop} {wr:World}
theorem pushK(hgd:op.guard=none)(s x:Operand)
 (ho:op.op= .call { callee:= .builtin .append,args:= #[s,x],argTypes:= #[23,23] }) (o:Nat) (vK vB:Value) (nk nb mk mb:Nat) (K B:Nat->Nat->Int) (hs:ac.eval s=vK) (hL:Tws o wr vK vB nk nb mk mb K B) (hk:0<mk) (hb:0<mb) (hl:nk<=2000000)
 (ra:Option Addr) (rc:Nat) (hr:Sl wr ra mk rc (K nk)) (hra: ∀ x,ra=some x->vK.ownBlock≠some x.block/\vB.ownBlock≠some x.block/\o<=x.block)
 (hx:ac.eval x= .slice (some ⟨wr.heap.size,0,none⟩) 1 1)
 (h: ∀ v' w',Tws o w' v' vB (nk+1) nb mk mb K B->But (fun q=>o<=q) wr w'->Sl w' ra mk rc (K nk)->wpList Tryz.prog ops Q rest (ac.put op.dst v') w'):wpList Tryz.prog ops Q (op::rest) ac (wr.alloc (.cells #[.slice ra mk rc] 27)):=by
 obtain⟨i0,hi,hz0,hz1,hz2⟩:=info_parts Ba;obtain⟨S,p1,p2⟩:=hL.k;obtain⟨T,q1,q2⟩:=hL.b;refine wpList_append_lies _ hgd s x 23 ho o 27 i0 (.slice none 0 0) 1 24 Tryz.underlying23 hi hz0 hz1 hz2 rfl (by decide) vK nk (aB nk S) hs (p1.alloc _) ⟨wr.heap.size,0,none⟩ 1 1 [.slice ra mk rc] hx rfl (cell_one_new _ _ _) (by intro u hu;simp at hu;subst hu;rfl) om1 (by unfold maxLen;omega) om1 (by have:=hL.le;simp;omega) _ rfl ?_;intro g cap w' o1 o2 o3 o4;rw [oQ] at o1;have bb:But (fun q=>vK.ownBlock=some q) wr w':=(jb (af (Below.refl _ wr) _)).trans (jo o2)
 have hg: ∀ q,q<wr.heap.size->vK.ownBlock≠some q->Value.ownBlock (.slice (some ⟨g,0,none⟩) (nk+1) cap)≠some q:=fun q hq e1 e2=>by
  have e3:g=q:=by simpa [Value.ownBlock] using e2
  rcases o3 with o3|o3
  ·exact e1 (by rw [o3,e3])
  ·simp at o3;omega
 have key: ∀ {m:Nat} {r:Option Addr} {c:Nat} {z:Nat->Int},0<m->Sl wr r m c z->(∀ x,r=some x->vK.ownBlock≠some x.block/\vB.ownBlock≠some x.block/\o<=x.block)->Sl w' r m c z/\ ∀ x,r=some x->Value.ownBlock (.slice (some ⟨g,0,none⟩) (nk+1) cap)≠some x.block/\vB.ownBlock≠some x.block/\o<=x.block:=fun hm hs hx=>
  ⟨lK hs bb (fun x e=>(hx x e).1),fun x e=>⟨hg _ (Vt hs hm x e) (hx x e).1,(hx x e).2.1,(hx x e).2.2⟩⟩
 refine h _ w' ⟨⟨_,o1,fun j hj=> ?_⟩,⟨T,oV q1 bb (fun q e e2=>hL.ap q e2 e),fun j hj=> ?_⟩,fun q e e2=>hg q (q1.lt q e2).2 (fun e'=>hL.ap q e' e2) e,Nat.le_trans hL.le bb.size⟩ (bb.mono fun q e=>(p1.lt q e).1) (key hk hr hra).1
 ·by_cases hjb:j<nk
  ·obtain⟨r,c,e1,e2,e3⟩:=p2 j hjb;obtain⟨e4,e5⟩:=key hk e2 e3;exact⟨r,c,by simp only [if_pos hjb];exact e1,e4,e5⟩
  ·obtain rfl:j=nk:=om1;obtain⟨e4,e5⟩:=key hk hr hra;exact⟨ra,rc,by simp only [if_neg hjb],e4,e5⟩
 ·obtain⟨r,c,e1,e2,e3⟩:=q2 j hj;obtain⟨e4,e5⟩:=key hb e2 e3;exact⟨r,c,e1,e4,e5⟩
end
end Ls
end
end Go.Proofs.YtcefcokpjbebhaaGreatDoor
