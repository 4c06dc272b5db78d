/-
  Lists of numbers of any size: read, and of the call's own, appended to.
-/
import Derived.Test.YtcefcokpjbebhaaGreatDoorM3
import Derived.Test.YtcefcokpjbebhaaGreatDoorRegU
import Derived.Test.YtcefcokpjbebhaaGreatDoorM8
set_option linter.unusedSimpArgs false
set_option linter.unusedVariables false
namespace Go.Proofs.YtcefcokpjbebhaaGreatDoor
section
open Go.RowKit Dec Nv Vc St Ld
namespace Nu
def iE(a:Nat->Int)(S:Nat->Value):Nat->List Value
 |0=> []
 |k+1=>iE a S k++ [.bool (decide (a k<0)),S k]
theorem gJ(a:Nat->Int)(S:Nat->Value): ∀ n,(iE a S n).length=n*2
 |0=>rfl
 |n+1=>by show(iE a S n++ [_,_]).length=_;rw [List.length_append,gJ a S n];show n*2+2=(n+1)*2;omega
theorem MK{a:Nat->Int}{S:Nat->Value}: ∀ {n k:Nat},k<n->(iE a S n)[k*2]?=some (.bool (decide (a k<0)))
 |n+1,k,h=>by
  show(iE a S n++ [_,_])[k*2]?=_
  by_cases e:k=n
  · subst e
    rw [List.getElem?_append_right (by rw [gJ];omega),gJ,Nat.sub_self];rfl
  · rw [List.getElem?_append_left (by rw [gJ];omega)];exact MK om1
theorem ML{a:Nat->Int}{S:Nat->Value}: ∀ {n k:Nat},k<n->(iE a S n)[k*2+1]?=some (S k)
 |n+1,k,h=>by
  show(iE a S n++ [_,_])[k*2+1]?=_
  by_cases e:k=n
  · subst e
    rw [List.getElem?_append_right (by rw [gJ];omega),gJ,Nat.add_sub_cancel_left];rfl
  · rw [List.getElem?_append_left (by rw [gJ];omega)];exact ML om1
theorem ou{a b:Nat->Int}{S T:Nat->Value}: ∀ {n:Nat},(∀ k,k<n->a k=b k)->(∀ k,k<n->S k=T k)->iE a S n=iE b T n
 |0,_,_=>rfl
 |n+1,h,h'=>by
  show iE a S n++ [.bool (decide (a n<0)),S n]=iE b T n++ [.bool (decide (b n<0)),T n]
  rw [ou (fun k hk=>h k om1) (fun k hk=>h' k om1),h n om1,h' n om1]
theorem aam:(Tryz.prog.info? 190).map (fun i=>(i.zero,i.size,i.bytes))=some (some (.agg #[.bool false, .slice none 0 0]),2,32):=by kernel_rfl
theorem isNum:Is 190 2:=⟨by kernel_rfl,⟨_,Tryz.underlying190,rfl⟩⟩
theorem qY{Q:Nat->Prop}{w w':World}{v:Value}{z:Int}(h:bY w v z)(k:But Q w w')(hQ: ∀ b,Q b-> ¬Tg w b):bY w' v z:=by
 obtain⟨d,hv,hd⟩:=h;refine⟨d,hv, ?_⟩;rcases hd with hd|⟨b,off,cap,e1,e2,e3,e4⟩
 · exact Or.inl hd
 · have hb: ¬Q b:=fun q=>hQ b q e3;obtain⟨cs,fz,e5⟩:=e3;refine Or.inr ⟨b,off,cap,e1,e2,⟨cs,fz,(k.block b (Tg.lt ⟨cs,fz,e5⟩) hb).trans e5⟩,fun t ht=>k.cell (e4 t ht) hb⟩
theorem MM{w:World}{b:Nat}{cs:Array Value}{t:TypeId}{fz:Nat×Nat}(h:w.heap[b]?=some (.cells cs t fz))(ht:t≠3): ¬Tg w b:=fun⟨cs',fz',e⟩=>by
 rw [h] at e
 injection e with e
 injection e with _ e _
 exact ht e
structure At(w:World)(g n cap:Nat)(a:Nat->Int):Prop where
 le:n<=cap
 cap:cap<=9223372036854775807
 num: ∀ k,k<n-> ∃ p l c,w.cell? ⟨g,k*2,none⟩=some (.bool (decide (a k<0)))/\w.cell? ⟨g,k*2+1,none⟩=some (.slice p l c)/\bY w (.agg #[.bool (decide (a k<0)), .slice p l c]) (a k)
theorem At.keep{w w':World}{g n cap:Nat}{a:Nat->Int}(h:At w g n cap a)(b:Below w.heap.size w w'):At w' g n cap a:=
 ⟨h.le,h.cap,fun k hk=>by
  obtain⟨p,l,c,h1,h2,h3⟩:=h.num k hk
  exact⟨p,l,c,ah b h1,ah b h2,h3.below b⟩⟩
structure Nls(B:Nat)(w0 w:World)(v:Value)(n:Nat)(a:Nat->Int):Prop where
 row: ∃ S:Nat->Value,w.ownsRow B 190 2 v n (iE a S n)/\ ∀ k,k<n->(∃ p l c,S k= .slice p l c)/\bY w (.agg #[.bool (decide (a k<0)),S k]) (a k)
 below:Below B w0 w
 base:B<=w.heap.size
theorem Nls.nil{B:Nat}{w0 w:World}(h:Below B w0 w)(hB:B<=w.heap.size)(a:Nat->Int):Nls B w0 w (.slice none 0 0) 0 a:=⟨⟨fun _=>undef,World.ownsRow_nil _ _ _ _,fun k hk=>by omega⟩,h,hB⟩
theorem Nls.keep{B:Nat}{w0 w w':World}{v:Value}{n:Nat}{a:Nat->Int}(h:Nls B w0 w v n a)(b:Below w.heap.size w w'):Nls B w0 w' v n a:=by
 obtain⟨S,h1,h2⟩:=h.row;exact⟨⟨S,jF h1 b,fun k hk=>⟨(h2 k hk).1,(h2 k hk).2.below b⟩⟩,h.below.trans (b.mono h.base),Nat.le_trans h.base b.size⟩
theorem Nls.lt{B:Nat}{w0 w:World}{v:Value}{n:Nat}{a:Nat->Int}(h:Nls B w0 w v n a){g:Nat}(e:v.ownBlock=some g):B<=g/\g<w.heap.size:=by
 obtain⟨S,h1,_⟩:=h.row;exact h1.lt g e
theorem Nls.not{B:Nat}{w0 w:World}{v:Value}{n:Nat}{a:Nat->Int}(h:Nls B w0 w v n a){g:Nat}(e:v.ownBlock=some g): ¬Tg w g:=by
 obtain⟨S,⟨_,h1⟩,_⟩:=h.row;rcases h1 with⟨rfl,_⟩|⟨g',cap,cur,rfl,_,hg,_⟩
 · cases e
 · have:g'=g:=by simpa [Value.ownBlock] using e
   subst this;exact MM hg (by decide)
theorem Nls.at{B:Nat}{w0 w:World}{v:Value}{n:Nat}{a:Nat->Int}(h:Nls B w0 w v n a)(hn:0<n): ∃ g cap,v= .slice (some ⟨g,0,none⟩) n cap/\At w g n cap a/\w.frozen? ⟨g,0,none⟩=false:=by
 obtain⟨S,⟨h1,h2⟩,h3⟩:=h.row;rcases h2 with⟨_,e⟩|⟨g,cap,cur,rfl,hb,hg,hc1,hc2,hs,ht⟩
 · omega
 · have cell: ∀ j v,(iE a S n)[j]?=some v->w.cell? ⟨g,j,none⟩=some v:=fun j v hj=>by
    rw [← ht,List.getElem?_take] at hj;split at hj
    · rw [cell_of_row w g j _ _ (0,0) hg];simpa using hj
    · cases hj
   refine⟨g,cap,rfl,⟨hc1,by unfold maxLen at hc2;omega,fun k hk=> ?_⟩,frozen_of_row w g 0 _ _ hg⟩;obtain⟨⟨p,l,c,e⟩,h4⟩:=h3 k hk;rw [e] at h4;exact⟨p,l,c,cell _ _ (MK hk),cell _ _ ((ML hk).trans (by rw [e])),h4⟩
end Nu
end
section
open Go.RowKit Dec Nv Vc St Ld
namespace Nu
theorem range2{w:World}{b o:Nat}{x y:Value}(h0:w.cell? ⟨b,o,none⟩=some x)(h1:w.cell? ⟨b,o+1,none⟩=some y):w.rangeAt b o [x,y]:=fun j v hv=>by
 match j,hv with
 |0,hv=>injection hv with hv;subst hv;exact h0
 |1,hv=>injection hv with hv;subst hv;exact h1
 |_+2,hv=>simp at hv
theorem oJ{ops:Array Oper}{S:World->Prop}{o:Oper}{a:Act}(hw:Region.wanted o (yielded ops a.tmps)=true)(x:Operand)(ho:o.op= .load 190 x)
 (b p:Nat) (u v:Value) (hx:a.eval x= .pointer (some ⟨b,p,none⟩)) (hS: ∀ w,S w->w.cell? ⟨b,p,none⟩=some u/\w.cell? ⟨b,p+1,none⟩=some v):YieldsIf Tryz.prog ops S o (.agg #[u,v]) a:=by
 obtain⟨d,hd,hr⟩:=isNum.row;exact yieldsIf_load_mid hw _ x ho b p hx [u,v] d (fun w h=>range2 (hS w h).1 (hS w h).2) hd hr (by rw [isNum.size];rfl)
theorem abj(s:Bool)(p:Option Addr)(l c:Nat): ∀ v∈ [Value.bool s, .slice p l c],v.oneCell'=true:=by
 intro v hv;simp only [List.mem_cons,List.not_mem_nil,or_false] at hv;rcases hv with rfl|rfl<;>rfl
def Var(w:World)(g:Nat)(z:Int):Prop:= ∃ p l c,ai w g 190 [.bool (decide (z<0)), .slice p l c]/\bY w (.agg #[.bool (decide (z<0)), .slice p l c]) z
theorem Var.keep{w w':World}{g:Nat}{z:Int}(h:Var w g z)(b:Below w.heap.size w w'):Var w' g z:=by
 obtain⟨p,l,c,h1,h2⟩:=h;exact⟨p,l,c,ai.keep h1 b,h2.below b⟩
theorem FT{w:World}{g:Nat}{cs:List Value}(h:ai w g 190 cs): ¬Tg w g:=MM h (by decide)
theorem JS{w:World}{g:Nat}{cs:List Value}(h:ai w g 190 cs){z:Int}{p:Option Addr}{l c:Nat}(hz:bY w (.agg #[.bool (decide (z<0)), .slice p l c]) z):Var (w.setRow g [.bool (decide (z<0)), .slice p l c].toArray) g z:=
 ⟨p,l,c,ai.row h _,qY hz (Q:=(· =g)) ⟨rfl,rfl,rfl,by simp,fun k hk hn=>setRow_other w g k _ hn⟩ (fun b e=>by rw [e];exact FT h)⟩
theorem Tq{w:World}{g g':Nat}{cs:List Value}(h:ai w g 190 cs){z:Int}(hz:Var w g' z)(hne:g'≠g)(ds:Array Value):Var (w.setRow g ds) g' z:=by
 obtain⟨p,l,c,h1,h2⟩:=hz;exact⟨p,l,c,ai.aY h1 hne ds,qY h2 (Q:=(· =g)) ⟨rfl,rfl,rfl,by simp,fun k hk hn=>setRow_other w g k _ hn⟩ (fun b e=>by rw [e];exact FT h)⟩
theorem aan(w:World):bY w (.agg #[.bool (decide ((0:Int)<0)), .slice none 0 0]) 0:=⟨.slice none 0 0,rfl,Or.inl ⟨rfl,rfl⟩⟩
theorem info2: ∃ i,Tryz.prog.info? 190=some i/\i.zero=some (.agg #[.bool false, .slice none 0 0])/\i.size=2/\i.bytes=32:=by
 have h:=aam;cases e:Tryz.prog.info? 190 with
 |none=>rw [e] at h;cases h
 |some i=>
  rw [e] at h;simp only [Option.map_some,Option.some.injEq,Prod.mk.injEq] at h;exact⟨i,rfl,h.1,h.2.1,h.2.2⟩
structure Two(B:Nat)(w0 w:World)(vx:Value)(nx:Nat)(zx:Nat->Int)(vy:Value)(ny:Nat)(a:Nat->Int):Prop where
 x:Own B w0 w vx nx zx
 y:Nls B w0 w vy ny a
 apart: ∀ g,vx.ownBlock=some g->vy.ownBlock≠some g
theorem Two.keep{B:Nat}{w0 w w':World}{vx vy:Value}{nx ny:Nat}{zx a:Nat->Int}(h:Two B w0 w vx nx zx vy ny a)(b:Below w.heap.size w w'):Two B w0 w' vx nx zx vy ny a:=⟨h.x.keep b,h.y.keep b,h.apart⟩
structure Off(vx vy:Value)(b:Nat):Prop where
 x:vx.ownBlock≠some b
 y:vy.ownBlock≠some b
theorem Two.off{B:Nat}{w0 w:World}{vx vy:Value}{nx ny:Nat}{zx a:Nat->Int}(h:Two B w0 w vx nx zx vy ny a){b:Nat}(hb:w.heap.size<=b):Off vx vy b:=
 ⟨fun e=>by have:=(h.x.row.lt _ e).2;omega,fun e=>by have:=(h.y.lt e).2;omega⟩
theorem qi{ops:Array Oper}{o:Oper}{ac:Act}{w:World}{K:Act->World->Prop}{Q:Exit->Act->World->Prop}{E:Prop}(hgd:o.guard=none)(s x:Operand)
 (ho:o.op= .call { callee:= .builtin .append,args:= #[s,x],argTypes:= #[27,27] }) {B:Nat} {w0:World} {vx vy:Value} {nx ny:Nat} {zx a:Nat->Int} (h:Two B w0 w vx nx zx vy ny a)
 (hs:ac.eval s=vx) (hl:nx<=2000000) {b:Nat} {y:Int} (hx:ac.eval x= .slice (some ⟨b,0,none⟩) 1 1) (hp:ai w b 2 [.int .i64 y]) (hy:y=zx nx)
 (hK: ∀ v' w',Two B w0 w' v' (nx+1) zx vy ny a->But (fun q=>vx.ownBlock=some q) w w'->(∀ b',b'<w.heap.size->Off vx vy b'->Off v' vy b')->(∀ v z,bY w v z->bY w' v z)->K (ac.put o.dst v') w'):
 if Region.wanted o (yielded ops ac.tmps)=true then Oper.wp Tryz.prog o ac w K Q else E:=by
 obtain⟨i0,hi,hz0,hz1,hz2⟩:=info_parts iY;subst hy;have hb:=h.x.base;refine step_append_lies w hgd s x 27 ho B 2 i0 (.int .i64 0) 1 8 Tryz.underlying27 hi hz0 hz1 hz2 rfl (by decide) vx nx (vals nx zx) hs h.x.row ⟨b,0,none⟩ 1 1 [.int .i64 (zx nx)] hx rfl (World.news_of_block hp) (by intro u hu;simp at hu;subst hu;rfl) om1 (by unfold maxLen;omega) om1 hb w.heap.size rfl ?_;intro g cap w' h1 h2 h3 h4;rw [mY] at h1;have kB:Below B w0 w':=h.x.below.grown h2 hb (fun k hk=>(h.x.row.lt k hk).1);have kb:But (fun q=>vx.ownBlock=some q) w w':=⟨h2.os,h2.tape,h2.output,h2.size,fun k hk hn=>h2.block k hk (fun e=>hn e.symm)⟩
 have hT: ∀ q,vx.ownBlock=some q-> ¬Tg w q:=fun q e=>by
  obtain⟨_,hr⟩:=h.x.row;rcases hr with⟨rfl,_⟩|⟨g',cap',cur,rfl,_,hg,_⟩
  · cases e
  · have e':g'=q:=by simpa [Value.ownBlock] using e
    subst e';exact MM hg (by decide)
 have hN: ∀ v z,bY w v z->bY w' v z:=fun v z hv=>qY hv kb hT
 have hg: ∀ g',vy.ownBlock=some g'->g≠g':=fun g' e1 e2=>by
  subst e2;rcases h3 with h3|h3
  · exact h.apart _ h3 e1
  · have:=(h.y.lt e1).2;omega
 refine hK _ w' ⟨⟨h1,kB,Nat.le_trans hb h2.size⟩, ?_, ?_⟩ kb ?_ hN
 · obtain⟨S,r1,r2⟩:=h.y.row;refine⟨⟨S,r1.kept h2 ?_,fun k hk=>⟨(r2 k hk).1,hN _ _ (r2 k hk).2⟩⟩,kB,Nat.le_trans hb h2.size⟩;cases e:vy.ownBlock with
   |none=>exact Or.inl rfl
   |some g'=>exact Or.inr (fun e2=>h.apart _ e2.symm e)
 · intro g' e1 e2;have e3:g=g':=by simpa [Value.ownBlock] using e1
   exact hg g' e2 e3
 · intro b' hlt hp';refine⟨fun e=> ?_,hp'.y⟩;have e3:g=b':=by simpa [Value.ownBlock] using e
   rcases h3 with h3|h3
   · exact hp'.x (by rw [h3,e3])
   · omega
theorem uA{ops:Array Oper}{o:Oper}{ac:Act}{w:World}{K:Act->World->Prop}{Q:Exit->Act->World->Prop}{E:Prop}(hgd:o.guard=none)(s x:Operand)
 (ho:o.op= .call { callee:= .builtin .append,args:= #[s,x],argTypes:= #[240,240] }) {B:Nat} {w0:World} {vx vy:Value} {nx ny:Nat} {zx a:Nat->Int} (h:Two B w0 w vx nx zx vy ny a)
 (hs:ac.eval s=vy) (hl:ny<=2000000) {b:Nat} {p:Option Addr} {l c:Nat} (hx:ac.eval x= .slice (some ⟨b,0,none⟩) 1 1) (hp:ai w b 190 [.bool (decide (a ny<0)), .slice p l c]) (hz:bY w (.agg #[.bool (decide (a ny<0)), .slice p l c]) (a ny))
 (hK: ∀ v' w',Two B w0 w' vx nx zx v' (ny+1) a->But (fun q=>vy.ownBlock=some q) w w'->(∀ b',b'<w.heap.size->Off vx vy b'->Off vx v' b')->(∀ v z,bY w v z->bY w' v z)->K (ac.put o.dst v') w'):
 if Region.wanted o (yielded ops ac.tmps)=true then Oper.wp Tryz.prog o ac w K Q else E:=by
 obtain⟨i0,hi,hz0,hz1,hz2⟩:=info2;obtain⟨S,r1,r2⟩:=h.y.row;have hb:=h.y.base;refine step_append_lies w hgd s x 240 ho B 190 i0 (.agg #[.bool false, .slice none 0 0]) 2 32 Tryz.underlying240 hi hz0 hz1 hz2 rfl (by decide) vy ny (iE a S ny) hs r1 ⟨b,0,none⟩ 1 1 [.bool (decide (a ny<0)), .slice p l c] hx rfl (World.news_of_block hp) (abj _ _ _ _) om1 (by unfold maxLen;omega) om1 hb w.heap.size rfl ?_;intro g cap w' h1 h2 h3 h4;have kB:Below B w0 w':=h.y.below.grown h2 hb (fun k hk=>(h.y.lt hk).1);have kb:But (fun q=>vy.ownBlock=some q) w w':=⟨h2.os,h2.tape,h2.output,h2.size,fun k hk hn=>h2.block k hk (fun e=>hn e.symm)⟩;have hN: ∀ v z,bY w v z->bY w' v z:=fun v z hv=>qY hv kb (fun q e=>h.y.not e)
 have hg: ∀ g',vx.ownBlock=some g'->g≠g':=fun g' e1 e2=>by
  subst e2;rcases h3 with h3|h3
  ·exact h.apart _ e1 h3
  ·have:=(h.x.row.lt _ e1).2;omega
 have e0:iE a S ny++ [.bool (decide (a ny<0)), .slice p l c]=iE a (fun k=>if k=ny then .slice p l c else S k) (ny+1):=by
  show _=iE a (fun k=>if k=ny then .slice p l c else S k) ny++ [.bool (decide (a ny<0)),(if ny=ny then .slice p l c else S ny)];rw [if_pos rfl]
  have e1:iE a S ny=iE a (fun k=>if k=ny then .slice p l c else S k) ny:=ou (fun _ _=>rfl) (fun k hk=>by
   show S k=if k=ny then .slice p l c else S k
   rw [if_neg om1])
  rw [← e1]
 rw [e0] at h1;refine hK _ w' ⟨⟨h.x.row.kept h2 ?_,kB,Nat.le_trans hb h2.size⟩,⟨⟨_,h1,fun k hk=> ?_⟩,kB,Nat.le_trans hb h2.size⟩, ?_⟩ kb ?_ hN
 ·cases e:vx.ownBlock with
  |none=>exact Or.inl rfl
  |some g'=>exact Or.inr (fun e2=>h.apart _ e e2.symm)
 ·by_cases e:k=ny
  ·subst e;rw [if_pos rfl];exact⟨⟨p,l,c,rfl⟩,hN _ _ hz⟩
  ·rw [if_neg e];exact⟨(r2 k om1).1,hN _ _ (r2 k om1).2⟩
 ·intro g' e1 e2;have e3:g=g':=by simpa [Value.ownBlock] using e2
  exact hg g' e1 e3
 ·intro b' hlt hp';refine⟨hp'.x,fun e=> ?_⟩;have e3:g=b':=by simpa [Value.ownBlock] using e
  rcases h3 with h3|h3
  ·exact hp'.y (by rw [h3,e3])
  ·omega
theorem Two.IW{B:Nat}{w0 w:World}{gx nx cx:Nat}{vy:Value}{ny:Nat}{zx a:Nat->Int}(h:Two B w0 w (.slice (some ⟨gx,0,none⟩) nx cx) nx zx vy ny a)(j:Nat)(y:Int):
 Two B w0 (w.setCell ⟨gx,j,none⟩ (.int .i64 y)) (.slice (some ⟨gx,0,none⟩) nx cx) nx (fun k=>if k=j then y else zx k) vy ny a:=by
 have hT: ¬Tg w gx:=by
  obtain⟨_,hr⟩:=h.x.row;rcases hr with⟨e,_⟩|⟨g',cap',cur,e,_,hg,_⟩
  · cases e
  · injection e with e _ _
    injection e with e
    injection e with e _ _
    subst e;exact MM hg (by decide)
 have kb:But (· =gx) w (w.setCell ⟨gx,j,none⟩ (.int .i64 y)):=(But.refl _ _).set (p:=⟨gx,j,none⟩) _ rfl;obtain⟨S,r1,r2⟩:=h.y.row;have hx:=h.x.set j y;refine⟨hx,⟨⟨S,Ls.oV r1 kb (fun g e e2=>h.apart gx rfl (by rw [e,e2])),fun k hk=>⟨(r2 k hk).1,qY (r2 k hk).2 kb (fun b e=>by rw [e];exact hT)⟩⟩,hx.below,hx.base⟩,h.apart⟩
theorem Ei{a:Nat->Int}{S:Nat->Value}(z:Int)(u:Value): ∀ {n j:Nat},j<n->((iE a S n).set (j*2) (.bool (decide (z<0)))).set (j*2+1) u=iE (fun k=>if k=j then z else a k) (fun k=>if k=j then u else S k) n
 |n+1,j,h=>by
  show((iE a S n++ [.bool (decide (a n<0)),S n]).set (j*2) _).set (j*2+1) u=iE (fun k=>if k=j then z else a k) (fun k=>if k=j then u else S k) n++ [.bool (decide ((if n=j then z else a n)<0)),(if n=j then u else S n)]
  by_cases e:n=j
  · subst e
    rw [List.set_append_right _ _ (by rw [gJ];omega),List.set_append_right _ _ (by rw [gJ];omega),gJ,Nat.sub_self,Nat.add_sub_cancel_left,if_pos rfl,if_pos rfl]
    congr 1
    exact ou (fun k hk=>by show a k=if k=n then z else a k;rw [if_neg om1]) (fun k hk=>by show S k=if k=n then u else S k;rw [if_neg om1])
  · rw [List.set_append_left _ _ (by rw [gJ];omega),List.set_append_left _ _ (by rw [List.length_set,gJ];omega),Ei z u om1,if_neg e,if_neg e]
theorem Nls.set{B:Nat}{w0 w:World}{g n cap:Nat}{a:Nat->Int}(h:Nls B w0 w (.slice (some ⟨g,0,none⟩) n cap) n a){j:Nat}(hj:j<n){z:Int}{p:Option Addr}{l c:Nat}(hz:bY w (.agg #[.bool (decide (z<0)), .slice p l c]) z):
 Nls B w0 (w.setCells g (j*2) [.bool (decide (z<0)), .slice p l c]) (.slice (some ⟨g,0,none⟩) n cap) n (fun k=>if k=j then z else a k)/\But (· =g) w (w.setCells g (j*2) [.bool (decide (z<0)), .slice p l c]):=by
 obtain⟨S,r1,r2⟩:=h.row;obtain⟨s1,g1⟩:=r1.stored (j*2) (.bool (decide (z<0)));obtain⟨s2,g2⟩:=s1.stored (j*2+1) (.slice p l c);rw [Ei z (.slice p l c) hj] at s2
 have kb:But (· =g) w (w.setCells g (j*2) [.bool (decide (z<0)), .slice p l c]):=
  ((But.refl (· =g) w).set (p:=⟨g,j*2,none⟩) (.bool (decide (z<0))) rfl).set (p:=⟨g,j*2+1,none⟩) (.slice p l c) rfl
 have hN': ∀ v y,bY w v y->bY (w.setCells g (j*2) [.bool (decide (z<0)), .slice p l c]) v y:=fun v y hv=>qY hv kb (fun q e=>by rw [e];exact h.not rfl);have hl:=h.lt (g:=g) rfl;refine⟨⟨⟨_,s2,fun k hk=> ?_⟩,(h.below.grown g1 h.base (fun k hk=>by cases hk;exact hl.1)).grown g2 (Nat.le_trans h.base g1.size) (fun k hk=>by cases hk;exact hl.1),Nat.le_trans h.base (Nat.le_trans g1.size g2.size)⟩,kb⟩;by_cases e:k=j
 · subst e;rw [if_pos rfl];exact⟨⟨p,l,c,rfl⟩,by simp only [if_pos];exact hN' _ _ hz⟩
 · rw [if_neg e];refine⟨(r2 k hk).1, ?_⟩;simp only [if_neg e];exact hN' _ _ (r2 k hk).2
theorem Nls.there{B:Nat}{w0 w:World}{g n cap:Nat}{a:Nat->Int}(h:Nls B w0 w (.slice (some ⟨g,0,none⟩) n cap) n a){j:Nat}(hj:j<n):w.there g (j*2) 2:=fun i hi=>by
 obtain⟨S,r1,_⟩:=h.row
 refine⟨?_,r1.frozenAt _⟩
 rw [r1.cellAt (j*2+i) om1,List.getElem?_eq_getElem (by rw [gJ];omega)];rfl
theorem FU{ops:Array Oper}{rest:List Oper}{o:Oper}{a:Act}{w:World}{Q:Exit->Act->World->Prop}(hgd:o.guard=none)(x y:Operand)(ho:o.op= .store 190 x y)
 (g j:Nat) (s:Bool) (p:Option Addr) (l c:Nat) (hx:a.eval x= .pointer (some ⟨g,j,none⟩)) (hy:a.eval y= .agg #[.bool s, .slice p l c]) (ht:w.there g j 2)
 (h:wpList Tryz.prog ops Q rest (a.put o.dst undef) (w.setCells g j [.bool s, .slice p l c])):wpList Tryz.prog ops Q (o::rest) a w:=
 wpList_store_mid hgd _ x y ho g j #[.bool s, .slice p l c] hx hy ht (by rw [isNum.size];rfl) (by simp [Value.oneCell']) h
theorem Two.sety{B:Nat}{w0 w:World}{gy cy:Nat}{vx:Value}{nx ny:Nat}{zx a:Nat->Int}(h:Two B w0 w vx nx zx (.slice (some ⟨gy,0,none⟩) ny cy) ny a){j:Nat}(hj:j<ny){z:Int}{p:Option Addr}{l c:Nat}(hz:bY w (.agg #[.bool (decide (z<0)), .slice p l c]) z):
 Two B w0 (w.setCells gy (j*2) [.bool (decide (z<0)), .slice p l c]) vx nx zx (.slice (some ⟨gy,0,none⟩) ny cy) ny (fun k=>if k=j then z else a k):=by
 obtain⟨h1,h2⟩:=h.y.set hj hz;exact⟨⟨Ls.oV h.x.row h2 (fun g e e2=>h.apart g e (by rw [e2];rfl)),h1.below,h1.base⟩,h1,h.apart⟩
theorem Two.congr{B:Nat}{w0 w:World}{vx vy:Value}{nx ny:Nat}{zx zx' a a':Nat->Int}(h:Two B w0 w vx nx zx vy ny a)(e1:zx=zx')(e2:a=a'):Two B w0 w vx nx zx' vy ny a':=by
 subst e1 e2;exact h
end Nu
end
section
open Go.RowKit Dec Nv Vc St Ld
namespace Nu
theorem qZ{ops:Array Oper}{rest:List Oper}{o:Oper}{a:Act}{Q:Exit->Act->World->Prop}{wr:World}(hgd:o.guard=none)(s x:Operand)
 (ho:o.op= .call { callee:= .builtin .append,args:= #[s,x],argTypes:= #[240,240] }) (B:Nat) (w0:World) (v:Value) (n:Nat) (z:Nat->Int) (hs:a.eval s=v) (hown:Nls B w0 wr v n z) (hl:n<=2000000)
 (b:Bool) (p:Option Addr) (l c:Nat) (hb:b=decide (z n<0)) (hz:bY wr (.agg #[.bool (decide (z n<0)), .slice p l c]) (z n)) (hx:a.eval x= .slice (some ⟨wr.heap.size,0,none⟩) 1 1)
 (h: ∀ v' w',Nls B w0 w' v' (n+1) z->wpList Tryz.prog ops Q rest (a.put o.dst v') w'):wpList Tryz.prog ops Q (o::rest) a (wr.alloc (.cells #[.bool b, .slice p l c] 190)):=by
 subst hb;obtain⟨i0,hi,hz0,hz1,hz2⟩:=info2;have k1:=af (Below.refl _ wr) (.cells #[.bool (decide (z n<0)), .slice p l c] 190);have h1:=hown.keep k1;have hz':=hz.below k1;obtain⟨S,r1,r2⟩:=h1.row;have hb:=h1.base;have hp:(wr.alloc (.cells #[.bool (decide (z n<0)), .slice p l c] 190)).heap[wr.heap.size]?=some (.cells #[.bool (decide (z n<0)), .slice p l c] 190 (0,0)):=aH wr 190 [.bool (decide (z n<0)), .slice p l c];refine wpList_append_own _ hgd s x 240 ho B 190 i0 (.agg #[.bool false, .slice none 0 0]) 2 32 Tryz.underlying240 hi hz0 hz1 hz2 rfl (by decide) v n (iE z S n) hs r1 ⟨wr.heap.size,0,none⟩ 1 1 [.bool (decide (z n<0)), .slice p l c] hx rfl (World.news_of_block hp) (abj _ _ _ _) (by unfold maxLen;omega) om1 hb ?_;intro v' w' q1 q2 _;have kB:Below B w0 w':=h1.below.grown q2 hb (fun k hk=>(h1.lt hk).1);have kb:But (fun q=>v.ownBlock=some q) _ w':=⟨q2.os,q2.tape,q2.output,q2.size,fun k hk hn=>q2.block k hk (fun e=>hn e.symm)⟩;have hN: ∀ v z,bY _ v z->bY w' v z:=fun v z hv=>qY hv kb (fun q e=>h1.not e)
 have e0:iE z S n++ [.bool (decide (z n<0)), .slice p l c]=iE z (fun k=>if k=n then .slice p l c else S k) (n+1):=by
  show _=iE z (fun k=>if k=n then .slice p l c else S k) n++ [.bool (decide (z n<0)),(if n=n then .slice p l c else S n)];rw [if_pos rfl]
  have e1:iE z S n=iE z (fun k=>if k=n then .slice p l c else S k) n:=ou (fun _ _=>rfl) (fun k hk=>by
   show S k=if k=n then .slice p l c else S k
   rw [if_neg om1])
  rw [← e1]
 rw [e0] at q1;refine h v' w' ⟨⟨_,q1,fun k hk=> ?_⟩,kB,Nat.le_trans hb q2.size⟩;by_cases e:k=n
 · subst e;rw [if_pos rfl];exact⟨⟨p,l,c,rfl⟩,hN _ _ hz'⟩
 · rw [if_neg e];exact⟨(r2 k om1).1,hN _ _ (r2 k om1).2⟩
end Nu
end
end Go.Proofs.YtcefcokpjbebhaaGreatDoor
