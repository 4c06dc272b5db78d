/-
  Two slices of the call's own, appended to in one statement whose order is open.
-/
import Derived.Test.YtcefcokpjbebhaaGreatDoorM2
import Derived.Deep.AppendLies
set_option linter.unusedSimpArgs false
set_option linter.unusedVariables false
namespace Go.Proofs.YtcefcokpjbebhaaGreatDoor
section
open Go.RowKit
namespace Vc
structure Two(B:Nat)(w0 w:World)(vx:Value)(nx:Nat)(zx:Nat->Int)(vy:Value)(ny:Nat)(zy:Nat->Int):Prop where
 x:Own B w0 w vx nx zx
 y:Own B w0 w vy ny zy
 apart: ∀ g,vx.ownBlock=some g->vy.ownBlock≠some g
theorem Two.keep{B:Nat}{w0 w w':World}{vx vy:Value}{nx ny:Nat}{zx zy:Nat->Int}(h:Two B w0 w vx nx zx vy ny zy)(b:Below w.heap.size w w'):Two B w0 w' vx nx zx vy ny zy:=⟨h.x.keep b,h.y.keep b,h.apart⟩
theorem Two.alloc{B:Nat}{w0 w:World}{vx vy:Value}{nx ny:Nat}{zx zy:Nat->Int}(h:Two B w0 w vx nx zx vy ny zy)(o:Obj):Two B w0 (w.alloc o) vx nx zx vy ny zy:=h.keep (af (Below.refl _ _) o)
theorem Two.drew{B:Nat}{w0 w:World}{vx vy:Value}{nx ny:Nat}{zx zy:Nat->Int}(h:Two B w0 w vx nx zx vy ny zy):Two B w0 w.drew vx nx zx vy ny zy:=⟨h.x.drew,h.y.drew,h.apart⟩
theorem Two.swap{B:Nat}{w0 w:World}{vx vy:Value}{nx ny:Nat}{zx zy:Nat->Int}(h:Two B w0 w vx nx zx vy ny zy):Two B w0 w vy ny zy vx nx zx:=⟨h.y,h.x,fun g h1 h2=>h.apart g h2 h1⟩
structure mr(w:World)(vx vy:Value)(b:Nat)(y:Int):Prop where
 at':w.heap[b]?=some (.cells #[.int .i64 y] 2 (0,0))
 notx:vx.ownBlock≠some b
 noty:vy.ownBlock≠some b
theorem mr.lt{w:World}{vx vy:Value}{b:Nat}{y:Int}(h:mr w vx vy b y):b<w.heap.size:=by
 rcases Nat.lt_or_ge b w.heap.size with k|k
 · exact k
 · have:=h.at';rw [Array.getElem?_eq_none k] at this;cases this
theorem Vo{B:Nat}{w0 w:World}{vx vy:Value}{nx ny:Nat}{zx zy:Nat->Int}(h:Two B w0 w vx nx zx vy ny zy)(y:Int):mr (w.alloc (.cells #[.int .i64 y] 2)) vx vy w.heap.size y:=
 ⟨heap_alloc_new w _,fun e=>by have:=(h.x.row.lt _ e).2;omega,fun e=>by have:=(h.y.row.lt _ e).2;omega⟩
theorem jY{B:Nat}{w0 w:World}{vx vy:Value}{nx ny:Nat}{zx zy:Nat->Int}(h:Two B w0 w vx nx zx vy ny zy)(y:Int){b:Nat}(hb:b=w.heap.size):mr (w.alloc (.cells #[.int .i64 y] 2)) vx vy b y:=by rw [hb];exact Vo h y
theorem mr.keep{w w':World}{vx vy:Value}{b:Nat}{y:Int}(h:mr w vx vy b y)(k:Below w.heap.size w w'):mr w' vx vy b y:=⟨(k.block b h.lt).trans h.at',h.notx,h.noty⟩
theorem mr.alloc{w:World}{vx vy:Value}{b:Nat}{y:Int}(h:mr w vx vy b y)(o:Obj):mr (w.alloc o) vx vy b y:=h.keep (af (Below.refl _ _) o)
theorem mr.drew{w:World}{vx vy:Value}{b:Nat}{y:Int}(h:mr w vx vy b y):mr w.drew vx vy b y:=⟨h.at',h.notx,h.noty⟩
theorem mr.swap{w:World}{vx vy:Value}{b:Nat}{y:Int}(h:mr w vx vy b y):mr w vy vx b y:=⟨h.at',h.noty,h.notx⟩
theorem qi{ops:Array Oper}{o:Oper}{a:Act}{w:World}{K:Act->World->Prop}{Q:Exit->Act->World->Prop}{E:Prop}(hgd:o.guard=none)(s x:Operand)
 (ho:o.op= .call { callee:= .builtin .append,args:= #[s,x],argTypes:= #[27,27] }) {B:Nat} {w0:World} {vx vy:Value} {nx ny:Nat} {zx zy:Nat->Int} (h:Two B w0 w vx nx zx vy ny zy)
 (hs:a.eval s=vx) (hl:nx<=2000000) {b:Nat} {y:Int} (hx:a.eval x= .slice (some ⟨b,0,none⟩) 1 1) (hp:mr w vx vy b y) (hy:y=zx nx)
 (hK: ∀ v' w',Two B w0 w' v' (nx+1) zx vy ny zy->(∀ b' y',mr w vx vy b' y'->mr w' v' vy b' y')->K (a.put o.dst v') w'):
 if Region.wanted o (yielded ops a.tmps)=true then Oper.wp Tryz.prog o a w K Q else E:=by
 obtain⟨i0,hi,hz0,hz1,hz2⟩:=info_parts iY;subst hy;have hb:=h.x.base;refine step_append_lies w hgd s x 27 ho B 2 i0 (.int .i64 0) 1 8 Tryz.underlying27 hi hz0 hz1 hz2 rfl (by decide) vx nx (vals nx zx) hs h.x.row ⟨b,0,none⟩ 1 1 [.int .i64 (zx nx)] hx rfl (World.news_of_block hp.at') (by intro u hu;simp at hu;subst hu;rfl) om1 (by unfold maxLen;omega) om1 hb w.heap.size rfl ?_;intro g cap w' h1 h2 h3 h4;rw [mY] at h1;have kB:Below B w0 w':=h.x.below.grown h2 hb (fun k hk=>(h.x.row.lt k hk).1)
 have hg: ∀ g',vy.ownBlock=some g'->g≠g':=fun g' e1 e2=>by
  subst e2;rcases h3 with h3|h3
  · exact h.apart _ h3 e1
  · have:=(h.y.row.lt _ e1).2;omega
 refine hK _ w' ⟨⟨h1,kB,Nat.le_trans hb h2.size⟩,⟨h.y.row.kept h2 ?_,kB,Nat.le_trans hb h2.size⟩, ?_⟩ ?_
 · cases e:vy.ownBlock with
   |none=>exact Or.inl rfl
   |some g'=>exact Or.inr (fun e2=>h.apart _ e2.symm e)
 · intro g' e1 e2;have e3:g=g':=by simpa [Value.ownBlock] using e1
   exact hg g' e2 e3
 · intro b' y' hp';refine⟨(h2.block b' hp'.lt (fun e=>hp'.notx e.symm)).trans hp'.at',fun e=> ?_,hp'.noty⟩;have e3:g=b':=by simpa [Value.ownBlock] using e
   rcases h3 with h3|h3
   · exact hp'.notx (by rw [h3,e3])
   · have:=hp'.lt;omega
theorem uA{ops:Array Oper}{o:Oper}{a:Act}{w:World}{K:Act->World->Prop}{Q:Exit->Act->World->Prop}{E:Prop}(hgd:o.guard=none)(s x:Operand)
 (ho:o.op= .call { callee:= .builtin .append,args:= #[s,x],argTypes:= #[27,27] }) {B:Nat} {w0:World} {vx vy:Value} {nx ny:Nat} {zx zy:Nat->Int} (h:Two B w0 w vx nx zx vy ny zy)
 (hs:a.eval s=vy) (hl:ny<=2000000) {b:Nat} {y:Int} (hx:a.eval x= .slice (some ⟨b,0,none⟩) 1 1) (hp:mr w vx vy b y) (hy:y=zy ny)
 (hK: ∀ v' w',Two B w0 w' vx nx zx v' (ny+1) zy->(∀ b' y',mr w vx vy b' y'->mr w' vx v' b' y')->K (a.put o.dst v') w'):
 if Region.wanted o (yielded ops a.tmps)=true then Oper.wp Tryz.prog o a w K Q else E:=
 qi hgd s x ho h.swap hs hl hx hp.swap hy (fun v' w' h1 h2=>hK v' w' h1.swap (fun b' y' hp'=>(h2 b' y' hp'.swap).swap))
end Vc
end
section
open Go.RowKit
namespace Vg
structure Two(B:Nat)(w0 w:World)(tx:TypeId)(vx:Value)(nx:Nat)(xs:List Value)(ty:TypeId)(vy:Value)(ny:Nat)(ys:List Value):Prop where
 x:w.ownsRow B tx 1 vx nx xs
 y:w.ownsRow B ty 1 vy ny ys
 apart: ∀ g,vx.ownBlock=some g->vy.ownBlock≠some g
 below:Below B w0 w
 base:B<=w.heap.size
theorem LH{w w':World}{B:Nat}{t:TypeId}{s:Nat}{v:Value}{n:Nat}{xs:List Value}(h:w.ownsRow B t s v n xs)(b:Below w.heap.size w w'):w'.ownsRow B t s v n xs:=by
 obtain⟨h1,h2⟩:=h;refine⟨h1, ?_⟩;rcases h2 with h2|⟨g,cap,cur,rfl,hb,hg,hn,hc,hs,ht⟩
 · exact Or.inl h2
 · refine Or.inr ⟨g,cap,cur,rfl,hb, ?_,hn,hc,hs,ht⟩
   have hlt:g<w.heap.size:=by
    rcases Nat.lt_or_ge g w.heap.size with k|k
    · exact k
    · rw [Array.getElem?_eq_none k] at hg;cases hg
   exact(b.block g hlt).trans hg
theorem Two.keep{B:Nat}{w0 w w':World}{tx ty:TypeId}{vx vy:Value}{nx ny:Nat}{xs ys:List Value}(h:Two B w0 w tx vx nx xs ty vy ny ys)(b:Below w.heap.size w w'):Two B w0 w' tx vx nx xs ty vy ny ys:=
 ⟨LH h.x b,LH h.y b,h.apart,h.below.trans (b.mono h.base),Nat.le_trans h.base b.size⟩
theorem Two.alloc{B:Nat}{w0 w:World}{tx ty:TypeId}{vx vy:Value}{nx ny:Nat}{xs ys:List Value}(h:Two B w0 w tx vx nx xs ty vy ny ys)(o:Obj):Two B w0 (w.alloc o) tx vx nx xs ty vy ny ys:=h.keep (af (Below.refl _ _) o)
theorem Two.drew{B:Nat}{w0 w:World}{tx ty:TypeId}{vx vy:Value}{nx ny:Nat}{xs ys:List Value}(h:Two B w0 w tx vx nx xs ty vy ny ys):Two B w0 w.drew tx vx nx xs ty vy ny ys:=⟨h.x,h.y,h.apart,h.below.drew,h.base⟩
theorem Two.swap{B:Nat}{w0 w:World}{tx ty:TypeId}{vx vy:Value}{nx ny:Nat}{xs ys:List Value}(h:Two B w0 w tx vx nx xs ty vy ny ys):Two B w0 w ty vy ny ys tx vx nx xs:=⟨h.y,h.x,fun g h1 h2=>h.apart g h2 h1,h.below,h.base⟩
theorem Two.nil{B:Nat}{w0 w:World}(h:Below B w0 w)(hB:B<=w.heap.size)(tx ty:TypeId):Two B w0 w tx (.slice none 0 0) 0 [] ty (.slice none 0 0) 0 []:=
 ⟨World.ownsRow_nil _ _ _ _,World.ownsRow_nil _ _ _ _,fun g h=>(by cases h),h,hB⟩
structure mr(w:World)(vx vy:Value)(b:Nat)(v:Value)(t:TypeId):Prop where
 at':w.heap[b]?=some (.cells #[v] t (0,0))
 notx:vx.ownBlock≠some b
 noty:vy.ownBlock≠some b
theorem mr.lt{w:World}{vx vy:Value}{b:Nat}{v:Value}{t:TypeId}(h:mr w vx vy b v t):b<w.heap.size:=by
 rcases Nat.lt_or_ge b w.heap.size with k|k
 · exact k
 · have:=h.at';rw [Array.getElem?_eq_none k] at this;cases this
theorem jY{B:Nat}{w0 w:World}{tx ty:TypeId}{vx vy:Value}{nx ny:Nat}{xs ys:List Value}(h:Two B w0 w tx vx nx xs ty vy ny ys)(v:Value)(t:TypeId){b:Nat}(hb:b=w.heap.size):mr (w.alloc (.cells #[v] t)) vx vy b v t:=by
 subst hb;exact⟨heap_alloc_new w _,fun e=>by have:=(h.x.lt _ e).2;omega,fun e=>by have:=(h.y.lt _ e).2;omega⟩
theorem mr.keep{w w':World}{vx vy:Value}{b:Nat}{v:Value}{t:TypeId}(h:mr w vx vy b v t)(k:Below w.heap.size w w'):mr w' vx vy b v t:=⟨(k.block b h.lt).trans h.at',h.notx,h.noty⟩
theorem mr.alloc{w:World}{vx vy:Value}{b:Nat}{v:Value}{t:TypeId}(h:mr w vx vy b v t)(o:Obj):mr (w.alloc o) vx vy b v t:=h.keep (af (Below.refl _ _) o)
theorem mr.swap{w:World}{vx vy:Value}{b:Nat}{v:Value}{t:TypeId}(h:mr w vx vy b v t):mr w vy vx b v t:=⟨h.at',h.noty,h.notx⟩
structure El(st t:TypeId)(bytes:Nat):Prop where
 und:Tryz.prog.underlying st=some (.slice t)
 info: ∃ z:Value,(Tryz.prog.info? t).map (fun i=>(i.zero,i.size,i.bytes))=some (some z,1,bytes)/\z.cells.size=1
theorem qi{ops:Array Oper}{o:Oper}{a:Act}{w:World}{K:Act->World->Prop}{Q:Exit->Act->World->Prop}{E:Prop}{st tx ty:TypeId}{bytes:Nat}(S:El st tx bytes)(hgd:o.guard=none)(s x:Operand)
 (ho:o.op= .call { callee:= .builtin .append,args:= #[s,x],argTypes:= #[st,st] }) {B:Nat} {w0:World} {vx vy:Value} {nx ny:Nat} {xs ys:List Value} (h:Two B w0 w tx vx nx xs ty vy ny ys)
 (hs:a.eval s=vx) (hl:(nx+1)*bytes<=140737488355328) (hl2:nx+1<=maxLen) {b:Nat} {v:Value} (hx:a.eval x= .slice (some ⟨b,0,none⟩) 1 1) (hp:mr w vx vy b v tx) (h1:v.oneCell'=true)
 (hK: ∀ v' w',Two B w0 w' tx v' (nx+1) (xs++ [v]) ty vy ny ys->(∀ b' u t',mr w vx vy b' u t'->mr w' v' vy b' u t')->w.grownBy w' vx.ownBlock->(∀ b',b'<w.heap.size->vx.ownBlock≠some b'->v'.ownBlock≠some b')->K (a.put o.dst v') w'):
 if Region.wanted o (yielded ops a.tmps)=true then Oper.wp Tryz.prog o a w K Q else E:=by
 obtain⟨z,hz,hzc⟩:=S.info;obtain⟨i0,hi,hz0,hz1,hz2⟩:=info_parts hz;have hb:=h.base;refine step_append_lies w hgd s x st ho B tx i0 z 1 bytes S.und hi hz0 hz1 hz2 hzc (by decide) vx nx xs hs h.x ⟨b,0,none⟩ 1 1 [v] hx rfl (World.news_of_block hp.at') (by intro u hu;simp at hu;subst hu;exact h1) om1 hl2 hl hb w.heap.size rfl ?_;intro g cap w' k1 k2 k3 k4;have kB:Below B w0 w':=h.below.grown k2 hb (fun k hk=>(h.x.lt k hk).1)
 have hg: ∀ g',vy.ownBlock=some g'->g≠g':=fun g' e1 e2=>by
  subst e2;rcases k3 with k3|k3
  · exact h.apart _ k3 e1
  · have:=(h.y.lt _ e1).2;omega
 refine hK _ w' ⟨k1,h.y.kept k2 ?_, ?_,kB,Nat.le_trans hb k2.size⟩ ?_ k2 ?_
 · cases e:vy.ownBlock with
   |none=>exact Or.inl rfl
   |some g'=>exact Or.inr (fun e2=>h.apart _ e2.symm e)
 · intro g' e1 e2;have e3:g=g':=by simpa [Value.ownBlock] using e1
   exact hg g' e2 e3
 · intro b' u t' hp';refine⟨(k2.block b' hp'.lt (fun e=>hp'.notx e.symm)).trans hp'.at',fun e=> ?_,hp'.noty⟩;have e3:g=b':=by simpa [Value.ownBlock] using e
   rcases k3 with k3|k3
   · exact hp'.notx (by rw [k3,e3])
   · have:=hp'.lt;omega
 · intro b' hb' hne e;have e3:g=b':=by simpa [Value.ownBlock] using e
   rcases k3 with k3|k3
   · exact hne (by rw [k3,e3])
   · omega
theorem uA{ops:Array Oper}{o:Oper}{a:Act}{w:World}{K:Act->World->Prop}{Q:Exit->Act->World->Prop}{E:Prop}{st tx ty:TypeId}{bytes:Nat}(S:El st ty bytes)(hgd:o.guard=none)(s x:Operand)
 (ho:o.op= .call { callee:= .builtin .append,args:= #[s,x],argTypes:= #[st,st] }) {B:Nat} {w0:World} {vx vy:Value} {nx ny:Nat} {xs ys:List Value} (h:Two B w0 w tx vx nx xs ty vy ny ys)
 (hs:a.eval s=vy) (hl:(ny+1)*bytes<=140737488355328) (hl2:ny+1<=maxLen) {b:Nat} {v:Value} (hx:a.eval x= .slice (some ⟨b,0,none⟩) 1 1) (hp:mr w vx vy b v ty) (h1:v.oneCell'=true)
 (hK: ∀ v' w',Two B w0 w' tx vx nx xs ty v' (ny+1) (ys++ [v])->(∀ b' u t',mr w vx vy b' u t'->mr w' vx v' b' u t')->w.grownBy w' vy.ownBlock->(∀ b',b'<w.heap.size->vy.ownBlock≠some b'->v'.ownBlock≠some b')->K (a.put o.dst v') w'):
 if Region.wanted o (yielded ops a.tmps)=true then Oper.wp Tryz.prog o a w K Q else E:=
 qi S hgd s x ho h.swap hs hl hl2 hx hp.swap h1 (fun v' w' k1 k2 k3 k4=>hK v' w' k1.swap (fun b' u t' hp'=>(k2 b' u t' hp'.swap).swap) k3 k4)
end Vg
end
end Go.Proofs.YtcefcokpjbebhaaGreatDoor
