/-
  Two slices of the call's own, appended to in one statement whose order is open.
-/
import Derived.Test.YtcefcokpjbebhaaGreatDoorM2
import Derived.Deep.AppendLies
import Derived.Maps.AppendAt
import Derived.OwnWalk
set_option linter.unusedSimpArgs false
set_option linter.unusedVariables false
namespace Go.Proofs.YtcefcokpjbebhaaGreatDoor
section
open Go.RowKit
namespace Vc
structure Two(B:Nat)(w0 w:World)(vx:Value)(nx:Nat)(zx:Nat->Int)(vy:Value)(ny:Nat)(zy:Nat->Int):Prop where
 x:Own B w0 w vx nx zx
 y:Own B w0 w vy ny zy
 apart: ∀ g,vx.ownBlock=some g->vy.ownBlock≠some g
theorem Two.keep{B:Nat}{w0 w w':World}{vx vy:Value}{nx ny:Nat}{zx zy:Nat->Int}(h:Two B w0 w vx nx zx vy ny zy)(b:Below w.heap.size w w'):Two B w0 w' vx nx zx vy ny zy:=⟨h.x.keep b,h.y.keep b,h.apart⟩
theorem Two.swap{B:Nat}{w0 w:World}{vx vy:Value}{nx ny:Nat}{zx zy:Nat->Int}(h:Two B w0 w vx nx zx vy ny zy):Two B w0 w vy ny zy vx nx zx:=⟨h.y,h.x,fun g h1 h2=>h.apart g h2 h1⟩
structure Pend(w:World)(vx vy:Value)(b:Nat)(y:Int):Prop where
 at':w.heap[b]?=some (.cells #[.int .i64 y] 2 (0,0))
 notx:vx.ownBlock≠some b
 noty:vy.ownBlock≠some b
theorem Pend.lt{w:World}{vx vy:Value}{b:Nat}{y:Int}(h:Pend w vx vy b y):b<w.heap.size:=by
 rcases Nat.lt_or_ge b w.heap.size with k|k
 · exact k
 · have:=h.at';rw [Array.getElem?_eq_none k] at this;cases this
theorem Pend.swap{w:World}{vx vy:Value}{b:Nat}{y:Int}(h:Pend w vx vy b y):Pend w vy vx b y:=⟨h.at',h.noty,h.notx⟩
theorem step_x{ops:Array Oper}{o:Oper}{a:Act}{w:World}{K:Act->World->Prop}{Q:Exit->Act->World->Prop}{E:Prop}(hgd:o.guard=none)(s x:Operand)
 (ho:o.op= .call { callee:= .builtin .append,args:= #[s,x],argTypes:= #[27,27] }) {B:Nat} {w0:World} {vx vy:Value} {nx ny:Nat} {zx zy:Nat->Int} (h:Two B w0 w vx nx zx vy ny zy)
 (hs:a.eval s=vx) (hl:nx<=2000000) {b:Nat} {y:Int} (hx:a.eval x= .slice (some ⟨b,0,none⟩) 1 1) (hp:Pend w vx vy b y) (hy:y=zx nx)
 (hK: ∀ v' w',Two B w0 w' v' (nx+1) zx vy ny zy->(∀ b' y',Pend w vx vy b' y'->Pend w' v' vy b' y')->K (a.put o.dst v') w'):
 if Region.wanted o (yielded ops a.tmps)=true then Oper.wp Tryz.prog o a w K Q else E:=by
 obtain⟨i0,hi,hz0,hz1,hz2⟩:=info_parts infoI64;subst hy;have hb:=h.x.base;refine step_append_lies w hgd s x 27 ho B 2 i0 (.int .i64 0) 1 8 Tryz.underlying27 hi hz0 hz1 hz2 rfl (by decide) vx nx (vals nx zx) hs h.x.row ⟨b,0,none⟩ 1 1 [.int .i64 (zx nx)] hx rfl (World.news_of_block hp.at') (by intro u hu;simp at hu;subst hu;rfl) om1 (by unfold maxLen;omega) om1 hb w.heap.size rfl ?_;intro g cap w' h1 h2 h3 h4;rw [vals_push] at h1;have kB:Below B w0 w':=h.x.below.grown h2 hb (fun k hk=>(h.x.row.lt k hk).1)
 have hg: ∀ g',vy.ownBlock=some g'->g≠g':=fun g' e1 e2=>by
  subst e2;rcases h3 with h3|h3
  · exact h.apart _ h3 e1
  · have:=(h.y.row.lt _ e1).2;omega
 refine hK _ w' ⟨⟨h1,kB,Nat.le_trans hb h2.size⟩,⟨h.y.row.kept h2 ?_,kB,Nat.le_trans hb h2.size⟩, ?_⟩ ?_
 · cases e:vy.ownBlock with
   |none=>exact Or.inl rfl
   |some g'=>exact Or.inr (fun e2=>h.apart _ e2.symm e)
 · intro g' e1 e2;have e3:g=g':=by simpa [Value.ownBlock] using e1
   exact hg g' e2 e3
 · intro b' y' hp';refine⟨(h2.block b' hp'.lt (fun e=>hp'.notx e.symm)).trans hp'.at',fun e=> ?_,hp'.noty⟩;have e3:g=b':=by simpa [Value.ownBlock] using e
   rcases h3 with h3|h3
   · exact hp'.notx (by rw [h3,e3])
   · have:=hp'.lt;omega
theorem step_y{ops:Array Oper}{o:Oper}{a:Act}{w:World}{K:Act->World->Prop}{Q:Exit->Act->World->Prop}{E:Prop}(hgd:o.guard=none)(s x:Operand)
 (ho:o.op= .call { callee:= .builtin .append,args:= #[s,x],argTypes:= #[27,27] }) {B:Nat} {w0:World} {vx vy:Value} {nx ny:Nat} {zx zy:Nat->Int} (h:Two B w0 w vx nx zx vy ny zy)
 (hs:a.eval s=vy) (hl:ny<=2000000) {b:Nat} {y:Int} (hx:a.eval x= .slice (some ⟨b,0,none⟩) 1 1) (hp:Pend w vx vy b y) (hy:y=zy ny)
 (hK: ∀ v' w',Two B w0 w' vx nx zx v' (ny+1) zy->(∀ b' y',Pend w vx vy b' y'->Pend w' vx v' b' y')->K (a.put o.dst v') w'):
 if Region.wanted o (yielded ops a.tmps)=true then Oper.wp Tryz.prog o a w K Q else E:=
 step_x hgd s x ho h.swap hs hl hx hp.swap hy (fun v' w' h1 h2=>hK v' w' h1.swap (fun b' y' hp'=>(h2 b' y' hp'.swap).swap))
end Vc
end
section
open Go.RowKit
namespace Vg
end Vg
end
end Go.Proofs.YtcefcokpjbebhaaGreatDoor
