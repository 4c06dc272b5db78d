/-
  Where the digits lie: trim leaves them in their block, minus lays them in a new one; a digit laid ahead of others. (radomeref01)
-/
import Derived.Test.YtcefcokpjbebhaaGreatDoorM2
import Derived.Laws.AppendOwnNone
set_option linter.unusedSimpArgs false
set_option linter.unusedVariables false
namespace Go.Proofs.YtcefcokpjbebhaaGreatDoor
open Go.RowKit
namespace Dec
def From(B:Nat)(v:Value):Prop:= ∀ p n c,v= .slice (some p) n c->B<=p.block
theorem From.mono{B C:Nat}{v:Value}(h:From B v)(hC:C<=B):From C v:=fun p n c e=>Nat.le_trans hC (h p n c e)
theorem yZ(B:Nat):From B (.slice none 0 0):=fun p n c e=>by cases e
theorem Own.from{B:Nat}{w0 w:World}{v:Value}{l:List Nat}(h:Own B w0 w v l):From B v:=by
 obtain⟨⟨h1,h2⟩,_,_⟩:=h;rcases h2 with⟨rfl,h0⟩|⟨g,cap,cur,rfl,hb,hg,hn,hc,hs,ht⟩
 · exact yZ _
 · intro p n c e;cases e
   exact hb
theorem Own.keep{B:Nat}{w0 w w':World}{v:Value}{l:List Nat}(h:Own B w0 w v l)(hb:Below w.heap.size w w'):Own B w0 w' v l:=by
 obtain⟨⟨h1,h2⟩,h3,h4⟩:=h;refine⟨⟨h1, ?_⟩,h3.trans (hb.mono h4),Nat.le_trans h4 hb.size⟩;rcases h2 with h2|⟨g,cap,cur,hv,hbs,hg,hr⟩
 · exact Or.inl h2
 · have hlt:g<w.heap.size:=by
    rcases Nat.lt_or_ge g w.heap.size with k|k
    · exact k
    · rw [Array.getElem?_eq_none k] at hg;cases hg
   exact Or.inr ⟨g,cap,cur,hv,hbs,(hb.block g hlt).trans hg,hr⟩
theorem Rd.setOther{w:World}{v:Value}{l:List Nat}{B:Nat}(h:Rd w v l)(hf:From B v){p:Addr}(u:Value)(hp:p.block<B):Rd (w.setCell p u) v l:=by
 rcases h with h|⟨b,off,cap,hv,hc,hlt,hcell⟩
 · exact Or.inl h
 · have hb:=hf _ _ _ hv;refine Or.inr ⟨b,off,cap,hv,hc,hlt.set p u,fun t ht=> ?_⟩;rw [World.cell?_setCell_other,hcell t ht];intro e;rw [e] at hp;simp at hp hb;omega
end Dec
open Dec
theorem wZ(v:Value)(l:List Nat)(w:World)(hs:Small l)(hm:l.length<=4000000)(h:Rd w v l):
 Calls Tryz.prog 260 #[v] w fun e w'=> ∃ v',e= .returned v'/\Rd w v' (bZ (val l))/\w'=w/\ ∀ B,From B v->From B v':=by
 rcases h with⟨rfl,rfl⟩|⟨b,off,cap,rfl,hlc,hlt,hc⟩
 · refine(KZ w).mono ?_;rintro e w' ⟨rfl,rfl⟩;exact⟨_,rfl,Or.inl ⟨rfl,rfl⟩,rfl,fun B h=>h⟩
 · refine(Gn b off cap l w hs hlc hm hc).mono ?_;rintro e w' ⟨rfl,rfl⟩;have hl:=bH (oN hs);refine⟨_,rfl,Or.inr ⟨b,off,cap,rfl,om1,hlt,fun t ht=> ?_⟩,rfl, ?_⟩
   · rw [hc t om1,vG hs ht]
   · intro B hB p n c e;cases e
     exact hB _ _ _ rfl
theorem ru{ops:Array Oper}{rest:List Oper}{o:Oper}{a:Act}{Q:Exit->Act->World->Prop}{wr:World}(hgd:o.guard=none)(s x:Operand)
 (ho:o.op= .call { callee:= .builtin .append,args:= #[s,x],argTypes:= #[188,188] }) (z:Int) (d:Nat) (hz:z=(d:Int)) (v:Value) (l:List Nat)
 (hs:a.eval s= .slice (some ⟨wr.heap.size,0,none⟩) 1 1) (hx:a.eval x=v) (hrd:Rd wr v l) (hl:l.length<=2000000)
 (h: ∀ v' w',Rd w' v' (d::l)->From wr.heap.size v'->Below wr.heap.size wr w'->wpList Tryz.prog ops Q rest (a.put o.dst v') w'):wpList Tryz.prog ops Q (o::rest) a (wr.alloc (.cells #[.int .i64 z] 3)):=by
 obtain⟨i0,hi,hz0,hz1,hz2⟩:=info_parts Dec.Tryz.xE;subst hz
 have hrow:(wr.alloc (.cells #[.int .i64 (d:Int)] 3)).ownsRow wr.heap.size 3 1 (.slice (some ⟨wr.heap.size,0,none⟩) 1 1) 1 [.int .i64 (d:Int)]:=
  ⟨rfl,Or.inr ⟨wr.heap.size,1, #[.int .i64 (d:Int)],rfl,Nat.le_refl _,heap_alloc_new wr _,Nat.le_refl _,by unfold maxLen;omega,rfl,rfl⟩⟩
 have hal:Below wr.heap.size wr (wr.alloc (.cells #[.int .i64 (d:Int)] 3)):=(Below.refl _ _).alloc (Nat.le_refl _) _;rcases hrd with⟨rfl,rfl⟩|⟨b,off,cap,rfl,hlc,hlt,hc⟩
 · refine wpList_append_own_none hgd s x 188 ho wr.heap.size 3 i0 1 Tryz.underlying188 hi _ 1 _ hs hrow hx ?_;refine h _ _ (Or.inr ⟨wr.heap.size,0,1,rfl,Nat.le_refl _,⟨_,_,heap_alloc_new wr _⟩,fun t ht=> ?_⟩) (fun p n c e=>by cases e;exact Nat.le_refl _) hal;have:t=0:=by simp at ht;omega
   subst this;have:=cell_of_row _ wr.heap.size 0 _ _ (0,0) (heap_alloc_new wr (.cells #[.int .i64 (d:Int)] 3));rw [Nat.zero_add,this];rfl
 · refine wpList_append_own _ hgd s x 188 ho wr.heap.size 3 i0 (.int .i64 0) 1 8 Tryz.underlying188 hi hz0 hz1 hz2 rfl (by decide) _ 1 _ hs hrow ⟨b,off,none⟩ l.length cap (vals l) hx (by simp [vals]) ?_ ?_ (by unfold maxLen;omega) om1 (by simp) ?_
   · intro j u hj
     have hjl:j<l.length:=by
      have:=(List.getElem?_eq_some_iff.1 hj).1;simpa [vals] using this
     have e1:(vals l)[j]?=some (.int .i64 ((l.getD j 0:Nat):Int)):=by
      simp [vals,List.getD,List.getElem?_eq_getElem hjl]
     rw [hj] at e1;rw [e1,show(⟨b,off,none⟩:Addr).add j=⟨b,off+j,none⟩ by unfold Addr.add;split<;>simp_all]
     exact(hal.cell (p:=⟨b,off+j,none⟩) hlt.lt).trans (hc j hjl)
   · intro u hu;simp only [vals,List.mem_map] at hu;obtain⟨n,_,rfl⟩:=hu;rfl
   · intro v' w' h1 h2 _
     have hbel:Below wr.heap.size wr w':=by
      refine hal.grown h2 (by simp) ?_;intro k hk;cases hk
      exact Nat.le_refl _
     have hO:Own wr.heap.size wr w' v' (d::l):=⟨by simpa [vals,Nat.add_comm] using h1,hbel,hbel.size⟩;exact h v' w' hO.rd hO.from hbel
theorem JU{p:Prop}(h:p:=by
 have Hend:Hid (Small o/\val o=val x- val y):=hend;clear hend;go_wp2_with fail
 refine(wZ _ _ _ Hend.out.1 (by have:=hpl.1;omega) hown.rd).mono ?_;rintro e w1 ⟨v1,rfl,hrd,rfl,hfr⟩;go_wp2;go_ret
 exact⟨_,rfl,by rw [← Hend.out.2];exact hrd,hfr _ hown.from,hown.below⟩):p:=h
theorem Tt{p:Prop}(h:p:=by
 go_wp2;go_roundw
 case rel=>exact⟨k+1,_,1,om1,by go_num,by go_num,om1,iL hpl (by(try simp only [List.getD]);have hy0:=HY.out (by rw [Hy.out];omega);omega) (by simp only [List.getD];have hy0:=HY.out (by rw [Hy.out];omega);omega),hown'⟩
 case measure=>simp [intOf];omega):p:=h
theorem Tu{p:Prop}(h:p:=by
 go_wp2;go_roundw
 case rel=>exact⟨k+1,_,0,om1,by go_num,by go_num,om1,iL hpl (by(try simp only [List.getD]);have hy0:=HY.out (by rw [Hy.out];omega);omega) (by simp only [List.getD];have hy0:=HY.out (by rw [Hy.out];omega);omega),hown'⟩
 case measure=>simp [intOf];omega):p:=h
theorem Tv{p:Prop}(h:p:=by
 have dx:=hsx k;have dy:=hsy k;have HY:Hid (y.length<=k->y[k]?.getD 0=0):=fun h=>by simp [List.getElem?_eq_none h]
 simp only [List.getD] at dx dy;have hend:=kQ hpl (by rw [Hx.out];omega) (by rw [Hy.out];omega) hcv hle
 exact JU):p:=h
set_option maxHeartbeats 1600000 in
theorem Ir(ao bo:Option Addr)(ba oa ca bb ob cb n m:Nat)(x y:List Nat)(w:World)(hn:n<=1000000)(hmn:m<=n)(hx:x.length=n)(hy:y.length=m)(hsx:Small x)(hsy:Small y)(hle:val y<=val x)
 (hao:ao=some ⟨ba,oa,none⟩\/(ao=none/\n=0)) (hbo:bo=some ⟨bb,ob,none⟩\/(bo=none/\m=0))
 (hca: ∀ t,t<n->ba<w.heap.size/\w.cell? ⟨ba,oa+t,none⟩=some (.int .i64 ((x.getD t 0:Nat):Int))) (hcb: ∀ t,t<m->bb<w.heap.size/\w.cell? ⟨bb,ob+t,none⟩=some (.int .i64 ((y.getD t 0:Nat):Int))):
 Calls Tryz.prog 188 #[.slice ao n ca, .slice bo m cb] w fun e w'=> ∃ v,e= .returned v/\Rd w' v (bZ (val x- val y))/\From w.heap.size v/\Below w.heap.size w w':=by
 have Hx:Hid (x.length=n):=hx;have Hy:Hid (y.length=m):=hy;clear hx hy;rcases hao with rfl|⟨rfl,rfl⟩
 ·rcases hbo with rfl|⟨rfl,rfl⟩
  ·go_enter Tryz.func188,Tryz.ntmps188
   go_wp2
   go_loopw [5,6,7] (fun out c i wr=> ∃ (k:Nat) (o:List Nat) (cv:Nat),k<=n/\i= .int .i64 k/\c= .int .i64 cv/\cv<=1/\lZ x y k o cv/\Own w.heap.size w wr out o)
    (fun _ _ i _=>n- (intOf i).toNat)
   case atStart=>exact⟨0,[],0,Nat.zero_le _,rfl,rfl,Nat.zero_le _,iw x y,Own.nil (Below.refl _ _) (Nat.le_refl _)⟩
   case round=>
    obtain⟨k,o,cv,hk,rfl,rfl,hcv,hpl,hown⟩:=hrel;have ga:k<n->wr.cell? ⟨ba,oa+k,none⟩=some (.int .i64 ((x.getD k 0:Nat):Int)):=fun h=>(hown.below.cell (p:=⟨ba,oa+k,none⟩) (hca k h).1).trans (hca k h).2;have gb:k<m->wr.cell? ⟨bb,ob+k,none⟩=some (.int .i64 ((y.getD k 0:Nat):Int)):=fun h=>(hown.below.cell (p:=⟨bb,ob+k,none⟩) (hcb k h).1).trans (hcb k h).2;have dx:=hsx k;have dy:=hsy k;have HY:Hid (y.length<=k->y[k]?.getD 0=0):=fun h=>by simp [List.getElem?_eq_none h]
    simp only [List.getD] at dx dy;by_cases h1:k<n
    ·by_cases h2:k<m
     ·by_cases h3:x[k]?.getD 0<cv+y[k]?.getD 0
      ·go_wp2_with (at_builtin;refine dm rl1 (.tmp 35) (.tmp 37) rl1 w.heap.size w _ o rl1 hown ?_ _ (x.getD k 0+10- cv- y.getD k 0) rl1 ?_ ?_)
       ·have:=hpl.1;omega
       ·simp only [List.getD];omega
       ·intro v' w' hown';go_wp2;go_roundw
        case rel=>exact⟨k+1,_,1,om1,by go_num,by go_num,om1,iL hpl (by(try simp only [List.getD]);omega) (by simp only [List.getD];omega),hown'⟩
        case measure=>simp [intOf];omega
      ·go_wp2_with (at_builtin;refine dm rl1 (.tmp 35) (.tmp 37) rl1 w.heap.size w _ o rl1 hown ?_ _ (x.getD k 0- cv- y.getD k 0) rl1 ?_ ?_)
       ·have:=hpl.1;omega
       ·simp only [List.getD];omega
       ·intro v' w' hown';go_wp2;go_roundw
        case rel=>exact⟨k+1,_,0,om1,by go_num,by go_num,om1,iL hpl (by(try simp only [List.getD]);omega) (by simp only [List.getD];omega),hown'⟩
        case measure=>simp [intOf];omega
     ·by_cases h3:x[k]?.getD 0<cv
      ·go_wp2_with (at_builtin;refine dm rl1 (.tmp 35) (.tmp 37) rl1 w.heap.size w _ o rl1 hown ?_ _ (x.getD k 0+10- cv- y.getD k 0) rl1 ?_ ?_)
       ·have:=hpl.1;omega
       ·simp only [List.getD];have hy0:=HY.out (by rw [Hy.out];omega);omega
       ·intro v' w' hown';exact Tt
      ·go_wp2_with (at_builtin;refine dm rl1 (.tmp 35) (.tmp 37) rl1 w.heap.size w _ o rl1 hown ?_ _ (x.getD k 0- cv- y.getD k 0) rl1 ?_ ?_)
       ·have:=hpl.1;omega
       ·simp only [List.getD];have hy0:=HY.out (by rw [Hy.out];omega);omega
       ·intro v' w' hown';exact Tu
    ·have hend:=kQ hpl (by rw [Hx.out];omega) (by rw [Hy.out];omega) hcv hle;exact JU
  ·go_enter Tryz.func188,Tryz.ntmps188
   go_wp2
   go_loopw [5,6,7] (fun out c i wr=> ∃ (k:Nat) (o:List Nat) (cv:Nat),k<=n/\i= .int .i64 k/\c= .int .i64 cv/\cv<=1/\lZ x y k o cv/\Own w.heap.size w wr out o)
    (fun _ _ i _=>n- (intOf i).toNat)
   case atStart=>exact⟨0,[],0,Nat.zero_le _,rfl,rfl,Nat.zero_le _,iw x y,Own.nil (Below.refl _ _) (Nat.le_refl _)⟩
   case round=>
    obtain⟨k,o,cv,hk,rfl,rfl,hcv,hpl,hown⟩:=hrel;have ga:k<n->wr.cell? ⟨ba,oa+k,none⟩=some (.int .i64 ((x.getD k 0:Nat):Int)):=fun h=>(hown.below.cell (p:=⟨ba,oa+k,none⟩) (hca k h).1).trans (hca k h).2;have dx:=hsx k;have dy:=hsy k;have HY:Hid (y.length<=k->y[k]?.getD 0=0):=fun h=>by simp [List.getElem?_eq_none h]
    simp only [List.getD] at dx dy;by_cases h1:k<n
    ·by_cases h3:x[k]?.getD 0<cv
     ·go_wp2_with (at_builtin;refine dm rl1 (.tmp 35) (.tmp 37) rl1 w.heap.size w _ o rl1 hown ?_ _ (x.getD k 0+10- cv- y.getD k 0) rl1 ?_ ?_)
      ·have:=hpl.1;omega
      ·simp only [List.getD];have hy0:=HY.out (by rw [Hy.out];omega);omega
      ·intro v' w' hown';exact Tt
     ·go_wp2_with (at_builtin;refine dm rl1 (.tmp 35) (.tmp 37) rl1 w.heap.size w _ o rl1 hown ?_ _ (x.getD k 0- cv- y.getD k 0) rl1 ?_ ?_)
      ·have:=hpl.1;omega
      ·simp only [List.getD];have hy0:=HY.out (by rw [Hy.out];omega);omega
      ·intro v' w' hown';exact Tu
    ·have hend:=kQ hpl (by rw [Hx.out];omega) (by rw [Hy.out];omega) hcv hle;exact JU
 ·obtain rfl:m=0:=om1;rcases hbo with rfl|⟨rfl,_⟩
  ·go_enter Tryz.func188,Tryz.ntmps188
   go_wp2
   go_loopw [5,6,7] (fun out c i wr=> ∃ (k:Nat) (o:List Nat) (cv:Nat),k<=0/\i= .int .i64 k/\c= .int .i64 cv/\cv<=1/\lZ x y k o cv/\Own w.heap.size w wr out o)
    (fun _ _ i _=>0- (intOf i).toNat)
   case atStart=>exact⟨0,[],0,Nat.zero_le _,rfl,rfl,Nat.zero_le _,iw x y,Own.nil (Below.refl _ _) (Nat.le_refl _)⟩
   case round=>
    obtain⟨k,o,cv,hk,rfl,rfl,hcv,hpl,hown⟩:=hrel;have gb:k<0->wr.cell? ⟨bb,ob+k,none⟩=some (.int .i64 ((y.getD k 0:Nat):Int)):=fun h=>(hown.below.cell (p:=⟨bb,ob+k,none⟩) (hcb k h).1).trans (hcb k h).2;exact Tv
  ·go_enter Tryz.func188,Tryz.ntmps188
   go_wp2
   go_loopw [5,6,7] (fun out c i wr=> ∃ (k:Nat) (o:List Nat) (cv:Nat),k<=0/\i= .int .i64 k/\c= .int .i64 cv/\cv<=1/\lZ x y k o cv/\Own w.heap.size w wr out o)
    (fun _ _ i _=>0- (intOf i).toNat)
   case atStart=>exact⟨0,[],0,Nat.zero_le _,rfl,rfl,Nat.zero_le _,iw x y,Own.nil (Below.refl _ _) (Nat.le_refl _)⟩
   case round=>
    obtain⟨k,o,cv,hk,rfl,rfl,hcv,hpl,hown⟩:=hrel;exact Tv
theorem OI(va vb:Value)(x y:Nat)(w:World)(hx:(bZ x).length<=1000000)(hle:y<=x)(ha:Rd w va (bZ x))(hb:Rd w vb (bZ y)):
 Calls Tryz.prog 188 #[va,vb] w fun e w'=> ∃ v,e= .returned v/\Rd w' v (bZ (x- y))/\From w.heap.size v/\Below w.heap.size w w':=by
 obtain⟨ao,ba,oa,ca,rfl,_,hao,hca⟩:=ha.shape;obtain⟨bo,bb,ob,cb,rfl,_,hbo,hcb⟩:=hb.shape;have:=Ir ao bo ba oa ca bb ob cb _ _ (bZ x) (bZ y) w hx (bg hle) rfl rfl (eU _) (eU _) (by rw [eH,eH];exact hle) hao hbo hca hcb;rw [eH,eH] at this;exact this
end Go.Proofs.YtcefcokpjbebhaaGreatDoor
