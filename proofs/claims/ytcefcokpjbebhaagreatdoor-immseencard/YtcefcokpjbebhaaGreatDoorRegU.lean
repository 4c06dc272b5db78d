/-
  A region that draws its order and stores at its end into what it has read: an operation may be taken first where S holds until the late stores begin.
-/
import Derived.Test.YtcefcokpjbebhaaGreatDoorM2
import Derived.OrdersHeld
import Derived.Deep.RegionHeld
import Derived.RegionTactic
set_option linter.unusedSimpArgs false
set_option linter.unusedVariables false
namespace Go.Proofs.YtcefcokpjbebhaaGreatDoor
open Go.RowKit
namespace Ru
section
variable {P:Program} {ops:Array Oper} {Q:Exit->Act->World->Prop} {md:Region.Mode} {S:World->Prop} {late:List Nat}
def fZ(P:Program)(md:Region.Mode)(ops:Array Oper)(Q:Exit->Act->World->Prop)(S:World->Prop)(late:List Nat):Nat->Array Bool->Act->World->Prop
 |0,listed,a,w=>Region.ready md ops listed= []/\Q .normal a w
 |fuel+1,listed,a,w=>
  (Region.ready md ops listed= []->Q .normal a w)/\
  ∀ i∈Region.ready md ops listed,wpOp P ops Q i (fun a' w'=>(i∈late->wpAny P md ops Q fuel (listed.setIfInBounds i true) a' w')/\(i∉late->S w'/\fZ P md ops Q S late fuel (listed.setIfInBounds i true) a' w')) a w
theorem Ef: ∀ (fuel:Nat) (listed:Array Bool) (a:Act) (w:World),fZ P md ops Q S late fuel listed a w->wpAny P md ops Q fuel listed a w
 |0,_,_,_,h=>h
 |fuel+1,_,_,_,h=>⟨h.1,fun i hi=>wpOp_mono (fun a' w' h'=>by
   by_cases hl:i∈late
   · exact h'.1 hl
   · exact Ef fuel _ a' w' (h'.2 hl).2) (h.2 i hi)⟩
def deps(md:Region.Mode)(ops:Array Oper)(k:Nat):List Nat:=match ops[k]? with|none=> []|some o=>(o.after.toList.filter (fun e=>Region.binds md e)).map (fun e=>e.on)
def reach(md:Region.Mode)(ops:Array Oper):Nat->Nat->Nat->Bool
 |0,_,_=>false
 |f+1,j,i=>(deps md ops j).any fun q=>q==i||reach md ops f q i
def waits(md:Region.Mode)(ops:Array Oper)(late:List Nat)(i:Nat):Bool:=late.all fun j=>reach md ops ops.size j i
def Closed(md:Region.Mode)(ops:Array Oper)(listed:Array Bool):Prop:= ∀ k:Nat,listed[k]?=some true-> ∀ q∈deps md ops k,listed[q]?=some true
def pO(md:Region.Mode)(ops:Array Oper)(listed:Array Bool):Bool:=(List.range listed.size).all fun k=> !(listed[k]?==some true)||(deps md ops k).all fun q=>listed[q]?==some true
theorem RZ{listed:Array Bool}(h:pO md ops listed=true):Closed md ops listed:=fun k hk q hq=>by
 have hlt:k<listed.size:=by
  rcases Nat.lt_or_ge k listed.size with c|c
  · exact c
  · rw [Array.getElem?_eq_none c] at hk;cases hk
 have h1:=List.all_eq_true.1 h k (List.mem_range.2 hlt);rw [hk] at h1;have h2:=List.all_eq_true.1 (by simpa using h1:((deps md ops k).all fun q=>listed[q]?==some true)=true) q hq;simpa using h2
theorem yC{listed:Array Bool}(hc:Closed md ops listed): ∀ (f j i:Nat),reach md ops f j i=true->(∀ q∈deps md ops j,listed[q]?=some true)->listed[i]?=some true
 |0,_,_,h,_=>by cases h
 |f+1,j,i,h,hd=>by
  obtain⟨q,hq,h2⟩:=List.any_eq_true.1 h
  rw [Bool.or_eq_true,beq_iff_eq] at h2
  rcases h2 with h2|h2
  · rw [← h2];exact hd q hq
  · exact yC hc f q i h2 (fun q' hq'=>hc q (hd q hq) q' hq')
theorem Eg{listed:Array Bool}{j:Nat}{oj:Oper}(hoj:ops[j]?=some oj)(hall: ∀ e∈oj.after,Region.binds md e=true->listed[e.on]?=some true): ∀ q∈deps md ops j,listed[q]?=some true:=fun q hq=>by
 unfold deps at hq
 rw [hoj] at hq
 obtain⟨e,he,rfl⟩:=List.mem_map.1 hq
 obtain⟨h1,h2⟩:=List.mem_filter.1 he
 exact hall e (Array.mem_toList_iff.1 h1) h2
theorem JK{listed:Array Bool}{j:Nat}(hc:Closed md ops listed)(hd: ∀ q∈deps md ops j,listed[q]?=some true):Closed md ops (listed.setIfInBounds j true):=fun k hk q hq=>by
 have up:listed[q]?=some true->(listed.setIfInBounds j true)[q]?=some true:=fun h=>by
  rw [Array.getElem?_setIfInBounds]
  split
  · rename_i e
    subst e
    split
    · rfl
    · rename_i c;rw [Array.getElem?_eq_none om1] at h;cases h
  · exact h
 by_cases e:j=k
 · subst e;exact up (hd q hq)
 · rw [Array.getElem?_setIfInBounds_ne e] at hk
   exact up (hc k hk q hq)
theorem Ij{i:Nat}{oi:Oper}{v:Value}(hi:ops[i]?=some oi)(hil:i∉late)(hwt:waits md ops late i=true)(hsel: ∀ (j:Nat) (o:Oper) cs b,ops[j]?=some o->o.op≠ .select cs b)
 (hQ: ∀ c a w,Q (.panic c) (a.put oi.dst v) w->Q (.panic c) a w):
 ∀ (fuel:Nat) (listed:Array Bool) (a:Act) (w:World),Closed md ops listed->
  (∀ j oj,ops[j]?=some oj->j≠i->listed.getD j true=false->(∀ e∈oj.after,Region.binds md e=true->e.on≠i)->oi.apart ops oj=true)->
  i∈Region.ready md ops listed->YieldsIf P ops S oi v a->S w->
  fZ P md ops Q S late fuel (listed.setIfInBounds i true) (a.put oi.dst v) w->fZ P md ops Q S late (fuel+1) listed a w:=by
 intro fuel;induction fuel with
 |zero=>
  intro listed a w _ _ hr hy hS H;refine⟨fun h=>(by rw [h] at hr;cases hr),fun j hj=> ?_⟩;by_cases hji:j=i
  ·subst hji;exact hy.wpOp hi hS ⟨fun h=>absurd h hil,fun _=>⟨hS,H⟩⟩
  ·have:=ready_mono hj hji;rw [H.1] at this;cases this
 |succ fuel ih=>
  intro listed a w hcl hfree hr hy hS H;refine⟨fun h=>(by rw [h] at hr;cases hr),fun j hj=> ?_⟩;by_cases hji:j=i
  ·subst hji;exact hy.wpOp hi hS ⟨fun h=>absurd h hil,fun _=>⟨hS,H⟩⟩
  ·have h1:=H.2 j (ready_mono hj hji);obtain⟨hjun,oj,hoj,hall⟩:=mem_ready.1 hj
   have hnot: ∀ e∈oj.after,Region.binds md e=true->e.on≠i:=fun e he hb heq=>by
    have h1:=hall e he hb;have h0:=(mem_ready.1 hr).1;rw [heq] at h1;rcases Nat.lt_or_ge i listed.size with h'|h'
    ·simp [h'] at h0 h1;rw [h0] at h1;cases h1
    ·simp [Array.getElem?_eq_none h'] at h1
   have hall': ∀ e∈oj.after,Region.binds md e=true->listed[e.on]?=some true:=fun e he hb=>by
    have h1:=hall e he hb;rcases Nat.lt_or_ge e.on listed.size with h'|h'
    ·simp [h'] at h1 ⊢;exact h1
    ·simp [Array.getElem?_eq_none h'] at h1
   have hjl:j∉late:=fun hjl=>by
    have h2:=yC hcl _ _ _ (List.all_eq_true.1 hwt j hjl) (Eg hoj hall');have h0:=(mem_ready.1 hr).1;rcases Nat.lt_or_ge i listed.size with h'|h'
    ·simp [h'] at h0 h2;rw [h0] at h2;cases h2
    ·rw [Array.getElem?_eq_none h'] at h2;cases h2
   have h2:=wpOp_putIf hoj (hfree j oj hoj hji hjun hnot) (fun cs b=>hsel i oi cs b hi) (fun cs b=>hsel j oj cs b hoj) hQ hy h1
   have hfree': ∀ k ok,ops[k]?=some ok->k≠i->(listed.setIfInBounds j true).getD k true=false->
    (∀ e∈ok.after,Region.binds md e=true->e.on≠i)->oi.apart ops ok=true:=fun k ok hk hki hun hno=>by
    refine hfree k ok hk hki ?_ hno;by_cases hjk:j=k
    ·subst hjk;exact hjun
    ·rw [getD_set_ne true hjk] at hun;exact hun
   refine wpOp_mono (fun a' w' h3=>⟨fun h=>absurd h hjl,fun _=>⟨(h3.2.2 hjl).1,ih (listed.setIfInBounds j true) a' w' (JK hcl (Eg hoj hall')) hfree' (ready_mono hr (Ne.symm hji)) h3.1 (h3.2.2 hjl).1 ?_⟩⟩) h2;rw [Array.setIfInBounds_comm _ _ hji];exact(h3.2.2 hjl).2
theorem jR{i:Nat}{oi:Oper}{v:Value}{fuel:Nat}{listed:Array Bool}{a:Act}{w:World}(hi:ops[i]?=some oi)(hil:late.contains i=false)(hwt:waits md ops late i=true)(hcl:pO md ops listed=true)
 (hs:Region.noSelect ops=true) (hf:Region.free md ops listed i=true) (hr:(Region.ready md ops listed).contains i=true)
 (hQ: ∀ c a w,Q (.panic c) (a.put oi.dst v) w->Q (.panic c) a w) (hy:YieldsIf P ops S oi v a) (hS:S w)
 (h:fZ P md ops Q S late fuel (listed.setIfInBounds i true) (a.put oi.dst v) w):fZ P md ops Q S late (fuel+1) listed a w:=
 Ij hi (fun e=>by rw [List.contains_iff_mem.2 e] at hil;cases hil) hwt (Region.noSelect_spec hs) hQ fuel listed a w (RZ hcl) (Region.free_spec hi hf) (by simpa using hr) hy hS h
def dC(P:Program)(md:Region.Mode)(ops:Array Oper)(Q:Exit->Act->World->Prop)(S:World->Prop)(late:List Nat)(fuel:Nat)(listed:Array Bool)(a:Act)(w:World)(rs:List Nat):Prop:=
 ∀ i∈rs,wpOp P ops Q i (fun a' w'=>(i∈late->wpAny P md ops Q fuel (listed.setIfInBounds i true) a' w')/\(i∉late->S w'/\fZ P md ops Q S late fuel (listed.setIfInBounds i true) a' w')) a w
theorem dC.nil{fuel:Nat}{listed:Array Bool}{a:Act}{w:World}:dC P md ops Q S late fuel listed a w []:=fun _ h=>by cases h
theorem dC.cons{fuel:Nat}{listed:Array Bool}{a:Act}{w:World}{i:Nat}{o:Oper}{rs:List Nat}(ho:ops[i]?=some o)(hil:late.contains i=false)
 (h: ∀ K':Act->World->Prop,Shut (∀ a w,S w->(S w->fZ P md ops Q S late fuel (listed.setIfInBounds i true) a w)->K' a w)->if Region.wanted o (yielded ops a.tmps)=true then Oper.wp P o a w K' Q else K' (a.put o.dst undef) w)
 (hs:dC P md ops Q S late fuel listed a w rs):dC P md ops Q S late fuel listed a w (i::rs):=fun j hj=>by
 rcases List.mem_cons.1 hj with rfl|hj
 · exact wpOp_step ho (fun K' hK=>h K' (fun a w hS hW=>hK a w ⟨fun e=>(by rw [List.contains_iff_mem.2 e] at hil;cases hil),fun _=>⟨hS,hW hS⟩⟩))
 · exact hs j hj
theorem dC.cons2{fuel:Nat}{listed:Array Bool}{a:Act}{w:World}{i:Nat}{o:Oper}{rs:List Nat}(ho:ops[i]?=some o)(hil:late.contains i=true)
 (h: ∀ K':Act->World->Prop,Shut (∀ a w,wpAny P md ops Q fuel (listed.setIfInBounds i true) a w->K' a w)->if Region.wanted o (yielded ops a.tmps)=true then Oper.wp P o a w K' Q else K' (a.put o.dst undef) w)
 (hs:dC P md ops Q S late fuel listed a w rs):dC P md ops Q S late fuel listed a w (i::rs):=fun j hj=>by
 rcases List.mem_cons.1 hj with rfl|hj
 · exact wpOp_step ho (fun K' hK=>h K' (fun a w hW=>hK a w ⟨fun _=>hW,fun e=>absurd (List.contains_iff_mem.1 hil) e⟩))
 · exact hs j hj
theorem oh{rs:List Nat}{fuel:Nat}{listed:Array Bool}{a:Act}{w:World}(hr:Region.ready md ops listed=rs)(hne:rs≠ [])
 (h:dC P md ops Q S late fuel listed a w rs):fZ P md ops Q S late (fuel+1) listed a w:=⟨fun h0=>absurd (hr▸h0) hne,hr▸h⟩
theorem bI{fuel:Nat}{listed:Array Bool}{a:Act}{w:World}(hr:Region.ready md ops listed= [])(h:Q .normal a w):fZ P md ops Q S late fuel listed a w:=by
 cases fuel with
 |zero=>exact⟨hr,h⟩
 |succ n=>exact⟨fun _=>h,fun i hi=>by rw [hr] at hi;cases hi⟩
theorem aS{id:Nat}{a:Act}{w:World}(late:List Nat)(S:World->Prop)(hm:P.follows .mixedOrders=true)(hS:S w.drew)
 (h:S w.drew->fZ P .any ops Q S late ops.size (Array.replicate ops.size false) a w.drew):(Code.region id ops true).wp P Q a w:=
 wp_region_any hm (Ef _ _ _ _ (h hS))
theorem zq1.{u}{α:Type u}{xs:List α}{i:Nat}(h:i<xs.toArray.size):xs.toArray[i]=xs[i]:=rfl
theorem zq2.{u}{α:Type u}(a:α)(l:List α)(h:0<(a::l).length):(a::l)[0]=a:=rfl
theorem zq3.{u}{α:Type u}(a:α)(l:List α)(i:Nat)(h:i+1<(a::l).length):(a::l)[i+1]=l[i]'(Nat.lt_of_succ_lt_succ h):=rfl
theorem zq4.{u}{α:Type u}(l:List α)(i:Nat)(a:α):l.toArray.setIfInBounds i a=(l.set i a).toArray:=List.setIfInBounds_toArray l i a
theorem zq5.{u}{α:Type u}{x a:α}{xs:List α}:(x::xs).set 0 a=a::xs:=rfl
theorem zq6.{u}{α:Type u}{x a:α}{xs:List α}{n:Nat}:(x::xs).set (n+1) a=x::xs.set n a:=rfl
section
variable {oi:Oper} {fuel:Nat} {listed:Array Bool} {a a':Act} {w:World}
theorem tk(i:Nat)(v:Value)(hi:ops[i]?=some oi)(hy:YieldsIf P ops S oi v a)(hS:S w)(h:fZ P md ops Q S late fuel (listed.setIfInBounds i true) a' w)
 (hil:late.contains i=false:=by kernel_rfl) (hwt:waits md ops late i=true:=by kernel_rfl) (hcl:pO md ops listed=true:=by kernel_rfl)
 (hs:Region.noSelect ops=true:=by kernel_rfl) (hf:Region.free md ops listed i=true:=by kernel_rfl) (hr:(Region.ready md ops listed).contains i=true:=by kernel_rfl)
 (hQ: ∀ c a w,Q (.panic c) (a.put oi.dst v) w->Q (.panic c) a w:=by exact fun _ _ _ h=>h)
 (ha:a.put oi.dst v=a':=by(conv=>lhs;simp only [Act.put,Ru.zq1,Ru.zq2,Ru.zq3,Ru.zq4,Ru.zq5,Ru.zq6])<;>exact rfl):fZ P md ops Q S late (fuel+1) listed a w:=
 jR hi hil hwt hcl hs hf hr hQ hy hS (by subst ha;exact h)
theorem tk1(i:Nat)(v:Value)(hS:S w)(h:fZ P md ops Q S late fuel (listed.setIfInBounds i true) a' w)(hi:ops[i]?=some oi:=by exact rfl)
 (hw:Region.wanted oi (yielded ops a.tmps)=true:=by kernel_rfl) (hv: ∀ w,S w->(execOp a.eval oi).run P w= .ok (.value v) w:=by intro w hS;have s0:=hS;go_simp)
 (hil:late.contains i=false:=by kernel_rfl) (hwt:waits md ops late i=true:=by kernel_rfl) (hcl:pO md ops listed=true:=by kernel_rfl)
 (hs:Region.noSelect ops=true:=by kernel_rfl) (hf:Region.free md ops listed i=true:=by kernel_rfl) (hr:(Region.ready md ops listed).contains i=true:=by kernel_rfl)
 (hQ: ∀ c a w,Q (.panic c) (a.put oi.dst v) w->Q (.panic c) a w:=by exact fun _ _ _ h=>h)
 (ha:a.put oi.dst v=a':=by(conv=>lhs;simp only [Act.put,Ru.zq1,Ru.zq2,Ru.zq3,Ru.zq4,Ru.zq5,Ru.zq6])<;>exact rfl):fZ P md ops Q S late (fuel+1) listed a w:=
 jR hi hil hwt hcl hs hf hr hQ (Or.inl ⟨hw,hv⟩) hS (by subst ha;exact h)
theorem tk2(i:Nat)(v:Value)(hS:S w)(h:fZ P md ops Q S late fuel (listed.setIfInBounds i true) a' w)(hi:ops[i]?=some oi:=by exact rfl)
 (hw:Region.wanted oi (yielded ops a.tmps)=true:=by kernel_rfl) (hv: ∀ w,S w->(execOp a.eval oi).run P w= .ok (.value v) w:=by intro w hS;obtain⟨s0,s1⟩:=hS;go_simp)
 (hil:late.contains i=false:=by kernel_rfl) (hwt:waits md ops late i=true:=by kernel_rfl) (hcl:pO md ops listed=true:=by kernel_rfl)
 (hs:Region.noSelect ops=true:=by kernel_rfl) (hf:Region.free md ops listed i=true:=by kernel_rfl) (hr:(Region.ready md ops listed).contains i=true:=by kernel_rfl)
 (hQ: ∀ c a w,Q (.panic c) (a.put oi.dst v) w->Q (.panic c) a w:=by exact fun _ _ _ h=>h)
 (ha:a.put oi.dst v=a':=by(conv=>lhs;simp only [Act.put,Ru.zq1,Ru.zq2,Ru.zq3,Ru.zq4,Ru.zq5,Ru.zq6])<;>exact rfl):fZ P md ops Q S late (fuel+1) listed a w:=
 jR hi hil hwt hcl hs hf hr hQ (Or.inl ⟨hw,hv⟩) hS (by subst ha;exact h)
theorem tk3(i:Nat)(v:Value)(hS:S w)(h:fZ P md ops Q S late fuel (listed.setIfInBounds i true) a' w)(hi:ops[i]?=some oi:=by exact rfl)
 (hw:Region.wanted oi (yielded ops a.tmps)=true:=by kernel_rfl) (hv: ∀ w,S w->(execOp a.eval oi).run P w= .ok (.value v) w:=by intro w hS;obtain⟨s0,s1,s2⟩:=hS;go_simp)
 (hil:late.contains i=false:=by kernel_rfl) (hwt:waits md ops late i=true:=by kernel_rfl) (hcl:pO md ops listed=true:=by kernel_rfl)
 (hs:Region.noSelect ops=true:=by kernel_rfl) (hf:Region.free md ops listed i=true:=by kernel_rfl) (hr:(Region.ready md ops listed).contains i=true:=by kernel_rfl)
 (hQ: ∀ c a w,Q (.panic c) (a.put oi.dst v) w->Q (.panic c) a w:=by exact fun _ _ _ h=>h)
 (ha:a.put oi.dst v=a':=by(conv=>lhs;simp only [Act.put,Ru.zq1,Ru.zq2,Ru.zq3,Ru.zq4,Ru.zq5,Ru.zq6])<;>exact rfl):fZ P md ops Q S late (fuel+1) listed a w:=
 jR hi hil hwt hcl hs hf hr hQ (Or.inl ⟨hw,hv⟩) hS (by subst ha;exact h)
theorem tk4(i:Nat)(v:Value)(hS:S w)(h:fZ P md ops Q S late fuel (listed.setIfInBounds i true) a' w)(hi:ops[i]?=some oi:=by exact rfl)
 (hw:Region.wanted oi (yielded ops a.tmps)=true:=by kernel_rfl) (hv: ∀ w,S w->(execOp a.eval oi).run P w= .ok (.value v) w:=by intro w hS;obtain⟨s0,s1,s2,s3⟩:=hS;go_simp)
 (hil:late.contains i=false:=by kernel_rfl) (hwt:waits md ops late i=true:=by kernel_rfl) (hcl:pO md ops listed=true:=by kernel_rfl)
 (hs:Region.noSelect ops=true:=by kernel_rfl) (hf:Region.free md ops listed i=true:=by kernel_rfl) (hr:(Region.ready md ops listed).contains i=true:=by kernel_rfl)
 (hQ: ∀ c a w,Q (.panic c) (a.put oi.dst v) w->Q (.panic c) a w:=by exact fun _ _ _ h=>h)
 (ha:a.put oi.dst v=a':=by(conv=>lhs;simp only [Act.put,Ru.zq1,Ru.zq2,Ru.zq3,Ru.zq4,Ru.zq5,Ru.zq6])<;>exact rfl):fZ P md ops Q S late (fuel+1) listed a w:=
 jR hi hil hwt hcl hs hf hr hQ (Or.inl ⟨hw,hv⟩) hS (by subst ha;exact h)
theorem tk5(i:Nat)(v:Value)(hS:S w)(h:fZ P md ops Q S late fuel (listed.setIfInBounds i true) a' w)(hi:ops[i]?=some oi:=by exact rfl)
 (hw:Region.wanted oi (yielded ops a.tmps)=true:=by kernel_rfl) (hv: ∀ w,S w->(execOp a.eval oi).run P w= .ok (.value v) w:=by intro w hS;obtain⟨s0,s1,s2,s3,s4⟩:=hS;go_simp)
 (hil:late.contains i=false:=by kernel_rfl) (hwt:waits md ops late i=true:=by kernel_rfl) (hcl:pO md ops listed=true:=by kernel_rfl)
 (hs:Region.noSelect ops=true:=by kernel_rfl) (hf:Region.free md ops listed i=true:=by kernel_rfl) (hr:(Region.ready md ops listed).contains i=true:=by kernel_rfl)
 (hQ: ∀ c a w,Q (.panic c) (a.put oi.dst v) w->Q (.panic c) a w:=by exact fun _ _ _ h=>h)
 (ha:a.put oi.dst v=a':=by(conv=>lhs;simp only [Act.put,Ru.zq1,Ru.zq2,Ru.zq3,Ru.zq4,Ru.zq5,Ru.zq6])<;>exact rfl):fZ P md ops Q S late (fuel+1) listed a w:=
 jR hi hil hwt hcl hs hf hr hQ (Or.inl ⟨hw,hv⟩) hS (by subst ha;exact h)
theorem kN(i:Nat)(v:Value)(hS:S w)(h:fZ P md ops Q S late fuel (listed.setIfInBounds i true) a' w)(hi:ops[i]?=some oi:=by exact rfl)
 (hw:Region.wanted oi (yielded ops a.tmps)=true:=by kernel_rfl) (hv: ∀ w,S w->(execOp a.eval oi).run P w= .ok (.value v) w:=by intro w hS;obtain⟨s0,s1,s2,s3,s4,s5,s6,s7,s8,s9,s10,s11,s12,s13⟩:=hS;go_simp)
 (hil:late.contains i=false:=by kernel_rfl) (hwt:waits md ops late i=true:=by kernel_rfl) (hcl:pO md ops listed=true:=by kernel_rfl)
 (hs:Region.noSelect ops=true:=by kernel_rfl) (hf:Region.free md ops listed i=true:=by kernel_rfl) (hr:(Region.ready md ops listed).contains i=true:=by kernel_rfl)
 (hQ: ∀ c a w,Q (.panic c) (a.put oi.dst v) w->Q (.panic c) a w:=by exact fun _ _ _ h=>h)
 (ha:a.put oi.dst v=a':=by(conv=>lhs;simp only [Act.put,Ru.zq1,Ru.zq2,Ru.zq3,Ru.zq4,Ru.zq5,Ru.zq6])<;>exact rfl):fZ P md ops Q S late (fuel+1) listed a w:=
 jR hi hil hwt hcl hs hf hr hQ (Or.inl ⟨hw,hv⟩) hS (by subst ha;exact h)
theorem rd(i:Nat)(h: ∀ K':Act->World->Prop,Shut (∀ a w,S w->(S w->fZ P md ops Q S late fuel (listed.setIfInBounds i true) a w)->K' a w)->if Region.wanted oi (yielded ops a.tmps)=true then Oper.wp P oi a w K' Q else K' (a.put oi.dst undef) w)
 (hr:Region.ready md ops listed= [i]:=by kernel_rfl) (hi:ops[i]?=some oi:=by exact rfl) (hil:late.contains i=false:=by kernel_rfl):fZ P md ops Q S late (fuel+1) listed a w:=
 oh hr (by simp) (dC.cons hi hil h dC.nil)
theorem rs(l:List Nat)(h:dC P md ops Q S late fuel listed a w l)(hr:Region.ready md ops listed=l:=by kernel_rfl)(hl:l≠ []:=by simp):fZ P md ops Q S late (fuel+1) listed a w:=
 oh hr hl h
theorem rz(l:List Nat)(h:dC P md ops Q S late fuel listed a w l)(hr:Region.ready md ops listed=l:=by decide+kernel)(hl:l≠ []:=by simp):fZ P md ops Q S late (fuel+1) listed a w:=
 oh hr hl h
theorem co{i:Nat}{l:List Nat}(h: ∀ K':Act->World->Prop,Shut (∀ a w,S w->(S w->fZ P md ops Q S late fuel (listed.setIfInBounds i true) a w)->K' a w)->if Region.wanted oi (yielded ops a.tmps)=true then Oper.wp P oi a w K' Q else K' (a.put oi.dst undef) w)
 (hl:dC P md ops Q S late fuel listed a w l) (hi:ops[i]?=some oi:=by exact rfl) (hil:late.contains i=false:=by kernel_rfl):dC P md ops Q S late fuel listed a w (i::l):=
 dC.cons hi hil h hl
theorem co1{i:Nat}(h: ∀ K':Act->World->Prop,Shut (∀ a w,S w->(S w->fZ P md ops Q S late fuel (listed.setIfInBounds i true) a w)->K' a w)->if Region.wanted oi (yielded ops a.tmps)=true then Oper.wp P oi a w K' Q else K' (a.put oi.dst undef) w)
 (hi:ops[i]?=some oi:=by exact rfl) (hil:late.contains i=false:=by kernel_rfl):dC P md ops Q S late fuel listed a w [i]:=
 dC.cons hi hil h dC.nil
theorem sp{i j:Nat}{l:List Nat}(h:dC P md ops Q S late fuel listed a w [i])(hl:dC P md ops Q S late fuel listed a w (j::l)):dC P md ops Q S late fuel listed a w (i::j::l):=fun k hk=>by
 rcases List.mem_cons.1 hk with rfl|hk
 · exact h _ (List.mem_cons_self ..)
 · exact hl k hk
theorem rd2(i:Nat)(h: ∀ K':Act->World->Prop,Shut (∀ a w,wpAny P md ops Q fuel (listed.setIfInBounds i true) a w->K' a w)->if Region.wanted oi (yielded ops a.tmps)=true then Oper.wp P oi a w K' Q else K' (a.put oi.dst undef) w)
 (hr:Region.ready md ops listed= [i]:=by kernel_rfl) (hi:ops[i]?=some oi:=by exact rfl) (hil:late.contains i=true:=by kernel_rfl):fZ P md ops Q S late (fuel+1) listed a w:=
 oh hr (by simp) (dC.cons2 hi hil h dC.nil)
theorem hd{K:Act->World->Prop}(hK:Shut (∀ a w,S w->(S w->fZ P md ops Q S late fuel listed a w)->K a w))(hS:S w)(h:S w->fZ P md ops Q S late fuel listed a' w)
 (ha:a=a':=by(try(conv=>lhs;simp only [Act.put,Ru.zq1,Ru.zq2,Ru.zq3,Ru.zq4,Ru.zq5,Ru.zq6]))<;>exact rfl):K a w:=
 hK.out a w hS (by subst ha;exact h)
end
end
end Ru
end Go.Proofs.YtcefcokpjbebhaaGreatDoor
