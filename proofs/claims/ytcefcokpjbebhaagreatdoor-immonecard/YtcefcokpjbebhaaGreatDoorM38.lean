/-
  Package chance (layer 14): a whole number by shares.
-/
import Derived.Test.YtcefcokpjbebhaaGreatDoorM34
import Derived.Test.YtcefcokpjbebhaaGreatDoorM15
import Derived.Test.YtcefcokpjbebhaaGreatDoorM5
import Derived.Deep.OwnRows
import Derived.RegionTactic
import Derived.ChangeAlike
import Derived.BigRegion
import Derived.Deep.DeepCutAuto
import Derived.Deep.CutRange
set_option linter.unusedSimpArgs false
set_option linter.unusedVariables false
set_option maxHeartbeats 4000000
set_option maxRecDepth 10000
namespace Go.Proofs.YtcefcokpjbebhaaGreatDoor
section
open Go.RowKit Vc Cn St Qn
namespace Cn
def valsU(n:Nat)(z:Nat->Int):List Value:=(List.range n).map fun k=>Value.int .u64 (z k)
theorem valsU_len(n:Nat)(z:Nat->Int):(valsU n z).length=n:=by simp [valsU]
theorem valsU_at{n k:Nat}{z:Nat->Int}(h:k<n):(valsU n z)[k]?=some (.int .u64 (z k)):=by simp [valsU,h]
theorem valsU_congr{n:Nat}{z z':Nat->Int}(h: ∀ k,k<n->z k=z' k):valsU n z=valsU n z':=by
 unfold valsU;exact List.map_congr_left fun k hk=>by rw [h k (List.mem_range.1 hk)]
theorem valsU_set(n j:Nat)(x:Int)(z:Nat->Int):(valsU n z).set j (.int .u64 x)=valsU n (fun k=>if k=j then x else z k):=by
 apply List.ext_getElem?;intro i;by_cases hi:i<n
 · rw [valsU_at hi,List.getElem?_set,valsU_len];by_cases e:j=i
   · subst e;simp [hi]
   · rw [if_neg e,valsU_at hi,if_neg (fun h=>e h.symm)]
 · rw [List.getElem?_eq_none (by simp [valsU_len];omega),List.getElem?_eq_none (by rw [valsU_len];omega)]
theorem infoU64:(Tryz.prog.info? 78).map (fun i=>(i.zero,i.size,i.bytes))=some (some (.int .u64 0),1,8):=by kernel_rfl
theorem makeI(n:Nat)(hn:n<=4)(W:World):(Instr.makeSlice 27 (.int .i64 (n:Int)) (.int .i64 (n:Int))).run Tryz.prog W= .ok (.slice (some ⟨W.heap.size,0,none⟩) n n) (W.alloc (.cells (vals n (fun _=>0)).toArray 2)):=by
 have h:=Go.run_make_row' (P:=Tryz.prog) 27 2 (.int .i64 0) 8 Tryz.underlying27 infoI64 rfl .i64 .i64 n (by omega) (by omega) W
 have e:madeCells #[Value.int .i64 0] n=(vals n (fun _=>0)).toArray:=by
  apply Array.ext';rw [toList_madeCells_one];apply List.ext_getElem?;intro i;by_cases hi:i<n
  · rw [List.toList_toArray,vals_at hi,List.getElem?_replicate,if_pos hi]
  · rw [List.toList_toArray,List.getElem?_eq_none (by simp;omega),List.getElem?_eq_none (by rw [vals_len];omega)]
 rw [e] at h;exact h
theorem makeU(n:Nat)(hn:n<=4)(W:World):(Instr.makeSlice 318 (.int .i64 (n:Int)) (.int .i64 (n:Int))).run Tryz.prog W= .ok (.slice (some ⟨W.heap.size,0,none⟩) n n) (W.alloc (.cells (valsU n (fun _=>0)).toArray 78)):=by
 have h:=Go.run_make_row' (P:=Tryz.prog) 318 78 (.int .u64 0) 8 Tryz.underlying318 infoU64 rfl .i64 .i64 n (by omega) (by omega) W
 have e:madeCells #[Value.int .u64 0] n=(valsU n (fun _=>0)).toArray:=by
  apply Array.ext';rw [toList_madeCells_one];apply List.ext_getElem?;intro i;by_cases hi:i<n
  · rw [List.toList_toArray,valsU_at hi,List.getElem?_replicate,if_pos hi]
  · rw [List.toList_toArray,List.getElem?_eq_none (by simp;omega),List.getElem?_eq_none (by rw [valsU_len];omega)]
 rw [e] at h;exact h
theorem tot_max{a:Nat->Int}{n:Nat}(ha: ∀ k,k<n->0<=a k/\a k<=4611686018427387903): ∀ {k:Nat},k<=n->0<=tot a k/\tot a k<=4611686018427387903*k
 |0,_=>⟨Int.le_refl _,by show(0:Int)<=_;omega⟩
 |k+1,h=>by
  have h1:=tot_max ha (k:=k) (by omega)
  have h2:=ha k (by omega)
  show 0<=tot a k+a k/\tot a k+a k<=_
  omega
theorem words_of{m x S:Int}(hm0:0<=m)(hm1:m<=1073741824)(hx0:0<=x)(hx:x<=S)(hS:0<S)(hS1:S<=18446744073709551615):
 0<=mi (m*x)/\mi (m*x)<S/\0<=lo (m*x)/\lo (m*x)<=18446744073709551615/\mi (m*x)*18446744073709551616+lo (m*x)=m*x/\0<=m*x/S/\m*x/S<=m/\0<=m*x%S/\m*x%S<S:=by
 have h0:0<=m*x:=Int.mul_nonneg hm0 hx0;have h1:m*x<=1073741824*S:=Int.mul_le_mul hm1 hx hx0 (by omega);have h2:m*x<=m*S:=Int.mul_le_mul_of_nonneg_left hx hm0
 have h3:m*x/S<=m:=by
  have:=Int.ediv_le_ediv hS h2;rw [Int.mul_ediv_cancel m (by omega)] at this;exact this
 have h4:=Int.ediv_nonneg h0 (Int.le_of_lt hS);have h5:=Int.emod_nonneg (m*x) (by omega:S≠0);have h6:=Int.emod_lt_of_pos (m*x) hS;unfold mi lo;refine⟨?_, ?_, ?_, ?_, ?_,h4,h3,h5,h6⟩<;>omega
end Cn
theorem cshares_any(m:Int)(ao:Option Addr)(n ca:Nat)(a:Nat->Int)(w:World)(ha:Sl w ao n ca a)(hn:n<=4)(hm0:0<=m)(hm1:m<=1073741824)(hz: ∀ k,k<n->0<=a k/\a k<=4611686018427387903)(hS:0<tot a n):
 Calls Tryz.prog 138 #[.int .i64 m, .slice ao n ca] w fun e w'=> ∃ g:Nat,e= .returned (.slice (some ⟨g,0,none⟩) n n)/\CRow w' g 2 (vals n (sh m a n))/\w.heap.size<=g/\Below w.heap.size w w':=by
 have hn0:=n_pos hS;obtain⟨x,hao,hca⟩:=ha.get;have l1:=ha.le;have l2:=ha.cap;obtain rfl:=hao hn0;have HC:=hideH hca;have HZ:=hideH hz;have HT:Hid (∀ k,k<=n->0<=tot a k/\tot a k<=18446744073709551612):=fun k hk=>by have:=tot_max hz hk;omega
 have HS:=hideH hS;have HA:Hid (∀ k,k<n->a k<=tot a n):=fun k hk=>tot_le_each (fun j hj=>(hz j hj).1) hk;have HN:Hid (∀ i,i<n->0<=a i):=fun i hi=>(hz i hi).1;clear ha hao hca hz hS;go_enter Tryz.func138,Tryz.ntmps138
 go_wp2;go_loopw [5,20] (fun s i wr=> ∃ k:Nat,k<=n/\i= .int .i64 (k:Int)/\s= .int .u64 (tot a k)/\w=wr) (fun _ i _=>n- (intOf i).toNat)
 case atStart=>exact⟨0,by omega,rfl,rfl,rfl⟩
 case round=>
  obtain⟨k,hk,rfl,rfl,rfl⟩:=hrel;by_cases h:k<n
  ·have c1:=HC.out k h;have hz:=HZ.out k h;have ht:=HT.out k hk;have ht':=HT.out (k+1) h;have HU:Hid (tot a (k+1)=tot a k+a k):=rfl;obtain⟨P,hP⟩: ∃ P,P=a k:=⟨_,rfl⟩;obtain⟨T,hT⟩: ∃ T,T=tot a k:=⟨_,rfl⟩;rw [← hP] at c1 HU hz;rw [← hT] at HU ht ⊢;rw [HU.out] at ht';clear hP hT;have e1:IntKind.u64.wrap P=P:=by rw [IntKind.wrap_u64];omega
   have e2:IntKind.u64.wrap (T+P)=T+P:=by rw [IntKind.wrap_u64];omega
   go_wp2;go_roundw
   case rel=>exact⟨k+1,by omega,by go_num,by rw [HU.out],trivial⟩
   case measure=>simp [intOf];omega
  ·obtain rfl:k=n:=by omega
   have hSb:=HT.out k (Nat.le_refl _);have hS0:=HS.out;have HQ:Hid (∀ j,qt m a k j=m*a j/tot a k/\rt m a k j=m*a j%tot a k):=fun j=>⟨rfl,rfl⟩;have HLF:Hid (m- tot (qt m a k) k=lf m a k/\0<=lf m a k/\lf m a k<k):=⟨rfl,lf_in HS.out⟩
   have HQ0:Hid (∀ j,j<=k->0<=tot (qt m a k) j/\tot (qt m a k) j<=m):=fun j hj=>by
    have h1:=tot_nn (a:=qt m a k) (n:=j) (fun i hi=>qt_nn hm0 HN.out HS.out (by omega));have h2:=tot_up' (a:=qt m a k) (n:=k) (k:=j) (fun i hi=>qt_nn hm0 HN.out HS.out hi) hj;have h3:=(lf_in (m:=m) HS.out).1;unfold lf at h3;omega
   obtain⟨S,hS⟩: ∃ S,S=tot a k:=⟨_,rfl⟩;have HSS:=hideH hS;rw [← hS] at hSb hS0 HQ HA ⊢;clear hS h hk;have hmi:=makeI k hn;have hmu:=makeU k hn;have nA0:=(crow_new w 2 (vals k (fun _=>0))).alloc (.cells (valsU k (fun _=>0)).toArray 78);have nB0:=crow_new1 w (.cells (vals k (fun _=>0)).toArray 2) 78 (valsU k (fun _=>0));have nA1:=crow_new1 w (.cells (valsU k (fun _=>0)).toArray 78) 2 (vals k (fun _=>0));have nB1:=(crow_new w 78 (valsU k (fun _=>0))).alloc (.cells (vals k (fun _=>0)).toArray 2);have b0:=below_al (below_al (Below.refl _ w) (.cells (vals k (fun _=>0)).toArray 2)) (.cells (valsU k (fun _=>0)).toArray 78);have b1:=below_al (below_al (Below.refl _ w) (.cells (valsU k (fun _=>0)).toArray 78)) (.cells (vals k (fun _=>0)).toArray 2);go_upto_region 7 with fail
   go_cut [8,9] (fun p q wx=> ∃ a b:Nat,p= .slice (some ⟨a,0,none⟩) k k/\q= .slice (some ⟨b,0,none⟩) k k/\ ¬a=b/\CRow wx a 2 (vals k (fun _=>0))/\CRow wx b 78 (valsU k (fun _=>0))/\w.heap.size<=a/\w.heap.size<=b/\Below w.heap.size w wx)
   case first=>
    go_region
    all_goals go_wp2_with fail
    all_goals go_meet
    all_goals refine⟨_,_,rfl,rfl, ?_⟩
    all_goals first
     |exact⟨by omega,nA0,nB0,by omega,by omega,b0.drew⟩
     |exact⟨by omega,nA1,nB1,by omega,by omega,b1.drew⟩
   rename World=>wx;obtain⟨ga,gb,rfl,rfl,hab,nA,nB,za,zb,kc⟩:=hcut;have hba: ¬gb=ga:=fun q=>hab q.symm;clear nA0 nB0 nA1 nB1 b0 b1 hmi hmu;have HKC:=hideH kc;clear kc;have HXA:=hideH nA;have HXB:=hideH nB;clear nA nB;go_wp2;go_loopw [10,38] (fun l i wr=> ∃ (j:Nat) (zo zc:Nat->Int),j<=k/\i= .int .i64 (j:Int)/\l= .int .i64 (m- tot (qt m a k) j)/\(∀ q,q<j->zo q=qt m a k q/\zc q=rt m a k q)/\CRow wr ga 2 (vals k zo)/\CRow wr gb 78 (valsU k zc)/\Below w.heap.size w wr) (fun _ i _=>k- (intOf i).toNat)
   case atStart=>exact⟨0,fun _=>0,fun _=>0,by omega,rfl,by show Value.int .i64 m= .int .i64 (m- 0);rw [Int.sub_zero],fun q hq=>by omega,HXA.out,HXB.out,HKC.out⟩
   case round=>
    rename World=>wl;obtain⟨j,zo,zc,hj,rfl,rfl,hzz,nA,nB,kl⟩:=hrel;by_cases h:j<k
    ·have c1:=keep_cell kl (HC.out j h);have hz:=HZ.out j h;have hq:=HQ.out j;have hq0:=HQ0.out j hj;have hq1:=HQ0.out (j+1) h;have HU:Hid (tot (qt m a k) (j+1)=tot (qt m a k) j+qt m a k j):=rfl;have hw:=words_of hm0 hm1 hz.1 (HA.out j h) hS0 (by omega);have HMul:=hideH (fun W=>mul64_any m (a j) hm0 (by omega) hz.1 (by omega) W);have HDiv:=hideH (fun W=>div64_any (mi (m*a j)) (lo (m*a j)) S W hw.1 hw.2.1 hw.2.2.1 hw.2.2.2.1 (by omega));rw [hw.2.2.2.2.1,← hq.1,← hq.2] at HDiv;rw [← hq.1,← hq.2] at hw;have HZZ:=hideH hzz;obtain⟨P,hP⟩: ∃ P,P=a j:=⟨_,rfl⟩;obtain⟨Q,hQ⟩: ∃ Q,Q=qt m a k j:=⟨_,rfl⟩;obtain⟨R,hR⟩: ∃ R,R=rt m a k j:=⟨_,rfl⟩;obtain⟨T,hT⟩: ∃ T,T=tot (qt m a k) j:=⟨_,rfl⟩;obtain⟨X,hX⟩: ∃ X,X=mi (m*a j):=⟨_,rfl⟩;obtain⟨Y,hY⟩: ∃ Y,Y=lo (m*a j):=⟨_,rfl⟩
     have HNX:Hid (∀ q,q<j+1->(if q=j then Q else zo q)=qt m a k q/\(if q=j then R else zc q)=rt m a k q):=fun q hq=>by
      by_cases e:q=j
      ·rw [if_pos e,if_pos e,e];exact⟨hQ,hR⟩
      ·rw [if_neg e,if_neg e];exact hzz q (by omega)
     rw [← hX,← hY] at hw HDiv HMul;rw [← hQ,← hR] at hw HDiv;rw [HU.out,← hT,← hQ] at hq1;rw [← hT] at hq0;rw [← hT,← hQ] at HU;rw [← hP] at c1 hz HMul;rw [← hT];have hq2:=hw.2.2.2.2.2.1;have hq3:=hw.2.2.2.2.2.2.1;have hr0:=hw.2.2.2.2.2.2.2.1;have hr1:=hw.2.2.2.2.2.2.2.2;have d1:=nA.cell (vals_at (z:=zo) h) rfl;have d2:=nB.cell (valsU_at (z:=zc) h) rfl;have f1:=nA.free j;have f2:=nB.free j
     have HM1:Hid (∀ nd,CRow (((wl.drewN nd).setCell ⟨ga,j,none⟩ (.int .i64 Q)).setCell ⟨gb,j,none⟩ (.int .u64 R)) ga 2 (vals k (fun q=>if q=j then Q else zo q))):=fun nd=>by
      have h1:=((nA.drewN nd).set j (.int .i64 Q)).other (p:=⟨gb,j,none⟩) (.int .u64 R) hab;rw [vals_set] at h1;exact h1
     have HM2:Hid (∀ nd,CRow (((wl.drewN nd).setCell ⟨ga,j,none⟩ (.int .i64 Q)).setCell ⟨gb,j,none⟩ (.int .u64 R)) gb 78 (valsU k (fun q=>if q=j then R else zc q))):=fun nd=>by
      have h1:=((nB.drewN nd).other (p:=⟨ga,j,none⟩) (.int .i64 Q) hba).set j (.int .u64 R);rw [valsU_set] at h1;exact h1
     have HK:Hid (∀ nd,Below w.heap.size w (((wl.drewN nd).setCell ⟨ga,j,none⟩ (.int .i64 Q)).setCell ⟨gb,j,none⟩ (.int .u64 R))):=fun nd=>by
      have h1:=Vc.below_drewN kl nd;have s1:w.heap.size<=(wl.drewN nd).heap.size:=Nat.le_trans za (Nat.le_of_lt nA.lt);have h2:=St.below_set (B:=w.heap.size) (w:=wl.drewN nd) (x:=⟨ga,j,none⟩) s1 za (.int .i64 Q);exact(h1.trans h2).trans (St.below_set (Nat.le_trans s1 h2.size) zb (.int .u64 R))
     have e1:IntKind.u64.wrap m=m:=by rw [IntKind.wrap_u64];omega
     have e2:IntKind.u64.wrap P=P:=by rw [IntKind.wrap_u64];omega
     have e3:IntKind.i64.wrap Q=Q:=by rw [IntKind.wrap_i64];omega
     have e4:IntKind.i64.wrap (m- T- Q)=m- T- Q:=by rw [IntKind.wrap_i64];omega
     have HL:Hid (m- T- Q=m- (T+Q)):=by show m- T- Q=m- (T+Q);omega
     clear hP hQ hR hT hX hY hw hzz hq nA nB kl
     go_wp2_with (first
      |(go_at_call 220;refine(HMul.out _).mono ?_;rintro e w' ⟨rfl,q⟩;obtain rfl:=q.symm)
      |(go_at_call 221;refine(HDiv.out _).mono ?_;rintro e w' ⟨rfl,nd,q⟩;obtain rfl:=q))
     go_roundw
     case rel=>exact⟨j+1,_,_,by omega,by go_num,by rw [HU.out,← HL.out],HNX.out,HM1.out nd,HM2.out nd,HK.out nd⟩
     case measure=>simp [intOf];omega
    ·obtain rfl:k=j:=by omega
     have m1:CRow wl ga 2 (vals k (giv k (qt m a k) (rt m a k) 0).1):=by
      have e:=vals_congr (n:=k) (z:=zo) (z':=qt m a k) (fun q hq=>(hzz q hq).1);rw [e] at nA;exact nA
     have m2:CRow wl gb 78 (valsU k (giv k (qt m a k) (rt m a k) 0).2):=by
      have e:=valsU_congr (n:=k) (z:=zc) (z':=rt m a k) (fun q hq=>(hzz q hq).2);rw [e] at nB;exact nB
     have hl:=HLF.out;rw [hl.1]
     have HGI:Hid (∀ t:Nat,(t:Int)<=lf m a k-> ∀ i,i<k->0<=(giv k (qt m a k) (rt m a k) t).1 i/\(giv k (qt m a k) (rt m a k) t).1 i<=m+1):=fun t ht i hi=>by
      have:=giv_in HS.out hm0 HN.out ht hi;omega
     have HSH:Hid (vals k (giv k (qt m a k) (rt m a k) (lf m a k).toNat).1=vals k (sh m a k)):=vals_congr fun i hi=>giv_sh HS.out hi;obtain⟨lv,hlv⟩: ∃ lv,lv=lf m a k:=⟨_,rfl⟩;rw [← hlv] at hl HGI HSH ⊢;have hl0:=hl.2.1;have hl1:=hl.2.2;have HX1:=hideH m1;have HX2:=hideH m2;have HKL:=hideH kl;clear hzz nA nB m1 m2 hl hlv kl;go_wp2;go_loopw [75] (fun i wr=> ∃ t:Nat,(t:Int)<=lv/\i= .int .i64 (t:Int)/\CRow wr ga 2 (vals k (giv k (qt m a k) (rt m a k) t).1)/\CRow wr gb 78 (valsU k (giv k (qt m a k) (rt m a k) t).2)/\Below w.heap.size w wr) (fun i _=>lv.toNat- (intOf i).toNat)
     case atStart=>exact⟨0,by omega,rfl,HX1.out,HX2.out,HKL.out⟩
     case round=>
      rename World=>wq;obtain⟨t,ht,rfl,nA,nB,kq⟩:=hrel;by_cases h:(t:Int)<lv
      ·have hgi:=HGI.out t ht;have U1:Hid ((giv k (qt m a k) (rt m a k) (t+1)).1=fun i=>if i=mst (giv k (qt m a k) (rt m a k) t).2 k then(giv k (qt m a k) (rt m a k) t).1 i+1 else(giv k (qt m a k) (rt m a k) t).1 i):=rfl;have U2:Hid ((giv k (qt m a k) (rt m a k) (t+1)).2=fun i=>if i=mst (giv k (qt m a k) (rt m a k) t).2 k then 0 else(giv k (qt m a k) (rt m a k) t).2 i):=rfl;obtain⟨O,hO⟩: ∃ O,O=(giv k (qt m a k) (rt m a k) t).1:=⟨_,rfl⟩;obtain⟨Z,hZ⟩: ∃ Z,Z=(giv k (qt m a k) (rt m a k) t).2:=⟨_,rfl⟩;rw [← hO] at nA hgi U1;rw [← hZ] at nB U1 U2;obtain⟨k1,hk1⟩: ∃ k1,k=k1+1:=⟨k- 1,by omega⟩;have hq:mst Z k<k:=by rw [hk1];have:=mst_lt Z k1;omega
       have hs:=mst_spec Z k1;rw [← hk1] at hs;have hmx:mx Z k=Z (mst Z k):=by rw [hk1];exact mx_is Z k1
       have hcu: ∀ i,i<k->wq.cell? ((⟨gb,0,none⟩:Addr).add i)=some (.int .u64 (Z i)):=fun i hi=>by rw [Addr.add_lit,Nat.zero_add];exact nB.cell (valsU_at hi) rfl
       have HMx:=hideH (cmaxU_any ⟨gb,0,none⟩ k k Z wq hn0 (Nat.le_refl _) (by omega) hcu);have HIx:=hideH (cindexU_any ⟨gb,0,none⟩ k k Z (mx Z k) (mst Z k) wq hq (Nat.le_refl _) (by omega) hcu hmx.symm (fun i hi=>by rw [hmx];have:=hs.2 i hi;omega));have hgq:=hgi (mst Z k) hq;obtain⟨q,hqq⟩: ∃ q,q=mst Z k:=⟨_,rfl⟩;rw [← hqq] at hq HIx hgq U1 U2;obtain⟨M,hM⟩: ∃ M,M=mx Z k:=⟨_,rfl⟩;rw [← hM] at HMx HIx;have d1:=nA.cell (vals_at (z:=O) hq) rfl;have d2:=nB.cell (valsU_at (z:=Z) hq) rfl;have f1:=nA.free q;have f2:=nB.free q
       have HM1:Hid (CRow ((wq.setCell ⟨ga,q,none⟩ (.int .i64 (O q+1))).setCell ⟨gb,q,none⟩ (.int .u64 0)) ga 2 (vals k (giv k (qt m a k) (rt m a k) (t+1)).1)):=by
        have h1:=(nA.set q (.int .i64 (O q+1))).other (p:=⟨gb,q,none⟩) (.int .u64 0) hab;rw [vals_set] at h1;rw [U1.out]
        have e:(fun i=>if i=q then O i+1 else O i)=(fun i=>if i=q then O q+1 else O i):=funext fun i=>by
         by_cases e:i=q
         ·rw [if_pos e,if_pos e,e]
         ·rw [if_neg e,if_neg e]
        rw [e];exact h1
       have HM2:Hid (CRow ((wq.setCell ⟨ga,q,none⟩ (.int .i64 (O q+1))).setCell ⟨gb,q,none⟩ (.int .u64 0)) gb 78 (valsU k (giv k (qt m a k) (rt m a k) (t+1)).2)):=by
        have h1:=(nB.other (p:=⟨ga,q,none⟩) (.int .i64 (O q+1)) hba).set q (.int .u64 0);rw [valsU_set] at h1;rw [U2.out];exact h1
       have HK:Hid (Below w.heap.size w ((wq.setCell ⟨ga,q,none⟩ (.int .i64 (O q+1))).setCell ⟨gb,q,none⟩ (.int .u64 0))):=by
        have s1:w.heap.size<=wq.heap.size:=Nat.le_trans za (Nat.le_of_lt nA.lt);have h2:=St.below_set (B:=w.heap.size) (w:=wq) (x:=⟨ga,q,none⟩) s1 za (.int .i64 (O q+1));exact(kq.trans h2).trans (St.below_set (Nat.le_trans s1 h2.size) zb (.int .u64 0))
       obtain⟨V,hV⟩: ∃ V,V=O q:=⟨_,rfl⟩;rw [← hV] at d1 HM1 HM2 HK hgq;have e1:IntKind.i64.wrap (V+1)=V+1:=by rw [IntKind.wrap_i64];omega
       clear hV hM hqq hs hmx hcu hgi hO hZ U1 U2 nA nB kq hk1
       go_wp2_with (first
        |(go_at_call 223;refine HMx.out.mono ?_;rintro e w' ⟨rfl,q⟩;obtain rfl:=q.symm)
        |(go_at_call 222;refine HIx.out.mono ?_;rintro e w' ⟨rfl,q⟩;obtain rfl:=q.symm))
       go_roundw
       case rel=>exact⟨t+1,by omega,by go_num,HM1.out,HM2.out,HK.out⟩
       case measure=>simp [intOf];omega
      ·have e1:t=lv.toNat:=by omega
       subst e1;rw [HSH.out] at nA;go_wp2;go_ret;exact⟨ga,rfl,nA,za,kq⟩
end
section
open Go.RowKit Vc Cn St Qn
namespace Cn
theorem crow_sl{w:World}{g n:Nat}{z:Nat->Int}(h:CRow w g 2 (vals n z))(hn:n<=4):Sl w (some ⟨g,0,none⟩) n n z:=
 ⟨Nat.le_refl _,by omega,fun k hk=>⟨_,rfl,by rw [Addr.add_lit,Nat.zero_add];exact h.cell (vals_at hk) rfl⟩⟩
theorem tot_zero{a:Nat->Int}{n:Nat}(h0: ∀ k,k<n->0<=a k)(h:tot a n=0){k:Nat}(hk:k<n):a k=0:=by
 have:=tot_le_each h0 hk;have:=h0 k hk;omega
end Cn
theorem cn_check:CCheck:=by
 intro W ao n ca z fl ha hb hf0 hf1;by_cases hf:0<=fl/\fl<=67108864
 · have HF:=hideH (fun W=>cfloor_yes fl W hf.1 hf.2);by_cases hc:Ch n z fl
   · have HA:=hideH (careChances_any fl ao n ca z W ha hf.1 hf.2 true (fun _=>hc) (fun q=>by cases q));have l1:=ha.le;have l2:=ha.cap;have HC:=hideH hc;clear ha hb hc;go_enter Tryz.func172,Tryz.ntmps172
     go_wp2_with (first
      |(go_at_call 210;refine(HF.out _).mono ?_;rintro e w' ⟨rfl,q⟩;obtain rfl:=q.symm)
      |(go_at_call 173;refine HA.out.mono ?_;rintro e w' ⟨rfl,q⟩;obtain rfl:=q.symm))
     go_ret;exact⟨.nilIface,rfl,Below.refl _ _,Or.inl ⟨HC.out,rfl⟩⟩
   · have HA:=hideH (careChances_any fl ao n ca z W ha hf.1 hf.2 false (fun q=>by cases q) (fun _=>hc));have l1:=ha.le;have l2:=ha.cap;have HC:=hideH hc;clear ha hb hc;go_enter Tryz.func172,Tryz.ntmps172
     go_wp2_with (first
      |(go_at_call 210;refine(HF.out _).mono ?_;rintro e w' ⟨rfl,q⟩;obtain rfl:=q.symm)
      |(go_at_call 173;refine HA.out.mono ?_;rintro e w' ⟨rfl,q⟩;obtain rfl:=q.symm))
     go_ret;exact⟨errV 1,rfl,Below.refl _ _,Or.inr ⟨HC.out,rfl⟩⟩
 · have HF:=hideH (fun W=>cfloor_no fl W hf);have HC:Hid (¬Ch n z fl):=fun q=>hf ⟨q.lo,q.hi⟩;have l1:=ha.le;have l2:=ha.cap;clear ha hb;go_enter Tryz.func172,Tryz.ntmps172
   go_wp2_with (go_at_call 210;refine(HF.out _).mono ?_;rintro e w' ⟨rfl,q⟩;obtain rfl:=q.symm)
   go_ret;exact⟨errV 1,rfl,Below.refl _ _,Or.inr ⟨HC.out,rfl⟩⟩
theorem cn_evenN:CEvenN:=by
 intro W n hn0 hn1;by_cases hm:1<=n/\n<=4
 ·obtain⟨N,rfl⟩:=Int.eq_ofNat_of_zero_le (by omega:0<=n);have HM:=hideH (fun W=>cmany_yes (N:Int) W hm.1 hm.2);have hmi:=makeI N (by omega);have n0:=crow_new W 2 (vals N (fun _=>0));have b0:=below_al (Below.refl _ W) (.cells (vals N (fun _=>0)).toArray 2);have HN0:=hideH n0;have HB0:=hideH b0;have HSh:Hid (∀ w,CRow w W.heap.size 2 (vals N (fun _=>1))->Calls Tryz.prog 138 #[.int .i64 1073741824, .slice (some ⟨W.heap.size,0,none⟩) N N] w fun e w'=> ∃ g:Nat,e= .returned (.slice (some ⟨g,0,none⟩) N N)/\CRow w' g 2 (vals N (sh 1073741824 (fun _=>1) N))/\w.heap.size<=g/\Below w.heap.size w w'):=fun w h=>cshares_any 1073741824 _ N N (fun _=>1) w (crow_sl h (by omega)) (by omega) (by omega) (by omega) (fun k hk=>⟨by omega,by omega⟩) (by rw [tot_const];omega);clear n0 b0;go_enter Tryz.func64,Tryz.ntmps64
  go_wp2_with (go_at_call 137;refine(HM.out _).mono ?_;rintro e w' ⟨rfl,q⟩;obtain rfl:=q.symm)
  go_loopw [14] (fun i wr=> ∃ (k:Nat) (zo:Nat->Int),k<=N/\i= .int .i64 (k:Int)/\(∀ j,j<k->zo j=1)/\CRow wr W.heap.size 2 (vals N zo)/\Below W.heap.size W wr) (fun i _=>N- (intOf i).toNat)
  case atStart=>exact⟨0,fun _=>0,by omega,rfl,fun j hj=>by omega,HN0.out,HB0.out⟩
  case round=>
   rename World=>wr;obtain⟨k,zo,hk,rfl,hzo,nA,kr⟩:=hrel;by_cases h:k<N
   ·have d1:=nA.cell (vals_at (z:=zo) h) rfl;have f1:=nA.free k;have m1:=nA.set k (.int .i64 1);rw [vals_set] at m1;have HM1:=hideH m1;have HK:=hideH (kr.trans (St.below_set (B:=W.heap.size) (w:=wr) (x:=⟨W.heap.size,k,none⟩) kr.size (Nat.le_refl _) (.int .i64 1)))
    have HZ:Hid (∀ j,j<k+1->(if j=k then 1 else zo j)=1):=fun j hj=>by
     by_cases e:j=k
     ·rw [if_pos e]
     ·rw [if_neg e];exact hzo j (by omega)
    clear m1 nA kr hzo;go_wp2;go_roundw
    case rel=>exact⟨k+1,_,by omega,by go_num,HZ.out,HM1.out,HK.out⟩
    case measure=>simp [intOf];omega
   ·obtain rfl:N=k:=by omega
    have e:=vals_congr (n:=N) (z:=zo) (z':=fun _=>1) hzo;rw [e] at nA;clear e hzo;go_wp2_with fail
    refine(HSh.out _ nA).mono ?_;rintro e w1 ⟨g,rfl,c1,hg,k1⟩;go_wp2;go_ret2;exact⟨_,N,_, .nilIface,rfl,below_tr kr k1,crow_sl c1 (by omega),Or.inr ⟨hm.1,hm.2,rfl,rfl⟩,NewL.at hg kr⟩
 ·have HM:=hideH (fun W=>cmany_no n W hm);go_enter Tryz.func64,Tryz.ntmps64
  go_wp2_with (go_at_call 137;refine(HM.out _).mono ?_;rintro e w' ⟨rfl,q⟩;obtain rfl:=q.symm)
  go_ret2;exact⟨_,0,_,errV 1,rfl,Below.refl _ _,Sl.none _ _,Or.inl ⟨hm,rfl,rfl⟩,NewL.nil _⟩
end
section
open Go.RowKit Vc Cn St Qn Ld
theorem cof_err(W:World)(ao:Option Addr)(n ca:Nat)(z:Nat->Int)(fl:Int)(ha:Sl W ao n ca z)(hno: ¬MayW n z fl):
 Calls Tryz.prog 122 #[.slice ao n ca, .int .i64 fl] W fun e w'=>e= .returned (.tuple #[.slice none 0 0,errV 1])/\w'=W:=by
 have l1:=ha.le;have l2:=ha.cap;by_cases hm:1<=n/\n<=4
 · have HM:=hideH (fun W=>cmany_yes (n:Int) W (by omega) (by omega));by_cases hw: ∀ k,k<n->0<=z k/\z k<=4611686018427387903
   · have HW:=hideH (cwithin_any 0 4611686018427387903 ao n ca z W ha true (fun _=>hw) (fun q=>by cases q));have HF:=hideH (fun W=>cfloor_no fl W (fun q=>hno ⟨hm.1,hm.2,q.1,q.2,hw⟩));clear ha hno hw;go_enter Tryz.func122,Tryz.ntmps122
     go_wp2_with (first
      |(go_at_call 137;refine(HM.out _).mono ?_;rintro e w' ⟨rfl,q⟩;obtain rfl:=q.symm)
      |(go_at_call 209;refine HW.out.mono ?_;rintro e w' ⟨rfl,q⟩;obtain rfl:=q.symm)
      |(go_at_call 210;refine(HF.out _).mono ?_;rintro e w' ⟨rfl,q⟩;obtain rfl:=q.symm))
     go_ret2;exact⟨rfl,rfl⟩
   · have HW:=hideH (cwithin_any 0 4611686018427387903 ao n ca z W ha false (fun q=>by cases q) (fun _=>Classical.byContradiction fun q=>hw fun k hk=>Classical.byContradiction fun q'=>q ⟨k,hk,q'⟩));clear ha hno hw;go_enter Tryz.func122,Tryz.ntmps122
     go_wp2_with (first
      |(go_at_call 137;refine(HM.out _).mono ?_;rintro e w' ⟨rfl,q⟩;obtain rfl:=q.symm)
      |(go_at_call 209;refine HW.out.mono ?_;rintro e w' ⟨rfl,q⟩;obtain rfl:=q.symm))
     go_ret2;exact⟨rfl,rfl⟩
 · have HM:=hideH (fun W=>cmany_no (n:Int) W (by omega));clear ha hno;go_enter Tryz.func122,Tryz.ntmps122
   go_wp2_with (go_at_call 137;refine(HM.out _).mono ?_;rintro e w' ⟨rfl,q⟩;obtain rfl:=q.symm)
   go_ret2;exact⟨rfl,rfl⟩
theorem cn_ofN:COfN:=by
 intro W ao n ca z fl ha hb hf0 hf1;by_cases hmay:MayW n z fl
 ·obtain⟨h1,h4,hfl,hfh,hz⟩:=hmay;have HMAY:=hideH (MayW.mk h1 h4 hfl hfh hz);have l1:=ha.le;have l2:=ha.cap;have HM:=hideH (fun W=>cmany_yes (n:Int) W (by omega) (by omega));have HF:=hideH (fun W=>cfloor_yes fl W hfl hfh);have HW:=hideH (cwithin_any 0 4611686018427387903 ao n ca z W ha true (fun _=>hz) (fun q=>by cases q));by_cases ht:tot z n=0
  ·have HW0:=hideH (cwithin_any 0 0 ao n ca z W ha true (fun _ k hk=>by have:=tot_zero (fun j hj=>(hz j hj).1) ht hk;omega) (fun q=>by cases q));have HT:=hideH ht;clear ha hb hz ht;go_enter Tryz.func122,Tryz.ntmps122
   go_wp2_with (first
    |(go_at_call 137;refine(HM.out _).mono ?_;rintro e w' ⟨rfl,q⟩;obtain rfl:=q.symm)
    |(go_at_call 209;(first|(with_reducible refine HW.out.mono ?_)|(with_reducible refine HW0.out.mono ?_));rintro e w' ⟨rfl,q⟩;obtain rfl:=q.symm)
    |(go_at_call 210;refine(HF.out _).mono ?_;rintro e w' ⟨rfl,q⟩;obtain rfl:=q.symm))
   go_ret2;exact⟨_,0,_,errV 11,rfl,Below.refl _ _,Sl.none _ _,Or.inr (Or.inl ⟨HMAY.out,HT.out,rfl,rfl⟩),NewL.nil _⟩
  ·have htp:0<tot z n:=by have:=tot_nn (a:=z) (n:=n) (fun k hk=>(hz k hk).1);omega
   have HW0:=hideH (cwithin_any 0 0 ao n ca z W ha false (fun q=>by cases q) (fun _=>Classical.byContradiction fun q=>ht (by
    rw [tot_congr (b:=fun _=>0) (fun k hk=>Classical.byContradiction fun q'=>q ⟨k,hk,fun c=>q' (by omega)⟩),tot_const,Int.zero_mul])))
   have HT:=hideH htp;have hF4:=mul_four hfl hfh h4;have HSh:=hideH (cshares_any (1073741824- fl*(n:Int)) ao n ca z W ha h4 (by omega) (by omega) hz htp)
   have HB:Hid (∀ j,j<n->0<=sh (1073741824- fl*(n:Int)) z n j/\sh (1073741824- fl*(n:Int)) z n j<=1073741824):=fun j hj=>by
    have q1:=sh_nn (m:=1073741824- fl*(n:Int)) (by omega) (fun i hi=>(hz i hi).1) htp hj;have q2:=sh_le (m:=1073741824- fl*(n:Int)) (by omega) (fun i hi=>(hz i hi).1) htp hj;omega
   obtain⟨F,hF⟩: ∃ F,fl*(n:Int)=F:=⟨_,rfl⟩;rw [hF] at hF4 HSh HB;obtain⟨s,hs⟩: ∃ s,s=sh (1073741824- F) z n:=⟨_,rfl⟩;rw [← hs] at HSh HB;have HSS:Hid (s=sh (1073741824- fl*(n:Int)) z n):=by rw [hF];exact hs
   have e1:IntKind.i64.wrap (fl*(n:Int))=F:=by rw [hF,IntKind.wrap_i64];omega
   have e2:IntKind.i64.wrap (1073741824- F)=1073741824- F:=by rw [IntKind.wrap_i64];omega
   clear ha hb hz ht htp hF hs;go_enter Tryz.func122,Tryz.ntmps122
   go_wp2_with (first
    |(go_at_call 137;refine(HM.out _).mono ?_;rintro e w' ⟨rfl,q⟩;obtain rfl:=q.symm)
    |(go_at_call 209;(first|(with_reducible refine HW.out.mono ?_)|(with_reducible refine HW0.out.mono ?_));rintro e w' ⟨rfl,q⟩;obtain rfl:=q.symm)
    |(go_at_call 210;refine(HF.out _).mono ?_;rintro e w' ⟨rfl,q⟩;obtain rfl:=q.symm)
    |(go_at_call 138;refine HSh.out.mono ?_;rintro e w1 ⟨g,rfl,c1,hg,k1⟩;have HC1:=hideH c1;have HK1:=hideH k1;clear c1 k1))
   go_loopw [35] (fun i wr=> ∃ (k:Nat) (zo:Nat->Int),k<=n/\i= .int .i64 (k:Int)/\(∀ j,j<k->zo j=s j+fl)/\(∀ j,k<=j->zo j=s j)/\CRow wr g 2 (vals n zo)/\Below W.heap.size W wr) (fun i _=>n- (intOf i).toNat)
   case atStart=>exact⟨0,s,by omega,rfl,fun j hj=>by omega,fun j hj=>rfl,HC1.out,HK1.out⟩
   case round=>
    rename World=>wr;obtain⟨k,zo,hk,rfl,hz1,hz2,nA,kr⟩:=hrel;by_cases h:k<n
    ·have d1:=nA.cell (vals_at (z:=zo) h) rfl;rw [hz2 k (Nat.le_refl _)] at d1;have f1:=nA.free k;have hbk:=HB.out k h;have m1:=nA.set k (.int .i64 (s k+fl));rw [vals_set] at m1;have HM1:=hideH m1;have HK:=hideH (kr.trans (St.below_set (B:=W.heap.size) (w:=wr) (x:=⟨g,k,none⟩) kr.size hg (.int .i64 (s k+fl))))
     have HZ1:Hid (∀ j,j<k+1->(if j=k then s k+fl else zo j)=s j+fl):=fun j hj=>by
      by_cases e:j=k
      ·rw [if_pos e,e]
      ·rw [if_neg e];exact hz1 j (by omega)
     have HZ2:Hid (∀ j,k+1<=j->(if j=k then s k+fl else zo j)=s j):=fun j hj=>by
      rw [if_neg (by omega)];exact hz2 j (by omega)
     obtain⟨V,hV⟩: ∃ V,V=s k:=⟨_,rfl⟩;rw [← hV] at d1 hbk HM1 HK HZ1 HZ2;have e3:IntKind.i64.wrap (V+fl)=V+fl:=by rw [IntKind.wrap_i64];omega
     clear m1 nA kr hz1 hz2 hV;go_wp2;go_roundw
     case rel=>exact⟨k+1,_,by omega,by go_num,HZ1.out,HZ2.out,HM1.out,HK.out⟩
     case measure=>simp [intOf];omega
    ·obtain rfl:n=k:=by omega
     go_wp2;go_ret2;refine⟨_,n,_, .nilIface,rfl,kr,(crow_sl nA h4).congr (fun j hj=> ?_),Or.inr (Or.inr ⟨HMAY.out,HT.out,rfl,rfl⟩),NewL.at hg (Below.refl _ _)⟩;rw [hz1 j hj,HSS.out]
 ·refine(cof_err W ao n ca z fl ha hmay).mono ?_;rintro e w' ⟨rfl,rfl⟩;exact⟨_,0,_,errV 1,rfl,Below.refl _ _,Sl.none _ _,Or.inl ⟨hmay,rfl,rfl⟩,NewL.nil _⟩
theorem cn_of:COf:=fun W ao n ca z fl a b c d=>(cn_ofN W ao n ca z fl a b c d).mono (by rintro e w' ⟨vo,vn,vc,ev,q1,q2,q3,q4,_⟩;exact⟨vo,vn,vc,ev,q1,q2,q3,q4⟩)
namespace Cn
theorem part_in{z:Nat->Int}{R:Nat->Nat->Int}{n i j:Nat}(hz: ∀ k,k<i->0<=z k/\z k<=1073741824)(hR: ∀ k,k<i->0<=R k j/\R k j<=1073741824):0<=tot (fun k=>z k*R k j) i/\tot (fun k=>z k*R k j) i<=1152921504606846976*i:=by
 induction i with
 |zero=>exact⟨Int.le_refl _,by show(0:Int)<=_;omega⟩
 |succ i ih=>
  have h1:=ih (fun k hk=>hz k (by omega)) (fun k hk=>hR k (by omega));have h2:=hz i (by omega);have h3:=hR i (by omega);have h4:0<=z i*R i j:=Int.mul_nonneg h2.1 h3.1;have h5:z i*R i j<=1073741824*1073741824:=Int.mul_le_mul h2.2 h3.2 h3.1 (by omega);show 0<=tot (fun k=>z k*R k j) i+z i*R i j/\tot (fun k=>z k*R k j) i+z i*R i j<=_;omega
end Cn
theorem cnmFa1{p:Prop}(h:p:=by
 go_enter Tryz.func88,Tryz.ntmps88
 go_wp2_with (go_at_call 173;refine HA.out.mono ?_;rintro e w' ⟨rfl,q⟩;obtain rfl:=q.symm)
 go_ret2
 exact⟨_,0,_,errV 1,rfl,Below.refl _ _,Sl.none _ _,Or.inl ⟨HE.out,rfl,rfl⟩,NewL.nil _⟩):p:=h
theorem cn_mixN:CMixN:=by
 intro W ao lo n ca m cm z A L C R ha hb hl hr hrb;have l1:=ha.le;have l2:=ha.cap;have l3:=hl.le;have l4:=hl.cap;by_cases hc:Ch n z 0
 ·have HA:=hideH (careChances_any 0 ao n ca z W ha (by omega) (by omega) true (fun _=>hc) (fun q=>by cases q));by_cases hmn:m=n
  ·subst hmn;have h1:=hc.one;have h4:=hc.four;obtain⟨x,hao,hca⟩:=ha.get;obtain⟨y,hlo,hcl⟩:=hl.get;obtain rfl:=hao (by omega);obtain rfl:=hlo (by omega);have hmi:=makeI m h4;have HC:=hideH hc;have HZ:Hid (∀ k,k<m->0<=z k/\z k<=1073741824):=fun k hk=>hc.nn hk;have HX:=hideH hca;have HY:=hideH hcl;have HR:=hideH hr
   have HLX:Hid (∀ {k:Nat},¬((x.add k).block=W.heap.size)):=by
    intro k;have q:=World.block_lt_of_cell? W _ (hca 0 (by omega));rw [addr_block] at q ⊢;omega
   have HLT:Hid (∀ i,i<m-> ∀ xr,A i=some xr->L i=m-> ∀ {k:Nat},¬((xr.add k).block=W.heap.size)):=by
    intro i hi xr hxr hL k;obtain⟨y',e1,e2⟩:=(hr i hi).at' 0 (by omega);rw [hxr] at e1;cases e1
    have q:=World.block_lt_of_cell? W _ e2;rw [addr_block] at q ⊢;omega
   have HN0:=hideH (crow_new W 2 (vals m (fun _=>0)));have HB0:=hideH (below_al (Below.refl _ W) (.cells (vals m (fun _=>0)).toArray 2));clear hb hao hlo hca hcl hrb ha hl hr hc;go_enter Tryz.func88,Tryz.ntmps88
   go_wp2_with (go_at_call 173;refine HA.out.mono ?_;rintro e w' ⟨rfl,q⟩;obtain rfl:=q.symm)
   go_loopw [27] (fun iv wr=> ∃ (i:Nat) (zo:Nat->Int),i<=m/\iv= .int .i64 (i:Int)/\(∀ j,j<m->zo j=tot (fun q=>z q*R q j) i)/\(∀ q,q<i->L q=m/\Ch m (R q) 0)/\CRow wr W.heap.size 2 (vals m zo)/\Below W.heap.size W wr) (fun iv _=>m- (intOf iv).toNat)
   case atStart=>exact⟨0,fun _=>0,by omega,rfl,fun j hj=>rfl,fun q hq=>by omega,HN0.out,HB0.out⟩
   case round=>
    rename World=>wr;obtain⟨i,zo,hi,rfl,hzo,hok,nA,kr⟩:=hrel;by_cases h:i<m
    ·have c1:=keep_cell kr (HY.out i h);have sR:=(HR.out i h).keep kr;have lR1:=sR.le;have lR2:=sR.cap;by_cases hL:L i=m
     ·by_cases hch:Ch m (R i) 0
      ·rw [hL] at c1 sR lR1;have HA2:=hideH (careChances_any 0 (A i) m (C i) (R i) wr sR (by omega) (by omega) true (fun _=>hch) (fun q=>by cases q));obtain⟨xr,hxr,hcr⟩:=sR.get;have hxr':=hxr (by omega);rw [hxr'] at c1 HA2;obtain⟨cc,hcc⟩: ∃ cc,cc=C i:=⟨_,rfl⟩;rw [← hcc] at c1 HA2 lR1 lR2;have HCR:=hideH hcr;have HCH:Hid (∀ k,k<m->0<=R i k/\R i k<=1073741824):=fun k hk=>hch.nn hk;have HXI:=hideH (keep_cell kr (HX.out i h))
       have HOK':Hid (∀ q,q<i+1->L q=m/\Ch m (R q) 0):=fun q hq=>by
        by_cases e:q=i
        ·rw [e];exact⟨hL,hch⟩
        ·exact hok q (by omega)
       have HPB:Hid (∀ j,j<m->0<=tot (fun q=>z q*R q j) i/\tot (fun q=>z q*R q j) i<=3458764513820540928):=fun j hj=>by
        have:=part_in (n:=m) (i:=i) (j:=j) (R:=R) (fun k hk=>HZ.out k (by omega)) (fun k hk=>(hok k hk).2.nn hj);omega
       have hzi:=HZ.out i h;have HNE:Hid (∀ {k:Nat},¬((xr.add k).block=W.heap.size)):=HLT.out i h xr hxr' hL;have HNX:Hid (∀ {k:Nat},¬((x.add k).block=W.heap.size)):=HLX.out;have HZO:=hideH hzo;have HNA:=hideH nA;have HKR:=hideH kr;clear hcr hxr hxr' hcc sR hch hok hzo nA kr hL;go_wp2_with (go_at_call 173;refine HA2.out.mono ?_;rintro e w' ⟨rfl,q⟩;obtain rfl:=q.symm)
       go_loopw [45] (fun jv wi=> ∃ (j:Nat) (zi:Nat->Int),j<=m/\jv= .int .i64 (j:Int)/\(∀ q,q<j->zi q=tot (fun p=>z p*R p q) i+z i*R i q)/\(∀ q,j<=q->q<m->zi q=tot (fun p=>z p*R p q) i)/\CRow wi W.heap.size 2 (vals m zi)/\But (fun b=>b=W.heap.size) wr wi) (fun jv _=>m- (intOf jv).toNat)
       case atStart=>exact⟨0,zo,by omega,rfl,fun q hq=>by omega,fun q _ hq=>HZO.out q hq,HNA.out,But.refl _ _⟩
       case round=>
        rename World=>wi;obtain⟨j,zi,hj,rfl,hz1,hz2,nA,ki⟩:=hrel;by_cases h':j<m
        ·have c2:=ki.cell (HCR.out j h') (HNE.out);have c3:=ki.cell HXI.out (HNX.out);have d1:=nA.cell (vals_at (z:=zi) h') rfl;rw [hz2 j (Nat.le_refl _) h'] at d1;have f1:=nA.free j;have hR:=HCH.out j h';have hT:=HPB.out j h';have p0:0<=z i*R i j:=Int.mul_nonneg hzi.1 hR.1;have p1:z i*R i j<=1073741824*1073741824:=Int.mul_le_mul hzi.2 hR.2 hR.1 (by omega);have m1:=nA.set j (.int .i64 (tot (fun p=>z p*R p j) i+z i*R i j));rw [vals_set] at m1;have HM1:=hideH m1;have HK:=hideH (ki.set (p:=⟨W.heap.size,j,none⟩) (.int .i64 (tot (fun p=>z p*R p j) i+z i*R i j)) rfl)
         have HZ1:Hid (∀ q,q<j+1->(if q=j then tot (fun p=>z p*R p j) i+z i*R i j else zi q)=tot (fun p=>z p*R p q) i+z i*R i q):=fun q hq=>by
          by_cases e:q=j
          ·rw [if_pos e,e]
          ·rw [if_neg e];exact hz1 q (by omega)
         have HZ2:Hid (∀ q,j+1<=q->q<m->(if q=j then tot (fun p=>z p*R p j) i+z i*R i j else zi q)=tot (fun p=>z p*R p q) i):=fun q hq hq'=>by
          rw [if_neg (by omega)];exact hz2 q (by omega) hq'
         obtain⟨T,hT'⟩: ∃ T,T=tot (fun p=>z p*R p j) i:=⟨_,rfl⟩;obtain⟨X,hX'⟩: ∃ X,X=z i*R i j:=⟨_,rfl⟩;rw [← hX'] at HM1 HK HZ1 HZ2 p0 p1;rw [← hT'] at d1 HM1 HK HZ1 HZ2 hT;obtain⟨Y,hY'⟩: ∃ Y,Y=z i:=⟨_,rfl⟩;obtain⟨V,hV'⟩: ∃ V,V=R i j:=⟨_,rfl⟩;rw [← hY'] at c3 hX';rw [← hV'] at c2 hX';have e1:IntKind.i64.wrap (Y*V)=X:=by rw [← hX',IntKind.wrap_i64];omega
         have e2:IntKind.i64.wrap (T+X)=T+X:=by rw [IntKind.wrap_i64];omega
         clear m1 nA ki hz1 hz2 hT' hX' hY' hV' p0 p1 hR;go_upto_region 12 with fail
         go_region
         all_goals go_wp2
         all_goals go_roundw
         all_goals first
          |(case rel=>exact⟨j+1,_,by omega,by go_num,HZ1.out,HZ2.out,HM1.out.drew,HK.out.drew⟩)
          |(case measure=>simp [intOf];omega)
        ·obtain rfl:m=j:=by omega
         have kb:=ki.below HKR.out (by have:=HNA.out.lt;omega) (fun b hb=>by omega);go_wp2;go_roundw
         case rel=>exact⟨i+1,zi,by omega,by go_num,fun q hq=>by rw [hz1 q hq];rfl,HOK'.out,nA,kb⟩
         case measure=>simp [intOf];omega
      ·rw [hL] at c1 sR lR1;have HA2:=hideH (careChances_any 0 (A i) m (C i) (R i) wr sR (by omega) (by omega) false (fun q=>by cases q) (fun _=>hch));have HE:Hid (¬MayX m z m L R):=fun q=>hch (q.row i h).2;have HKR:=hideH kr;clear sR hch hok hzo nA kr hL;go_wp2_with (go_at_call 173;refine HA2.out.mono ?_;rintro e w' ⟨rfl,q⟩;obtain rfl:=q.symm)
       go_ret2;exact⟨_,0,_,errV 1,rfl,HKR.out,Sl.none _ _,Or.inl ⟨HE.out,rfl,rfl⟩,NewL.nil _⟩
     ·have e1:(((L i:Nat):Int) !=((m:Nat):Int))=true:=by rw [bne_iff_ne];omega
      have HE:Hid (¬MayX m z m L R):=fun q=>hL (q.row i h).1;have HKR:=hideH kr;clear sR hok hzo nA kr hL;go_wp2;go_ret2;exact⟨_,0,_,errV 1,rfl,HKR.out,Sl.none _ _,Or.inl ⟨HE.out,rfl,rfl⟩,NewL.nil _⟩
    ·obtain rfl:m=i:=by omega
     have may:MayX m z m L R:=⟨HC.out,rfl,hok⟩;have e:vals m zo=vals m (mxw m z R):=vals_congr fun j hj=>hzo j hj;rw [e] at nA;have HSh:=hideH (cshares_any 1073741824 _ m m (mxw m z R) wr (crow_sl nA h4) h4 (by omega) (by omega) (fun k hk=>⟨mxw_nn may hk,by have:=mxw_le may hk;omega⟩) (by rw [mxw_tot may];omega));have HMAY:=hideH may;have HKR:=hideH kr;clear hzo hok e nA kr may;go_wp2_with fail
     refine HSh.out.mono ?_;rintro e w1 ⟨g,rfl,c1,hg,k1⟩;go_wp2;go_ret2;exact⟨_,m,_, .nilIface,rfl,below_tr HKR.out k1,crow_sl c1 h4,Or.inr ⟨HMAY.out,rfl,rfl⟩,NewL.at hg HKR.out⟩
  ·have HE:Hid (¬MayX n z m L R):=fun q=>hmn q.rows;have e1:(((m:Nat):Int) !=((n:Nat):Int))=true:=by rw [bne_iff_ne];omega
   clear ha hb hl hr hrb hc hmn;exact cnmFa1
 ·have HA:=hideH (careChances_any 0 ao n ca z W ha (by omega) (by omega) false (fun q=>by cases q) (fun _=>hc));have HE:Hid (¬MayX n z m L R):=fun q=>hc q.ch;clear ha hb hl hr hrb hc;exact cnmFa1
end
end Go.Proofs.YtcefcokpjbebhaaGreatDoor
