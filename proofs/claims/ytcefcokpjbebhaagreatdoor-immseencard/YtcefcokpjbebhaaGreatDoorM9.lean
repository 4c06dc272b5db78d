/-
  The document's answer of layer 8 (radomeref08): May, Eye, Turn, Alike, Apply, Mul.
-/
import Derived.Test.YtcefcokpjbebhaaGreatDoorM8
import Derived.Test.YtcefcokpjbebhaaGreatDoorM4
import Derived.Deep.CutRange
set_option linter.unusedSimpArgs false
set_option linter.unusedVariables false
set_option maxHeartbeats 4000000
set_option maxRecDepth 10000
namespace Go.Proofs.YtcefcokpjbebhaaGreatDoor
section
open Go.RowKit Vc Mt Dt
theorem Vy(n m cm:Nat)(lo:Option Addr)(A:Nat->Option Addr)(C:Nat->Nat)(w:World)(h:Sls w lo n cm A (fun _=>m) C)(h1:1<=n)(h2:n<=6)(h3:1<=m)(h4:m<=6):
 Calls Tryz.prog 141 #[.slice lo n cm] w fun e w'=>e= .returned (.bool true)/\Below w.heap.size w w':=by
 obtain⟨x,hlo,hcl⟩:=h.get;obtain rfl:=hlo om1;have c0:w.cell? x=some (.slice (A 0) m (C 0)):=hcl 0 om1;have l1:=h.le;have l2:=h.cap;have HC:=Hid.mkV hcl;have e1:decide ((n:Int)<1)=false:=decide_eq_false om1;have e2:decide ((n:Int)>6)=false:=decide_eq_false om1;have e3:decide ((m:Int)<1)=false:=decide_eq_false om1;have e4:decide ((m:Int)>6)=false:=decide_eq_false om1;clear h hlo hcl;go_enter Tryz.func141,Tryz.ntmps141
 go_wp2;go_loopw [3] (fun i wr=> ∃ k:Nat,k<=n/\i= .int .i64 (k:Int)/\Below w.heap.size w wr) (fun i _=>n- (intOf i).toNat)
 case atStart=>exact⟨0,om1,rfl,Below.refl _ _⟩
 case round=>
  obtain⟨k,hk,rfl,hbel⟩:=hrel;by_cases h:k<n
  · have c1:=ah hbel (HC.out k h);have c0':=ah hbel c0;go_wp2;go_quiet (fail)
    go_wp2;go_roundw
    case rel=>exact⟨k+1,om1,by go_num,Vc.below_drewN hbel _⟩
    case measure=>simp [intOf];omega
  · obtain rfl:k=n:=om1;go_wp2;go_ret;exact⟨rfl,hbel⟩
theorem GY(n cm:Nat)(lo:Option Addr)(w:World)(hn:n<=9223372036854775807)(h:n<1\/6<n):
 Calls Tryz.prog 141 #[.slice lo n cm] w fun e w'=>e= .returned (.bool false)/\Below w.heap.size w w':=by
 by_cases h0:n<1
 · have e1:decide ((n:Int)<1)=true:=decide_eq_true om1;go_enter Tryz.func141,Tryz.ntmps141
   go_wp2;go_ret;exact⟨rfl,Below.refl _ _⟩
 · have e1:decide ((n:Int)<1)=false:=decide_eq_false om1;have e2:decide ((n:Int)>6)=true:=decide_eq_true om1;clear h h0;go_enter Tryz.func141,Tryz.ntmps141
   go_wp2;go_ret;exact⟨rfl,Below.refl _ _⟩
theorem QP(n cm:Nat)(lo:Option Addr)(A:Nat->Option Addr)(L C:Nat->Nat)(w:World)(h:Sls w lo n cm A L C)(h1:1<=n)(h2:n<=6)(hL:L 0<=9223372036854775807)(hb:L 0<1\/6<L 0):
 Calls Tryz.prog 141 #[.slice lo n cm] w fun e w'=>e= .returned (.bool false)/\Below w.heap.size w w':=by
 obtain⟨x,hlo,hcl⟩:=h.get;obtain rfl:=hlo om1;have c0:w.cell? x=some (.slice (A 0) (L 0) (C 0)):=hcl 0 om1;have l1:=h.le;have l2:=h.cap;have e1:decide ((n:Int)<1)=false:=decide_eq_false om1;have e2:decide ((n:Int)>6)=false:=decide_eq_false om1;obtain⟨m,hm⟩: ∃ m,m=L 0:=⟨_,rfl⟩;rw [← hm] at c0 hL hb;clear h hlo hcl hm;by_cases h0:m<1
 · have e3:decide ((m:Int)<1)=true:=decide_eq_true om1;clear h0 hb;go_enter Tryz.func141,Tryz.ntmps141
   go_wp2;go_ret;exact⟨rfl,Below.refl _ _⟩
 · have e3:decide ((m:Int)<1)=false:=decide_eq_false om1;have e4:decide ((m:Int)>6)=true:=decide_eq_true om1;clear h0 hb;go_enter Tryz.func141,Tryz.ntmps141
   go_wp2;go_ret;exact⟨rfl,Below.refl _ _⟩
theorem NY(n cm q:Nat)(lo:Option Addr)(A:Nat->Option Addr)(L C:Nat->Nat)(w:World)(h:Sls w lo n cm A L C)(h1:1<=n)(h2:n<=6)(h3:1<=L 0)(h4:L 0<=6)(hl: ∀ k,k<n->L k<=9223372036854775807)(hq:q<n)(hbad:L q≠L 0)(hok: ∀ k,k<q->L k=L 0):
 Calls Tryz.prog 141 #[.slice lo n cm] w fun e w'=>e= .returned (.bool false)/\Below w.heap.size w w':=by
 obtain⟨x,hlo,hcl⟩:=h.get;obtain rfl:=hlo om1;have c0:w.cell? x=some (.slice (A 0) (L 0) (C 0)):=hcl 0 om1;have l1:=h.le;have l2:=h.cap;have HC:=Hid.mkV hcl;have HL:=Hid.mkV hl;have HBAD:=Hid.mkV hbad;have HOK:=Hid.mkV hok;obtain⟨m,hm⟩: ∃ m,m=L 0:=⟨_,rfl⟩;rw [← hm] at c0 h3 h4;have HN:=Hid.mkV hm;have e1:decide ((n:Int)<1)=false:=decide_eq_false om1;have e2:decide ((n:Int)>6)=false:=decide_eq_false om1;have e3:decide ((m:Int)<1)=false:=decide_eq_false om1;have e4:decide ((m:Int)>6)=false:=decide_eq_false om1;clear h hlo hcl hm hl hbad hok;go_enter Tryz.func141,Tryz.ntmps141
 go_wp2;go_loopw [3] (fun i wr=> ∃ k:Nat,k<=q/\i= .int .i64 (k:Int)/\Below w.heap.size w wr) (fun i _=>n- (intOf i).toNat)
 case atStart=>exact⟨0,om1,rfl,Below.refl _ _⟩
 case round=>
  obtain⟨k,hk,rfl,hbel⟩:=hrel;have h:k<n:=om1;have c1:=ah hbel (HC.out k h);have c0':=ah hbel c0;have b1:=HL.out k h;by_cases hkq:k=q
  · have hh:=HBAD.out;rw [← HN.out,← hkq] at hh;obtain⟨l,hl⟩: ∃ l,l=L k:=⟨_,rfl⟩;rw [← hl] at c1 b1 hh;have e4:(((l:Nat):Int) !=((m:Nat):Int))=true:=by rw [bne_iff_ne];omega
    clear hl hkq hh;go_wp2;go_quiet (fail)
    go_wp2;go_ret;exact⟨rfl,Vc.below_drewN hbel _⟩
  · have hh:=HOK.out k om1;rw [hh,← HN.out] at c1;clear hh;go_wp2;go_quiet (fail)
    go_wp2;go_roundw
    case rel=>exact⟨k+1,om1,by go_num,Vc.below_drewN hbel _⟩
    case measure=>simp [intOf];omega
theorem Bc(n m cm:Nat)(lo:Option Addr)(F:Nat->Nat->Int)(w:World)(h1:1<=n)(h2:n<=6)(h3:1<=m)(h4:m<=6)(hg:Grid w lo n cm m F):
 Calls Tryz.prog 102 #[.slice lo n cm] w fun e w'=> ∃ lo' cm',e= .returned (.slice lo' m cm')/\Grid w' lo' m cm' n (fun i j=>F j i)/\Below w.heap.size w w':=by
 obtain⟨A,C,h,hz⟩:=hg;obtain⟨x,hlo,hcl⟩:=h.get;obtain rfl:=hlo om1;have c0:w.cell? x=some (.slice (A 0) m (C 0)):=hcl 0 om1;have l1:=h.le;have l2:=h.cap;have HC:=Hid.mkV hcl;have HZ:=Hid.mkV hz;clear h hlo hcl hz;go_enter Tryz.func102,Tryz.ntmps102
 go_wp2;go_loopw [3,4] (fun out i wr=> ∃ k:Nat,k<=m/\i= .int .i64 (k:Int)/\Lst w.heap.size w wr out k n (fun i j=>F j i)) (fun _ i _=>m- (intOf i).toNat)
 case atStart=>exact⟨0,om1,rfl,Lst.nil (Below.refl _ _) (Nat.le_refl _) _ _⟩
 case round=>
  rename World=>wo;obtain⟨k,hk,rfl,hL⟩:=hrel;have c0':=ah hL.below c0;by_cases h:k<m
  ·go_wp2;go_loopw [5,6] (fun ps j ws=> ∃ t:Nat,t<=n/\j= .int .i64 (t:Int)/\Own wo.heap.size wo ws ps t (fun i=>F i k)) (fun _ j _=>n- (intOf j).toNat)
   case atStart=>exact⟨0,om1,rfl,Own.nil (Below.refl _ _) (Nat.le_refl _) _⟩
   case round=>
    obtain⟨t,ht,rfl,hown2⟩:=hrel;by_cases h5:t<n
    ·have kk:=ae hL.below hown2.below;have c1:=ah kk (HC.out t h5);obtain⟨ya,hya,hyc⟩:=(HZ.out t h5).get;have c2:=ah kk (hyc k h);rw [hya om1] at c1;have l5:=(HZ.out t h5).le;have l6:=(HZ.out t h5).cap;obtain⟨V,hV⟩: ∃ V,V=F t k:=⟨_,rfl⟩;obtain⟨cc,hcc⟩: ∃ cc,cc=C t:=⟨_,rfl⟩;rw [← hV] at c2;rw [← hcc] at c1 l5 l6;have HV:=Hid.mkV hV;clear hV hcc hya hyc;go_wp2_with (at_builtin;refine dm rl1 (.tmp 21) (.tmp 29) rl1 wo.heap.size wo _ t (fun i=>F i k) rl1 hown2 om1 V (by exact HV.out) rl1 ?_)
     intro v' w' hown';go_wp2;go_roundw
     case rel=>exact⟨t+1,om1,by go_num,hown'⟩
     case measure=>simp [intOf];omega
    ·obtain rfl:t=n:=om1;obtain⟨po,pc,rfl,hps,hpf⟩:=mZ hown2;have hL2:=hL.keep hown2.below;have HS:=Hid.mkV hps;have HAP:=Hid.mkV (hL.apart (Nat.le_refl _) hpf);clear hps hpf hown2;go_wp2_with (at_builtin;refine lN rl1 (.tmp 31) (.tmp 33) rl1 w.heap.size w _ k _ (fun i j=>F j i) rl1 hL2 om1 om1 po pc HS.out HAP.out rl1 ?_)
     intro v' w' hL';go_wp2;go_roundw
     case rel=>exact⟨k+1,om1,by go_num,hL'⟩
     case measure=>simp [intOf];omega
  ·obtain rfl:k=m:=om1;obtain⟨lo,cm,rfl,hG⟩:=hL.grid;go_wp2;go_ret;exact⟨lo,cm,rfl,hG,hL.below⟩
theorem DL(n m cm cv:Nat)(lo vo:Option Addr)(F:Nat->Nat->Int)(v:Nat->Int)(w:World)(h2:n<=6)(h4:m<=6)(hg:Grid w lo n cm m F)(hv:Sl w vo m cv v)(hF:B2 F)(bv:B64 v):
 Calls Tryz.prog 100 #[.slice lo n cm, .slice vo m cv] w fun e w'=> ∃ co cc,e= .returned (.tuple #[.slice co n cc, .bool (dN (fun i=>Qn.great (Qn.rne (dk (F i) v m) (2^20))) n)])/\Own w.heap.size w w' (.slice co n cc) n (fun i=>Qn.clamp (Qn.rne (dk (F i) v m) (2^20))):=by
 obtain⟨A,C,h,hz⟩:=hg;obtain⟨x,hlo,hcl⟩:=h.get;have l1:=h.le;have l2:=h.cap;have HLO:=Hid.mkV hlo;have HC:=Hid.mkV hcl
 have HM:Hid (∀ i,i<n-> ∀ W,Below w.heap.size w W->Calls Tryz.prog 96 #[.slice (A i) m (C i), .slice vo m cv, .int .i64 20] W fun e w'=>
  e= .returned (.tuple #[.int .i64 (Qn.clamp (Qn.rne (dk (F i) v m) (2^20))), .bool (Qn.great (Qn.rne (dk (F i) v m) (2^20)))])/\Below W.heap.size W w'):=fun i hi W b=>Jn (A i) vo m (C i) cv (F i) v 20 20 W rfl om1 ((hz i hi).keep b) (hv.keep b) (hF i) bv om1
 obtain⟨r,hr⟩: ∃ r:Nat->Int,r=fun i=>Qn.clamp (Qn.rne (dk (F i) v m) (2^20)):=⟨_,rfl⟩;obtain⟨g,hg⟩: ∃ g:Nat->Bool,g=fun i=>Qn.great (Qn.rne (dk (F i) v m) (2^20)):=⟨_,rfl⟩
 have HM':Hid (∀ i,i<n-> ∀ W,Below w.heap.size w W->Calls Tryz.prog 96 #[.slice (A i) m (C i), .slice vo m cv, .int .i64 20] W fun e w'=>
  e= .returned (.tuple #[.int .i64 (r i), .bool (g i)])/\Below W.heap.size W w'):=by rw [hr,hg];exact HM
 rw [← hr,← hg];clear hr hg HM h hlo hcl hz hv hF bv;go_enter Tryz.func100,Tryz.ntmps100
 go_wp2;go_loopw [6,7,8] (fun out an i wr=> ∃ k:Nat,k<=n/\i= .int .i64 (k:Int)/\an= .bool (dN g k)/\Own w.heap.size w wr out k r) (fun _ _ i _=>n- (intOf i).toNat)
 case atStart=>exact⟨0,om1,rfl,rfl,Own.nil (Below.refl _ _) (Nat.le_refl _) _⟩
 case round=>
  obtain⟨k,hk,rfl,rfl,hown⟩:=hrel;by_cases h:k<n
  ·obtain rfl:=HLO.out om1;have c1:=ah hown.below (HC.out k h);have HA:Hid (dN g (k+1)=(dN g k||g k)):=rfl;have HCC:=Hid.mkV (HM'.out k h _ hown.below);obtain⟨R,hR⟩: ∃ R,R=r k:=⟨_,rfl⟩;obtain⟨G,hG⟩: ∃ G,G=g k:=⟨_,rfl⟩;obtain⟨T,hT⟩: ∃ T,T=dN g k:=⟨_,rfl⟩;obtain⟨ak,hak⟩: ∃ ak,ak=A k:=⟨_,rfl⟩;obtain⟨ck,hck⟩: ∃ ck,ck=C k:=⟨_,rfl⟩;rw [← hR,← hG,← hak,← hck] at HCC;rw [← hak,← hck] at c1;rw [← hT,← hG] at HA;rw [← hT];have HR:=Hid.mkV hR;clear hR hG hT hak hck;go_wp2_with fail
   refine HCC.out.mono ?_;rintro e w2 ⟨rfl,k2⟩;have hown2:=hown.keep k2;cases T
   all_goals go_wp2_with (at_builtin;refine dm rl1 (.tmp 26) (.tmp 28) rl1 w.heap.size w _ k r rl1 hown2 om1 R (by exact HR.out) rl1 ?_)
   all_goals intro v' w' hown'
   all_goals go_wp2
   all_goals go_roundw
   all_goals first
    |(simp [intOf];omega)
    |exact⟨k+1,om1,by go_num,by rw [HA.out];first|rfl|simp,hown'⟩
  ·obtain rfl:k=n:=om1;obtain⟨co,cc,rfl,hs⟩:=hown.sl;go_wp2;go_ret2;exact⟨_,_,rfl,hown⟩
theorem LK(n m q ca cb:Nat)(ao bo:Option Addr)(F G:Nat->Nat->Int)(w:World)(h1:1<=n)(h2:n<=6)(h3:1<=m)(h4:m<=6)(h5:1<=q)(h6:q<=6)(ga:Grid w ao n ca m F)(gb:Grid w bo m cb q G)(hF:B2 F)(hG:B2 G):
 Calls Tryz.prog 101 #[.slice ao n ca, .slice bo m cb] w fun e w'=> ∃ lo cm,e= .returned (.tuple #[.slice lo n cm, .bool (jK (fun i j=>Qn.great (Qn.rne (dk (fun k=>G k j) (F i) m) (2^20))) n q)])/\Grid w' lo n cm q (fun i j=>Qn.clamp (Qn.rne (dk (fun k=>G k j) (F i) m) (2^20)))/\Below w.heap.size w w':=by
 obtain⟨A,C,h,hz⟩:=ga;obtain⟨x,hlo,hcl⟩:=h.get;obtain rfl:=hlo om1;have l1:=h.le;have l2:=h.cap;have HC:=Hid.mkV hcl;have HT:=Hid.mkV (Bc m q cb bo G w h3 h4 h5 h6 gb)
 have HM:Hid (∀ tb tc i,i<n-> ∀ W,Below w.heap.size w W->Grid W tb q tc m (fun i j=>G j i)->Calls Tryz.prog 100 #[.slice tb q tc, .slice (A i) m (C i)] W fun e w'=>
  ∃ co cc,e= .returned (.tuple #[.slice co q cc, .bool (dN ((fun i j=>Qn.great (Qn.rne (dk (fun k=>G k j) (F i) m) (2^20))) i) q)])/\Own W.heap.size W w' (.slice co q cc) q ((fun i j=>Qn.clamp (Qn.rne (dk (fun k=>G k j) (F i) m) (2^20))) i)):=
  fun tb tc i hi W b gt=>DL q m tc (C i) tb (A i) (fun i j=>G j i) (F i) W h6 h4 gt ((hz i hi).keep b) (fun i k=>hG k i) (hF i)
 obtain⟨R,hR⟩: ∃ R:Nat->Nat->Int,R=fun i j=>Qn.clamp (Qn.rne (dk (fun k=>G k j) (F i) m) (2^20)):=⟨_,rfl⟩;obtain⟨H,hH⟩: ∃ H:Nat->Nat->Bool,H=fun i j=>Qn.great (Qn.rne (dk (fun k=>G k j) (F i) m) (2^20)):=⟨_,rfl⟩;rw [← hR,← hH] at HM;rw [← hR,← hH];clear hR hH h hlo hcl hz gb hF hG;go_enter Tryz.func101,Tryz.ntmps101
 go_wp2_with fail
 refine HT.out.mono ?_;rintro e w1 ⟨tb,tc,rfl,gt,k1⟩;clear HT;have HGT:=Hid.mkV gt;clear gt;go_wp2;go_loopw [7,8,9] (fun out an i wr=> ∃ k:Nat,k<=n/\i= .int .i64 (k:Int)/\an= .bool (jK H k q)/\Lst w1.heap.size w1 wr out k q R) (fun _ _ i _=>n- (intOf i).toNat)
 case atStart=>exact⟨0,om1,rfl,rfl,Lst.nil (Below.refl _ _) (Nat.le_refl _) _ _⟩
 case round=>
  rename World=>wo;obtain⟨k,hk,rfl,rfl,hL⟩:=hrel;have kk:=ae k1 hL.below;by_cases h:k<n
  ·have c1:=ah kk (HC.out k h);have HA:=Hid.mkV (yR H k q);have HCC:=Hid.mkV (HM.out tb tc k h _ kk (HGT.out.keep hL.below));obtain⟨g,hg⟩: ∃ g,g=dN (H k) q:=⟨_,rfl⟩;obtain⟨T,hT⟩: ∃ T,T=jK H k q:=⟨_,rfl⟩;obtain⟨ak,hak⟩: ∃ ak,ak=A k:=⟨_,rfl⟩;obtain⟨ck,hck⟩: ∃ ck,ck=C k:=⟨_,rfl⟩;rw [← hg,← hak,← hck] at HCC;rw [← hak,← hck] at c1;rw [← hT,← hg] at HA;rw [← hT];clear hg hT hak hck;go_wp2_with fail
   refine HCC.out.mono ?_;rintro e w2 ⟨co,cc,rfl,ho⟩;have hL2:=hL.keep ho.below;obtain⟨co',cc',e1,s2,f2⟩:=mZ ho;injection e1 with ea _ ec
   subst ea ec;have HS:=Hid.mkV s2;have HAP:=Hid.mkV (hL.apart (Nat.le_refl _) f2);clear s2 f2 ho;cases T
   all_goals go_wp2_with (at_builtin;refine lN rl1 (.tmp 29) (.tmp 31) rl1 w1.heap.size w1 _ k q R rl1 hL2 om1 om1 _ _ HS.out HAP.out rl1 ?_)
   all_goals intro v' w' hL'
   all_goals go_wp2
   all_goals go_roundw
   all_goals first
    |(simp [intOf];omega)
    |exact⟨k+1,om1,by go_num,by rw [← HA.out];first|rfl|simp,hL'⟩
  ·obtain rfl:k=n:=om1;obtain⟨lo,cm,rfl,hG⟩:=hL.grid;go_wp2;go_ret2;exact⟨lo,cm,rfl,hG,kk⟩
end
section
open Go.RowKit Vc Mt Dt
theorem mtsFa1{p:Prop}(h:p:=by
 rw [← hR,← hH] at HM;rw [← hR,← hH];clear hR hH h hlo hcl hz h' hlo' hcl' hz' hF hG;go_enter Tryz.func103,Tryz.ntmps103
 go_wp2;go_loopw [8,9,10] (fun out an i wr=> ∃ k:Nat,k<=n/\i= .int .i64 (k:Int)/\an= .bool (jK H k m)/\Lst w.heap.size w wr out k m R) (fun _ _ i _=>n- (intOf i).toNat)
 case atStart=>exact⟨0,om1,rfl,rfl,Lst.nil (Below.refl _ _) (Nat.le_refl _) _ _⟩
 case round=>
  rename World=>wo;obtain⟨k,hk,rfl,rfl,hL⟩:=hrel;have kk:=hL.below;by_cases h:k<n
  · have c1:=ah kk (HC.out k h);have c2:=ah kk (HC'.out k h);have HA:=Hid.mkV (yR H k m);have HCC:=Hid.mkV (fun W (b:Below wo.heap.size wo W)=>HM.out k h W (ae kk b));obtain⟨g,hg⟩: ∃ g,g=dN (H k) m:=⟨_,rfl⟩;obtain⟨T,hT⟩: ∃ T,T=jK H k m:=⟨_,rfl⟩;obtain⟨ak,hak⟩: ∃ ak,ak=A k:=⟨_,rfl⟩;obtain⟨ck,hck⟩: ∃ ck,ck=C k:=⟨_,rfl⟩;obtain⟨bk,hbk⟩: ∃ bk,bk=A' k:=⟨_,rfl⟩;obtain⟨dk',hdk⟩: ∃ dk',dk'=C' k:=⟨_,rfl⟩;rw [← hg,← hak,← hck,← hbk,← hdk] at HCC;rw [← hak,← hck] at c1;rw [← hbk,← hdk] at c2;rw [← hT,← hg] at HA;rw [← hT];clear hg hT hak hck hbk hdk;go_wp2
    go_region_held3 (fun w'=>w'.cell? (x.add k)=some (.slice ak m ck)/\w'.cell? (x'.add k)=some (.slice bk m dk'))
     (first
       |(refine⟨ah (W:=wo) ?_ c1,ah (W:=wo) ?_ c2⟩<;>first|with_reducible exact Below.refl _ _|with_reducible exact Vc.az _|with_reducible exact kq))
     (first
       |(go_at_call 115;refine(HCC.out _ (Vc.az _)).mono ?_;rintro e w2 ⟨co,cc,rfl,ho⟩
         have kq:Below wo.heap.size wo w2:=ae (Vc.az _) ho.below;have hL2:=hL.keep kq;obtain⟨co',cc',e1,s2,f2⟩:=mZ ho;injection e1 with ea _ ec
         subst ea ec;have HS:=Hid.mkV s2;have HAP:=Hid.mkV (hL.apart (Vc.az _).size f2)
         clear s2 f2 ho))
    all_goals cases T
    all_goals go_wp2_with (at_builtin;refine lN rl1 (.tmp 32) (.tmp 34) rl1 w.heap.size w _ k m R rl1 hL2 om1 om1 _ _ HS.out HAP.out rl1 ?_)
    all_goals intro v' w' hL'
    all_goals go_wp2
    all_goals go_roundw
    all_goals first
     |(simp [intOf];omega)
     |exact⟨k+1,om1,by go_num,by rw [← HA.out];first|rfl|simp,hL'⟩
  · obtain rfl:k=n:=om1;obtain⟨lo,cm,rfl,hG⟩:=hL.grid;go_wp2;go_ret2
    exact⟨lo,cm,rfl,hG,kk⟩):p:=h
theorem Vz(n m ca cb:Nat)(ao bo:Option Addr)(F G:Nat->Nat->Int)(w:World)(h1:1<=n)(h2:n<=6)(h3:1<=m)(h4:m<=6)(ga:Grid w ao n ca m F)(gb:Grid w bo n cb m G)(hF:B2 F)(hG:B2 G):
 Calls Tryz.prog 103 #[.slice ao n ca, .slice bo n cb, .bool false] w fun e w'=> ∃ lo cm,e= .returned (.tuple #[.slice lo n cm, .bool (jK (fun i j=>Qn.great (F i j+G i j)) n m)])/\Grid w' lo n cm m (fun i j=>Qn.clamp (F i j+G i j))/\Below w.heap.size w w':=by
 obtain⟨A,C,h,hz⟩:=ga;obtain⟨x,hlo,hcl⟩:=h.get;obtain rfl:=hlo om1;have l1:=h.le;have l2:=h.cap;have HC:=Hid.mkV hcl;obtain⟨A',C',h',hz'⟩:=gb;obtain⟨x',hlo',hcl'⟩:=h'.get;obtain rfl:=hlo' om1;have l1':=h'.le;have l2':=h'.cap;have HC':=Hid.mkV hcl'
 have HM:Hid (∀ i,i<n-> ∀ W,Below w.heap.size w W->Calls Tryz.prog 115 #[.slice (A i) m (C i), .slice (A' i) m (C' i), .bool false] W fun e w'=>
  ∃ co cc,e= .returned (.tuple #[.slice co m cc, .bool (dN ((fun i j=>Qn.great (F i j+G i j)) i) m)])/\Own W.heap.size W w' (.slice co m cc) m ((fun i j=>Qn.clamp (F i j+G i j)) i)):=
  fun i hi W b=>Jo m (C i) (C' i) (A i) (A' i) (F i) (G i) W h4 ((hz i hi).keep b) ((hz' i hi).keep b) (hF i) (hG i)
 obtain⟨R,hR⟩: ∃ R:Nat->Nat->Int,R=fun i j=>Qn.clamp (F i j+G i j):=⟨_,rfl⟩;obtain⟨H,hH⟩: ∃ H:Nat->Nat->Bool,H=fun i j=>Qn.great (F i j+G i j):=⟨_,rfl⟩;exact mtsFa1
namespace Mt
end Mt
namespace Mt
theorem dk_duo(a b:Int):dk (fun k=>if k=0 then a else b) (fun k=>if k=0 then 1 else 1) 2=a+b:=by
 show 0+a*1+b*1=a+b;omega
theorem Xv{w:World}{x:Addr}{a b:Int}(h:w.cell? x=some (.int .i64 a))(h2:w.cell? (x.add 1)=some (.int .i64 b)):Sl w (some x) 2 2 (fun k=>if k=0 then a else b):=
 ⟨Nat.le_refl _,om1,fun k hk=>⟨x,rfl,by
  match k,hk with
  |0,_=>exact h
  |1,_=>exact h2⟩⟩
end Mt
theorem QQ(a b:Int)(x y:Addr)(w:World)(ca:w.cell? x=some (.int .i64 a))(cb:w.cell? (x.add 1)=some (.int .i64 b))(d0:w.cell? y=some (.int .i64 1))(d1:w.cell? (y.add 1)=some (.int .i64 1))(ha0: -9223372036854775808<=a)(ha1:a<=9223372036854775807)(hb0: -9223372036854775808<=b)(hb1:b<=9223372036854775807):
 Calls Tryz.prog 96 #[.slice (some x) 2 2, .slice (some y) 2 2, .int .i64 1] w fun e w'=>e= .returned (.tuple #[.int .i64 (Qn.clamp (Qn.rne (a+b) (2^1))), .bool (Qn.great (Qn.rne (a+b) (2^1)))])/\Below w.heap.size w w':=by
 have h:=Jn (some x) (some y) 2 2 2 (fun k=>if k=0 then a else b) (fun k=>if k=0 then 1 else 1) 1 1 w rfl om1 (Xv ca cb) (Xv d0 d1) (fun k=>by show _<=(if k=0 then a else b)/\(if k=0 then a else b)<=_;split<;>exact⟨by assumption,by assumption⟩) (fun k=>by show _<=(if k=0 then(1:Int) else 1)/\(if k=0 then(1:Int) else 1)<=_;split<;>omega) om1
 rw [dk_duo a b] at h;exact h
end
section
open Go.RowKit Vc Mt Dt
theorem QR(n cm:Nat)(lo:Option Addr)(F:Nat->Nat->Int)(w:World)(h1:1<=n)(h2:n<=6)(hg:Grid w lo n cm n F)(hF:B2 F):
 Calls Tryz.prog 104 #[.slice lo n cm] w fun e w'=> ∃ L' cm' G' C',e= .returned (.tuple #[.slice (some ⟨L',0,none⟩) n cm', .bool (jK (fun i j=>Qn.great (Qn.rne (F i j+F j i) (2^1))) n n)])/\ni w.heap.size w w' L' cm' G' C' n n (fun i j=>Qn.clamp (Qn.rne (F i j+F j i) (2^1))):=by
 obtain⟨A,C,h,hz⟩:=hg;obtain⟨x,hlo,hcl⟩:=h.get;obtain rfl:=hlo om1;have l1:=h.le;have l2:=h.cap;have HC:=Hid.mkV hcl;have HZ:=Hid.mkV hz;have HD:=Hid.mkV (fun i j p q W ca cb d0 d1=>QQ (F i j) (F j i) p q W ca cb d0 d1 (hF i j).1 (hF i j).2 (hF j i).1 (hF j i).2);obtain⟨R,hR⟩: ∃ R:Nat->Nat->Int,R=fun i j=>Qn.clamp (Qn.rne (F i j+F j i) (2^1)):=⟨_,rfl⟩;obtain⟨H,hH⟩: ∃ H:Nat->Nat->Bool,H=fun i j=>Qn.great (Qn.rne (F i j+F j i) (2^1)):=⟨_,rfl⟩
 have HD':Hid (∀ (i j:Nat) (p q:Addr) (W:World),W.cell? p=some (.int .i64 (F i j))->W.cell? (p.add 1)=some (.int .i64 (F j i))->W.cell? q=some (.int .i64 1)->W.cell? (q.add 1)=some (.int .i64 1)->
  Calls Tryz.prog 96 #[.slice (some p) 2 2, .slice (some q) 2 2, .int .i64 1] W fun e w'=>e= .returned (.tuple #[.int .i64 (R i j), .bool (H i j)])/\Below W.heap.size W w'):=by rw [hR,hH];exact HD.out
 rw [← hR,← hH];clear hR hH HD h hlo hcl hz hF;go_enter Tryz.func104,Tryz.ntmps104
 go_wp2;go_loopw [4,5,6] (fun out an i wr=> ∃ k:Nat,k<=n/\i= .int .i64 (k:Int)/\an= .bool (jK H k n)/\Rwc w.heap.size w wr out k n R) (fun _ _ i _=>n- (intOf i).toNat)
 case atStart=>exact⟨0,om1,rfl,rfl,Rwc.nil (Below.refl _ _) (Nat.le_refl _) _ _⟩
 case round=>
  rename World=>wo;obtain⟨k,hk,rfl,rfl,hL⟩:=hrel;have kk:=hL.below;by_cases h:k<n
  · go_wp2;go_loopw [5,7,8] (fun an ps j ws=> ∃ t:Nat,t<=n/\j= .int .i64 (t:Int)/\an= .bool (jK H k n||dN (H k) t)/\Own wo.heap.size wo ws ps t (R k)) (fun _ _ j _=>n- (intOf j).toNat)
    case atStart=>exact⟨0,om1,rfl,by show _=Value.bool (jK H k n||false);rw [Bool.or_false],Own.nil (Below.refl _ _) (Nat.le_refl _) _⟩
    case round=>
     rename World=>wi;obtain⟨t,ht,rfl,rfl,hown⟩:=hrel;obtain⟨T,hT⟩: ∃ T,T=(jK H k n||dN (H k) t):=⟨_,rfl⟩;have kk2:=ae kk hown.below;by_cases h5:t<n
     · have c1:=ah kk2 (HC.out k h);have c2:=ah kk2 (HC.out t h5);obtain⟨ya,hya,hyc⟩:=(HZ.out k h).get;obtain⟨yb,hyb,hyd⟩:=(HZ.out t h5).get;have d1:=ah kk2 (hyc t h5);have d2:=ah kk2 (hyd k h);rw [hya om1] at c1;rw [hyb om1] at c2;have l5:=(HZ.out k h).le;have l6:=(HZ.out k h).cap;have l7:=(HZ.out t h5).le;have l8:=(HZ.out t h5).cap;have HA:=Hid.mkV (LD H k t n);have HCC:=Hid.mkV (HD'.out k t);obtain⟨r,hr⟩: ∃ r,r=R k t:=⟨_,rfl⟩;obtain⟨g,hg⟩: ∃ g,g=H k t:=⟨_,rfl⟩;obtain⟨u,hu⟩: ∃ u,u=F k t:=⟨_,rfl⟩;obtain⟨v,hv⟩: ∃ v,v=F t k:=⟨_,rfl⟩;obtain⟨ck,hck⟩: ∃ ck,ck=C k:=⟨_,rfl⟩;obtain⟨ct,hct⟩: ∃ ct,ct=C t:=⟨_,rfl⟩;rw [← hr,← hg,← hu,← hv] at HCC;rw [← hu] at d1;rw [← hv] at d2;rw [← hck] at c1 l5 l6;rw [← hct] at c2 l7 l8;rw [← hT,← hg] at HA;rw [← hT];have HR:=Hid.mkV hr;clear hr hg hu hv hck hct hT hya hyb hyc hyd;go_upto_region 10 with fail
       go_cut [9,10] (fun p q wx=>p= .int .i64 r/\q= .bool g/\Below wi.heap.size wi wx)
       case first=>
        go_region_held3 (fun w'=>w'.cell? (x.add k)=some (.slice (some ya) n ck)/\w'.cell? (x.add t)=some (.slice (some yb) n ct)/\w'.cell? (ya.add t)=some (.int .i64 u)/\w'.cell? (yb.add k)=some (.int .i64 v))
         (first
           |(refine⟨ah (W:=wi) ?_ c1,ah (W:=wi) ?_ c2,ah (W:=wi) ?_ d1,ah (W:=wi) ?_ d2⟩<;>first|with_reducible exact Below.refl _ _|with_reducible exact Vc.az _|with_reducible exact af (Vc.az _) _|with_reducible exact af (af (Vc.az _) _) _|with_reducible exact af (Below.refl _ _) _|with_reducible exact(af (Below.refl _ _) _).drew|with_reducible exact(af (Vc.az _) _).drew|with_reducible exact af (af (Below.refl _ _) _) _|with_reducible exact(af (af (Below.refl _ _) _) _).drew|with_reducible exact af (af (Below.refl _ _) _).drew _|with_reducible exact(af (af (Below.refl _ _) _).drew _).drew|with_reducible exact(af (af (Vc.az _) _) _).drew|with_reducible exact af (af (Vc.az _) _).drew _|with_reducible exact kq))
         (first
           |(go_at_call 96;refine(HCC.out _ _ _ (by go_simp) (by rw [Addr.add_lit];go_simp) (by go_simp) (by rw [Addr.add_lit];go_simp)).mono ?_;rintro e w2 ⟨rfl,k2⟩
             have kq:Below wi.heap.size wi w2:=by refine ae ?_ k2;repeat(first|with_reducible exact Below.refl _ _|with_reducible refine af ?_ _|with_reducible refine Below.drew ?_)))
        all_goals go_wp2_with fail
        all_goals go_meet
        all_goals exact⟨rfl,rfl,kq⟩
       case rest=>
        obtain⟨rfl,rfl,kq⟩:=hcut;have hown2:=hown.keep kq;cases T
        all_goals go_wp2_with (at_builtin;refine dm rl1 (.tmp 43) (.tmp 45) rl1 wo.heap.size wo _ t (R k) rl1 hown2 om1 r (by exact HR.out) rl1 ?_)
        all_goals intro v' w' hown'
        all_goals go_wp2
        all_goals go_roundw
        all_goals first
         |(simp [intOf];omega)
         |exact⟨t+1,om1,by go_num,by rw [HA.out];first|rfl|simp,hown'⟩
     · obtain rfl:t=n:=om1;obtain⟨g0,pc,rfl,hgb,hpc,hpc2,hps⟩:=Vr hown om1;have HS:=Hid.mkV hps;have HB:=Hid.mkV hown.below;have HL:=Hid.mkV hL;rw [← hT];have HT:=Hid.mkV hT;clear hps hown hT;go_wp2_with (at_builtin;refine GV rl1 (.tmp 51) (.tmp 53) rl1 w.heap.size w _ k _ R rl1 HL.out HB.out om1 g0 pc HS.out ⟨hpc,hpc2⟩ hgb rl1 ?_)
       intro v' w' hL';go_wp2;go_roundw
       case rel=>exact⟨k+1,om1,by go_num,by rw [HT.out,yR],hL'⟩
       case measure=>simp [intOf];omega
  · obtain rfl:k=n:=om1;obtain⟨L',cm',G',C',rfl,hA⟩:=hL.open om1;go_wp2;go_ret2;exact⟨L',cm',G',C',rfl,hA⟩
end
section
open Go.RowKit Vc St Mt Dt
attribute [local go_sem ↓] Go.wp_at_zero Go.wp_at_succ
namespace Pr
theorem isRs:Is 60 2:=⟨by kernel_rfl,⟨_,Tryz.underlying60,rfl⟩⟩
def nX(F:Nat->Nat->Int)(X:Nat->Int):Nat->Int:=fun i=>Qn.clamp (Qn.rne (dk (F i) X 6) (2^20))
def nY(F P:Nat->Nat->Int):Nat->Nat->Int:=fun i j=>Qn.clamp (Qn.rne (dk (fun k=>P k j) (F i) 6) (2^20))
def nZ(F P:Nat->Nat->Int):Nat->Nat->Int:=fun i j=>Qn.clamp (Qn.rne (dk (fun k=>F j k) (nY F P i) 6) (2^20))
def nW(F P Q:Nat->Nat->Int):Nat->Nat->Int:=fun i j=>Qn.clamp (nZ F P i j+Q i j)
def nE(F P Q:Nat->Nat->Int):Nat->Nat->Int:=fun i j=>Qn.clamp (Qn.rne (nW F P Q i j+nW F P Q j i) (2^1))
def nP(F P Q:Nat->Nat->Int):Nat->Nat->Int:=fun i j=>if i=j/\nE F P Q i j<0 then 0 else nE F P Q i j
def oX(F:Nat->Nat->Int)(X:Nat->Int):Bool:=dN (fun i=>Qn.great (Qn.rne (dk (F i) X 6) (2^20))) 6
def oY(F P:Nat->Nat->Int):Bool:=jK (fun i j=>Qn.great (Qn.rne (dk (fun k=>P k j) (F i) 6) (2^20))) 6 6
def oZ(F P:Nat->Nat->Int):Bool:=jK (fun i j=>Qn.great (Qn.rne (dk (fun k=>F j k) (nY F P i) 6) (2^20))) 6 6
def oW(F P Q:Nat->Nat->Int):Bool:=jK (fun i j=>Qn.great (nZ F P i j+Q i j)) 6 6
def oE(F P Q:Nat->Nat->Int):Bool:=jK (fun i j=>Qn.great (Qn.rne (nW F P Q i j+nW F P Q j i) (2^1))) 6 6
def oP(F:Nat->Nat->Int)(X:Nat->Int)(P Q:Nat->Nat->Int):Bool:=oX F X||oY F P||oZ F P||oW F P Q||oE F P Q
theorem VA(R:Nat->Nat->Int):B2 (fun i j=>Qn.clamp (R i j)):=fun i j=>by show _<=Qn.clamp (R i j)/\Qn.clamp (R i j)<=_;unfold Qn.clamp;constructor<;>(repeat' split)<;>omega
def nD(E:Nat->Nat->Int)(k:Nat):Nat->Nat->Int:=fun i j=>if i=j/\i<k/\E i j<0 then 0 else E i j
theorem Y7(E:Nat->Nat->Int)(i j:Nat):E i j=nD E 0 i j:=by unfold nD;rw [if_neg om1]
theorem Y8(E:Nat->Nat->Int)(k:Nat)(h: ¬E k k<0)(i j:Nat):nD E k i j=nD E (k+1) i j:=by
 unfold nD;by_cases e:i=j/\i<k/\E i j<0
 · rw [if_pos e,if_pos ⟨e.1,om1,e.2.2⟩]
 · rw [if_neg e,if_neg];rintro⟨a,b,c⟩;by_cases q:i=k
   · subst q;subst a;exact h c
   · exact e ⟨a,om1,c⟩
theorem nD_put(E:Nat->Nat->Int)(k:Nat)(h:E k k<0)(i j:Nat):put2 (nD E k) k k 0 i j=nD E (k+1) i j:=by
 unfold put2 nD;by_cases q:i=k/\j=k
 · obtain⟨rfl,rfl⟩:=q;rw [if_pos ⟨rfl,rfl⟩,if_pos ⟨rfl,om1,h⟩]
 · rw [if_neg q];by_cases e:i=j/\i<k/\E i j<0
   · rw [if_pos e,if_pos ⟨e.1,om1,e.2.2⟩]
   · rw [if_neg e,if_neg];rintro⟨a,b,c⟩;exact e ⟨a,om1,c⟩
theorem nD_at(E:Nat->Nat->Int)(k:Nat):nD E k k k=E k k:=by unfold nD;rw [if_neg om1]
theorem nD_end(E:Nat->Nat->Int){i:Nat}(j:Nat)(hi:i<6):nD E 6 i j=if i=j/\E i j<0 then 0 else E i j:=by
 unfold nD;by_cases e:i=j/\E i j<0
 · rw [if_pos ⟨e.1,hi,e.2⟩,if_pos e]
 · rw [if_neg (fun q=>e ⟨q.1,q.2.2⟩),if_neg e]
end Pr
open Pr
end
section
open Vc Cn Pr Dt Mt Qn
namespace Mx
theorem GZ(n:Int):InV (Qn.clamp n):=by unfold InV Qn.clamp;split<;>(try split)<;>omega
def wt(n:Nat)(z:Nat->Int)(R:Nat->Nat->Int)(t:Nat):Nat->Int:=fun i=>if i<n then z i*R i t else 0
def shr(n:Nat)(z:Nat->Int)(R:Nat->Nat->Int)(t:Nat):Nat->Int:=fun k=>if k<n then(if tot (wt n z R t) n=0 then(if k=t then 1073741824 else 0) else sh 1073741824 (wt n z R t) n k) else 0
theorem LM{n:Nat}{z:Nat->Int}{R:Nat->Nat->Int}{t k:Nat}(hk:k<n):shr n z R t k=if tot (wt n z R t) n=0 then(if k=t then 1073741824 else 0) else sh 1073741824 (wt n z R t) n k:=by unfold shr;rw [if_pos hk]
section
variable {n m:Nat} {z:Nat->Int} {L:Nat->Nat} {R:Nat->Nat->Int} (h:I9 n z m L R)
include h
theorem Y9{t:Nat}(ht:t<n)(i:Nat):0<=wt n z R t i/\wt n z R t i<=1152921504606846976:=by
 unfold wt;by_cases hi:i<n
 · rw [if_pos hi];have a1:=h.ch.nn hi;have a2:=(h.row i hi).2.nn ht;exact⟨Int.mul_nonneg a1.1 a2.1,Int.mul_le_mul a1.2 a2.2 a2.1 om1⟩
 · rw [if_neg hi];omega
theorem wt_may{t:Nat}(ht:t<n):Ah n (wt n z R t) 0:=⟨h.ch.one,h.ch.four,om1,om1,fun k _=>by have:=Y9 h ht k;omega⟩
theorem shr_ch{t:Nat}(ht:t<n):Ch n (shr n z R t) 0:=by
 have t0:=qF (a:=wt n z R t) (n:=n) (fun k _=>(Y9 h ht k).1);refine⟨h.ch.one,h.ch.four,om1,om1,fun k hk=> ?_, ?_⟩
 · rw [LM hk];by_cases e:tot (wt n z R t) n=0
   · rw [if_pos e];split<;>omega
   · rw [if_neg e];exact UW om1 (fun i _=>(Y9 h ht i).1) om1 hk
 · by_cases e:tot (wt n z R t) n=0
   · have q:tot (shr n z R t) n=tot (fun k=>if k=t then 1073741824 else(fun _=>(0:Int)) k) n:=iC fun k hk=>by rw [LM hk,if_pos e]
     rw [q,I8 (a:=fun _=>(0:Int)) 1073741824 ht,jc];omega
   · have q:tot (shr n z R t) n=tot (sh 1073741824 (wt n z R t) n) n:=iC fun k hk=>by rw [LM hk,if_neg e]
     rw [q];exact Xa om1
theorem Za{t:Nat}(ht:t<n)(k:Nat): -9223372036854775808<=shr n z R t k/\shr n z R t k<=9223372036854775807:=by
 by_cases hk:k<n
 · have:=(shr_ch h ht).nn hk;omega
 · unfold shr;rw [if_neg hk];omega
end
section
variable (n:Nat) (c:Nat->Int) (X:Nat->Nat->Int) (P:Nat->Nat->Nat->Int)
def jx(p:Nat):Int:=Qn.rne (dk (fun k=>X k p) c n) (2^30)
def jX:Nat->Int:=fun p=>Qn.clamp (jx n c X p)
def jXo:Bool:=dN (fun p=>Qn.great (jx n c X p)) 6
def jd(k:Nat):Nat->Int:=fun p=>Qn.clamp (X k p- jX n c X p)
def jdo(k:Nat):Bool:=dN (fun p=>Qn.great (X k p- jX n c X p)) 6
def ju(k:Nat):Nat->Nat->Int:=fun i j=>Qn.clamp (Qn.rne (jd n c X k i*jd n c X k j) (2^20))
def juo(k:Nat):Bool:=jK (fun i j=>Qn.great (Qn.rne (jd n c X k i*jd n c X k j) (2^20))) 6 6
def jm(k:Nat):Nat->Nat->Int:=fun i j=>Qn.clamp (P k i j+ju n c X k i j)
def jmo(k:Nat):Bool:=jK (fun i j=>Qn.great (P k i j+ju n c X k i j)) 6 6
def ja:Nat->Nat->Int:=fun i j=>Qn.clamp (Qn.rne (dk (fun k=>jm n c X P k i j) c n) (2^30))
def jao(i:Nat):Bool:=dN (fun j=>Qn.great (Qn.rne (dk (fun k=>jm n c X P k i j) c n) (2^30))) 6
def je:Nat->Nat->Int:=fun i j=>Qn.clamp (Qn.rne (ja n c X P i j+ja n c X P j i) (2^1))
def jeo:Bool:=jK (fun i j=>Qn.great (Qn.rne (ja n c X P i j+ja n c X P j i) (2^1))) 6 6
def jP:Nat->Nat->Int:=fun i j=>if i=j/\je n c X P i j<0 then 0 else je n c X P i j
def jko(k:Nat):Bool:=dN (fun k=>jdo n c X k||juo n c X k||jmo n c X P k) k
def jO:Bool:=((jXo n c X||jko n c X P n)||dN (jao n c X P) 6)||jeo n c X P
theorem Zb(i j:Nat):je n c X P i j=je n c X P j i:=by unfold je;rw [Int.add_comm]
theorem Zc(i j:Nat):jP n c X P i j=jP n c X P j i:=by
 unfold jP;by_cases e:i=j
 · rw [e]
 · rw [if_neg (fun q=>e q.1),if_neg (fun q=>e q.1.symm),Zb]
theorem jP_in(i j:Nat):InV (jP n c X P i j):=by
 unfold jP;split
 · unfold InV;omega
 · exact GZ _
theorem jP_nn(i:Nat):0<=jP n c X P i i:=by
 unfold jP;by_cases e:je n c X P i i<0
 · rw [if_pos ⟨rfl,e⟩];omega
 · rw [if_neg (fun q=>e q.2)];omega
theorem VB:oK (jX n c X) (jP n c X P):=fun i _=>⟨GZ _,jP_nn n c X P i,fun j _=>⟨jP_in n c X P i j,Zc n c X P i j⟩⟩
end
def aO(n:Nat)(z:Nat->Int)(R:Nat->Nat->Int)(X:Nat->Nat->Int)(P:Nat->Nat->Nat->Int):Bool:=dN (fun t=>jO n (shr n z R t) X P) n
section
variable {n:Nat} {c:Nat->Int} {X:Nat->Nat->Int} {P:Nat->Nat->Nat->Int} {X0:Nat->Int} {P0:Nat->Nat->Int} (hc:Ch n c 0) (h0:oK X0 P0)
 (hX: ∀ k,k<n->c k≠0-> ∀ i,i<6->X k i=X0 i) (hP: ∀ k,k<n->c k≠0-> ∀ i j,i<6->j<6->P k i j=P0 i j)
include hc
include h0 hX
include hP
end
end Mx
end
section
open Go.RowKit Vc St Mt Dt
attribute [local go_sem ↓] Go.wp_at_zero Go.wp_at_succ
open Pr
theorem dF(z:Int)(w:World):Calls Tryz.prog 68 #[.int .i64 z] w fun e w'=>e= .returned (.bool (decide (InV z)))/\w'=w:=by
 by_cases h1: -4611686018427387903<=z
 · by_cases h2:z<=4611686018427387903
   · have e0:decide (InV z)=true:=decide_eq_true ⟨h1,h2⟩;have e1:decide (z>= -4611686018427387903)=true:=decide_eq_true h1;have e2:decide (z<=4611686018427387903)=true:=decide_eq_true h2;rw [e0];go_enter Tryz.func68,Tryz.ntmps68
     go_wp2;go_ret;exact⟨rfl,rfl⟩
   · have e0:decide (InV z)=false:=decide_eq_false (fun h=>h2 h.2);have e1:decide (z>= -4611686018427387903)=true:=decide_eq_true h1;have e2:decide (z<=4611686018427387903)=false:=decide_eq_false h2;rw [e0];go_enter Tryz.func68,Tryz.ntmps68
     go_wp2;go_ret;exact⟨rfl,rfl⟩
 · have e0:decide (InV z)=false:=decide_eq_false (fun h=>h1 h.1);have e1:decide (z>= -4611686018427387903)=false:=decide_eq_false h1;rw [e0];go_enter Tryz.func68,Tryz.ntmps68
   go_wp2;go_ret;exact⟨rfl,rfl⟩
theorem NZ(n cm:Nat)(lo:Option Addr)(w:World)(h:Calls Tryz.prog 141 #[.slice lo n cm] w fun e w'=>e= .returned (.bool false)/\Below w.heap.size w w'):
 Calls Tryz.prog 67 #[.slice lo n cm] w fun e w'=>e= .returned (.bool false)/\Below w.heap.size w w':=by
 have H:=Hid.mkQ h;clear h;go_enter Tryz.func67,Tryz.ntmps67
 go_wp2_with fail
 refine H.out.mono ?_;rintro e w1 ⟨rfl,k1⟩;go_wp2;go_ret;exact⟨rfl,k1⟩
theorem Bd(n m cm:Nat)(lo:Option Addr)(F:Nat->Nat->Int)(w:World)(h1:1<=n)(h2:n<=6)(h3:1<=m)(h4:m<=6)(hF:Grid w lo n cm m F):
 Calls Tryz.prog 67 #[.slice lo n cm] w fun e w'=>e= .returned (.bool (decide (n=6/\m=6)))/\Below w.heap.size w w':=by
 obtain⟨A,C,hS,hR⟩:=hF;have H:=Hid.mkQ (Vy n m cm lo A C w hS h1 h2 h3 h4);have HS:=Hid.mkQ hS;clear hS hR;by_cases e6:n=6
 · subst e6;by_cases m6:m=6
   · subst m6;have e0:decide ((6:Nat)=6/\(6:Nat)=6)=true:=by decide
     rw [e0];go_enter Tryz.func67,Tryz.ntmps67
     go_wp2_with fail
     refine H.out.mono ?_;rintro e w1 ⟨rfl,k1⟩;obtain⟨x,hlo,hcl⟩:=(HS.out.keep k1).get;obtain rfl:=hlo om1;have c0:w1.cell? x=some (.slice (A 0) 6 (C 0)):=hcl 0 om1;clear hcl hlo;go_wp2;go_ret;exact⟨rfl,k1⟩
   · have e0:decide ((6:Nat)=6/\m=6)=false:=decide_eq_false (fun h=>m6 h.2);have e1:((m:Int)==6)=false:=by rw [beq_eq_false_iff_ne];omega
     have e2:decide ((m:Int)=6)=false:=decide_eq_false om1;rw [e0];go_enter Tryz.func67,Tryz.ntmps67
     go_wp2_with fail
     refine H.out.mono ?_;rintro e w1 ⟨rfl,k1⟩;obtain⟨x,hlo,hcl⟩:=(HS.out.keep k1).get;obtain rfl:=hlo om1;have c0:w1.cell? x=some (.slice (A 0) m (C 0)):=hcl 0 om1;clear hcl hlo;go_wp2;go_ret;exact⟨rfl,k1⟩
 · have e0:decide (n=6/\m=6)=false:=decide_eq_false (fun h=>e6 h.1);have e1:((n:Int)==6)=false:=by rw [beq_eq_false_iff_ne];omega
   have e2:decide ((n:Int)=6)=false:=decide_eq_false om1;rw [e0];go_enter Tryz.func67,Tryz.ntmps67
   go_wp2_with fail
   refine H.out.mono ?_;rintro e w1 ⟨rfl,k1⟩;go_wp2;go_ret;exact⟨rfl,k1⟩
theorem Oa(xo po:Option Addr)(n xc pc:Nat)(w:World)(h: ∀ W,Below w.heap.size w W->Calls Tryz.prog 67 #[.slice po n pc] W fun e w'=>e= .returned (.bool false)/\Below W.heap.size W w'):
 Calls Tryz.prog 25 #[.agg #[.slice xo 6 xc, .slice po n pc]] w fun e w'=>e= .returned (.bool false)/\Below w.heap.size w w':=by
 have m0:=aH w 60 [.slice xo 6 xc, .slice po n pc];have B0:Below w.heap.size w (w.alloc (.cells [.slice xo 6 xc, .slice po n pc].toArray 60)):=af (Below.refl _ _) _;have H:=Hid.mkQ (h _ B0);obtain⟨W,hW⟩: ∃ W,W=w.alloc (.cells [.slice xo 6 xc, .slice po n pc].toArray 60):=⟨_,rfl⟩;rw [← hW] at m0 B0 H;have HW:=Hid.mkQ hW;have c0:W.cell? ⟨w.heap.size,0,none⟩=some (.slice xo 6 xc):=ai.cell m0 (k:=0) rfl rfl;have c1:W.cell? ⟨w.heap.size,1,none⟩=some (.slice po n pc):=ai.cell m0 (k:=1) rfl rfl;clear hW h m0;go_enter Tryz.func25,Tryz.ntmps25
 go_wp2_with (first|(rw [← HW.out])|fail)
 refine H.out.mono ?_;rintro e w1 ⟨rfl,k1⟩;go_wp2;go_ret;exact⟨rfl,ae B0 k1⟩
theorem pK(b:Bool)(xo po:Option Addr)(xc pc:Nat)(X:Nat->Int)(P:Nat->Nat->Int)(w:World)(hX:Sl w xo 6 xc X)(hP:Grid w po 6 pc 6 P)(hb:b=true↔oK X P):
 Calls Tryz.prog 25 #[.agg #[.slice xo 6 xc, .slice po 6 pc]] w fun e w'=>e= .returned (.bool b)/\Below w.heap.size w w':=by
 have m0:=aH w 60 [.slice xo 6 xc, .slice po 6 pc];have B0:Below w.heap.size w (w.alloc (.cells [.slice xo 6 xc, .slice po 6 pc].toArray 60)):=af (Below.refl _ _) _;obtain⟨W,hW⟩: ∃ W,W=w.alloc (.cells [.slice xo 6 xc, .slice po 6 pc].toArray 60):=⟨_,rfl⟩;rw [← hW] at m0 B0;have HW:=Hid.mkQ hW;have x0:=hX.keep B0;have p0:=hP.keep B0;have H:Hid (Calls Tryz.prog 67 #[.slice po 6 pc] W fun e w'=>e= .returned (.bool true)/\Below W.heap.size W w'):=Bd 6 6 pc po P W om1 om1 om1 om1 p0;have c0:W.cell? ⟨w.heap.size,0,none⟩=some (.slice xo 6 xc):=ai.cell m0 (k:=0) rfl rfl;have c1:W.cell? ⟨w.heap.size,1,none⟩=some (.slice po 6 pc):=ai.cell m0 (k:=1) rfl rfl
 have HN:Hid (¬oK X P->b=false):=fun h=>by
  cases b with
  |false=>rfl
  |true=>exact absurd (hb.1 rfl) h
 have HY:Hid (oK X P->b=true):=fun h=>hb.2 h;have HM:=Hid.mkQ m0;have HX:=Hid.mkQ x0;have HP:=Hid.mkQ p0;clear hW m0 hX hP x0 p0 hb;go_enter Tryz.func25,Tryz.ntmps25
 go_wp2_with (first|(rw [← HW.out])|fail)
 refine H.out.mono ?_;rintro e w1 ⟨rfl,k1⟩;clear c0 c1 H;go_wp2;go_loopw [3] (fun v wr=> ∃ k:Nat,k<=6/\v= .int .i64 (k:Int)/\Below W.heap.size W wr/\Hid (∀ i,i<k->InV (X i)/\0<=P i i/\ ∀ j,j<6->InV (P i j)/\P i j=P j i)) (fun v _=>6- (intOf v).toNat)
 case atStart=>exact⟨0,om1,rfl,k1,fun i hi=>by omega⟩
 case round=>
  rename World=>wo;obtain⟨k,hk,rfl,hB,hok⟩:=hrel;by_cases h:k<6
  ·have m1:=ai.keep HM.out hB;have c0:wo.cell? ⟨w.heap.size,0,none⟩=some (.slice xo 6 xc):=ai.cell m1 (k:=0) rfl rfl;have c1:wo.cell? ⟨w.heap.size,1,none⟩=some (.slice po 6 pc):=ai.cell m1 (k:=1) rfl rfl;have x1:=HX.out.keep hB;obtain⟨A,C,s1,r1⟩:=HP.out.keep hB;obtain⟨xa,hxa,hxc⟩:=x1.get;obtain⟨pa,hpa,hpc⟩:=s1.get;obtain rfl:=hxa om1;obtain rfl:=hpa om1;have c2:=hxc k h;have c3:=hpc k h;obtain⟨ra,hra,hrc⟩:=(r1 k h).get;have c4:=hrc k h;rw [hra om1] at c3;have l1:=x1.le;have l2:=x1.cap;have l3:=s1.le;have l4:=s1.cap;have l5:=(r1 k h).le;have l6:=(r1 k h).cap;obtain⟨ck,hck⟩: ∃ c,c=C k:=⟨_,rfl⟩;rw [← hck] at c3 l5 l6;have HIn:=Hid.mkQ (dF (X k) wo);obtain⟨xk,hxk⟩: ∃ z,z=X k:=⟨_,rfl⟩;rw [← hxk] at c2 HIn;obtain⟨pk,hpk⟩: ∃ z,z=P k k:=⟨_,rfl⟩;rw [← hpk] at c4;have EX:=Hid.mkQ hxk;have EP:=Hid.mkQ hpk;clear m1 x1 s1 r1 hxa hpa hxc hpc hra hrc hck hxk hpk;go_wp2_with fail
   refine HIn.out.mono ?_;rintro e w2 ⟨rfl,rfl⟩;by_cases i1:InV xk
   ·rw [decide_eq_true i1];by_cases i2:pk<0
    ·have d2:decide (pk<0)=true:=decide_eq_true i2;go_wp2;go_ret;exact⟨by rw [HN.out (fun q=>by have:=(q k h).2.1;rw [← EP.out] at this;omega)];rfl,ae B0 hB⟩
    ·have d2:decide (pk<0)=false:=decide_eq_false i2;have HI1:=Hid.mkQ i1;clear i1;go_wp2;clear c2 c3 c4 l5 l6 HIn;go_loopw [4] (fun v wr=> ∃ j:Nat,j<=6/\v= .int .i64 (j:Int)/\Below W.heap.size W wr/\Hid (∀ i,i<j->InV (P k i)/\P k i=P i k)) (fun v _=>6- (intOf v).toNat)
     case atStart=>exact⟨0,om1,rfl,hB,fun i hi=>by omega⟩
     case round=>
      rename World=>wi;obtain⟨j,hj,rfl,hB2,hok2⟩:=hrel;clear c0 c1;by_cases h5:j<6
      ·have m1:=ai.keep HM.out hB2;have c1:wi.cell? ⟨w.heap.size,1,none⟩=some (.slice (some pa) 6 pc):=ai.cell m1 (k:=1) rfl rfl;obtain⟨A,C,s1,r1⟩:=HP.out.keep hB2;obtain⟨pa',hpa,hpc⟩:=s1.get;obtain rfl:pa=pa':=by have:=hpa om1;injection this
       have c3:=hpc k h;have c5:=hpc j h5;obtain⟨ra,hra,hrc⟩:=(r1 k h).get;obtain⟨sa,hsa,hsc⟩:=(r1 j h5).get;have c4:=hrc j h5;have c6:=hsc k h;rw [hra om1] at c3;rw [hsa om1] at c5;have l5:=(r1 k h).le;have l6:=(r1 k h).cap;have l7:=(r1 j h5).le;have l8:=(r1 j h5).cap;obtain⟨ck,hck⟩: ∃ c,c=C k:=⟨_,rfl⟩;rw [← hck] at c3 l5 l6;obtain⟨cj,hcj⟩: ∃ c,c=C j:=⟨_,rfl⟩;rw [← hcj] at c5 l7 l8;obtain⟨u,hu⟩: ∃ z,z=P k j:=⟨_,rfl⟩;rw [← hu] at c4;obtain⟨v,hv⟩: ∃ z,z=P j k:=⟨_,rfl⟩;rw [← hv] at c6;have EU:=Hid.mkQ hu;have EV:=Hid.mkQ hv;have HIn2:Hid (∀ W,Calls Tryz.prog 68 #[.int .i64 u] W fun e w'=>e= .returned (.bool (decide (InV u)))/\w'=W):=fun W=>dF u W;clear m1 s1 r1 hpa hpc hra hrc hsa hsc hck hcj hu hv;by_cases i3:InV u
       ·rw [decide_eq_true i3] at HIn2;have HI3:=Hid.mkQ i3;clear i3;by_cases i4:u=v
        ·subst i4;go_wp2;go_quiet (first|(go_at_call 68;refine Calls.quiet_of_same (HIn2.out _)))
         go_wp2;go_roundw
         case rel=>exact⟨j+1,om1,by go_num,below_drewN hB2 _,fun q hq=>by
          rcases Nat.lt_or_ge q j with c|c
          ·exact hok2.out q c
          ·obtain rfl:q=j:=om1;rw [← EV.out,← EU.out]
           exact⟨HI3.out,rfl⟩⟩
         case measure=>simp [intOf];omega
        ·have d4:decide (u=v)=false:=decide_eq_false i4;go_wp2;go_quiet (first|(go_at_call 68;refine Calls.quiet_of_same (HIn2.out _)))
         go_wp2;go_ret;exact⟨by rw [HN.out (fun q=>by have:=((q k h).2.2 j h5).2;rw [← EU.out,← EV.out] at this;exact i4 this)];rfl,below_drewN (ae B0 hB2) _⟩
       ·rw [decide_eq_false i3] at HIn2;have HI3:=Hid.mkQ i3;clear i3;go_wp2;go_quiet (first|(go_at_call 68;refine Calls.quiet_of_same (HIn2.out _)))
        go_wp2;go_ret;exact⟨by rw [HN.out (fun q=>by have:=((q k h).2.2 j h5).1;rw [← EU.out] at this;exact HI3.out this)];rfl,below_drewN (ae B0 hB2) _⟩
      ·obtain rfl:j=6:=om1;go_wp2;go_roundw
       case rel=>exact⟨k+1,om1,by go_num,hB2,fun q hq=>by
        rcases Nat.lt_or_ge q k with c|c
        ·exact hok.out q c
        ·obtain rfl:q=k:=om1
         exact⟨by rw [← EX.out];exact HI1.out,by rw [← EP.out];omega,fun j hj=>hok2.out j hj⟩⟩
       case measure=>simp [intOf];omega
   ·rw [decide_eq_false i1];have HI1:=Hid.mkQ i1;clear i1;go_wp2;go_ret;exact⟨by rw [HN.out (fun q=>by have:=(q k h).1;rw [← EX.out] at this;exact HI1.out this)];rfl,ae B0 hB⟩
  ·obtain rfl:k=6:=om1;go_wp2;go_ret;exact⟨by rw [HY.out (fun q hq=>hok.out q hq)];rfl,ae B0 hB⟩
end
section
open Vc Mt Dt Pr Qn
namespace Pd
section
variable {X:Nat->Int} {P:Nat->Nat->Int} (h:oK X P) {i j:Nat} (hi:i<6) (hj:j<6)
include h hi
include hj
end
end Pd
end
section
open Go.RowKit Vc Mt Dt
end
section
open Go.RowKit Vc Mt
attribute [local go_sem ↓] Go.wp_at_zero Go.wp_at_succ
theorem VC(n:Nat)(w:World)(h1:1<=n)(h2:n<=6):
 Calls Tryz.prog 129 #[.int .i64 (n:Int)] w fun e w'=> ∃ L cm G,e= .returned (.slice (some ⟨L,0,none⟩) n cm)/\NU w.heap.size w w' L cm G n n lF:=by
 obtain⟨i0,hi,hz0,hz1,hz2⟩:=info_parts iY;go_enter Tryz.func129,Tryz.ntmps129
 go_wp2;go_loopw [3,4] (fun out i wr=> ∃ k:Nat,k<=n/\i= .int .i64 (k:Int)/\Rws w.heap.size w wr out k n lF) (fun _ i _=>n- (intOf i).toNat)
 case atStart=>exact⟨0,om1,rfl,Rws.nil (Below.refl _ _) (Nat.le_refl _) _ _⟩
 case round=>
  rename World=>wo;obtain⟨k,hk,rfl,hL⟩:=hrel;by_cases h:k<n
  · go_wp2_with (at_make;refine wpList_make_full _ rfl _ _ 27 rfl wo.heap.size 2 i0 (.int .i64 0) 1 Tryz.underlying27 hi hz0 hz1 _ _ _ _ n rfl rfl om1 om1 (by rw [hz2];omega) (by unfold maxLen;omega) (Nat.le_refl _) ?_)
    intro w0 hown0 hgrow0;have hO0:=iR hown0 hgrow0 (Nat.le_refl _);have c3:=hO0.cell h;have f3:=hO0.free k;have hO1:=(hO0.set k 1048576).congr (z':=lF k) (fun j _=>by unfold lF;by_cases e:j=k;(rw [if_pos e,if_pos e.symm]);(rw [if_neg e,if_neg (fun h=>e h.symm)]));have hk1:=hO1.below;have hr:=qJ hO1;have HR:=Hid.mkV hr;have HK:=Hid.mkV hk1;have HL:=Hid.mkV hL;clear hown0 hgrow0 hO0 hO1 hL hr hk1;go_wp2_with (at_builtin;refine GU rl1 _ _ rl1 w.heap.size w _ k n lF rl1 HL.out HK.out om1 wo.heap.size HR.out (Nat.le_refl _) (by show Value.slice (some ⟨w0.heap.size,0,none⟩) 1 1=_;simp) ?_)
    intro v' w' hL';go_wp2;go_roundw
    case rel=>exact⟨k+1,om1,by go_num,hL'⟩
    case measure=>simp [intOf];omega
  · obtain rfl:k=n:=om1;obtain⟨L,cm,G,rfl,hA⟩:=hL.open om1;go_wp2;go_ret;exact⟨L,cm,G,rfl,hA⟩
end
end Go.Proofs.YtcefcokpjbebhaaGreatDoor
