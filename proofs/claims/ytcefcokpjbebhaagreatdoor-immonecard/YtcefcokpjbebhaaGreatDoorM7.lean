/-
  Vectors (vec): whether vectors are alike, the part at one place of each; the laws' nums.
-/
import Derived.Test.YtcefcokpjbebhaaGreatDoorM2
import Derived.Deep.RegionWith
import Derived.Test.YtcefcokpjbebhaaGreatDoorM1
set_option linter.unusedSimpArgs false
set_option linter.unusedVariables false
set_option maxHeartbeats 1000000
set_option maxRecDepth 10000
namespace Go.Proofs.YtcefcokpjbebhaaGreatDoor
section
open Go.RowKit Vc
theorem nums_yes(ao bo:Option Addr)(n ca cb:Nat)(z:Nat->Int)(w:World)(ha:Sl w ao n ca z)(hb:Sl w bo n cb z):
 Calls Tryz.prog 50 #[.slice ao n ca, .slice bo n cb] w fun e w'=>e= .returned (.bool true)/\Below w.heap.size w w':=by
 obtain⟨xa,hao,hca⟩:=ha.get;obtain⟨xb,hbo,hcb⟩:=hb.get;have h1:=ha.le;have h2:=ha.cap;have h3:=hb.le;have HAO:=Hid.mkV hao;have HBO:=Hid.mkV hbo;have HCA:=Hid.mkV hca;have HCB:=Hid.mkV hcb;clear hao hbo hca hcb ha hb;go_enter Tryz.func50,Tryz.ntmps50
 go_wp2;go_loopw [5] (fun i wr=> ∃ k:Nat,k<=n/\i= .int .i64 (k:Int)/\Below w.heap.size w wr) (fun i _=>n- (intOf i).toNat)
 case atStart=>exact⟨0,by omega,rfl,Below.refl _ _⟩
 case round=>
  obtain⟨k,hk,rfl,hbel⟩:=hrel;by_cases h:k<n
  · obtain rfl:=HAO.out (by omega);obtain rfl:=HBO.out (by omega);have ca':=keep_cell hbel (HCA.out k h);have cb':=keep_cell hbel (HCB.out k h);obtain⟨P,hP⟩: ∃ P,P=z k:=⟨_,rfl⟩;rw [← hP] at ca' cb';clear hP;go_wp2;go_quiet (fail)
    go_wp2;go_roundw
    case rel=>exact⟨k+1,by omega,by go_num,Vc.below_drewN hbel _⟩
    case measure=>simp [intOf];omega
  · obtain rfl:k=n:=by omega
    go_wp2;go_ret;exact⟨rfl,hbel⟩
theorem alike_yes(lo:Option Addr)(m cm:Nat)(A:Nat->Option Addr)(n:Nat)(C:Nat->Nat)(w:World)(h:Sls w lo m cm A (fun _=>n) C)(hm:0<m)(hn:n<=6):
 Calls Tryz.prog 287 #[.slice lo m cm] w fun e w'=>e= .returned (.bool true)/\w'=w:=by
 obtain⟨x,hlo,hc⟩:=h.get;have h1:=h.le;have h2:=h.cap;obtain rfl:=hlo hm;have c0:=hc 0 hm;have e0:x.add 0=x:=rfl;rw [e0] at c0;have HC:=Hid.mkV hc;have e1:((m:Int)==0)=false:=beq_eq_false_iff_ne.2 (by omega);have e2:decide ((n:Int)>6)=false:=decide_eq_false (by omega);clear h hlo hc e0;go_enter Tryz.func287,Tryz.ntmps287
 go_wp2;go_loopw [10] (fun i wr=> ∃ k:Nat,k<=m/\i= .int .i64 (k:Int)/\wr=w) (fun i _=>m- (intOf i).toNat)
 case atStart=>exact⟨0,by omega,rfl,rfl⟩
 case round=>
  obtain⟨k,hk,rfl,rfl⟩:=hrel;by_cases h:k<m
  · have c1:=HC.out k h;go_wp2;go_roundw
    case rel=>exact⟨k+1,by omega,by go_num,trivial⟩
    case measure=>simp [intOf];omega
  · obtain rfl:k=m:=by omega
    go_wp2;go_ret;exact⟨rfl,rfl⟩
theorem partsAt_any(p:Nat)(lo:Option Addr)(m cm:Nat)(A:Nat->Option Addr)(L C:Nat->Nat)(Z:Nat->Nat->Int)(w:World)(h:Sls w lo m cm A L C)(hz: ∀ k,k<m->Sl w (A k) (L k) (C k) (Z k))(hp: ∀ k,k<m->p<L k)(hm:m<=64):
 Calls Tryz.prog 255 #[.int .i64 (p:Int), .slice lo m cm] w fun e w'=> ∃ ao ca,e= .returned (.slice ao m ca)/\Sl w' ao m ca (fun k=>Z k p)/\Below w.heap.size w w':=by
 obtain⟨x,hlo,hc⟩:=h.get;have h1:=h.le;have h2:=h.cap;have HLO:=Hid.mkV hlo;have HC:=Hid.mkV hc;have HZ:=Hid.mkV hz;have HP:=Hid.mkV hp;clear h hlo hc hz hp;obtain⟨i0,hi,hz0,hz1,hz2⟩:=info_parts infoI64;go_enter Tryz.func255,Tryz.ntmps255
 go_wp2_with (at_make;refine wpList_make_full _ rfl _ _ 27 rfl w.heap.size 2 i0 (.int .i64 0) 1 Tryz.underlying27 hi hz0 hz1 _ _ _ _ m rfl rfl (by omega) (by omega) (by rw [hz2];omega) (by unfold maxLen;omega) (Nat.le_refl _) ?_)
 intro w0 hown0 hgrow0;have hO0:=own_made hown0 hgrow0 (Nat.le_refl _);clear hown0 hgrow0;go_wp2;go_loopw [13] (fun i wr=> ∃ (k:Nat) (z:Nat->Int),k<=m/\i= .int .i64 (k:Int)/\(∀ j,j<k->z j=Z j p)/\Own w.heap.size w wr (.slice (some ⟨w.heap.size,0,none⟩) m m) m z) (fun i _=>m- (intOf i).toNat)
 case atStart=>exact⟨0,fun _=>0,by omega,rfl,fun j hj=>by omega,hO0⟩
 case round=>
  obtain⟨k,z,hk,rfl,hzz,hown⟩:=hrel;by_cases h:k<m
  · obtain rfl:=HLO.out (by omega);have c1:=keep_cell hown.below (HC.out k h);obtain⟨ya,hya,hyc⟩:=(HZ.out k h).get;have hpl:=HP.out k h;have hya':=hya (by omega);have c2:=keep_cell hown.below (hyc p hpl);have l1:=(HZ.out k h).le;have l2:=(HZ.out k h).cap;rw [hya'] at c1;obtain⟨V,hV⟩: ∃ V,V=Z k p:=⟨_,rfl⟩;obtain⟨l,hl⟩: ∃ l,l=L k:=⟨_,rfl⟩;obtain⟨c,hc⟩: ∃ c,c=C k:=⟨_,rfl⟩;rw [← hV] at c2;rw [← hl] at c1 l1 hpl;rw [← hc] at c1 l1 l2;have HV:=Hid.mkV hV;clear hya hyc hya' hV hl hc;have c3:=hown.cell h;have f3:=hown.free k;have HZZ:=Hid.mkV hzz;clear hzz;go_wp2;go_roundw
    case rel=>exact⟨k+1,_,by omega,by go_num,fun j hj=>(by by_cases e:j=k;(rw [if_pos e,e];exact HV.out);(rw [if_neg e];exact HZZ.out j (by omega))),hown.set k V⟩
    case measure=>simp [intOf];omega
  · obtain rfl:k=m:=by omega
    go_wp2;go_ret;obtain⟨ao,ca,e1,e2⟩:=hown.sl;cases e1
    exact⟨_,_,rfl,e2.congr hzz,hown.below⟩
end
section
open Go.RowKit Vc Cn
namespace Cn
theorem hideH{p:Prop}(h:p):Hid p:=h
end Cn
theorem cmany_yes(n:Int)(w:World)(h0:1<=n)(h1:n<=4):Calls Tryz.prog 137 #[.int .i64 n] w fun e w'=>e= .returned (.bool true)/\w'=w:=by
 have e1:decide (n>=1)=true:=decide_eq_true (by omega);have e2:decide (n<=4)=true:=decide_eq_true (by omega);go_enter Tryz.func137,Tryz.ntmps137
 go_wp2;go_ret;exact⟨rfl,rfl⟩
theorem cmany_no(n:Int)(w:World)(h: ¬(1<=n/\n<=4)):Calls Tryz.prog 137 #[.int .i64 n] w fun e w'=>e= .returned (.bool false)/\w'=w:=by
 by_cases h1:1<=n
 · have e1:decide (n>=1)=true:=decide_eq_true (by omega);have e2:decide (n<=4)=false:=decide_eq_false (by omega);clear h;go_enter Tryz.func137,Tryz.ntmps137
   go_wp2;go_ret;exact⟨rfl,rfl⟩
 · have e1:decide (n>=1)=false:=decide_eq_false (by omega);clear h;go_enter Tryz.func137,Tryz.ntmps137
   go_wp2;go_ret;exact⟨rfl,rfl⟩
theorem cfloor_yes(n:Int)(w:World)(h0:0<=n)(h1:n<=67108864):Calls Tryz.prog 210 #[.int .i64 n] w fun e w'=>e= .returned (.bool true)/\w'=w:=by
 have e1:decide (n>=0)=true:=decide_eq_true (by omega);have e2:decide (n<=67108864)=true:=decide_eq_true (by omega);go_enter Tryz.func210,Tryz.ntmps210
 go_wp2;go_ret;exact⟨rfl,rfl⟩
theorem cfloor_no(n:Int)(w:World)(h: ¬(0<=n/\n<=67108864)):Calls Tryz.prog 210 #[.int .i64 n] w fun e w'=>e= .returned (.bool false)/\w'=w:=by
 by_cases h1:0<=n
 · have e1:decide (n>=0)=true:=decide_eq_true (by omega);have e2:decide (n<=67108864)=false:=decide_eq_false (by omega);clear h;go_enter Tryz.func210,Tryz.ntmps210
   go_wp2;go_ret;exact⟨rfl,rfl⟩
 · have e1:decide (n>=0)=false:=decide_eq_false (by omega);clear h;go_enter Tryz.func210,Tryz.ntmps210
   go_wp2;go_ret;exact⟨rfl,rfl⟩
theorem cwithin_any(lo hi:Int)(ao:Option Addr)(n ca:Nat)(z:Nat->Int)(w:World)(ha:Sl w ao n ca z)(b:Bool)(hy:b=true-> ∀ k,k<n->lo<=z k/\z k<=hi)(hn:b=false-> ∃ k,k<n/\ ¬(lo<=z k/\z k<=hi)):
 Calls Tryz.prog 209 #[.int .i64 lo, .int .i64 hi, .slice ao n ca] w fun e w'=>e= .returned (.bool b)/\w'=w:=by
 obtain⟨x,hao,hca⟩:=ha.get;have h1:=ha.le;have h2:=ha.cap;have HAO:=hideH hao;have HCA:=hideH hca;have HY:=hideH hy;have HN:=hideH hn;clear hao hca ha hy hn;go_enter Tryz.func209,Tryz.ntmps209
 go_wp2;go_loopw [11] (fun i wr=> ∃ k:Nat,k<=n/\i= .int .i64 (k:Int)/\wr=w/\Hid (∀ j,j<k->lo<=z j/\z j<=hi)) (fun i _=>n- (intOf i).toNat)
 case atStart=>exact⟨0,by omega,rfl,rfl,fun j hj=>by omega⟩
 case round=>
  obtain⟨k,hk,rfl,rfl,hin⟩:=hrel;by_cases h:k<n
  · obtain rfl:=HAO.out (by omega);have ca':=HCA.out k h
    have HZ:Hid (lo<=z k/\z k<=hi-> ∀ j,j<k+1->lo<=z j/\z j<=hi):=fun q j hj=>by
     by_cases e:j=k
     · rw [e];exact q
     · exact hin.out j (by omega)
    have HB:Hid (¬(lo<=z k/\z k<=hi)->b=false):=fun q=>by
     cases hb:b with
     |false=>rfl
     |true=>exact absurd (HY.out hb k h) q
    obtain⟨P,hP⟩: ∃ P,P=z k:=⟨_,rfl⟩;rw [← hP] at ca' HZ HB;clear hP;by_cases c1:P<lo
    · have e1:decide (P<lo)=true:=decide_eq_true c1;obtain rfl:=HB.out (by omega);go_wp2;go_ret;exact⟨rfl,rfl⟩
    · have e1:decide (P<lo)=false:=decide_eq_false c1;by_cases c2:P>hi
      · have e2:decide (P>hi)=true:=decide_eq_true c2;obtain rfl:=HB.out (by omega);go_wp2;go_ret;exact⟨rfl,rfl⟩
      · have e2:decide (P>hi)=false:=decide_eq_false c2;have HZ':=hideH (HZ.out ⟨by omega,by omega⟩);clear HZ HB;go_wp2;go_roundw
        case rel=>exact⟨k+1,by omega,by go_num,trivial,HZ'⟩
        case measure=>simp [intOf];omega
  · obtain rfl:k=n:=by omega
    have hb:b=true:=by
     cases hb:b with
     |true=>rfl
     |false=>
      obtain⟨j,hj,q⟩:=HN.out hb;exact absurd (hin.out j hj) q
    subst hb;go_wp2;go_ret;exact⟨rfl,rfl⟩
namespace Cn
theorem tot_four{z:Nat->Int}{n:Nat}(hn:n<=4)(hz: ∀ k,k<n->0<=z k/\z k<=1073741824){k:Nat}(hk:k<=n):0<=tot z k/\tot z k<=1073741824*k:=by
 induction k with
 |zero=>exact⟨Int.le_refl _,by show(0:Int)<=_;omega⟩
 |succ k ih=>
  have h1:=ih (by omega);have h2:=hz k (by omega);show 0<=tot z k+z k/\tot z k+z k<=_;omega
end Cn
theorem careChances_any(fl:Int)(ao:Option Addr)(n ca:Nat)(z:Nat->Int)(w:World)(ha:Sl w ao n ca z)(h0:0<=fl)(h1:fl<=67108864)(b:Bool)(hy:b=true->Ch n z fl)(hn:b=false-> ¬Ch n z fl):
 Calls Tryz.prog 173 #[.slice ao n ca, .int .i64 fl] w fun e w'=>e= .returned (.bool b)/\w'=w:=by
 have l1:=ha.le;have l2:=ha.cap;by_cases hm:1<=n/\n<=4
 ·have HM:=hideH (fun W=>cmany_yes (n:Int) W (by omega) (by omega));by_cases hw: ∀ k,k<n->fl<=z k/\z k<=1073741824
  ·have HW:=hideH (cwithin_any fl 1073741824 ao n ca z w ha true (fun _=>hw) (fun q=>by cases q))
   have HT:Hid (∀ k,k<=n->0<=tot z k/\tot z k<=4294967296):=fun k hk=>by
    have:=tot_four (z:=z) hm.2 (fun j hj=>⟨by have:=hw j hj;omega,(hw j hj).2⟩) hk;omega
   have HB:Hid (b=decide (tot z n=1073741824)):=by
    cases hb:b with
    |true=>exact(decide_eq_true (hy hb).sum).symm
    |false=>exact(decide_eq_false (fun q=>hn hb ⟨hm.1,hm.2,h0,h1,fun k hk=>(hw k hk).1,q⟩)).symm
   have HWW:=hideH hw;obtain⟨x,hao,hca⟩:=ha.get;have HAO:=hideH hao;have HCA:=hideH hca;clear hao hca ha hy hn hw;go_enter Tryz.func173,Tryz.ntmps173
   go_wp2_with (first
    |(go_at_call 137;refine(HM.out _).mono ?_;rintro e w' ⟨rfl,q⟩;obtain rfl:=q.symm)
    |(go_at_call 209;refine HW.out.mono ?_;rintro e w' ⟨rfl,q⟩;obtain rfl:=q.symm))
   go_loopw [5,20] (fun s i wr=> ∃ k:Nat,k<=n/\i= .int .i64 (k:Int)/\s= .int .i64 (tot z k)/\wr=w) (fun _ i _=>n- (intOf i).toNat)
   case atStart=>exact⟨0,by omega,rfl,rfl,rfl⟩
   case round=>
    obtain⟨k,hk,rfl,rfl,rfl⟩:=hrel;by_cases h:k<n
    ·obtain rfl:=HAO.out (by omega);have ca':=HCA.out k h;have hz:=HWW.out k h;have ht:=HT.out k hk;have HU:Hid (tot z (k+1)=tot z k+z k):=rfl;obtain⟨P,hP⟩: ∃ P,P=z k:=⟨_,rfl⟩;obtain⟨T,hT⟩: ∃ T,T=tot z k:=⟨_,rfl⟩;rw [← hP] at ca' HU hz;rw [← hT] at HU ht ⊢;clear hP hT;have e1:IntKind.i64.wrap (T+P)=T+P:=by rw [IntKind.wrap_i64];omega
     go_wp2;go_roundw
     case rel=>exact⟨k+1,by omega,by go_num,by rw [HU.out],trivial⟩
     case measure=>simp [intOf];omega
    ·obtain rfl:k=n:=by omega
     have hb:=HB.out;obtain⟨T,hT⟩: ∃ T,T=tot z k:=⟨_,rfl⟩;rw [← hT] at hb ⊢;clear hT HB HT;by_cases c:T=1073741824
     ·obtain rfl:b=true:=by rw [hb];exact decide_eq_true c
      subst c;clear hb;go_wp2;go_ret;exact⟨rfl,rfl⟩
     ·obtain rfl:b=false:=by rw [hb];exact decide_eq_false c
      have e1:(T==1073741824)=false:=beq_eq_false_iff_ne.2 c;clear hb;go_wp2;go_ret;exact⟨rfl,rfl⟩
  ·obtain rfl:b=false:=by
    cases hb:b with
    |false=>rfl
    |true=>exact absurd (fun k hk=>⟨(hy hb).each k hk,((hy hb).nn hk).2⟩) hw
   have HW:=hideH (cwithin_any fl 1073741824 ao n ca z w ha false (fun q=>by cases q) (fun _=>Classical.byContradiction fun q=>hw fun k hk=>Classical.byContradiction fun q'=>q ⟨k,hk,q'⟩));clear ha hy hn hw;go_enter Tryz.func173,Tryz.ntmps173
   go_wp2_with (first
    |(go_at_call 137;refine(HM.out _).mono ?_;rintro e w' ⟨rfl,q⟩;obtain rfl:=q.symm)
    |(go_at_call 209;refine HW.out.mono ?_;rintro e w' ⟨rfl,q⟩;obtain rfl:=q.symm))
   go_ret;exact⟨rfl,rfl⟩
 ·obtain rfl:b=false:=by
   cases hb:b with
   |false=>rfl
   |true=>exact absurd ⟨(hy hb).one,(hy hb).four⟩ hm
  have HM:=hideH (fun W=>cmany_no (n:Int) W (by omega));clear ha hy hn hm;go_enter Tryz.func173,Tryz.ntmps173
  go_wp2_with (go_at_call 137;refine(HM.out _).mono ?_;rintro e w' ⟨rfl,q⟩;obtain rfl:=q.symm)
  go_ret;exact⟨rfl,rfl⟩
end
end Go.Proofs.YtcefcokpjbebhaaGreatDoor
