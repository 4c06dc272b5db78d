/-
  The document's answer of layer 8 (radomeref08): May, Eye, Turn, Alike, Apply, Mul.
-/
import Derived.Test.YtcefcokpjbebhaaGreatDoorM8
import Derived.Test.YtcefcokpjbebhaaGreatDoorM4
import Derived.Deep.RegionHeld3
import Derived.Deep.CutRange
import Derived.Deep.DeepCutAuto
import Derived.Test.YtcefcokpjbebhaaGreatDoorM5
import Derived.Test.YtcefcokpjbebhaaGreatDoorM1
import Derived.Test.YtcefcokpjbebhaaGreatDoorM2
import Derived.BigQuiet
set_option linter.unusedSimpArgs false
set_option linter.unusedVariables false
set_option maxHeartbeats 1000000
set_option maxRecDepth 10000
namespace Go.Proofs.YtcefcokpjbebhaaGreatDoor
section
open Go.RowKit Vc Mt Dt
theorem rmay_yes(n m cm:Nat)(lo:Option Addr)(A:Nat->Option Addr)(C:Nat->Nat)(w:World)(h:Sls w lo n cm A (fun _=>m) C)(h1:1<=n)(h2:n<=6)(h3:1<=m)(h4:m<=6):
 Calls Tryz.prog 141 #[.slice lo n cm] w fun e w'=>e= .returned (.bool true)/\Below w.heap.size w w':=by
 obtain⟨x,hlo,hcl⟩:=h.get;obtain rfl:=hlo (by omega);have c0:w.cell? x=some (.slice (A 0) m (C 0)):=hcl 0 (by omega);have l1:=h.le;have l2:=h.cap;have HC:=Hid.mkV hcl;have e1:decide ((n:Int)<1)=false:=decide_eq_false (by omega);have e2:decide ((n:Int)>6)=false:=decide_eq_false (by omega);have e3:decide ((m:Int)<1)=false:=decide_eq_false (by omega);have e4:decide ((m:Int)>6)=false:=decide_eq_false (by omega);clear h hlo hcl;go_enter Tryz.func141,Tryz.ntmps141
 go_wp2;go_loopw [3] (fun i wr=> ∃ k:Nat,k<=n/\i= .int .i64 (k:Int)/\Below w.heap.size w wr) (fun i _=>n- (intOf i).toNat)
 case atStart=>exact⟨0,by omega,rfl,Below.refl _ _⟩
 case round=>
  obtain⟨k,hk,rfl,hbel⟩:=hrel;by_cases h:k<n
  · have c1:=keep_cell hbel (HC.out k h);have c0':=keep_cell hbel c0;go_wp2;go_quiet (fail)
    go_wp2;go_roundw
    case rel=>exact⟨k+1,by omega,by go_num,Vc.below_drewN hbel _⟩
    case measure=>simp [intOf];omega
  · obtain rfl:k=n:=by omega
    go_wp2;go_ret;exact⟨rfl,hbel⟩
theorem rmay_rows(n cm:Nat)(lo:Option Addr)(w:World)(hn:n<=9223372036854775807)(h:n<1\/6<n):
 Calls Tryz.prog 141 #[.slice lo n cm] w fun e w'=>e= .returned (.bool false)/\Below w.heap.size w w':=by
 by_cases h0:n<1
 · have e1:decide ((n:Int)<1)=true:=decide_eq_true (by omega);go_enter Tryz.func141,Tryz.ntmps141
   go_wp2;go_ret;exact⟨rfl,Below.refl _ _⟩
 · have e1:decide ((n:Int)<1)=false:=decide_eq_false (by omega);have e2:decide ((n:Int)>6)=true:=decide_eq_true (by omega);clear h h0;go_enter Tryz.func141,Tryz.ntmps141
   go_wp2;go_ret;exact⟨rfl,Below.refl _ _⟩
theorem rmay_cols(n cm:Nat)(lo:Option Addr)(A:Nat->Option Addr)(L C:Nat->Nat)(w:World)(h:Sls w lo n cm A L C)(h1:1<=n)(h2:n<=6)(hL:L 0<=9223372036854775807)(hb:L 0<1\/6<L 0):
 Calls Tryz.prog 141 #[.slice lo n cm] w fun e w'=>e= .returned (.bool false)/\Below w.heap.size w w':=by
 obtain⟨x,hlo,hcl⟩:=h.get;obtain rfl:=hlo (by omega);have c0:w.cell? x=some (.slice (A 0) (L 0) (C 0)):=hcl 0 (by omega);have l1:=h.le;have l2:=h.cap;have e1:decide ((n:Int)<1)=false:=decide_eq_false (by omega);have e2:decide ((n:Int)>6)=false:=decide_eq_false (by omega);obtain⟨m,hm⟩: ∃ m,m=L 0:=⟨_,rfl⟩;rw [← hm] at c0 hL hb;clear h hlo hcl hm;by_cases h0:m<1
 · have e3:decide ((m:Int)<1)=true:=decide_eq_true (by omega);clear h0 hb;go_enter Tryz.func141,Tryz.ntmps141
   go_wp2;go_ret;exact⟨rfl,Below.refl _ _⟩
 · have e3:decide ((m:Int)<1)=false:=decide_eq_false (by omega);have e4:decide ((m:Int)>6)=true:=decide_eq_true (by omega);clear h0 hb;go_enter Tryz.func141,Tryz.ntmps141
   go_wp2;go_ret;exact⟨rfl,Below.refl _ _⟩
theorem rmay_other(n cm q:Nat)(lo:Option Addr)(A:Nat->Option Addr)(L C:Nat->Nat)(w:World)(h:Sls w lo n cm A L C)(h1:1<=n)(h2:n<=6)(h3:1<=L 0)(h4:L 0<=6)(hl: ∀ k,k<n->L k<=9223372036854775807)(hq:q<n)(hbad:L q≠L 0)(hok: ∀ k,k<q->L k=L 0):
 Calls Tryz.prog 141 #[.slice lo n cm] w fun e w'=>e= .returned (.bool false)/\Below w.heap.size w w':=by
 obtain⟨x,hlo,hcl⟩:=h.get;obtain rfl:=hlo (by omega);have c0:w.cell? x=some (.slice (A 0) (L 0) (C 0)):=hcl 0 (by omega);have l1:=h.le;have l2:=h.cap;have HC:=Hid.mkV hcl;have HL:=Hid.mkV hl;have HBAD:=Hid.mkV hbad;have HOK:=Hid.mkV hok;obtain⟨m,hm⟩: ∃ m,m=L 0:=⟨_,rfl⟩;rw [← hm] at c0 h3 h4;have HN:=Hid.mkV hm;have e1:decide ((n:Int)<1)=false:=decide_eq_false (by omega);have e2:decide ((n:Int)>6)=false:=decide_eq_false (by omega);have e3:decide ((m:Int)<1)=false:=decide_eq_false (by omega);have e4:decide ((m:Int)>6)=false:=decide_eq_false (by omega);clear h hlo hcl hm hl hbad hok;go_enter Tryz.func141,Tryz.ntmps141
 go_wp2;go_loopw [3] (fun i wr=> ∃ k:Nat,k<=q/\i= .int .i64 (k:Int)/\Below w.heap.size w wr) (fun i _=>n- (intOf i).toNat)
 case atStart=>exact⟨0,by omega,rfl,Below.refl _ _⟩
 case round=>
  obtain⟨k,hk,rfl,hbel⟩:=hrel;have h:k<n:=by omega
  have c1:=keep_cell hbel (HC.out k h);have c0':=keep_cell hbel c0;have b1:=HL.out k h;by_cases hkq:k=q
  · have hh:=HBAD.out;rw [← HN.out,← hkq] at hh;obtain⟨l,hl⟩: ∃ l,l=L k:=⟨_,rfl⟩;rw [← hl] at c1 b1 hh;have e4:(((l:Nat):Int) !=((m:Nat):Int))=true:=by rw [bne_iff_ne];omega
    clear hl hkq hh;go_wp2;go_quiet (fail)
    go_wp2;go_ret;exact⟨rfl,Vc.below_drewN hbel _⟩
  · have hh:=HOK.out k (by omega);rw [hh,← HN.out] at c1;clear hh;go_wp2;go_quiet (fail)
    go_wp2;go_roundw
    case rel=>exact⟨k+1,by omega,by go_num,Vc.below_drewN hbel _⟩
    case measure=>simp [intOf];omega
end
section
open Go.RowKit Vc Mt Dt
namespace Mt
end Mt
namespace Mt
end Mt
end
section
open Go.RowKit Vc Mt Dt
end
section
open Go.RowKit Vc St Mt Dt
attribute [local go_sem ↓] Go.wp_at_zero Go.wp_at_succ
namespace Pr
theorem isRs:Is 60 2:=⟨by kernel_rfl,⟨_,Tryz.underlying60,rfl⟩⟩
def nX(F:Nat->Nat->Int)(X:Nat->Int):Nat->Int:=fun i=>Qn.clamp (Qn.rne (dk (F i) X 6) (2^20))
def nY(F P:Nat->Nat->Int):Nat->Nat->Int:=fun i j=>Qn.clamp (Qn.rne (dk (fun k=>P k j) (F i) 6) (2^20))
def nZ(F P:Nat->Nat->Int):Nat->Nat->Int:=fun i j=>Qn.clamp (Qn.rne (dk (fun k=>F j k) (nY F P i) 6) (2^20))
def nW(F P Q:Nat->Nat->Int):Nat->Nat->Int:=fun i j=>Qn.clamp (nZ F P i j+Q i j)
def nE(F P Q:Nat->Nat->Int):Nat->Nat->Int:=fun i j=>Qn.clamp (Qn.rne (nW F P Q i j+nW F P Q j i) (2^1))
def nP(F P Q:Nat->Nat->Int):Nat->Nat->Int:=fun i j=>if i=j/\nE F P Q i j<0 then 0 else nE F P Q i j
def oX(F:Nat->Nat->Int)(X:Nat->Int):Bool:=anyb (fun i=>Qn.great (Qn.rne (dk (F i) X 6) (2^20))) 6
def oY(F P:Nat->Nat->Int):Bool:=any2 (fun i j=>Qn.great (Qn.rne (dk (fun k=>P k j) (F i) 6) (2^20))) 6 6
def oZ(F P:Nat->Nat->Int):Bool:=any2 (fun i j=>Qn.great (Qn.rne (dk (fun k=>F j k) (nY F P i) 6) (2^20))) 6 6
def oW(F P Q:Nat->Nat->Int):Bool:=any2 (fun i j=>Qn.great (nZ F P i j+Q i j)) 6 6
def oE(F P Q:Nat->Nat->Int):Bool:=any2 (fun i j=>Qn.great (Qn.rne (nW F P Q i j+nW F P Q j i) (2^1))) 6 6
def oP(F:Nat->Nat->Int)(X:Nat->Int)(P Q:Nat->Nat->Int):Bool:=oX F X||oY F P||oZ F P||oW F P Q||oE F P Q
theorem cl_b2(R:Nat->Nat->Int):B2 (fun i j=>Qn.clamp (R i j)):=fun i j=>by show _<=Qn.clamp (R i j)/\Qn.clamp (R i j)<=_;unfold Qn.clamp;constructor<;>(repeat' split)<;>omega
end Pr
open Pr
end
section
open Vc Cn Pr Dt Mt Qn
namespace Mx
theorem cl_inV(n:Int):InV (Qn.clamp n):=by unfold InV Qn.clamp;split<;>(try split)<;>omega
theorem cl_id{n:Int}(h:InV n):Qn.clamp n=n:=Qn.clamp_in (Qn.great_iff.2 h)
def wt(n:Nat)(z:Nat->Int)(R:Nat->Nat->Int)(t:Nat):Nat->Int:=fun i=>if i<n then z i*R i t else 0
def shr(n:Nat)(z:Nat->Int)(R:Nat->Nat->Int)(t:Nat):Nat->Int:=fun k=>if k<n then(if tot (wt n z R t) n=0 then(if k=t then 1073741824 else 0) else sh 1073741824 (wt n z R t) n k) else 0
theorem shr_is{n:Nat}{z:Nat->Int}{R:Nat->Nat->Int}{t k:Nat}(hk:k<n):shr n z R t k=if tot (wt n z R t) n=0 then(if k=t then 1073741824 else 0) else sh 1073741824 (wt n z R t) n k:=by unfold shr;rw [if_pos hk]
section
variable {n m:Nat} {z:Nat->Int} {L:Nat->Nat} {R:Nat->Nat->Int} (h:MayX n z m L R)
include h
theorem wt_in{t:Nat}(ht:t<n)(i:Nat):0<=wt n z R t i/\wt n z R t i<=1152921504606846976:=by
 unfold wt;by_cases hi:i<n
 · rw [if_pos hi];have a1:=h.ch.nn hi;have a2:=(h.row i hi).2.nn ht;exact⟨Int.mul_nonneg a1.1 a2.1,Int.mul_le_mul a1.2 a2.2 a2.1 (by omega)⟩
 · rw [if_neg hi];omega
theorem wt_may{t:Nat}(ht:t<n):MayW n (wt n z R t) 0:=⟨h.ch.one,h.ch.four,by omega,by omega,fun k _=>by have:=wt_in h ht k;omega⟩
theorem shr_ch{t:Nat}(ht:t<n):Ch n (shr n z R t) 0:=by
 have t0:=tot_nn (a:=wt n z R t) (n:=n) (fun k _=>(wt_in h ht k).1);refine⟨h.ch.one,h.ch.four,by omega,by omega,fun k hk=> ?_, ?_⟩
 · rw [shr_is hk];by_cases e:tot (wt n z R t) n=0
   · rw [if_pos e];split<;>omega
   · rw [if_neg e];exact sh_nn (by omega) (fun i _=>(wt_in h ht i).1) (by omega) hk
 · by_cases e:tot (wt n z R t) n=0
   · have q:tot (shr n z R t) n=tot (fun k=>if k=t then 1073741824 else(fun _=>(0:Int)) k) n:=tot_congr fun k hk=>by rw [shr_is hk,if_pos e]
     rw [q,tot_set (a:=fun _=>(0:Int)) 1073741824 ht,tot_const];omega
   · have q:tot (shr n z R t) n=tot (sh 1073741824 (wt n z R t) n) n:=tot_congr fun k hk=>by rw [shr_is hk,if_neg e]
     rw [q];exact sh_tot (by omega)
theorem shr_b64{t:Nat}(ht:t<n)(k:Nat): -9223372036854775808<=shr n z R t k/\shr n z R t k<=9223372036854775807:=by
 by_cases hk:k<n
 · have:=(shr_ch h ht).nn hk;omega
 · unfold shr;rw [if_neg hk];omega
end
section
variable (n:Nat) (c:Nat->Int) (X:Nat->Nat->Int) (P:Nat->Nat->Nat->Int)
def jx(p:Nat):Int:=Qn.rne (dk (fun k=>X k p) c n) (2^30)
def jX:Nat->Int:=fun p=>Qn.clamp (jx n c X p)
def jXo:Bool:=anyb (fun p=>Qn.great (jx n c X p)) 6
def jd(k:Nat):Nat->Int:=fun p=>Qn.clamp (X k p- jX n c X p)
def jdo(k:Nat):Bool:=anyb (fun p=>Qn.great (X k p- jX n c X p)) 6
def ju(k:Nat):Nat->Nat->Int:=fun i j=>Qn.clamp (Qn.rne (jd n c X k i*jd n c X k j) (2^20))
def juo(k:Nat):Bool:=any2 (fun i j=>Qn.great (Qn.rne (jd n c X k i*jd n c X k j) (2^20))) 6 6
def jm(k:Nat):Nat->Nat->Int:=fun i j=>Qn.clamp (P k i j+ju n c X k i j)
def jmo(k:Nat):Bool:=any2 (fun i j=>Qn.great (P k i j+ju n c X k i j)) 6 6
def ja:Nat->Nat->Int:=fun i j=>Qn.clamp (Qn.rne (dk (fun k=>jm n c X P k i j) c n) (2^30))
def jao(i:Nat):Bool:=anyb (fun j=>Qn.great (Qn.rne (dk (fun k=>jm n c X P k i j) c n) (2^30))) 6
def je:Nat->Nat->Int:=fun i j=>Qn.clamp (Qn.rne (ja n c X P i j+ja n c X P j i) (2^1))
def jeo:Bool:=any2 (fun i j=>Qn.great (Qn.rne (ja n c X P i j+ja n c X P j i) (2^1))) 6 6
def jP:Nat->Nat->Int:=fun i j=>if i=j/\je n c X P i j<0 then 0 else je n c X P i j
def jko(k:Nat):Bool:=anyb (fun k=>jdo n c X k||juo n c X k||jmo n c X P k) k
def jO:Bool:=((jXo n c X||jko n c X P n)||anyb (jao n c X P) 6)||jeo n c X P
theorem je_even(i j:Nat):je n c X P i j=je n c X P j i:=by unfold je;rw [Int.add_comm]
theorem jP_even(i j:Nat):jP n c X P i j=jP n c X P j i:=by
 unfold jP;by_cases e:i=j
 · rw [e]
 · rw [if_neg (fun q=>e q.1),if_neg (fun q=>e q.1.symm),je_even]
theorem jP_in(i j:Nat):InV (jP n c X P i j):=by
 unfold jP;split
 · unfold InV;omega
 · exact cl_inV _
theorem jP_nn(i:Nat):0<=jP n c X P i i:=by
 unfold jP;by_cases e:je n c X P i i<0
 · rw [if_pos ⟨rfl,e⟩];omega
 · rw [if_neg (fun q=>e q.2)];omega
theorem join_may:MayV (jX n c X) (jP n c X P):=fun i _=>⟨cl_inV _,jP_nn n c X P i,fun j _=>⟨jP_in n c X P i j,jP_even n c X P i j⟩⟩
end
def aO(n:Nat)(z:Nat->Int)(R:Nat->Nat->Int)(X:Nat->Nat->Int)(P:Nat->Nat->Nat->Int):Bool:=anyb (fun t=>jO n (shr n z R t) X P) n
theorem dk_same{a c:Nat->Int}{v:Int}: ∀ {n:Nat},(∀ k,k<n->c k≠0->a k=v)->dk a c n=v*tot c n
 |0,_=>by show(0:Int)=v*0;omega
 |n+1,h=>by
  show dk a c n+a n*c n=v*(tot c n+c n)
  rw [dk_same fun k hk=>h k (by omega),Int.mul_add]
  by_cases e:c n=0
  · rw [e,Int.mul_zero,Int.mul_zero]
  · rw [h n (by omega) e]
section
variable {n:Nat} {c:Nat->Int} {X:Nat->Nat->Int} {P:Nat->Nat->Nat->Int} {X0:Nat->Int} {P0:Nat->Nat->Int} (hc:Ch n c 0) (h0:MayV X0 P0)
 (hX: ∀ k,k<n->c k≠0-> ∀ i,i<6->X k i=X0 i) (hP: ∀ k,k<n->c k≠0-> ∀ i j,i<6->j<6->P k i j=P0 i j)
include hc
theorem rne_all{a:Nat->Int}{v:Int}(h: ∀ k,k<n->c k≠0->a k=v):Qn.rne (dk a c n) (2^30)=v:=by
 rw [dk_same h,hc.sum];exact Qn.rne_mul v (2^30) (by decide)
include h0 hX
omit h0 in
theorem same_jx{i:Nat}(hi:i<6):jx n c X i=X0 i:=rne_all hc fun k hk e=>hX k hk e i hi
theorem same_jX{i:Nat}(hi:i<6):jX n c X i=X0 i:=by unfold jX;rw [same_jx hc hX hi];exact cl_id (h0 i hi).1
theorem same_jd{k:Nat}(hk:k<n)(e:c k≠0){i:Nat}(hi:i<6):jd n c X k i=0:=by
 unfold jd;rw [same_jX hc h0 hX hi,hX k hk e i hi,Int.sub_self];rfl
theorem same_ju{k:Nat}(hk:k<n)(e:c k≠0){i j:Nat}(hi:i<6)(hj:j<6):ju n c X k i j=0:=by
 unfold ju;rw [same_jd hc h0 hX hk e hi,Int.zero_mul];decide+kernel
include hP
theorem same_jm{k:Nat}(hk:k<n)(e:c k≠0){i j:Nat}(hi:i<6)(hj:j<6):jm n c X P k i j=P0 i j:=by
 unfold jm;rw [same_ju hc h0 hX hk e hi hj,hP k hk e i j hi hj,Int.add_zero];exact cl_id ((h0 i hi).2.2 j hj).1
theorem same_row{i j:Nat}(hi:i<6)(hj:j<6):Qn.rne (dk (fun k=>jm n c X P k i j) c n) (2^30)=P0 i j:=rne_all hc fun k hk e=>same_jm hc h0 hX hP hk e hi hj
theorem same_ja{i j:Nat}(hi:i<6)(hj:j<6):ja n c X P i j=P0 i j:=by
 unfold ja;rw [same_row hc h0 hX hP hi hj];exact cl_id ((h0 i hi).2.2 j hj).1
theorem same_two{i j:Nat}(hi:i<6)(hj:j<6):Qn.rne (ja n c X P i j+ja n c X P j i) (2^1)=P0 i j:=by
 rw [same_ja hc h0 hX hP hi hj,same_ja hc h0 hX hP hj hi,← ((h0 i hi).2.2 j hj).2,show P0 i j+P0 i j=P0 i j*2^1 by omega];exact Qn.rne_mul _ (2^1) (by decide)
theorem same_je{i j:Nat}(hi:i<6)(hj:j<6):je n c X P i j=P0 i j:=by
 unfold je;rw [same_two hc h0 hX hP hi hj];exact cl_id ((h0 i hi).2.2 j hj).1
theorem same_jP{i j:Nat}(hi:i<6)(hj:j<6):jP n c X P i j=P0 i j:=by
 unfold jP;rw [same_je hc h0 hX hP hi hj];by_cases e:i=j
 · subst e;rw [if_neg (fun q=>by have:=(h0 i hi).2.1;omega)]
 · rw [if_neg (fun q=>e q.1)]
end
end Mx
end
section
open Go.RowKit Vc St Mt Dt
attribute [local go_sem ↓] Go.wp_at_zero Go.wp_at_succ
open Pr
theorem rsix12_not(n cm:Nat)(lo:Option Addr)(w:World)(h:Calls Tryz.prog 141 #[.slice lo n cm] w fun e w'=>e= .returned (.bool false)/\Below w.heap.size w w'):
 Calls Tryz.prog 67 #[.slice lo n cm] w fun e w'=>e= .returned (.bool false)/\Below w.heap.size w w':=by
 have H:=Hid.mkQ h;clear h;go_enter Tryz.func67,Tryz.ntmps67
 go_wp2_with fail
 refine H.out.mono ?_;rintro e w1 ⟨rfl,k1⟩;go_wp2;go_ret;exact⟨rfl,k1⟩
theorem rsix12_grid(n m cm:Nat)(lo:Option Addr)(F:Nat->Nat->Int)(w:World)(h1:1<=n)(h2:n<=6)(h3:1<=m)(h4:m<=6)(hF:Grid w lo n cm m F):
 Calls Tryz.prog 67 #[.slice lo n cm] w fun e w'=>e= .returned (.bool (decide (n=6/\m=6)))/\Below w.heap.size w w':=by
 obtain⟨A,C,hS,hR⟩:=hF;have H:=Hid.mkQ (rmay_yes n m cm lo A C w hS h1 h2 h3 h4);have HS:=Hid.mkQ hS;clear hS hR;by_cases e6:n=6
 · subst e6;by_cases m6:m=6
   · subst m6;have e0:decide ((6:Nat)=6/\(6:Nat)=6)=true:=by decide
     rw [e0];go_enter Tryz.func67,Tryz.ntmps67
     go_wp2_with fail
     refine H.out.mono ?_;rintro e w1 ⟨rfl,k1⟩;obtain⟨x,hlo,hcl⟩:=(HS.out.keep k1).get;obtain rfl:=hlo (by omega);have c0:w1.cell? x=some (.slice (A 0) 6 (C 0)):=hcl 0 (by omega);clear hcl hlo;go_wp2;go_ret;exact⟨rfl,k1⟩
   · have e0:decide ((6:Nat)=6/\m=6)=false:=decide_eq_false (fun h=>m6 h.2);have e1:((m:Int)==6)=false:=by rw [beq_eq_false_iff_ne];omega
     have e2:decide ((m:Int)=6)=false:=decide_eq_false (by omega);rw [e0];go_enter Tryz.func67,Tryz.ntmps67
     go_wp2_with fail
     refine H.out.mono ?_;rintro e w1 ⟨rfl,k1⟩;obtain⟨x,hlo,hcl⟩:=(HS.out.keep k1).get;obtain rfl:=hlo (by omega);have c0:w1.cell? x=some (.slice (A 0) m (C 0)):=hcl 0 (by omega);clear hcl hlo;go_wp2;go_ret;exact⟨rfl,k1⟩
 · have e0:decide (n=6/\m=6)=false:=decide_eq_false (fun h=>e6 h.1);have e1:((n:Int)==6)=false:=by rw [beq_eq_false_iff_ne];omega
   have e2:decide ((n:Int)=6)=false:=decide_eq_false (by omega);rw [e0];go_enter Tryz.func67,Tryz.ntmps67
   go_wp2_with fail
   refine H.out.mono ?_;rintro e w1 ⟨rfl,k1⟩;go_wp2;go_ret;exact⟨rfl,k1⟩
end
section
open Vc Mt Dt Pr Qn
namespace Pd
theorem clamp_inV(n:Int):InV (clamp n):=by unfold InV clamp;split<;>(try split)<;>omega
theorem nE_even(F P Q:Nat->Nat->Int)(i j:Nat):nE F P Q i j=nE F P Q j i:=by unfold nE;rw [Int.add_comm]
theorem nP_even(F P Q:Nat->Nat->Int)(i j:Nat):nP F P Q i j=nP F P Q j i:=by
 by_cases e:i=j
 · subst e;rfl
 · unfold nP;rw [if_neg (fun h=>e h.1),if_neg (fun h=>e h.1.symm),nE_even]
theorem nP_in(F P Q:Nat->Nat->Int)(i j:Nat):InV (nP F P Q i j):=by
 unfold nP;split
 · exact⟨by omega,by omega⟩
 · exact clamp_inV _
theorem nP_nn(F P Q:Nat->Nat->Int)(i:Nat):0<=nP F P Q i i:=by
 unfold nP;by_cases h:nE F P Q i i<0
 · rw [if_pos ⟨rfl,h⟩];omega
 · rw [if_neg (fun q=>h q.2)];omega
theorem next_may(F:Nat->Nat->Int)(X:Nat->Int)(P Q:Nat->Nat->Int):MayV (nX F X) (nP F P Q):=
 fun i _=>⟨clamp_inV _,nP_nn F P Q i,fun j _=>⟨nP_in F P Q i j,nP_even F P Q i j⟩⟩
section
variable {X:Nat->Int} {P:Nat->Nat->Int} (h:MayV X P) {i j:Nat} (hi:i<6) (hj:j<6)
include h hi
include hj
end
end Pd
end
section
open Go.RowKit Vc Mt Dt
end
section
open Go.RowKit Vc Mt
attribute [local go_sem ↓] Go.wp_at_zero Go.wp_at_succ
end
end Go.Proofs.YtcefcokpjbebhaaGreatDoor
