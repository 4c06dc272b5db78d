/-
  Join of the document's answer of layer 3 (radomeref03): the sum of two numbers of eight words; by py/Join.py.
-/
import Derived.Test.YtcefcokpjbebhaaGreatDoorM2
import Derived.Deep.RegionHeld3
import Derived.Deep.DrawnRows
import Derived.RegionTactic
import Derived.ChangeAlike
import Derived.BigRegion
set_option linter.unusedSimpArgs false
set_option linter.unusedVariables false
set_option maxHeartbeats 6400000
set_option maxRecDepth 20000
namespace Go.Proofs.YtcefcokpjbebhaaGreatDoor
section
open Go.RowKit Lg
attribute [local go_sem ↓] Go.wp_at_zero Go.wp_at_succ
theorem Hid.mk''{p:Prop}(h:p):Hid p:=h
theorem Qj{p:Prop}(h:p:=by
 rw [← hC] at c0 N1 N2 ⊢;rw [← hP] at w0 cA N1 N2;rw [← hQ] at w1 cB N1 N2;clear hC hP hQ;go_wp2;go_quiet (fail)
 go_wp2;go_roundw
 case rel=>
  refine⟨k+1,om1,by go_num, ?_,(HS.out _ (hA.drewN _) _).congr ?_,(hB.drewN _).other _ (show w.heap.size+1≠w.heap.size by omega),(hR.drewN _).other _ (show w.heap.size+1+1≠w.heap.size by omega), ?_⟩
  · rw [N1.out]
  · intro j _;unfold Aw;by_cases e:j=k
    · subst e;rw [if_pos rfl,if_pos om1];exact N2.out.symm
    · rw [if_neg e];by_cases e2:j<k
      · rw [if_pos e2,if_pos om1]
      · rw [if_neg e2,if_neg om1]
  · exact(below_drewN hbel _).setCell (Nat.le_refl _) _
 case measure=>simp [intOf];omega):p:=h
theorem Gq(s:Bool)(A B:Int)(w:World):
 Calls Tryz.prog 181 #[(.agg #[.bool s, .int .u64 (wd 0 A), .int .u64 (wd 1 A), .int .u64 (wd 2 A), .int .u64 (wd 3 A), .int .u64 (wd 4 A), .int .u64 (wd 5 A), .int .u64 (wd 6 A), .int .u64 (wd 7 A)]),(.agg #[.bool s, .int .u64 (wd 0 B), .int .u64 (wd 1 B), .int .u64 (wd 2 B), .int .u64 (wd 3 B), .int .u64 (wd 4 B), .int .u64 (wd 5 B), .int .u64 (wd 6 B), .int .u64 (wd 7 B)])] w fun e w'=>e= .returned (.agg #[.bool s, .int .u64 (wd 0 (A+B)), .int .u64 (wd 1 (A+B)), .int .u64 (wd 2 (A+B)), .int .u64 (wd 3 (A+B)), .int .u64 (wd 4 (A+B)), .int .u64 (wd 5 (A+B)), .int .u64 (wd 6 (A+B)), .int .u64 (wd 7 (A+B))])/\Below w.heap.size w w':=by
 go_enter Tryz.func181,Tryz.ntmps181
 go_wp2;go_loopw [8,9] (fun c i wr=> ∃ k:Nat,k<=8/\i= .int .i64 (k:Int)/\c= .int .u64 (cr A B 0 k)/\o9 wr w.heap.size s (Aw k (fun j=>wd j (A+B)) (fun j=>wd j A))/\o9 wr (w.heap.size+1) s (fun j=>wd j B)/\o9 wr (w.heap.size+1+1) false (fun _=>0)/\Below w.heap.size w wr) (fun _ i _=>8- (intOf i).toNat)
 case atStart=>exact⟨0,om1,rfl,rfl,((jG w _ _ _ _ _ _ _ _ _).alloc _).alloc _,(Ap w _ _ _ _ _ _ _ _ _ _).alloc _,Aq w _ _ _ _ _ _ _ _ _ _ _,af (af (af (Below.refl _ _) _) _) _⟩
 case round=>
  obtain⟨k,hk,rfl,rfl,hA,hB,hR,hbel⟩:=hrel;have c0:=cr_bd k A B 0 om1 om1;have w0:=iJ k A;have w1:=iJ k B;by_cases h8:k<8
  ·have cA:=hA.cell h8;have cB:=hB.cell h8;have fA:=hA.free (1+k);have eA:Aw k (fun j=>wd j (A+B)) (fun j=>wd j A) k=wd k A:=by unfold Aw;rw [if_neg (Nat.lt_irrefl k)]
   rw [eA] at cA;have N1:=Hid.mk'' (PQ k A B 0);have n2:=PS k A B 0 om1 om1;rw [Int.add_zero] at n2;have N2:=Hid.mk'' n2;have HS:=Hid.mk'' (fun(w':World) (h:o9 w' w.heap.size s (Aw k (fun j=>wd j (A+B)) (fun j=>wd j A))) (v:Int)=>h.set v h8);clear eA n2;obtain⟨C,hC⟩: ∃ C,C=cr A B 0 k:=⟨_,rfl⟩;obtain⟨P,hP⟩: ∃ P,P=wd k A:=⟨_,rfl⟩;obtain⟨Q,hQ⟩: ∃ Q,Q=wd k B:=⟨_,rfl⟩;exact Qj
  ·obtain rfl:k=8:=om1;have hA8:fE wr w.heap.size s (wd 0 (A+B)) (wd 1 (A+B)) (wd 2 (A+B)) (wd 3 (A+B)) (wd 4 (A+B)) (wd 5 (A+B)) (wd 6 (A+B)) (wd 7 (A+B)):=hA;have hR8:fE wr (w.heap.size+1+1) false 0 0 0 0 0 0 0 0:=hR;clear hA hR hB;go_wp2_with (first|(refine jf rfl (.tmp 2) rfl _ _ _ _ _ _ _ _ _ _ rfl hA8 ?_)|(refine jr rfl (.tmp 4) (.tmp 70) rfl _ _ _ _ _ _ _ _ _ _ _ _ _ _ _ _ _ _ _ rfl rfl hR8 ?_))
   exact bodyPost_ret (v:=(.agg #[.bool s, .int .u64 (wd 0 (A+B)), .int .u64 (wd 1 (A+B)), .int .u64 (wd 2 (A+B)), .int .u64 (wd 3 (A+B)), .int .u64 (wd 4 (A+B)), .int .u64 (wd 5 (A+B)), .int .u64 (wd 6 (A+B)), .int .u64 (wd 7 (A+B))])) (vM Tryz.results181 _ _ (w.heap.size+1+1) _ _ _ _ _ _ _ _ _ rfl (hR8.row _ _ _ _ _ _ _ _ _)) rfl ⟨rfl,below_setRow hbel om1 _⟩
theorem Qk(s:Bool)(A B:Int)(w:World)(hA:In8 A)(hB:In8 B)(hlt: ¬A<B):
 Calls Tryz.prog 181 #[(.agg #[.bool s, .int .u64 (wd 0 A), .int .u64 (wd 1 A), .int .u64 (wd 2 A), .int .u64 (wd 3 A), .int .u64 (wd 4 A), .int .u64 (wd 5 A), .int .u64 (wd 6 A), .int .u64 (wd 7 A)]),(.agg #[.bool (!s), .int .u64 (wd 0 B), .int .u64 (wd 1 B), .int .u64 (wd 2 B), .int .u64 (wd 3 B), .int .u64 (wd 4 B), .int .u64 (wd 5 B), .int .u64 (wd 6 B), .int .u64 (wd 7 B)])] w fun e w'=>e= .returned (.agg #[.bool s, .int .u64 (wd 0 (A- B)), .int .u64 (wd 1 (A- B)), .int .u64 (wd 2 (A- B)), .int .u64 (wd 3 (A- B)), .int .u64 (wd 4 (A- B)), .int .u64 (wd 5 (A- B)), .int .u64 (wd 6 (A- B)), .int .u64 (wd 7 (A- B))])/\Below w.heap.size w w':=by
 have es:(s== !s)=false:=by cases s<;>rfl
 go_enter Tryz.func181,Tryz.ntmps181
 go_wp2_with fail
 refine(Am A B _ hA hB).mono ?_;rintro e w1 ⟨rfl,hb1⟩;rw [decide_eq_false (show ¬A<B by omega)];have rA:fE w1 w.heap.size s (wd 0 A) (wd 1 A) (wd 2 A) (wd 3 A) (wd 4 A) (wd 5 A) (wd 6 A) (wd 7 A):=(((jG w _ _ _ _ _ _ _ _ _).alloc _).alloc _).keep hb1;have rB:fE w1 (w.heap.size+1) (!s) (wd 0 B) (wd 1 B) (wd 2 B) (wd 3 B) (wd 4 B) (wd 5 B) (wd 6 B) (wd 7 B):=((Ap w _ _ _ _ _ _ _ _ _ _).alloc _).keep hb1;have rR:fE w1 (w.heap.size+1+1) false 0 0 0 0 0 0 0 0:=(Aq w _ _ _ _ _ _ _ _ _ _ _).keep hb1;have bW:Below w.heap.size w w1:=ae (af (af (af (Below.refl _ _) _) _) _) hb1;clear hb1;go_wp2;go_loopw [5,6] (fun c i wr=> ∃ k:Nat,k<=8/\i= .int .i64 (k:Int)/\c= .int .u64 (br A B 0 k)/\o9 wr w.heap.size s (Aw k (fun j=>wd j (A- B)) (fun j=>wd j A))/\o9 wr (w.heap.size+1) (!s) (fun j=>wd j B)/\o9 wr (w.heap.size+1+1) false (fun _=>0)/\Below w.heap.size w wr) (fun _ i _=>8- (intOf i).toNat)
 case atStart=>exact⟨0,om1,rfl,rfl,rA,rB,rR,bW⟩
 case round=>
  obtain⟨k,hk,rfl,rfl,hA,hB,hR,hbel⟩:=hrel;have c0:=YH k A B 0 om1 om1;have w0:=iJ k A;have w1:=iJ k B;by_cases h8:k<8
  ·have cA:=hA.cell h8;have cB:=hB.cell h8;have fA:=hA.free (1+k);have eA:Aw k (fun j=>wd j (A- B)) (fun j=>wd j A) k=wd k A:=by unfold Aw;rw [if_neg (Nat.lt_irrefl k)]
   rw [eA] at cA;have N1:=Hid.mk'' (Je k A B 0);have n2:=Jf k A B 0 om1 om1;rw [Int.sub_zero] at n2;have N2:=Hid.mk'' n2;have HS:=Hid.mk'' (fun(w':World) (h:o9 w' w.heap.size s (Aw k (fun j=>wd j (A- B)) (fun j=>wd j A))) (v:Int)=>h.set v h8);clear eA n2;obtain⟨C,hC⟩: ∃ C,C=br A B 0 k:=⟨_,rfl⟩;obtain⟨P,hP⟩: ∃ P,P=wd k A:=⟨_,rfl⟩;obtain⟨Q,hQ⟩: ∃ Q,Q=wd k B:=⟨_,rfl⟩;exact Qj
  ·obtain rfl:k=8:=om1;have hA8:fE wr w.heap.size s (wd 0 (A- B)) (wd 1 (A- B)) (wd 2 (A- B)) (wd 3 (A- B)) (wd 4 (A- B)) (wd 5 (A- B)) (wd 6 (A- B)) (wd 7 (A- B)):=hA;have hR8:fE wr (w.heap.size+1+1) false 0 0 0 0 0 0 0 0:=hR;clear hA hR hB;go_wp2_with (first|(refine jf rfl (.tmp 2) rfl _ _ _ _ _ _ _ _ _ _ rfl hA8 ?_)|(refine jr rfl (.tmp 4) (.tmp 47) rfl _ _ _ _ _ _ _ _ _ _ _ _ _ _ _ _ _ _ _ rfl rfl hR8 ?_))
   exact bodyPost_ret (v:=(.agg #[.bool s, .int .u64 (wd 0 (A- B)), .int .u64 (wd 1 (A- B)), .int .u64 (wd 2 (A- B)), .int .u64 (wd 3 (A- B)), .int .u64 (wd 4 (A- B)), .int .u64 (wd 5 (A- B)), .int .u64 (wd 6 (A- B)), .int .u64 (wd 7 (A- B))])) (vM Tryz.results181 _ _ (w.heap.size+1+1) _ _ _ _ _ _ _ _ _ rfl (hR8.row _ _ _ _ _ _ _ _ _)) rfl ⟨rfl,below_setRow hbel om1 _⟩
theorem Ql(s:Bool)(A B:Int)(w:World)(hA:In8 A)(hB:In8 B)(hlt:A<B):
 Calls Tryz.prog 181 #[(.agg #[.bool s, .int .u64 (wd 0 A), .int .u64 (wd 1 A), .int .u64 (wd 2 A), .int .u64 (wd 3 A), .int .u64 (wd 4 A), .int .u64 (wd 5 A), .int .u64 (wd 6 A), .int .u64 (wd 7 A)]),(.agg #[.bool (!s), .int .u64 (wd 0 B), .int .u64 (wd 1 B), .int .u64 (wd 2 B), .int .u64 (wd 3 B), .int .u64 (wd 4 B), .int .u64 (wd 5 B), .int .u64 (wd 6 B), .int .u64 (wd 7 B)])] w fun e w'=>e= .returned (.agg #[.bool (!s), .int .u64 (wd 0 (B- A)), .int .u64 (wd 1 (B- A)), .int .u64 (wd 2 (B- A)), .int .u64 (wd 3 (B- A)), .int .u64 (wd 4 (B- A)), .int .u64 (wd 5 (B- A)), .int .u64 (wd 6 (B- A)), .int .u64 (wd 7 (B- A))])/\Below w.heap.size w w':=by
 have es:(s== !s)=false:=by cases s<;>rfl
 go_enter Tryz.func181,Tryz.ntmps181
 go_wp2_with fail
 refine(Am A B _ hA hB).mono ?_;rintro e w1 ⟨rfl,hb1⟩;rw [decide_eq_true hlt];have rA:fE w1 w.heap.size s (wd 0 A) (wd 1 A) (wd 2 A) (wd 3 A) (wd 4 A) (wd 5 A) (wd 6 A) (wd 7 A):=(((jG w _ _ _ _ _ _ _ _ _).alloc _).alloc _).keep hb1;have rB:fE w1 (w.heap.size+1) (!s) (wd 0 B) (wd 1 B) (wd 2 B) (wd 3 B) (wd 4 B) (wd 5 B) (wd 6 B) (wd 7 B):=((Ap w _ _ _ _ _ _ _ _ _ _).alloc _).keep hb1;have rR:fE w1 (w.heap.size+1+1) false 0 0 0 0 0 0 0 0:=(Aq w _ _ _ _ _ _ _ _ _ _ _).keep hb1;have bW:Below w.heap.size w w1:=ae (af (af (af (Below.refl _ _) _) _) _) hb1;have rB2:fE (w1.setRow w.heap.size #[.bool (!s), .int .u64 (wd 0 B), .int .u64 (wd 1 B), .int .u64 (wd 2 B), .int .u64 (wd 3 B), .int .u64 (wd 4 B), .int .u64 (wd 5 B), .int .u64 (wd 6 B), .int .u64 (wd 7 B)]) (w.heap.size+1) (!s) (wd 0 B) (wd 1 B) (wd 2 B) (wd 3 B) (wd 4 B) (wd 5 B) (wd 6 B) (wd 7 B):=rB.aY om1 _;have rA3:fE ((w1.setRow w.heap.size #[.bool (!s), .int .u64 (wd 0 B), .int .u64 (wd 1 B), .int .u64 (wd 2 B), .int .u64 (wd 3 B), .int .u64 (wd 4 B), .int .u64 (wd 5 B), .int .u64 (wd 6 B), .int .u64 (wd 7 B)]).setRow (w.heap.size+1) #[.bool s, .int .u64 (wd 0 A), .int .u64 (wd 1 A), .int .u64 (wd 2 A), .int .u64 (wd 3 A), .int .u64 (wd 4 A), .int .u64 (wd 5 A), .int .u64 (wd 6 A), .int .u64 (wd 7 A)]) w.heap.size (!s) (wd 0 B) (wd 1 B) (wd 2 B) (wd 3 B) (wd 4 B) (wd 5 B) (wd 6 B) (wd 7 B):=(rA.row _ _ _ _ _ _ _ _ _).aY om1 _;have rB3:fE ((w1.setRow w.heap.size #[.bool (!s), .int .u64 (wd 0 B), .int .u64 (wd 1 B), .int .u64 (wd 2 B), .int .u64 (wd 3 B), .int .u64 (wd 4 B), .int .u64 (wd 5 B), .int .u64 (wd 6 B), .int .u64 (wd 7 B)]).setRow (w.heap.size+1) #[.bool s, .int .u64 (wd 0 A), .int .u64 (wd 1 A), .int .u64 (wd 2 A), .int .u64 (wd 3 A), .int .u64 (wd 4 A), .int .u64 (wd 5 A), .int .u64 (wd 6 A), .int .u64 (wd 7 A)]) (w.heap.size+1) s (wd 0 A) (wd 1 A) (wd 2 A) (wd 3 A) (wd 4 A) (wd 5 A) (wd 6 A) (wd 7 A):=rB2.row _ _ _ _ _ _ _ _ _;have rR3:fE ((w1.setRow w.heap.size #[.bool (!s), .int .u64 (wd 0 B), .int .u64 (wd 1 B), .int .u64 (wd 2 B), .int .u64 (wd 3 B), .int .u64 (wd 4 B), .int .u64 (wd 5 B), .int .u64 (wd 6 B), .int .u64 (wd 7 B)]).setRow (w.heap.size+1) #[.bool s, .int .u64 (wd 0 A), .int .u64 (wd 1 A), .int .u64 (wd 2 A), .int .u64 (wd 3 A), .int .u64 (wd 4 A), .int .u64 (wd 5 A), .int .u64 (wd 6 A), .int .u64 (wd 7 A)]) (w.heap.size+1+1) false 0 0 0 0 0 0 0 0:=(rR.aY om1 _).aY om1 _;have bW3:Below w.heap.size w ((w1.setRow w.heap.size #[.bool (!s), .int .u64 (wd 0 B), .int .u64 (wd 1 B), .int .u64 (wd 2 B), .int .u64 (wd 3 B), .int .u64 (wd 4 B), .int .u64 (wd 5 B), .int .u64 (wd 6 B), .int .u64 (wd 7 B)]).setRow (w.heap.size+1) #[.bool s, .int .u64 (wd 0 A), .int .u64 (wd 1 A), .int .u64 (wd 2 A), .int .u64 (wd 3 A), .int .u64 (wd 4 A), .int .u64 (wd 5 A), .int .u64 (wd 6 A), .int .u64 (wd 7 A)]):=below_setRow (below_setRow bW (Nat.le_refl _) _) om1 _;clear hb1;go_wp2_with (first|(refine jf rfl (.tmp 3) rfl _ _ _ _ _ _ _ _ _ _ rfl rB ?_)|(refine jf rfl (.tmp 2) rfl _ _ _ _ _ _ _ _ _ _ rfl rA ?_)|(refine jr rfl (.tmp 2) (.tmp 21) rfl _ _ _ _ _ _ _ _ _ _ _ _ _ _ _ _ _ _ _ rfl rfl rA ?_)|(refine jr rfl (.tmp 3) (.tmp 22) rfl _ _ _ _ _ _ _ _ _ _ _ _ _ _ _ _ _ _ _ rfl rfl rB2 ?_))
 go_loopw [5,6] (fun c i wr=> ∃ k:Nat,k<=8/\i= .int .i64 (k:Int)/\c= .int .u64 (br B A 0 k)/\o9 wr w.heap.size (!s) (Aw k (fun j=>wd j (B- A)) (fun j=>wd j B))/\o9 wr (w.heap.size+1) s (fun j=>wd j A)/\o9 wr (w.heap.size+1+1) false (fun _=>0)/\Below w.heap.size w wr) (fun _ i _=>8- (intOf i).toNat)
 case atStart=>exact⟨0,om1,rfl,rfl,rA3,rB3,rR3,bW3⟩
 case round=>
  obtain⟨k,hk,rfl,rfl,hA,hB,hR,hbel⟩:=hrel;have c0:=YH k B A 0 om1 om1;have w0:=iJ k B;have w1:=iJ k A;by_cases h8:k<8
  ·have cA:=hA.cell h8;have cB:=hB.cell h8;have fA:=hA.free (1+k);have eA:Aw k (fun j=>wd j (B- A)) (fun j=>wd j B) k=wd k B:=by unfold Aw;rw [if_neg (Nat.lt_irrefl k)]
   rw [eA] at cA;have N1:=Hid.mk'' (Je k B A 0);have n2:=Jf k B A 0 om1 om1;rw [Int.sub_zero] at n2;have N2:=Hid.mk'' n2;have HS:=Hid.mk'' (fun(w':World) (h:o9 w' w.heap.size (!s) (Aw k (fun j=>wd j (B- A)) (fun j=>wd j B))) (v:Int)=>h.set v h8);clear eA n2;obtain⟨C,hC⟩: ∃ C,C=br B A 0 k:=⟨_,rfl⟩;obtain⟨P,hP⟩: ∃ P,P=wd k B:=⟨_,rfl⟩;obtain⟨Q,hQ⟩: ∃ Q,Q=wd k A:=⟨_,rfl⟩;exact Qj
  ·obtain rfl:k=8:=om1;have hA8:fE wr w.heap.size (!s) (wd 0 (B- A)) (wd 1 (B- A)) (wd 2 (B- A)) (wd 3 (B- A)) (wd 4 (B- A)) (wd 5 (B- A)) (wd 6 (B- A)) (wd 7 (B- A)):=hA;have hR8:fE wr (w.heap.size+1+1) false 0 0 0 0 0 0 0 0:=hR;clear hA hR hB;go_wp2_with (first|(refine jf rfl (.tmp 2) rfl _ _ _ _ _ _ _ _ _ _ rfl hA8 ?_)|(refine jr rfl (.tmp 4) (.tmp 47) rfl _ _ _ _ _ _ _ _ _ _ _ _ _ _ _ _ _ _ _ rfl rfl hR8 ?_))
   exact bodyPost_ret (v:=(.agg #[.bool (!s), .int .u64 (wd 0 (B- A)), .int .u64 (wd 1 (B- A)), .int .u64 (wd 2 (B- A)), .int .u64 (wd 3 (B- A)), .int .u64 (wd 4 (B- A)), .int .u64 (wd 5 (B- A)), .int .u64 (wd 6 (B- A)), .int .u64 (wd 7 (B- A))])) (vM Tryz.results181 _ _ (w.heap.size+1+1) _ _ _ _ _ _ _ _ _ rfl (hR8.row _ _ _ _ _ _ _ _ _)) rfl ⟨rfl,below_setRow hbel om1 _⟩
namespace Lg
def sgz(s:Bool)(A:Int):Int:=if s then-A else A
end Lg
theorem U9(p q:Bool)(A B:Int)(w:World)(hA:In8 A)(hB:In8 B)(hS:In8 (A+B)):
 Calls Tryz.prog 181 #[(.agg #[.bool p, .int .u64 (wd 0 A), .int .u64 (wd 1 A), .int .u64 (wd 2 A), .int .u64 (wd 3 A), .int .u64 (wd 4 A), .int .u64 (wd 5 A), .int .u64 (wd 6 A), .int .u64 (wd 7 A)]),(.agg #[.bool q, .int .u64 (wd 0 B), .int .u64 (wd 1 B), .int .u64 (wd 2 B), .int .u64 (wd 3 B), .int .u64 (wd 4 B), .int .u64 (wd 5 B), .int .u64 (wd 6 B), .int .u64 (wd 7 B)])] w fun e w'=> ∃ (s:Bool) (C:Int),e= .returned (.agg #[.bool s, .int .u64 (wd 0 C), .int .u64 (wd 1 C), .int .u64 (wd 2 C), .int .u64 (wd 3 C), .int .u64 (wd 4 C), .int .u64 (wd 5 C), .int .u64 (wd 6 C), .int .u64 (wd 7 C)])/\In8 C/\sgz s C=sgz p A+sgz q B/\Below w.heap.size w w':=by
 have hA0:=hA;have hB0:=hB;unfold In8 at hA0 hB0;by_cases hpq:p=q
 · subst hpq;refine(Gq p A B w).mono ?_;rintro e w' ⟨rfl,hb⟩;refine⟨p,A+B,rfl,hS, ?_,hb⟩;unfold sgz;split<;>omega
 · by_cases hlt:A<B
   · have hD:In8 (B- A):=by unfold In8;omega
     cases p with
     |true=>
      obtain rfl:q=false:=by cases q<;>simp_all
      refine(Ql true A B w hA hB hlt).mono ?_;rintro e w' ⟨rfl,hb⟩;exact⟨false,B- A,rfl,hD,by simp [sgz];omega,hb⟩
     |false=>
      obtain rfl:q=true:=by cases q<;>simp_all
      refine(Ql false A B w hA hB hlt).mono ?_;rintro e w' ⟨rfl,hb⟩;exact⟨true,B- A,rfl,hD,by simp [sgz];omega,hb⟩
   · have hD:In8 (A- B):=by unfold In8;omega
     cases p with
     |true=>
      obtain rfl:q=false:=by cases q<;>simp_all
      refine(Qk true A B w hA hB hlt).mono ?_;rintro e w' ⟨rfl,hb⟩;exact⟨true,A- B,rfl,hD,by simp [sgz];omega,hb⟩
     |false=>
      obtain rfl:q=true:=by cases q<;>simp_all
      refine(Qk false A B w hA hB hlt).mono ?_;rintro e w' ⟨rfl,hb⟩;exact⟨false,A- B,rfl,hD,by simp [sgz];omega,hb⟩
end
section
open Go.RowKit Lg
attribute [local go_sem ↓] Go.wp_at_zero Go.wp_at_succ
theorem oO(x:Int)(w:World)(h0: -9223372036854775808<=x)(h1:x<=9223372036854775807):
 Calls Tryz.prog 262 #[.int .i64 x] w fun e w'=>e= .returned (.int .u64 ((x.natAbs:Nat):Int))/\w'=w:=by
 by_cases hx:x<0
 · go_enter Tryz.func262,Tryz.ntmps262
   go_wp2;go_ret;refine⟨congrArg (fun z=>Ending.returned (.int .u64 z)) ?_,rfl⟩;simp only [IntKind.wrap_u64] at*;omega
 · go_enter Tryz.func262,Tryz.ntmps262
   go_wp2;go_ret;refine⟨congrArg (fun z=>Ending.returned (.int .u64 z)) ?_,rfl⟩
   (try simp only [IntKind.wrap_u64] at*);omega
theorem Qm(a b:Int)(w:World)(ha0: -9223372036854775808<=a)(ha1:a<=9223372036854775807)(hb0: -9223372036854775808<=b)(hb1:b<=9223372036854775807)
 (x0 x1 y0 y1 d0 c0 d1 d2 e1 f0 e2 e3:Int) (s:Bool) (b_x0:0<=x0/\x0<=4294967295) (b_x1:0<=x1/\x1<=4294967295) (b_y0:0<=y0/\y0<=4294967295) (b_y1:0<=y1/\y1<=4294967295) (b_d0:0<=d0/\d0<=4294967295) (b_c0:0<=c0/\c0<=4294967295) (b_d1:0<=d1/\d1<=4294967295) (b_d2:0<=d2/\d2<=4294967295) (b_e1:0<=e1/\e1<=4294967295) (b_f0:0<=f0/\f0<=4294967295) (b_e2:0<=e2/\e2<=4294967295) (b_e3:0<=e3/\e3<=4294967295) (p_x0y0:0<=x0*y0/\x0*y0<=18446744065119617025) (p_x0y1:0<=x0*y1/\x0*y1<=18446744065119617025) (p_x1y0:0<=x1*y0/\x1*y0<=18446744065119617025) (p_x1y1:0<=x1*y1/\x1*y1<=18446744065119617025)
 (A0:Hid (x0=(a.natAbs:Int)%4294967296)) (A1:Hid (x1=(a.natAbs:Int)/4294967296)) (B0:Hid (y0=(b.natAbs:Int)%4294967296)) (B1:Hid (y1=(b.natAbs:Int)/4294967296)) (HS:Hid (s= !(decide (a<0)==decide (b<0))))
 (Hd_d0:Hid (d0=x0*y0%4294967296)) (Hc_c0:Hid (c0=x0*y0/4294967296)) (Hd_d1:Hid (d1=(x0*y1+c0)%4294967296)) (Hc_d2:Hid (d2=(x0*y1+c0)/4294967296)) (Hd_e1:Hid (e1=(d1+x1*y0)%4294967296)) (Hc_f0:Hid (f0=(d1+x1*y0)/4294967296)) (Hd_e2:Hid (e2=(d2+x1*y1+f0)%4294967296)) (Hc_e3:Hid (e3=(d2+x1*y1+f0)/4294967296)):
 Calls Tryz.prog 182 #[.int .i64 a, .int .i64 b] w fun e w'=>e= .returned (.agg #[.bool s, .int .u64 d0, .int .u64 e1, .int .u64 e2, .int .u64 e3, .int .u64 0, .int .u64 0, .int .u64 0, .int .u64 0])/\Below w.heap.size w w':=by
 go_enter Tryz.func182,Tryz.ntmps182
 go_wp2_with fail
 refine(oO a _ ha0 ha1).mono ?_;rintro e w1 ⟨rfl,rfl⟩;go_wp2_with fail
 refine(oO a _ ha0 ha1).mono ?_;rintro e w1 ⟨rfl,rfl⟩;go_wp2_with fail
 refine(oO b _ hb0 hb1).mono ?_;rintro e w1 ⟨rfl,rfl⟩;go_wp2_with fail
 refine(oO b _ hb0 hb1).mono ?_;rintro e w ⟨rfl,rfl⟩;go_wp2;rw [← A0.out,← A1.out,← B0.out,← B1.out,← HS.out];go_loopw [8] (fun i wr=>((i= .int .i64 0/\fE wr (w.heap.size+1+1+1) s 0 0 0 0 0 0 0 0)\/(i= .int .i64 1/\fE wr (w.heap.size+1+1+1) s d0 d1 d2 0 0 0 0 0)\/(i= .int .i64 2/\fE wr (w.heap.size+1+1+1) s d0 e1 e2 e3 0 0 0 0))/\wr.cell? ⟨w.heap.size+1,0,none⟩=some (.int .u64 x0)/\wr.cell? ⟨w.heap.size+1,1,none⟩=some (.int .u64 x1)/\wr.cell? ⟨w.heap.size+1+1,0,none⟩=some (.int .u64 y0)/\wr.cell? ⟨w.heap.size+1+1,1,none⟩=some (.int .u64 y1)/\fE wr w.heap.size false 0 0 0 0 0 0 0 0/\Below w.heap.size w wr) (fun i _=>2- (intOf i).toNat)
 case atStart=>
  refine⟨Or.inl ⟨rfl,PO w _ _ _ _ _ _ _ _ _ _ _ _⟩, ?_, ?_, ?_, ?_,(((jG w _ _ _ _ _ _ _ _ _).alloc _).alloc _).alloc _,af (af (af (af (Below.refl _ _) _) _) _) _⟩;all_goals go_simp
 case round=>
  obtain⟨hc,z0,z1,z2,z3,zr,zb⟩:=hrel;rcases hc with⟨rfl,hr⟩|⟨rfl,hr⟩|⟨rfl,hr⟩
  ·go_wp2;go_loopw [9,10] (fun c j wr=>((j= .int .i64 0/\c= .int .u64 0/\fE wr (w.heap.size+1+1+1) s 0 0 0 0 0 0 0 0)\/(j= .int .i64 1/\c= .int .u64 c0/\fE wr (w.heap.size+1+1+1) s d0 0 0 0 0 0 0 0)\/(j= .int .i64 2/\c= .int .u64 d2/\fE wr (w.heap.size+1+1+1) s d0 d1 0 0 0 0 0 0))/\wr.cell? ⟨w.heap.size+1,0,none⟩=some (.int .u64 x0)/\wr.cell? ⟨w.heap.size+1,1,none⟩=some (.int .u64 x1)/\wr.cell? ⟨w.heap.size+1+1,0,none⟩=some (.int .u64 y0)/\wr.cell? ⟨w.heap.size+1+1,1,none⟩=some (.int .u64 y1)/\fE wr w.heap.size false 0 0 0 0 0 0 0 0/\Below w.heap.size w wr) (fun _ j _=>2- (intOf j).toNat)
   case atStart=>exact⟨Or.inl ⟨rfl,rfl,hr⟩,z0,z1,z2,z3,zr,zb⟩
   case round=>
    clear hr z0 z1 z2 z3 zr zb;obtain⟨hc,z0,z1,z2,z3,zr,zb⟩:=hrel;rcases hc with⟨rfl,rfl,hr⟩|⟨rfl,rfl,hr⟩|⟨rfl,rfl,hr⟩
    ·have a0:=hr.c0;have g0:=hr.free 1;go_wp2;go_quiet (fail)
     go_wp2;go_roundw
     case rel=>
      refine⟨Or.inr (Or.inl ⟨rfl, ?_, ?_⟩),aW z0 (show w.heap.size+1≠w.heap.size+1+1+1 by omega) _,aW z1 (show w.heap.size+1≠w.heap.size+1+1+1 by omega) _,aW z2 (show w.heap.size+1+1≠w.heap.size+1+1+1 by omega) _,aW z3 (show w.heap.size+1+1≠w.heap.size+1+1+1 by omega) _,(zr.drewN _).other _ (show w.heap.size≠w.heap.size+1+1+1 by omega),(below_drewN zb _).setCell (p:=⟨w.heap.size+1+1+1,1,none⟩) (show w.heap.size<=w.heap.size+1+1+1 by omega) _⟩
      ·rw [Hc_c0.out]
      ·rw [Hd_d0.out];exact(hr.drewN _).set0 _
     case measure=>simp [intOf]
    ·have a0:=hr.c1;have g0:=hr.free 2;go_wp2;go_quiet (fail)
     go_wp2;go_roundw
     case rel=>
      refine⟨Or.inr (Or.inr ⟨rfl, ?_, ?_⟩),aW z0 (show w.heap.size+1≠w.heap.size+1+1+1 by omega) _,aW z1 (show w.heap.size+1≠w.heap.size+1+1+1 by omega) _,aW z2 (show w.heap.size+1+1≠w.heap.size+1+1+1 by omega) _,aW z3 (show w.heap.size+1+1≠w.heap.size+1+1+1 by omega) _,(zr.drewN _).other _ (show w.heap.size≠w.heap.size+1+1+1 by omega),(below_drewN zb _).setCell (p:=⟨w.heap.size+1+1+1,2,none⟩) (show w.heap.size<=w.heap.size+1+1+1 by omega) _⟩
      ·rw [Hc_d2.out]
      ·rw [Hd_d1.out];exact(hr.drewN _).set1 _
     case measure=>simp [intOf]
    ·have a0:=hr.c2;have g0:=hr.free 3;go_wp2;go_roundw
     case rel=>
      exact⟨Or.inr (Or.inl ⟨rfl,hr.set2 _⟩),aW z0 (show w.heap.size+1≠w.heap.size+1+1+1 by omega) _,aW z1 (show w.heap.size+1≠w.heap.size+1+1+1 by omega) _,aW z2 (show w.heap.size+1+1≠w.heap.size+1+1+1 by omega) _,aW z3 (show w.heap.size+1+1≠w.heap.size+1+1+1 by omega) _,zr.other _ (show w.heap.size≠w.heap.size+1+1+1 by omega),zb.setCell (p:=⟨w.heap.size+1+1+1,3,none⟩) (show w.heap.size<=w.heap.size+1+1+1 by omega) _⟩
     case measure=>simp [intOf]
  ·go_wp2;go_loopw [9,10] (fun c j wr=>((j= .int .i64 0/\c= .int .u64 0/\fE wr (w.heap.size+1+1+1) s d0 d1 d2 0 0 0 0 0)\/(j= .int .i64 1/\c= .int .u64 f0/\fE wr (w.heap.size+1+1+1) s d0 e1 d2 0 0 0 0 0)\/(j= .int .i64 2/\c= .int .u64 e3/\fE wr (w.heap.size+1+1+1) s d0 e1 e2 0 0 0 0 0))/\wr.cell? ⟨w.heap.size+1,0,none⟩=some (.int .u64 x0)/\wr.cell? ⟨w.heap.size+1,1,none⟩=some (.int .u64 x1)/\wr.cell? ⟨w.heap.size+1+1,0,none⟩=some (.int .u64 y0)/\wr.cell? ⟨w.heap.size+1+1,1,none⟩=some (.int .u64 y1)/\fE wr w.heap.size false 0 0 0 0 0 0 0 0/\Below w.heap.size w wr) (fun _ j _=>2- (intOf j).toNat)
   case atStart=>exact⟨Or.inl ⟨rfl,rfl,hr⟩,z0,z1,z2,z3,zr,zb⟩
   case round=>
    clear hr z0 z1 z2 z3 zr zb;obtain⟨hc,z0,z1,z2,z3,zr,zb⟩:=hrel;rcases hc with⟨rfl,rfl,hr⟩|⟨rfl,rfl,hr⟩|⟨rfl,rfl,hr⟩
    ·have a0:=hr.c1;have g0:=hr.free 2;go_wp2;go_quiet (fail)
     go_wp2;go_roundw
     case rel=>
      refine⟨Or.inr (Or.inl ⟨rfl, ?_, ?_⟩),aW z0 (show w.heap.size+1≠w.heap.size+1+1+1 by omega) _,aW z1 (show w.heap.size+1≠w.heap.size+1+1+1 by omega) _,aW z2 (show w.heap.size+1+1≠w.heap.size+1+1+1 by omega) _,aW z3 (show w.heap.size+1+1≠w.heap.size+1+1+1 by omega) _,(zr.drewN _).other _ (show w.heap.size≠w.heap.size+1+1+1 by omega),(below_drewN zb _).setCell (p:=⟨w.heap.size+1+1+1,2,none⟩) (show w.heap.size<=w.heap.size+1+1+1 by omega) _⟩
      ·rw [Hc_f0.out]
      ·rw [Hd_e1.out];exact(hr.drewN _).set1 _
     case measure=>simp [intOf]
    ·have a0:=hr.c2;have g0:=hr.free 3;go_wp2;go_quiet (fail)
     go_wp2;go_roundw
     case rel=>
      refine⟨Or.inr (Or.inr ⟨rfl, ?_, ?_⟩),aW z0 (show w.heap.size+1≠w.heap.size+1+1+1 by omega) _,aW z1 (show w.heap.size+1≠w.heap.size+1+1+1 by omega) _,aW z2 (show w.heap.size+1+1≠w.heap.size+1+1+1 by omega) _,aW z3 (show w.heap.size+1+1≠w.heap.size+1+1+1 by omega) _,(zr.drewN _).other _ (show w.heap.size≠w.heap.size+1+1+1 by omega),(below_drewN zb _).setCell (p:=⟨w.heap.size+1+1+1,3,none⟩) (show w.heap.size<=w.heap.size+1+1+1 by omega) _⟩
      ·rw [Hc_e3.out]
      ·rw [Hd_e2.out];exact(hr.drewN _).set2 _
     case measure=>simp [intOf]
    ·have a0:=hr.c3;have g0:=hr.free 4;go_wp2;go_roundw
     case rel=>
      exact⟨Or.inr (Or.inr ⟨rfl,hr.set3 _⟩),aW z0 (show w.heap.size+1≠w.heap.size+1+1+1 by omega) _,aW z1 (show w.heap.size+1≠w.heap.size+1+1+1 by omega) _,aW z2 (show w.heap.size+1+1≠w.heap.size+1+1+1 by omega) _,aW z3 (show w.heap.size+1+1≠w.heap.size+1+1+1 by omega) _,zr.other _ (show w.heap.size≠w.heap.size+1+1+1 by omega),zb.setCell (p:=⟨w.heap.size+1+1+1,4,none⟩) (show w.heap.size<=w.heap.size+1+1+1 by omega) _⟩
     case measure=>simp [intOf]
  ·go_wp2_with (first|(refine jf rfl (.tmp 7) rfl _ _ _ _ _ _ _ _ _ _ rfl hr ?_)|(refine jr rfl (.tmp 4) (.tmp 78) rfl _ _ _ _ _ _ _ _ _ _ _ _ _ _ _ _ _ _ _ rfl rfl zr ?_))
   exact bodyPost_ret (v:= .agg #[.bool s, .int .u64 d0, .int .u64 e1, .int .u64 e2, .int .u64 e3, .int .u64 0, .int .u64 0, .int .u64 0, .int .u64 0]) (vM Tryz.results182 _ _ w.heap.size _ _ _ _ _ _ _ _ _ rfl (zr.row _ _ _ _ _ _ _ _ _)) rfl ⟨rfl,below_setRow zb (Nat.le_refl _) _⟩
namespace Lg
theorem nN{x y:Int}(hx:0<=x/\x<=4294967295)(hy:0<=y/\y<=4294967295):0<=x*y/\x*y<=18446744065119617025:=
 ⟨Int.mul_nonneg hx.1 hy.1,Int.mul_le_mul hx.2 hy.2 hy.1 om1⟩
theorem NC(a b x0 x1 y0 y1 d0 c0 d1 d2 e1 f0 e2 e3:Int)(b0:0<=x0/\x0<=4294967295)(b1:0<=x1/\x1<=4294967295)(b2:0<=y0/\y0<=4294967295)(b3:0<=y1/\y1<=4294967295)(ea:a=x0+4294967296*x1)(eb:b=y0+4294967296*y1)
 (h_d0:d0=x0*y0%4294967296) (h_c0:c0=x0*y0/4294967296) (h_d1:d1=(x0*y1+c0)%4294967296) (h_d2:d2=(x0*y1+c0)/4294967296) (h_e1:e1=(d1+x1*y0)%4294967296) (h_f0:f0=(d1+x1*y0)/4294967296) (h_e2:e2=(d2+x1*y1+f0)%4294967296) (h_e3:e3=(d2+x1*y1+f0)/4294967296):(0<=c0/\c0<=4294967295)/\(0<=d2/\d2<=4294967295)/\(0<=f0/\f0<=4294967295)/\(0<=e3/\e3<=4294967295)/\wd 0 (a*b)=d0/\wd 1 (a*b)=e1/\wd 2 (a*b)=e2/\wd 3 (a*b)=e3/\wd 4 (a*b)=0/\wd 5 (a*b)=0/\wd 6 (a*b)=0/\wd 7 (a*b)=0:=by
 have p0:=nN b0 b2;have p1:=nN b0 b3;have p2:=nN b1 b2;have p3:=nN b1 b3
 have e:a*b=x0*y0+4294967296*(x0*y1)+4294967296*(x1*y0)+18446744073709551616*(x1*y1):=by
  rw [ea,eb,Int.add_mul,Int.mul_add,Int.mul_add,Int.mul_left_comm x0,Int.mul_assoc 4294967296 x1 y0,Int.mul_assoc 4294967296 x1,Int.mul_left_comm x1];omega
 rw [e];generalize x0*y0=p00 at*;generalize x0*y1=p01 at*;generalize x1*y0=p10 at*;generalize x1*y1=p11 at*;clear e ea eb b0 b1 b2 b3;simp only [wd];refine⟨?_, ?_, ?_, ?_, ?_, ?_, ?_, ?_, ?_, ?_, ?_, ?_⟩;all_goals omega
end Lg
theorem Qo(a b:Int)(w:World)(ha0: -9223372036854775808<=a)(ha1:a<=9223372036854775807)(hb0: -9223372036854775808<=b)(hb1:b<=9223372036854775807):
 Calls Tryz.prog 182 #[.int .i64 a, .int .i64 b] w fun e w'=> ∃ (s:Bool) (C:Int),e= .returned (.agg #[.bool s, .int .u64 (wd 0 C), .int .u64 (wd 1 C), .int .u64 (wd 2 C), .int .u64 (wd 3 C), .int .u64 (wd 4 C), .int .u64 (wd 5 C), .int .u64 (wd 6 C), .int .u64 (wd 7 C)])/\0<=C/\C<=85070591730234615865843651857942052864/\sgz s C=a*b/\Below w.heap.size w w':=by
 have bx:0<=(a.natAbs:Int)/\(a.natAbs:Int)<=9223372036854775808:=om1;have by':0<=(b.natAbs:Int)/\(b.natAbs:Int)<=9223372036854775808:=om1;obtain⟨k1,k2,k3,k4,q0,q1,q2,q3,q4,q5,q6,q7⟩:=NC (a.natAbs:Int) (b.natAbs:Int) ((a.natAbs:Int)%4294967296) ((a.natAbs:Int)/4294967296) ((b.natAbs:Int)%4294967296) ((b.natAbs:Int)/4294967296) _ _ _ _ _ _ _ _ om1 om1 om1 om1 om1 om1 rfl rfl rfl rfl rfl rfl rfl rfl;refine(Qm a b w ha0 ha1 hb0 hb1 _ _ _ _ _ _ _ _ _ _ _ _ _ om1 om1 om1 om1 om1 k1 om1 k2 om1 k3 om1 k4 (nN om1 om1) (nN om1 om1) (nN om1 om1) (nN om1 om1) rfl rfl rfl rfl rfl rfl rfl rfl rfl rfl rfl rfl rfl).mono ?_;rintro e w' ⟨rfl,hb⟩;refine⟨!(decide (a<0)==decide (b<0)),(a.natAbs:Int)*(b.natAbs:Int), ?_,Int.mul_nonneg bx.1 by'.1,Int.mul_le_mul bx.2 by'.2 by'.1 om1, ?_,hb⟩
 · rw [q0,q1,q2,q3,q4,q5,q6,q7]
 · have e1:((a.natAbs:Int)*(b.natAbs:Int))=((a*b).natAbs:Int):=by rw [Int.natAbs_mul,Int.natCast_mul]
   rw [e1];unfold sgz;by_cases c1:a<0
   · by_cases c2:b<0
     · have:=Int.mul_pos_of_neg_of_neg c1 c2;rw [decide_eq_true c1,decide_eq_true c2];simp;omega
     · rw [decide_eq_true c1,decide_eq_false c2];have:a*b<=0:=Int.mul_nonpos_of_nonpos_of_nonneg om1 om1;simp;omega
   · by_cases c2:b<0
     · have:a*b<=0:=Int.mul_nonpos_of_nonneg_of_nonpos om1 om1;rw [decide_eq_false c1,decide_eq_true c2];simp;omega
     · have:=Int.mul_nonneg (show 0<=a by omega) (show 0<=b by omega);rw [decide_eq_false c1,decide_eq_false c2];simp;omega
end
section
open Go.RowKit
namespace Lg
def jV(w:World)(b:Nat)(x0 x1 x2 x3 x4 x5 x6 x7:Int):Prop:=w.heap[b]?=some (.cells #[.int .u64 x0, .int .u64 x1, .int .u64 x2, .int .u64 x3, .int .u64 x4, .int .u64 x5, .int .u64 x6, .int .u64 x7] 275 (0,0))
theorem jV.lt{w:World}{b:Nat}{x0 x1 x2 x3 x4 x5 x6 x7:Int}(h:jV w b x0 x1 x2 x3 x4 x5 x6 x7):b<w.heap.size:=by
 rcases Nat.lt_or_ge b w.heap.size with k|k
 · exact k
 · unfold jV at h;rw [Array.getElem?_eq_none k] at h;cases h
theorem EE(w:World){g:Nat}(hg:g=w.heap.size)(x0 x1 x2 x3 x4 x5 x6 x7:Int):jV (w.alloc (.cells #[.int .u64 x0, .int .u64 x1, .int .u64 x2, .int .u64 x3, .int .u64 x4, .int .u64 x5, .int .u64 x6, .int .u64 x7] 275)) g x0 x1 x2 x3 x4 x5 x6 x7:=by rw [hg];exact heap_alloc_new w _
theorem jV.keep{w w':World}{b:Nat}{x0 x1 x2 x3 x4 x5 x6 x7:Int}(h:jV w b x0 x1 x2 x3 x4 x5 x6 x7)(hb:Below w.heap.size w w'):jV w' b x0 x1 x2 x3 x4 x5 x6 x7:=by
 unfold jV;rw [hb.block b h.lt];exact h
theorem jV.free{w:World}{b:Nat}{x0 x1 x2 x3 x4 x5 x6 x7:Int}(h:jV w b x0 x1 x2 x3 x4 x5 x6 x7)(j:Nat):w.frozen? ⟨b,j,none⟩=false:=frozen_of_row w b j _ _ h
theorem jV.set0{w:World}{b:Nat}{x0 x1 x2 x3 x4 x5 x6 x7:Int}(h:jV w b x0 x1 x2 x3 x4 x5 x6 x7)(v:Int):jV (w.setCell ⟨b,0,none⟩ (.int .u64 v)) b v x1 x2 x3 x4 x5 x6 x7:=heap_setCell_same w b 0 _ _ _ h
theorem jV.c0{w:World}{b:Nat}{x0 x1 x2 x3 x4 x5 x6 x7:Int}(h:jV w b x0 x1 x2 x3 x4 x5 x6 x7):w.cell? ⟨b,0,none⟩=some (.int .u64 x0):=by rw [cell_of_row w b 0 _ _ (0,0) h];rfl
theorem jV.set1{w:World}{b:Nat}{x0 x1 x2 x3 x4 x5 x6 x7:Int}(h:jV w b x0 x1 x2 x3 x4 x5 x6 x7)(v:Int):jV (w.setCell ⟨b,1,none⟩ (.int .u64 v)) b x0 v x2 x3 x4 x5 x6 x7:=heap_setCell_same w b 1 _ _ _ h
theorem jV.c1{w:World}{b:Nat}{x0 x1 x2 x3 x4 x5 x6 x7:Int}(h:jV w b x0 x1 x2 x3 x4 x5 x6 x7):w.cell? ⟨b,1,none⟩=some (.int .u64 x1):=by rw [cell_of_row w b 1 _ _ (0,0) h];rfl
theorem jV.set2{w:World}{b:Nat}{x0 x1 x2 x3 x4 x5 x6 x7:Int}(h:jV w b x0 x1 x2 x3 x4 x5 x6 x7)(v:Int):jV (w.setCell ⟨b,2,none⟩ (.int .u64 v)) b x0 x1 v x3 x4 x5 x6 x7:=heap_setCell_same w b 2 _ _ _ h
theorem jV.c2{w:World}{b:Nat}{x0 x1 x2 x3 x4 x5 x6 x7:Int}(h:jV w b x0 x1 x2 x3 x4 x5 x6 x7):w.cell? ⟨b,2,none⟩=some (.int .u64 x2):=by rw [cell_of_row w b 2 _ _ (0,0) h];rfl
theorem jV.set3{w:World}{b:Nat}{x0 x1 x2 x3 x4 x5 x6 x7:Int}(h:jV w b x0 x1 x2 x3 x4 x5 x6 x7)(v:Int):jV (w.setCell ⟨b,3,none⟩ (.int .u64 v)) b x0 x1 x2 v x4 x5 x6 x7:=heap_setCell_same w b 3 _ _ _ h
theorem jV.c3{w:World}{b:Nat}{x0 x1 x2 x3 x4 x5 x6 x7:Int}(h:jV w b x0 x1 x2 x3 x4 x5 x6 x7):w.cell? ⟨b,3,none⟩=some (.int .u64 x3):=by rw [cell_of_row w b 3 _ _ (0,0) h];rfl
theorem jV.set4{w:World}{b:Nat}{x0 x1 x2 x3 x4 x5 x6 x7:Int}(h:jV w b x0 x1 x2 x3 x4 x5 x6 x7)(v:Int):jV (w.setCell ⟨b,4,none⟩ (.int .u64 v)) b x0 x1 x2 x3 v x5 x6 x7:=heap_setCell_same w b 4 _ _ _ h
theorem jV.c4{w:World}{b:Nat}{x0 x1 x2 x3 x4 x5 x6 x7:Int}(h:jV w b x0 x1 x2 x3 x4 x5 x6 x7):w.cell? ⟨b,4,none⟩=some (.int .u64 x4):=by rw [cell_of_row w b 4 _ _ (0,0) h];rfl
theorem jV.set5{w:World}{b:Nat}{x0 x1 x2 x3 x4 x5 x6 x7:Int}(h:jV w b x0 x1 x2 x3 x4 x5 x6 x7)(v:Int):jV (w.setCell ⟨b,5,none⟩ (.int .u64 v)) b x0 x1 x2 x3 x4 v x6 x7:=heap_setCell_same w b 5 _ _ _ h
theorem jV.c5{w:World}{b:Nat}{x0 x1 x2 x3 x4 x5 x6 x7:Int}(h:jV w b x0 x1 x2 x3 x4 x5 x6 x7):w.cell? ⟨b,5,none⟩=some (.int .u64 x5):=by rw [cell_of_row w b 5 _ _ (0,0) h];rfl
theorem jV.set6{w:World}{b:Nat}{x0 x1 x2 x3 x4 x5 x6 x7:Int}(h:jV w b x0 x1 x2 x3 x4 x5 x6 x7)(v:Int):jV (w.setCell ⟨b,6,none⟩ (.int .u64 v)) b x0 x1 x2 x3 x4 x5 v x7:=heap_setCell_same w b 6 _ _ _ h
theorem jV.c6{w:World}{b:Nat}{x0 x1 x2 x3 x4 x5 x6 x7:Int}(h:jV w b x0 x1 x2 x3 x4 x5 x6 x7):w.cell? ⟨b,6,none⟩=some (.int .u64 x6):=by rw [cell_of_row w b 6 _ _ (0,0) h];rfl
theorem jV.set7{w:World}{b:Nat}{x0 x1 x2 x3 x4 x5 x6 x7:Int}(h:jV w b x0 x1 x2 x3 x4 x5 x6 x7)(v:Int):jV (w.setCell ⟨b,7,none⟩ (.int .u64 v)) b x0 x1 x2 x3 x4 x5 x6 v:=heap_setCell_same w b 7 _ _ _ h
theorem jV.c7{w:World}{b:Nat}{x0 x1 x2 x3 x4 x5 x6 x7:Int}(h:jV w b x0 x1 x2 x3 x4 x5 x6 x7):w.cell? ⟨b,7,none⟩=some (.int .u64 x7):=by rw [cell_of_row w b 7 _ _ (0,0) h];rfl
def uz(w:World)(b:Nat)(d:Nat->Int):Prop:=jV w b (d 0) (d 1) (d 2) (d 3) (d 4) (d 5) (d 6) (d 7)
theorem uz.cell{w:World}{b:Nat}{d:Nat->Int}(h:uz w b d): ∀ {k:Nat},k<8->w.cell? ⟨b,k,none⟩=some (.int .u64 (d k))
 |0,_=>h.c0|1,_=>h.c1|2,_=>h.c2|3,_=>h.c3|4,_=>h.c4|5,_=>h.c5|6,_=>h.c6|7,_=>h.c7
 |n+8,hk=>absurd hk om1
theorem uz.set{w:World}{b:Nat}{d:Nat->Int}(h:uz w b d)(v:Int): ∀ {k:Nat},k<8->uz (w.setCell ⟨b,k,none⟩ (.int .u64 v)) b (fun j=>if j=k then v else d j)
 |0,_=>h.set0 v|1,_=>h.set1 v|2,_=>h.set2 v|3,_=>h.set3 v|4,_=>h.set4 v|5,_=>h.set5 v|6,_=>h.set6 v|7,_=>h.set7 v
 |n+8,hk=>absurd hk om1
theorem uz.congr{w:World}{b:Nat}{d e:Nat->Int}(h:uz w b d)(he: ∀ j,j<8->d j=e j):uz w b e:=by
 unfold uz at*;rw [← he 0 om1,← he 1 om1,← he 2 om1,← he 3 om1,← he 4 om1,← he 5 om1,← he 6 om1,← he 7 om1];exact h
theorem uz.free{w:World}{b:Nat}{d:Nat->Int}(h:uz w b d)(j:Nat):w.frozen? ⟨b,j,none⟩=false:=jV.free h j
theorem uz.drewN{w:World}{b:Nat}{d:Nat->Int}(h:uz w b d)(n:Nat):uz (w.drewN n) b d:=h
theorem uz.drew{w:World}{b:Nat}{d:Nat->Int}(h:uz w b d):uz w.drew b d:=h
theorem Gs: ∀ (k:Nat) (n:Int),wd k n=n/4294967296^k%4294967296
 |0,n=>by show n%4294967296=_;simp
 |k+1,n=>by
  show wd k (n/4294967296)=_
  have hp:(0:Int)<4294967296^k:=Int.pow_pos om1
  rw [Gs k,Int.ediv_ediv,if_neg (fun h=>absurd h.1 om1),Int.sub_zero,Int.pow_succ,Int.mul_comm]
theorem YU(X D E:Int)(hD:0<D)(hE:0<E)(hDE:D*E=4294967296):X/D%4294967296=X%4294967296/D+X/4294967296%4294967296*E%4294967296:=by
 have hX:X=D*(E*(X/4294967296))+X%4294967296:=by
  rw [← Int.mul_assoc,hDE];omega
 generalize hY:X/4294967296=Y at*;generalize hr:X%4294967296=r at*;have hr0:0<=r:=om1;have hr1:r<4294967296:=om1
 have e1:X/D=E*Y+r/D:=by
  rw [hX,Int.add_comm,Int.add_mul_ediv_left _ _ om1,Int.add_comm]
 have hlt:r/D<E:=Int.ediv_lt_of_lt_mul hD (by rw [Int.mul_comm,hDE];exact hr1);have h0:0<=r/D:=Int.ediv_nonneg hr0 om1
 have e2:Y%4294967296*E%4294967296=E*(Y%D):=by
  have:Y%4294967296*E%4294967296=Y*E%4294967296:=by
   rw [Int.mul_emod,Int.emod_emod_of_dvd _ (Int.dvd_refl _),← Int.mul_emod]
  rw [this,← hDE,Int.mul_comm D E,Int.mul_comm Y E,Int.mul_emod_mul_of_pos _ _ hE]
 have hm0:0<=Y%D:=Int.emod_nonneg _ om1;have hm1:Y%D<D:=Int.emod_lt_of_pos _ hD;rw [e2,e1]
 have hb:E*(Y%D)+r/D<4294967296:=by
  have:E*(Y%D+1)<=E*D:=Int.mul_le_mul_of_nonneg_left om1 om1;rw [Int.mul_add,Int.mul_comm E D,hDE] at this;omega
 have hb0:0<=E*(Y%D):=Int.mul_nonneg om1 hm0
 have:E*Y+r/D=E*(Y%D)+r/D+4294967296*(Y/D):=by
  have:=Int.emod_add_mul_ediv Y D;have h2:E*Y=E*(Y%D)+E*(D*(Y/D)):=by rw [← Int.mul_add,this]
  rw [h2,← Int.mul_assoc E D,Int.mul_comm E D,hDE];omega
 rw [this,Int.add_mul_emod_self_left,Int.emod_eq_of_lt om1 hb];omega
theorem uH(A D E:Int)(M k:Nat)(hD:0<D)(hE:0<E)(hDE:D*E=4294967296):wd k (A/(4294967296^M*D))=wd (k+M) A/D+wd (k+M+1) A*E%4294967296:=by
 have hp:(0:Int)<4294967296^k:=Int.pow_pos om1;have hq:(0:Int)<4294967296^M:=Int.pow_pos om1;have hpm:(0:Int)<4294967296^(k+M):=Int.pow_pos om1
 have e1:A/(4294967296^M*D)/4294967296^k=A/4294967296^(k+M)/D:=by
  rw [Int.ediv_ediv,if_neg (fun h=>absurd h.1 (Int.not_lt.2 (Int.le_of_lt (Int.mul_pos hq hD)))),Int.sub_zero,Int.ediv_ediv,if_neg (fun h=>absurd h.1 om1),Int.sub_zero,Int.pow_add,Int.mul_comm (4294967296^k) (4294967296^M),Int.mul_right_comm]
 have e2:A/4294967296^(k+M+1)=A/4294967296^(k+M)/4294967296:=by
  rw [Int.ediv_ediv,if_neg (fun h=>absurd h.1 om1),Int.sub_zero,Int.pow_succ]
 rw [Gs,Gs,Gs,e1,e2];exact YU _ D E hD hE hDE
theorem Lh{A:Int}(h:In8 A): ∀ k,8<=k->wd k A=0:=by
 intro k hk;rw [Gs];have hp:(0:Int)<4294967296^k:=Int.pow_pos om1
 have h1:(4294967296:Int)^8<=4294967296^k:=by
  obtain⟨j,rfl⟩: ∃ j,k=8+j:=⟨k- 8,om1⟩;rw [Int.pow_add];have:(1:Int)<=4294967296^j:=Int.pow_pos (show(0:Int)<4294967296 by omega);have:=Int.mul_le_mul_of_nonneg_left this (show(0:Int)<=4294967296^8 by decide);simpa using this
 have h2:(4294967296:Int)^8=115792089237316195423570985008687907853269984665640564039457584007913129639936:=by decide
 unfold In8 at h;rw [Int.ediv_eq_zero_of_lt h.1 om1];rfl
end Lg
end
section
open Go.RowKit Dec
namespace Dec
def bY(w:World)(v:Value)(z:Int):Prop:= ∃ d,v= .agg #[.bool (decide (z<0)),d]/\Rd w d (bZ z.natAbs)
theorem bY.below{w w':World}{v:Value}{z:Int}(h:bY w v z)(hb:Below w.heap.size w w'):bY w' v z:=by
 obtain⟨d,rfl,hd⟩:=h;exact⟨d,rfl,hd.below hb (Nat.le_refl _)⟩
theorem Qp{W w1:World}(hb:Below W.heap.size W w1):(∀ b o,b<W.heap.size->w1.cell? ⟨b,o,none⟩=W.cell? ⟨b,o,none⟩)/\(∀ b o,b<W.heap.size->w1.frozen? ⟨b,o,none⟩=W.frozen? ⟨b,o,none⟩):=
 ⟨fun b o h=>hb.cell (p:=⟨b,o,none⟩) h,fun b o h=>hb.frozen (p:=⟨b,o,none⟩) h⟩
theorem aW{w:World}{a p:Addr}{v:Value}(h:w.cell? a=some v)(hne:a.block≠p.block)(u:Value):(w.setCell p u).cell? a=some v:=
 (World.cell?_of_block (Below.heap_setCell w p u a.block hne)).trans h
theorem Rd.set{w:World}{v:Value}{l:List Nat}(h:Rd w v l){p:Addr}(u:Value)(hp: ∀ z,w.cell? p≠some (.int .i64 z)):Rd (w.setCell p u) v l:=by
 rcases h with h|⟨b,off,cap,hv,hc,hlt,hcell⟩
 · exact Or.inl h
 · refine Or.inr ⟨b,off,cap,hv,hc,hlt.set p u,fun t ht=> ?_⟩;rw [World.cell?_setCell_other,hcell t ht];intro e;subst e;exact hp _ (hcell t ht)
theorem Rd.set2{w:World}{v:Value}{l:List Nat}(h:Rd w v l){R:Nat}(q0:w.cell? ⟨R,0,none⟩=some (.bool false))(q1:w.cell? ⟨R,1,none⟩=some (.slice none 0 0))(u0 u1:Value):
 Rd ((w.setCell ⟨R,0,none⟩ u0).setCell ⟨R,1,none⟩ u1) v l:=by
 refine(h.set u0 (by intro z;rw [q0];simp)).set u1 ?_;intro z;have e:(⟨R,0,none⟩:Addr)≠⟨R,1,none⟩:=by simp
 rw [World.cell?_setCell_other w _ _ _ e,q1];simp
theorem Rd.lt{w:World}{v:Value}{l:List Nat}(h:Rd w v l): ∃ ao cap,v= .slice ao l.length cap:=by
 rcases h with⟨rfl,rfl⟩|⟨b,off,cap,rfl,_⟩
 · exact⟨_,_,rfl⟩
 · exact⟨_,_,rfl⟩
end Dec
theorem Qq(neg:Bool)(ao:Option Addr)(n cap:Nat)(w:World)(hn:n<=4000000):
 Calls Tryz.prog 185 #[.bool neg, .slice ao n cap] w fun e w'=>e= .returned (.agg #[.bool (neg && decide (0<n)), .slice ao n cap])/\Below w.heap.size w w':=by
 cases neg with
 |false=>
  go_enter Tryz.func185,Tryz.ntmps185
  go_wp2;exact bodyPost_ret (v:= .agg #[.bool false, .slice ao n cap]) (by simp [results,Tryz.results185,go_sem]) rfl ⟨rfl,(Below.refl _ _).alloc (Nat.le_refl _) _⟩
 |true=>
  go_enter Tryz.func185,Tryz.ntmps185
  go_wp2;exact bodyPost_ret (v:= .agg #[.bool (decide (0<n)), .slice ao n cap]) (by simp [results,Tryz.results185,go_sem]) rfl ⟨rfl,(Below.refl _ _).alloc (Nat.le_refl _) _⟩
theorem kS(neg:Bool)(d:Value)(x:Nat)(w:World)(hx:(bZ x).length<=4000000)(hd:Rd w d (bZ x)):
 Calls Tryz.prog 185 #[.bool neg,d] w fun e w'=>e= .returned (.agg #[.bool (neg && decide (0<x)),d])/\Below w.heap.size w w':=by
 obtain⟨ao,cap,rfl⟩:=hd.lt
 have e:decide (0<(bZ x).length)=decide (0<x):=by
  rw [decide_eq_decide];have:=gI x;rw [← List.length_eq_zero_iff] at this;omega
 have:=Qq neg ao _ cap w hx;rw [e] at this;exact this
theorem NF(neg:Bool)(ao:Option Addr)(n cap:Nat)(w:World)(hn:n<=4000000):
 Calls Tryz.prog 225 #[.agg #[.bool neg, .slice ao n cap]] w fun e w'=>e= .returned (.int .i64 (if n=0 then 0 else if neg then-1 else 1))/\Below w.heap.size w w':=by
 by_cases h:n=0
 · subst h;go_enter Tryz.func225,Tryz.ntmps225
   go_wp2;go_ret;exact⟨rfl,(Below.refl _ _).alloc (Nat.le_refl _) _⟩
 · cases neg
   · go_enter Tryz.func225,Tryz.ntmps225
     go_wp2;go_ret;exact⟨by simp [h],(Below.refl _ _).alloc (Nat.le_refl _) _⟩
   · go_enter Tryz.func225,Tryz.ntmps225
     go_wp2;go_ret;exact⟨by simp [h],(Below.refl _ _).alloc (Nat.le_refl _) _⟩
theorem yP(v:Value)(z:Int)(w:World)(hz:(bZ z.natAbs).length<=4000000)(h:bY w v z):
 Calls Tryz.prog 225 #[v] w fun e w'=>e= .returned (.int .i64 z.sign)/\Below w.heap.size w w':=by
 obtain⟨d,rfl,hd⟩:=h;obtain⟨ao,cap,rfl⟩:=hd.lt;refine(NF _ ao _ cap w hz).mono ?_;rintro e w' ⟨rfl,hw⟩;refine⟨oH ?_,hw⟩;have:=gI z.natAbs;rw [← List.length_eq_zero_iff] at this;by_cases h0:z=0
 · subst h0;rw [if_pos (this.2 rfl)];rfl
 · rw [if_neg om1];by_cases h1:z<0
   · simp [h1,Int.sign_eq_neg_one_of_neg h1]
   · have h2:0<z:=om1;simp [h1,Int.sign_eq_one_of_pos h2]
theorem YV(v:Value)(z:Int)(w:World)(hz:(bZ z.natAbs).length<=1000000)(h:bY w v z):
 Calls Tryz.prog 216 #[v] w fun e w'=> ∃ v',e= .returned v'/\bY w' v' (-z)/\Below w.heap.size w w':=by
 obtain⟨d,rfl,hd⟩:=h;obtain⟨ao,cap,hdv⟩:=hd.lt;obtain⟨n,hn⟩: ∃ n,n=(bZ z.natAbs).length:=⟨_,rfl⟩;rw [← hn] at hdv;subst hdv;clear hn;go_enter Tryz.func216,Tryz.ntmps216
 go_wp2_with fail
 refine(kS _ _ z.natAbs _ om1 (hd.below (((Below.refl _ _).alloc (Nat.le_refl _) _).alloc (by simp) _) (Nat.le_refl _))).mono ?_;rintro e w1 ⟨rfl,hb⟩;obtain⟨hc,hf⟩:=Qp hb;have hz:=hb.size;simp at hz
 have hB:Below w.heap.size w ((w1.setCell ⟨w.heap.size+1,0,none⟩ (.bool (!decide (z<0) && !decide (z=0)))).setCell ⟨w.heap.size+1,1,none⟩ (.slice ao n cap)):=
  (((((Below.refl _ _).alloc (Nat.le_refl _) _).alloc (by simp) _).trans (hb.mono (by simp;omega))).setCell (by simp) _).setCell (by simp) _
 go_wp2;refine bodyPost_ret (v:= .agg #[.bool (!decide (z<0) && !decide (z=0)), .slice ao n cap]) (by simp [results,Tryz.results216,go_sem,hc,hz]) rfl ⟨_,rfl,⟨.slice ao n cap, ?_, ?_⟩,hB⟩
 · have e:(!decide (z<0) && !decide (z=0))=decide (-z<0):=by
    rw [Bool.eq_iff_iff];simp;omega
   rw [e]
 · rw [Int.natAbs_neg];exact hd.below hB (Nat.le_refl _)
attribute [local go_sem ↓] Go.wp_at_zero Go.wp_at_succ
theorem add_same(neg:Bool)(ao bo:Option Addr)(n m ca cb x y:Nat)(w:World)(hx:(bZ x).length<=1000000)(hy:(bZ y).length<=1000000)(ha:Rd w (.slice ao n ca) (bZ x))(hb:Rd w (.slice bo m cb) (bZ y)):
 Calls Tryz.prog 98 #[.agg #[.bool neg, .slice ao n ca], .agg #[.bool neg, .slice bo m cb]] w fun e w'=> ∃ d,e= .returned (.agg #[.bool (neg && decide (0<x+y)),d])/\Rd w' d (bZ (x+y))/\Below w.heap.size w w':=by
 have hs4:(bZ (x+y)).length<=4000000:=by
  have:=vH x y;omega
 go_enter Tryz.func98,Tryz.ntmps98
 go_wp2
 go_region_held3 (fun w'=>w'.cell? ⟨w.heap.size,0,none⟩=some (.bool neg)/\w'.cell? ⟨w.heap.size,1,none⟩=some (.slice ao n ca)/\w'.cell? ⟨w.heap.size+1,1,none⟩=some (.slice bo m cb)) (first|exact⟨aW (aW (ah hb2 k0) (show w.heap.size≠w.heap.size+1+1 by omega) _) (show w.heap.size≠w.heap.size+1+1 by omega) _,aW (aW (ah hb2 k1) (show w.heap.size≠w.heap.size+1+1 by omega) _) (show w.heap.size≠w.heap.size+1+1 by omega) _,aW (aW (ah hb2 k2) (show w.heap.size+1≠w.heap.size+1+1 by omega) _) (show w.heap.size+1≠w.heap.size+1+1 by omega) _⟩|exact⟨ah hb2 k0,ah hb2 k1,ah hb2 k2⟩|exact⟨k0,k1,k2⟩|go_keep)
  (first
   |(go_at_call 186;refine(U5 _ _ x y _ hx hy (ha.below (af (af (af (Below.refl _ _) _) _) _).drew (Nat.le_refl _)) (hb.below (af (af (af (Below.refl _ _) _) _) _).drew (Nat.le_refl _))).mono ?_;rintro e w1 ⟨v1,rfl,hrd1,hb1⟩;obtain⟨a1,c1,hv1⟩:=hrd1.lt;subst hv1;have r0:w1.cell? ⟨w.heap.size+1+1,0,none⟩=some (.bool false):=ah hb1 (by go_simp);have r1:w1.cell? ⟨w.heap.size+1+1,1,none⟩=some (.slice none 0 0):=ah hb1 (by go_simp);have g0:w1.frozen? ⟨w.heap.size+1+1,0,none⟩=false:=eP hb1 (v:= .bool false) (by go_simp) (by go_simp);have g1:w1.frozen? ⟨w.heap.size+1+1,1,none⟩=false:=eP hb1 (v:= .slice none 0 0) (by go_simp) (by go_simp);have k0:w1.cell? ⟨w.heap.size,0,none⟩=some (.bool neg):=ah hb1 (by go_simp);have k1:w1.cell? ⟨w.heap.size,1,none⟩=some (.slice ao n ca):=ah hb1 (by go_simp);have k2:w1.cell? ⟨w.heap.size+1,1,none⟩=some (.slice bo m cb):=ah hb1 (by go_simp))
   |(go_at_call 185;refine(kS _ _ (x+y) _ hs4 hrd1).mono ?_;rintro e w2 ⟨rfl,hb2⟩;have q0:w2.cell? ⟨w.heap.size+1+1,0,none⟩=some (.bool false):=ah hb2 r0;have q1:w2.cell? ⟨w.heap.size+1+1,1,none⟩=some (.slice none 0 0):=ah hb2 r1;have f0:w2.frozen? ⟨w.heap.size+1+1,0,none⟩=false:=eP hb2 r0 g0;have f1:w2.frozen? ⟨w.heap.size+1+1,1,none⟩=false:=eP hb2 r1 g1))
 go_wp2;have hB:=(((ae (af (af (af (Below.refl _ _) _) _) _).drew (ae hb1 hb2)).setCell (p:=⟨w.heap.size+1+1,0,none⟩) (show w.heap.size<=w.heap.size+1+1 by omega) (.bool (neg && decide (0<x+y)))).setCell (p:=⟨w.heap.size+1+1,1,none⟩) (show w.heap.size<=w.heap.size+1+1 by omega) (.slice a1 (bZ (x+y)).length c1));have hR:=(hrd1.below hb2 (Nat.le_refl _)).set2 q0 q1 (.bool (neg && decide (0<x+y))) (.slice a1 (bZ (x+y)).length c1);exact bodyPost_ret (v:= .agg #[.bool (neg && decide (0<x+y)), .slice a1 (bZ (x+y)).length c1]) (by simp [results,Tryz.results98,go_sem,q0,q1]) rfl ⟨_,rfl,hR,hB⟩
theorem Va(neg:Bool)(ao bo:Option Addr)(n m ca cb x y:Nat)(w:World)(hx:(bZ x).length<=1000000)(hy:(bZ y).length<=1000000)(ha:Rd w (.slice ao n ca) (bZ x))(hb:Rd w (.slice bo m cb) (bZ y)):
 Calls Tryz.prog 98 #[.agg #[.bool neg, .slice ao n ca], .agg #[.bool !neg, .slice bo m cb]] w fun e w'=> ∃ d,e= .returned (.agg #[.bool (if x<y then(!neg && decide (0<y- x)) else(neg && decide (0<x- y))),d])/\Rd w' d (bZ (if x<y then y- x else x- y))/\Below w.heap.size w w':=by
 by_cases hxy:x<y
 ·rw [if_pos hxy,if_pos hxy]
  have hs4:(bZ (y- x)).length<=4000000:=by
   have:=bg (Nat.sub_le y x);omega
  have hle:x<=y:=om1;go_enter Tryz.func98,Tryz.ntmps98
  go_wp2_with fail
  refine(yN _ _ x y _ hx hy (ha.below (af (af (af (Below.refl _ _) _) _) _) (Nat.le_refl _)) (hb.below (af (af (af (Below.refl _ _) _) _) _) (Nat.le_refl _))).mono ?_;rintro e w0 ⟨rfl,hb0⟩;have hd:decide (x<y)=true:=decide_eq_true hxy;have j0:w0.cell? ⟨w.heap.size,1,none⟩=some (.slice ao n ca):=ah hb0 (by go_simp);have j1:w0.cell? ⟨w.heap.size+1,0,none⟩=some (.bool !neg):=ah hb0 (by go_simp);have j2:w0.cell? ⟨w.heap.size+1,1,none⟩=some (.slice bo m cb):=ah hb0 (by go_simp);have p0:w0.cell? ⟨w.heap.size+1+1,0,none⟩=some (.bool false):=ah hb0 (by go_simp);have p1:w0.cell? ⟨w.heap.size+1+1,1,none⟩=some (.slice none 0 0):=ah hb0 (by go_simp);have s0:w0.frozen? ⟨w.heap.size+1+1,0,none⟩=false:=eP hb0 (v:= .bool false) (by go_simp) (by go_simp);have s1:w0.frozen? ⟨w.heap.size+1+1,1,none⟩=false:=eP hb0 (v:= .slice none 0 0) (by go_simp) (by go_simp);have ha0:=ha.below (ae (af (af (af (Below.refl _ _) _) _) _) hb0) (Nat.le_refl _);have hb00:=hb.below (ae (af (af (af (Below.refl _ _) _) _) _) hb0) (Nat.le_refl _);go_wp2
  go_region_held3 (fun w'=>w'.cell? ⟨w.heap.size,1,none⟩=some (.slice ao n ca)/\w'.cell? ⟨w.heap.size+1,0,none⟩=some (.bool !neg)/\w'.cell? ⟨w.heap.size+1,1,none⟩=some (.slice bo m cb)) (first|exact⟨aW (aW (ah hb2 k0) (show w.heap.size≠w.heap.size+1+1 by omega) _) (show w.heap.size≠w.heap.size+1+1 by omega) _,aW (aW (ah hb2 k1) (show w.heap.size+1≠w.heap.size+1+1 by omega) _) (show w.heap.size+1≠w.heap.size+1+1 by omega) _,aW (aW (ah hb2 k2) (show w.heap.size+1≠w.heap.size+1+1 by omega) _) (show w.heap.size+1≠w.heap.size+1+1 by omega) _⟩|exact⟨ah hb2 k0,ah hb2 k1,ah hb2 k2⟩|exact⟨k0,k1,k2⟩|exact⟨j0,j1,j2⟩|go_keep)
   (first
    |(go_at_call 188;refine(vN _ _ y x _ hy hle (hb00.below (Below.refl _ _).drew (Nat.le_refl _)) (ha0.below (Below.refl _ _).drew (Nat.le_refl _))).mono ?_;rintro e w1 ⟨v1,rfl,hrd1,hb1⟩;obtain⟨a1,c1,hv1⟩:=hrd1.lt;subst hv1;have r0:w1.cell? ⟨w.heap.size+1+1,0,none⟩=some (.bool false):=ah hb1 (by go_simp);have r1:w1.cell? ⟨w.heap.size+1+1,1,none⟩=some (.slice none 0 0):=ah hb1 (by go_simp);have g0:w1.frozen? ⟨w.heap.size+1+1,0,none⟩=false:=eP hb1 (v:= .bool false) (by go_simp) (by go_simp);have g1:w1.frozen? ⟨w.heap.size+1+1,1,none⟩=false:=eP hb1 (v:= .slice none 0 0) (by go_simp) (by go_simp);have k0:w1.cell? ⟨w.heap.size,1,none⟩=some (.slice ao n ca):=ah hb1 (by go_simp);have k1:w1.cell? ⟨w.heap.size+1,0,none⟩=some (.bool !neg):=ah hb1 (by go_simp);have k2:w1.cell? ⟨w.heap.size+1,1,none⟩=some (.slice bo m cb):=ah hb1 (by go_simp))
    |(go_at_call 185;refine(kS _ _ (y- x) _ hs4 hrd1).mono ?_;rintro e w2 ⟨rfl,hb2⟩;have q0:w2.cell? ⟨w.heap.size+1+1,0,none⟩=some (.bool false):=ah hb2 r0;have q1:w2.cell? ⟨w.heap.size+1+1,1,none⟩=some (.slice none 0 0):=ah hb2 r1;have f0:w2.frozen? ⟨w.heap.size+1+1,0,none⟩=false:=eP hb2 r0 g0;have f1:w2.frozen? ⟨w.heap.size+1+1,1,none⟩=false:=eP hb2 r1 g1))
  go_wp2;have hB:=(((ae (ae (af (af (af (Below.refl _ _) _) _) _) hb0).drew (ae hb1 hb2)).setCell (p:=⟨w.heap.size+1+1,0,none⟩) (show w.heap.size<=w.heap.size+1+1 by omega) (.bool (!neg && decide (0<y- x)))).setCell (p:=⟨w.heap.size+1+1,1,none⟩) (show w.heap.size<=w.heap.size+1+1 by omega) (.slice a1 (bZ (y- x)).length c1));have hR:=(hrd1.below hb2 (Nat.le_refl _)).set2 q0 q1 (.bool (!neg && decide (0<y- x))) (.slice a1 (bZ (y- x)).length c1);exact bodyPost_ret (v:= .agg #[.bool (!neg && decide (0<y- x)), .slice a1 (bZ (y- x)).length c1]) (by simp [results,Tryz.results98,go_sem,q0,q1]) rfl ⟨_,rfl,hR,hB⟩
 ·rw [if_neg hxy,if_neg hxy]
  have hs4:(bZ (x- y)).length<=4000000:=by
   have:=bg (Nat.sub_le x y);omega
  have hle:y<=x:=om1;go_enter Tryz.func98,Tryz.ntmps98
  go_wp2_with fail
  refine(yN _ _ x y _ hx hy (ha.below (af (af (af (Below.refl _ _) _) _) _) (Nat.le_refl _)) (hb.below (af (af (af (Below.refl _ _) _) _) _) (Nat.le_refl _))).mono ?_;rintro e w0 ⟨rfl,hb0⟩;have hd:decide (x<y)=false:=decide_eq_false hxy;have j0:w0.cell? ⟨w.heap.size,0,none⟩=some (.bool neg):=ah hb0 (by go_simp);have j1:w0.cell? ⟨w.heap.size,1,none⟩=some (.slice ao n ca):=ah hb0 (by go_simp);have j2:w0.cell? ⟨w.heap.size+1,1,none⟩=some (.slice bo m cb):=ah hb0 (by go_simp);have p0:w0.cell? ⟨w.heap.size+1+1,0,none⟩=some (.bool false):=ah hb0 (by go_simp);have p1:w0.cell? ⟨w.heap.size+1+1,1,none⟩=some (.slice none 0 0):=ah hb0 (by go_simp);have s0:w0.frozen? ⟨w.heap.size+1+1,0,none⟩=false:=eP hb0 (v:= .bool false) (by go_simp) (by go_simp);have s1:w0.frozen? ⟨w.heap.size+1+1,1,none⟩=false:=eP hb0 (v:= .slice none 0 0) (by go_simp) (by go_simp);have ha0:=ha.below (ae (af (af (af (Below.refl _ _) _) _) _) hb0) (Nat.le_refl _);have hb00:=hb.below (ae (af (af (af (Below.refl _ _) _) _) _) hb0) (Nat.le_refl _);go_wp2
  go_region_held3 (fun w'=>w'.cell? ⟨w.heap.size,0,none⟩=some (.bool neg)/\w'.cell? ⟨w.heap.size,1,none⟩=some (.slice ao n ca)/\w'.cell? ⟨w.heap.size+1,1,none⟩=some (.slice bo m cb)) (first|exact⟨aW (aW (ah hb2 k0) (show w.heap.size≠w.heap.size+1+1 by omega) _) (show w.heap.size≠w.heap.size+1+1 by omega) _,aW (aW (ah hb2 k1) (show w.heap.size≠w.heap.size+1+1 by omega) _) (show w.heap.size≠w.heap.size+1+1 by omega) _,aW (aW (ah hb2 k2) (show w.heap.size+1≠w.heap.size+1+1 by omega) _) (show w.heap.size+1≠w.heap.size+1+1 by omega) _⟩|exact⟨ah hb2 k0,ah hb2 k1,ah hb2 k2⟩|exact⟨k0,k1,k2⟩|exact⟨j0,j1,j2⟩|go_keep)
   (first
    |(go_at_call 188;refine(vN _ _ x y _ hx hle (ha0.below (Below.refl _ _).drew (Nat.le_refl _)) (hb00.below (Below.refl _ _).drew (Nat.le_refl _))).mono ?_;rintro e w1 ⟨v1,rfl,hrd1,hb1⟩;obtain⟨a1,c1,hv1⟩:=hrd1.lt;subst hv1;have r0:w1.cell? ⟨w.heap.size+1+1,0,none⟩=some (.bool false):=ah hb1 (by go_simp);have r1:w1.cell? ⟨w.heap.size+1+1,1,none⟩=some (.slice none 0 0):=ah hb1 (by go_simp);have g0:w1.frozen? ⟨w.heap.size+1+1,0,none⟩=false:=eP hb1 (v:= .bool false) (by go_simp) (by go_simp);have g1:w1.frozen? ⟨w.heap.size+1+1,1,none⟩=false:=eP hb1 (v:= .slice none 0 0) (by go_simp) (by go_simp);have k0:w1.cell? ⟨w.heap.size,0,none⟩=some (.bool neg):=ah hb1 (by go_simp);have k1:w1.cell? ⟨w.heap.size,1,none⟩=some (.slice ao n ca):=ah hb1 (by go_simp);have k2:w1.cell? ⟨w.heap.size+1,1,none⟩=some (.slice bo m cb):=ah hb1 (by go_simp))
    |(go_at_call 185;refine(kS _ _ (x- y) _ hs4 hrd1).mono ?_;rintro e w2 ⟨rfl,hb2⟩;have q0:w2.cell? ⟨w.heap.size+1+1,0,none⟩=some (.bool false):=ah hb2 r0;have q1:w2.cell? ⟨w.heap.size+1+1,1,none⟩=some (.slice none 0 0):=ah hb2 r1;have f0:w2.frozen? ⟨w.heap.size+1+1,0,none⟩=false:=eP hb2 r0 g0;have f1:w2.frozen? ⟨w.heap.size+1+1,1,none⟩=false:=eP hb2 r1 g1))
  go_wp2;have hB:=(((ae (ae (af (af (af (Below.refl _ _) _) _) _) hb0).drew (ae hb1 hb2)).setCell (p:=⟨w.heap.size+1+1,0,none⟩) (show w.heap.size<=w.heap.size+1+1 by omega) (.bool (neg && decide (0<x- y)))).setCell (p:=⟨w.heap.size+1+1,1,none⟩) (show w.heap.size<=w.heap.size+1+1 by omega) (.slice a1 (bZ (x- y)).length c1));have hR:=(hrd1.below hb2 (Nat.le_refl _)).set2 q0 q1 (.bool (neg && decide (0<x- y))) (.slice a1 (bZ (x- y)).length c1);exact bodyPost_ret (v:= .agg #[.bool (neg && decide (0<x- y)), .slice a1 (bZ (x- y)).length c1]) (by simp [results,Tryz.results98,go_sem,q0,q1]) rfl ⟨_,rfl,hR,hB⟩
end
section
open Go.RowKit Dec
namespace Dec
def gQ(w:World)(g:Nat)(x y:Value):Prop:=w.heap[g]?=some (.cells #[x,y] 190 (0,0))
theorem gQ.lt{w:World}{g:Nat}{x y:Value}(h:gQ w g x y):g<w.heap.size:=by
 rcases Nat.lt_or_ge g w.heap.size with k|k
 · exact k
 · unfold gQ at h;rw [Array.getElem?_eq_none k] at h;cases h
theorem dD(w:World)(x y:Value):gQ (w.alloc (.cells #[x,y] 190)) w.heap.size x y:=heap_alloc_new w _
theorem jI(w:World){g:Nat}(hg:g=w.heap.size)(x y:Value):gQ (w.alloc (.cells #[x,y] 190)) g x y:=by rw [hg];exact dD w x y
theorem gQ.alloc{w:World}{g:Nat}{x y:Value}(h:gQ w g x y)(o:Obj):gQ (w.alloc o) g x y:=by
 unfold gQ;rw [Below.heap_alloc w o g h.lt];exact h
theorem gQ.keep{w w':World}{g:Nat}{x y:Value}(h:gQ w g x y)(hb:Below w.heap.size w w'):gQ w' g x y:=by
 unfold gQ;rw [hb.block g h.lt];exact h
theorem gQ.drew{w:World}{g:Nat}{x y:Value}(h:gQ w g x y):gQ w.drew g x y:=h
theorem gQ.set2{w:World}{g:Nat}{x y:Value}(h:gQ w g x y)(u v:Value):gQ ((w.setCell ⟨g,0,none⟩ u).setCell ⟨g,1,none⟩ v) g u v:=by
 have h1:(w.setCell ⟨g,0,none⟩ u).heap[g]?=some (.cells #[u,y] 190 (0,0)):=heap_setCell_same w g 0 _ _ _ h;exact heap_setCell_same _ g 1 _ _ _ h1
theorem gQ.other{w:World}{g:Nat}{x y:Value}(h:gQ w g x y){p:Addr}(u:Value)(hne:g≠p.block):gQ (w.setCell p u) g x y:=by
 unfold gQ;rw [heap_setCell_other w p g u hne];exact h
theorem gQ.ig{w:World}{g g0:Nat}{x y:Value}(h:gQ w g x y)(hne:g≠g0)(u0 u1:Value):gQ ((w.setCell ⟨g0,0,none⟩ u0).setCell ⟨g0,1,none⟩ u1) g x y:=(h.other u0 hne).other u1 hne
theorem AL(w:World)(g0:Nat)(u0 u1 x y:Value):gQ (((w.setCell ⟨g0,0,none⟩ u0).setCell ⟨g0,1,none⟩ u1).alloc (.cells #[x,y] 190)) w.heap.size x y:=by
 have h:=dD ((w.setCell ⟨g0,0,none⟩ u0).setCell ⟨g0,1,none⟩ u1) x y;simpa [World.setCell] using h
theorem gQ.c0{w:World}{g:Nat}{x y:Value}(h:gQ w g x y):w.cell? ⟨g,0,none⟩=some x:=by rw [cell_of_row w g 0 _ _ (0,0) h];rfl
theorem gQ.c1{w:World}{g:Nat}{x y:Value}(h:gQ w g x y):w.cell? ⟨g,1,none⟩=some y:=by rw [cell_of_row w g 1 _ _ (0,0) h];rfl
theorem gQ.free{w:World}{g:Nat}{x y:Value}(h:gQ w g x y)(j:Nat):w.frozen? ⟨g,j,none⟩=false:=frozen_of_row w g j _ _ h
theorem Rd.jC{w:World}{v:Value}{l:List Nat}(h:Rd w v l){g:Nat}{p:Bool}{ao:Option Addr}{n c:Nat}(hr:gQ w g (.bool p) (.slice ao n c))(u0 u1:Value):
 Rd ((w.setCell ⟨g,0,none⟩ u0).setCell ⟨g,1,none⟩ u1) v l:=by
 refine(h.set u0 (by intro z;rw [hr.c0];simp)).set u1 ?_;intro z;have e:(⟨g,0,none⟩:Addr)≠⟨g,1,none⟩:=by simp
 rw [World.cell?_setCell_other w _ _ _ e,hr.c1];simp
theorem bY.jC{w:World}{v:Value}{z:Int}(h:bY w v z){g:Nat}{p:Bool}{ao:Option Addr}{n c:Nat}(hr:gQ w g (.bool p) (.slice ao n c))(u0 u1:Value):
 bY ((w.setCell ⟨g,0,none⟩ u0).setCell ⟨g,1,none⟩ u1) v z:=by
 obtain⟨d,hv,hd⟩:=h;exact⟨d,hv,hd.jC hr u0 u1⟩
theorem bY.form{w:World}{v:Value}{z:Int}(h:bY w v z): ∃ a L c,v= .agg #[.bool (decide (z<0)), .slice a L c]:=by
 obtain⟨d,hv,hd⟩:=h;obtain⟨a,c,rfl⟩:=hd.lt;exact⟨a,_,c,hv⟩
theorem bY.NH{w:World}{v:Value}{n:Nat}(h:bY w v (n:Int)): ∃ a L c,v= .agg #[.bool false, .slice a L c]:=by
 obtain⟨a,L,c,hv⟩:=h.form;rw [decide_eq_false (Int.not_lt.2 (Int.natCast_nonneg n))] at hv;exact⟨a,L,c,hv⟩
theorem qI(n:Nat):(bZ (n:Int).natAbs).length=(bZ n).length:=by rw [Int.natAbs_natCast]
theorem aV{B g:Nat}{w0 w:World}(h:Below B w0 w)(hg:B<=g)(u0 u1:Value):Below B w0 ((w.setCell ⟨g,0,none⟩ u0).setCell ⟨g,1,none⟩ u1):=
 (h.setCell (p:=⟨g,0,none⟩) hg u0).setCell (p:=⟨g,1,none⟩) hg u1
theorem jg{w:World}{a:Addr}{v:Value}(h:w.cell? a=some v):w.drew.cell? a=some v:=h
theorem dh{w:World}{a:Addr}{v:Value}(o:Obj)(h:w.cell? a=some v):(w.alloc o).cell? a=some v:=ah (af (Below.refl _ _) o) h
theorem bY.drew{w:World}{v:Value}{z:Int}(h:bY w v z):bY w.drew v z:=h.below (Below.refl _ _).drew
theorem bY.alloc{w:World}{v:Value}{z:Int}(h:bY w v z)(o:Obj):bY (w.alloc o) v z:=h.below (af (Below.refl _ _) o)
end Dec
end
section
open Go.RowKit Dec
theorem add_any(va vb:Value)(x y:Int)(w:World)(hx:(bZ x.natAbs).length<=1000000)(hy:(bZ y.natAbs).length<=1000000)(ha:bY w va x)(hb:bY w vb y):
 Calls Tryz.prog 98 #[va,vb] w fun e w'=> ∃ v,e= .returned v/\bY w' v (x+y)/\Below w.heap.size w w':=by
 obtain⟨da,rfl,hda⟩:=ha;obtain⟨db,rfl,hdb⟩:=hb;obtain⟨ao,ca,rfl⟩:=hda.lt;obtain⟨bo,cb,rfl⟩:=hdb.lt;by_cases h:decide (x<0)=decide (y<0)
 · have:=add_same (decide (x<0)) ao bo _ _ ca cb x.natAbs y.natAbs w hx hy hda hdb;rw [← h];refine this.mono ?_;rintro e w' ⟨d,rfl,hd,hw⟩;have h2:x<0↔y<0:=by simpa using h
   refine⟨_,rfl,⟨d, ?_, ?_⟩,hw⟩
   · have e:(decide (x<0) && decide (0<x.natAbs+y.natAbs))=decide (x+y<0):=by
      rw [Bool.eq_iff_iff];simp;omega
     rw [e]
   · rw [show(x+y).natAbs=x.natAbs+y.natAbs by omega];exact hd
 · have h2: ¬(x<0↔y<0):=by simpa using h
   have e:decide (y<0)= !decide (x<0):=by
    rw [Bool.eq_iff_iff];simp;omega
   rw [e];refine(Va (decide (x<0)) ao bo _ _ ca cb x.natAbs y.natAbs w hx hy hda hdb).mono ?_;rintro e1 w' ⟨d,rfl,hd,hw⟩;refine⟨_,rfl,⟨d, ?_, ?_⟩,hw⟩
   · have e:(if x.natAbs<y.natAbs then(!decide (x<0) && decide (0<y.natAbs- x.natAbs)) else(decide (x<0) && decide (0<x.natAbs- y.natAbs)))=decide (x+y<0):=by
      split
      · rw [Bool.eq_iff_iff];simp;omega
      · rw [Bool.eq_iff_iff];simp;omega
     rw [e]
   · rw [show(x+y).natAbs=if x.natAbs<y.natAbs then y.natAbs- x.natAbs else x.natAbs- y.natAbs by split<;>omega];exact hd
attribute [local go_sem ↓] Go.wp_at_zero Go.wp_at_succ
theorem xH(va vb:Value)(x y:Int)(w:World)(hx:(bZ x.natAbs).length<=1000000)(hy:(bZ y.natAbs).length<=1000000)(ha:bY w va x)(hb:bY w vb y):
 Calls Tryz.prog 132 #[va,vb] w fun e w'=> ∃ v,e= .returned v/\bY w' v (x- y)/\Below w.heap.size w w':=by
 have hx':=ha;have hy':=hb;obtain⟨da,rfl,hda⟩:=ha;obtain⟨db,rfl,hdb⟩:=hb;obtain⟨ao,ca,hda2⟩:=hda.lt;obtain⟨bo,cb,hdb2⟩:=hdb.lt;obtain⟨n,hn⟩: ∃ n,n=(bZ x.natAbs).length:=⟨_,rfl⟩;obtain⟨m,hm⟩: ∃ n,n=(bZ y.natAbs).length:=⟨_,rfl⟩;rw [← hn] at hda2;rw [← hm] at hdb2;subst hda2 hdb2;clear hn hm;have hyn:(bZ (-y).natAbs).length<=1000000:=by rw [Int.natAbs_neg];exact hy
 obtain⟨p,hp⟩: ∃ p,p=decide (x<0):=⟨_,rfl⟩;obtain⟨q,hq⟩: ∃ p,p=decide (y<0):=⟨_,rfl⟩;rw [← hp] at hx';rw [← hq] at hy';rw [← hp,← hq];clear hp hq;go_enter Tryz.func132,Tryz.ntmps132
 go_wp2
 go_region_held3 (fun w'=>w'.cell? ⟨w.heap.size,0,none⟩=some (.bool p)/\w'.cell? ⟨w.heap.size,1,none⟩=some (.slice ao n ca)/\w'.cell? ⟨w.heap.size+1,0,none⟩=some (.bool q)/\w'.cell? ⟨w.heap.size+1,1,none⟩=some (.slice bo m cb))
  (first|exact⟨aW (aW (ah hb2 k0) (show w.heap.size≠w.heap.size+1+1 by omega) _) (show w.heap.size≠w.heap.size+1+1 by omega) _,aW (aW (ah hb2 k1) (show w.heap.size≠w.heap.size+1+1 by omega) _) (show w.heap.size≠w.heap.size+1+1 by omega) _,aW (aW (ah hb2 k2) (show w.heap.size+1≠w.heap.size+1+1 by omega) _) (show w.heap.size+1≠w.heap.size+1+1 by omega) _,aW (aW (ah hb2 k3) (show w.heap.size+1≠w.heap.size+1+1 by omega) _) (show w.heap.size+1≠w.heap.size+1+1 by omega) _⟩|exact⟨ah hb2 k0,ah hb2 k1,ah hb2 k2,ah hb2 k3⟩|exact⟨k0,k1,k2,k3⟩|go_keep)
  (first
   |(go_at_call 216;refine(YV _ y _ hy (hy'.below (af (af (af (Below.refl _ _) _) _) _).drew)).mono ?_;rintro e w1 ⟨v1,rfl,hn1,hb1⟩;have r0:w1.cell? ⟨w.heap.size+1+1,0,none⟩=some (.bool false):=ah hb1 (by go_simp);have r1:w1.cell? ⟨w.heap.size+1+1,1,none⟩=some (.slice none 0 0):=ah hb1 (by go_simp);have g0:w1.frozen? ⟨w.heap.size+1+1,0,none⟩=false:=eP hb1 (v:= .bool false) (by go_simp) (by go_simp);have g1:w1.frozen? ⟨w.heap.size+1+1,1,none⟩=false:=eP hb1 (v:= .slice none 0 0) (by go_simp) (by go_simp);have k0:w1.cell? ⟨w.heap.size,0,none⟩=some (.bool p):=ah hb1 (by go_simp);have k1:w1.cell? ⟨w.heap.size,1,none⟩=some (.slice ao n ca):=ah hb1 (by go_simp);have k2:w1.cell? ⟨w.heap.size+1,0,none⟩=some (.bool q):=ah hb1 (by go_simp);have k3:w1.cell? ⟨w.heap.size+1,1,none⟩=some (.slice bo m cb):=ah hb1 (by go_simp))
   |(go_at_call 98;refine(add_any _ _ x (-y) _ hx hyn (hx'.below (ae (af (af (af (Below.refl _ _) _) _) _).drew hb1)) hn1).mono ?_;rintro e w2 ⟨v2,rfl,⟨d2,rfl,hd2⟩,hb2⟩;obtain⟨a2,c2,hv2⟩:=hd2.lt;subst hv2;have q0:w2.cell? ⟨w.heap.size+1+1,0,none⟩=some (.bool false):=ah hb2 r0;have q1:w2.cell? ⟨w.heap.size+1+1,1,none⟩=some (.slice none 0 0):=ah hb2 r1;have f0:w2.frozen? ⟨w.heap.size+1+1,0,none⟩=false:=eP hb2 r0 g0;have f1:w2.frozen? ⟨w.heap.size+1+1,1,none⟩=false:=eP hb2 r1 g1))
 go_wp2;have hB:=(((ae (af (af (af (Below.refl _ w) _) _) _).drew (ae hb1 hb2)).setCell (p:=⟨w.heap.size+1+1,0,none⟩) (show w.heap.size<=w.heap.size+1+1 by omega) (.bool (decide (x+ -y<0)))).setCell (p:=⟨w.heap.size+1+1,1,none⟩) (show w.heap.size<=w.heap.size+1+1 by omega) (.slice a2 (bZ (x+ -y).natAbs).length c2));have hR:=hd2.set2 q0 q1 (.bool (decide (x+ -y<0))) (.slice a2 (bZ (x+ -y).natAbs).length c2);refine bodyPost_ret (v:= .agg #[.bool (decide (x+ -y<0)), .slice a2 (bZ (x+ -y).natAbs).length c2]) (by simp [results,Tryz.results132,go_sem,q0,q1]) rfl ⟨_,rfl, ?_,hB⟩;rw [Int.sub_eq_add_neg];exact⟨_,rfl,hR⟩
theorem uI(va vb:Value)(x y:Int)(w:World)(hx:(bZ x.natAbs).length<=1000000)(hy:(bZ y.natAbs).length<=1000000)(ha:bY w va x)(hb:bY w vb y):
 Calls Tryz.prog 184 #[va,vb] w fun e w'=>e= .returned (.int .i64 (x- y).sign)/\Below w.heap.size w w':=by
 have hx':=ha;have hy':=hb
 have hl:(bZ (x- y).natAbs).length<=4000000:=by
  have h1:=vH x.natAbs y.natAbs;have h2:=bg (show(x- y).natAbs<=x.natAbs+y.natAbs by omega);omega
 obtain⟨da,rfl,hda⟩:=ha;obtain⟨db,rfl,hdb⟩:=hb;obtain⟨ao,ca,hda2⟩:=hda.lt;obtain⟨bo,cb,hdb2⟩:=hdb.lt;obtain⟨n,hn⟩: ∃ n,n=(bZ x.natAbs).length:=⟨_,rfl⟩;obtain⟨m,hm⟩: ∃ n,n=(bZ y.natAbs).length:=⟨_,rfl⟩;rw [← hn] at hda2;rw [← hm] at hdb2;subst hda2 hdb2;clear hn hm;obtain⟨p,hp⟩: ∃ p,p=decide (x<0):=⟨_,rfl⟩;obtain⟨q,hq⟩: ∃ p,p=decide (y<0):=⟨_,rfl⟩;rw [← hp] at hx';rw [← hq] at hy';rw [← hp,← hq];clear hp hq;go_enter Tryz.func184,Tryz.ntmps184
 go_wp2_with fail
 refine(xH _ _ x y _ hx hy (hx'.below (af (af (Below.refl _ _) _) _)) (hy'.below (af (af (Below.refl _ _) _) _))).mono ?_;rintro e w1 ⟨v1,rfl,hn1,hb1⟩;go_wp2_with fail
 refine(yP _ (x- y) _ hl hn1).mono ?_;rintro e w2 ⟨rfl,hb2⟩;go_wp2;go_ret;exact⟨rfl,ae (af (af (Below.refl _ _) _) _) (ae hb1 hb2)⟩
end
section
open Go.RowKit Dec
theorem Hid.mk'{p:Prop}(h:p):Hid p:=h
theorem of_pos(n:Int)(w:World)(h0:0<=n)(h1:n<=9223372036854775807):
 Calls Tryz.prog 99 #[.int .i64 n] w fun e w'=> ∃ v,e= .returned v/\bY w' v n/\Below w.heap.size w w':=by
 have hlen:(bZ n.natAbs).length<=19:=bH om1;have hw:n=((n.natAbs:Nat):Int):=om1;have Hw:=Hid.mk' hw;clear hw;go_enter Tryz.func99,Tryz.ntmps99
 go_wp2;go_loopw [3,4] (fun v d wr=> ∃ (x:Nat) (o:List Nat),v= .int .u64 x/\x<=9223372036854775808/\UT x o n.natAbs/\Own (w.heap.size+1) (w.alloc (.cells #[.bool false, .slice none 0 0] 190)) wr d o) (fun v _ _=>(intOf v).toNat)
 case atStart=>exact⟨n.natAbs,[],congrArg (Value.int IntKind.u64) Hw.out,om1,rfl,Own.nil (Below.refl _ _) (by simp)⟩
 case round=>
  obtain⟨x,o,rfl,hx,hof,hown⟩:=hrel;have hol:=zS hof;by_cases hx0:0<x
  · go_wp2_with (at_builtin;refine dm rl1 (.tmp 13) (.tmp 17) rl1 (w.heap.size+1) _ _ o rl1 hown ?_ _ (x%10) rl1 ?_ ?_)
    · omega
    · omega
    · intro v' w' hown';go_wp2;go_roundw
      case rel=>exact⟨x/10,_,by go_num,om1,Gj hof hx0,hown'⟩
      case measure=>simp [intOf];omega
  · have hx1:x=0:=om1;subst hx1;have ho:=KQ hof;have q0:wr.cell? ⟨w.heap.size,0,none⟩=some (.bool false):=(hown.below.cell (p:=⟨w.heap.size,0,none⟩) (show w.heap.size<w.heap.size+1 by omega)).trans (by go_simp);have q1:wr.cell? ⟨w.heap.size,1,none⟩=some (.slice none 0 0):=(hown.below.cell (p:=⟨w.heap.size,1,none⟩) (show w.heap.size<w.heap.size+1 by omega)).trans (by go_simp);have f0:wr.frozen? ⟨w.heap.size,0,none⟩=false:=(hown.below.frozen (p:=⟨w.heap.size,0,none⟩) (show w.heap.size<w.heap.size+1 by omega)).trans (by go_simp);have f1:wr.frozen? ⟨w.heap.size,1,none⟩=false:=(hown.below.frozen (p:=⟨w.heap.size,1,none⟩) (show w.heap.size<w.heap.size+1 by omega)).trans (by go_simp);have hrd:=hown.rd;have hbel:=hown.below;rw [ho] at hrd;clear hown hof hol ho;obtain⟨a1,c1,hv1⟩:=hrd.lt;subst hv1;go_wp2;have hB:=(((ae (af (Below.refl _ w) _) (hbel.mono (by simp))).setCell (p:=⟨w.heap.size,0,none⟩) (Nat.le_refl _) (.bool (decide (n<0)))).setCell (p:=⟨w.heap.size,1,none⟩) (Nat.le_refl _) (.slice a1 (bZ n.natAbs).length c1));have hR:=hrd.set2 q0 q1 (.bool (decide (n<0))) (.slice a1 (bZ n.natAbs).length c1);exact bodyPost_ret (v:= .agg #[.bool (decide (n<0)), .slice a1 (bZ n.natAbs).length c1]) (by simp [results,Tryz.results99,go_sem,q0,q1]) rfl ⟨_,rfl,⟨_,rfl,hR⟩,hB⟩
theorem of_neg(n:Int)(w:World)(h0:n<0)(h1: -9223372036854775808<=n):
 Calls Tryz.prog 99 #[.int .i64 n] w fun e w'=> ∃ v,e= .returned v/\bY w' v n/\Below w.heap.size w w':=by
 have hlen:(bZ n.natAbs).length<=19:=bH om1;have hw:IntKind.u64.wrap (-IntKind.u64.wrap n)=((n.natAbs:Nat):Int):=by rw [IntKind.wrap_u64,IntKind.wrap_u64];omega
 have Hw:=Hid.mk' hw;clear hw;go_enter Tryz.func99,Tryz.ntmps99
 go_wp2;go_loopw [3,4] (fun v d wr=> ∃ (x:Nat) (o:List Nat),v= .int .u64 x/\x<=9223372036854775808/\UT x o n.natAbs/\Own (w.heap.size+1) (w.alloc (.cells #[.bool false, .slice none 0 0] 190)) wr d o) (fun v _ _=>(intOf v).toNat)
 case atStart=>exact⟨n.natAbs,[],congrArg (Value.int IntKind.u64) Hw.out,om1,rfl,Own.nil (Below.refl _ _) (by simp)⟩
 case round=>
  obtain⟨x,o,rfl,hx,hof,hown⟩:=hrel;have hol:=zS hof;by_cases hx0:0<x
  · go_wp2_with (at_builtin;refine dm rl1 (.tmp 13) (.tmp 17) rl1 (w.heap.size+1) _ _ o rl1 hown ?_ _ (x%10) rl1 ?_ ?_)
    · omega
    · omega
    · intro v' w' hown';go_wp2;go_roundw
      case rel=>exact⟨x/10,_,by go_num,om1,Gj hof hx0,hown'⟩
      case measure=>simp [intOf];omega
  · have hx1:x=0:=om1;subst hx1;have ho:=KQ hof;have q0:wr.cell? ⟨w.heap.size,0,none⟩=some (.bool false):=(hown.below.cell (p:=⟨w.heap.size,0,none⟩) (show w.heap.size<w.heap.size+1 by omega)).trans (by go_simp);have q1:wr.cell? ⟨w.heap.size,1,none⟩=some (.slice none 0 0):=(hown.below.cell (p:=⟨w.heap.size,1,none⟩) (show w.heap.size<w.heap.size+1 by omega)).trans (by go_simp);have f0:wr.frozen? ⟨w.heap.size,0,none⟩=false:=(hown.below.frozen (p:=⟨w.heap.size,0,none⟩) (show w.heap.size<w.heap.size+1 by omega)).trans (by go_simp);have f1:wr.frozen? ⟨w.heap.size,1,none⟩=false:=(hown.below.frozen (p:=⟨w.heap.size,1,none⟩) (show w.heap.size<w.heap.size+1 by omega)).trans (by go_simp);have hrd:=hown.rd;have hbel:=hown.below;rw [ho] at hrd;clear hown hof hol ho;obtain⟨a1,c1,hv1⟩:=hrd.lt;subst hv1;go_wp2;have hB:=(((ae (af (Below.refl _ w) _) (hbel.mono (by simp))).setCell (p:=⟨w.heap.size,0,none⟩) (Nat.le_refl _) (.bool true)).setCell (p:=⟨w.heap.size,1,none⟩) (Nat.le_refl _) (.slice a1 (bZ n.natAbs).length c1));have hR:=hrd.set2 q0 q1 (.bool true) (.slice a1 (bZ n.natAbs).length c1);exact bodyPost_ret (v:= .agg #[.bool true, .slice a1 (bZ n.natAbs).length c1]) (by simp [results,Tryz.results99,go_sem,q0,q1]) rfl ⟨_,rfl,⟨_,by rw [decide_eq_true h0],hR⟩,hB⟩
theorem fJ(n:Int)(w:World)(h0: -9223372036854775808<=n)(h1:n<=9223372036854775807):
 Calls Tryz.prog 99 #[.int .i64 n] w fun e w'=> ∃ v,e= .returned v/\bY w' v n/\Below w.heap.size w w':=by
 by_cases h:0<=n
 · exact of_pos n w h h1
 · exact of_neg n w om1 h0
end
section
open Go.RowKit Dec
attribute [local go_sem ↓] Go.wp_at_zero Go.wp_at_succ
namespace Dec
theorem EF(l:List Nat)(k:Nat)(h:k<l.length):val (l.drop k)=l.getD k 0+10*val (l.drop (k+1)):=by
 rw [List.drop_eq_getElem_cons h,fU];simp [List.getD,List.getElem?_eq_getElem h]
theorem AO(l:List Nat)(k:Nat):val (l.drop k)<=val l:=by
 induction k with
 |zero=>simp
 |succ k ih=>
  by_cases h:k<l.length
  · have:=EF l k h;omega
  · rw [List.drop_eq_nil_of_le om1];simp [val]
end Dec
theorem EG(p:Bool)(w:World):
 Calls Tryz.prog 107 #[.agg #[.bool p, .slice none 0 0]] w fun e w'=>e= .returned (.int .i64 0)/\Below w.heap.size w w':=by
 cases p
 · go_enter Tryz.func107,Tryz.ntmps107
   go_wp2;refine wp_loop_rounds 1 ?_;rw [rounds_succ];go_wp2;go_ret;exact⟨rfl,af (Below.refl _ _) _⟩
 · go_enter Tryz.func107,Tryz.ntmps107
   go_wp2;refine wp_loop_rounds 1 ?_;rw [rounds_succ];go_wp2;go_ret;exact⟨rfl,af (Below.refl _ _) _⟩
theorem NI(p:Bool)(b off cap:Nat)(l:List Nat)(w:World)(hs:Small l)(hlc:l.length<=cap)(hm:l.length<=4000000)(hb:b<w.heap.size)(hv:val l<=9223372036854775807)
 (hc: ∀ t,t<l.length->w.cell? ⟨b,off+t,none⟩=some (.int .i64 ((l.getD t 0:Nat):Int))):
 Calls Tryz.prog 107 #[.agg #[.bool p, .slice (some ⟨b,off,none⟩) l.length cap]] w fun e w'=>e= .returned (.int .i64 (if p then-(val l:Int) else(val l:Int)))/\Below w.heap.size w w':=by
 obtain⟨n,hn⟩: ∃ n,n=l.length:=⟨_,rfl⟩;rw [← hn];rw [← hn] at hm hlc;have Hn:Hid (n=l.length):=hn;clear hn;have HV:Hid (val l<=9223372036854775807):=hv;clear hv;have n0:(0:Int)<=(n:Int):=om1;have n1:(n:Int)<=4000000:=om1;go_enter Tryz.func107,Tryz.ntmps107
 go_wp2;go_loop [3,4] (fun v i=> ∃ k:Nat,k<=n/\i= .int .i64 ((k:Int)- 1)/\v= .int .i64 (-(val (l.drop k):Int))) (fun _ i=>((intOf i)+1).toNat)
 case atStart=>exact⟨n,Nat.le_refl _,rfl,by rw [Hn.out,List.drop_length];rfl⟩
 case round=>
  obtain⟨k,hk,rfl,rfl⟩:=hrel;cases k with
  |zero=>
   have e0:((0:Nat):Int)- 1= -1:=om1;rw [e0,List.drop_zero];have V:=HV.out;obtain⟨N,hN⟩: ∃ N,val l=N:=⟨_,rfl⟩;have HN:Hid (val l=N):=hN;rw [hN] at V ⊢;clear hN HV;cases p
   · go_wp2;go_ret;refine⟨oH ?_,af (Below.refl _ _) _⟩;rw [HN.out]
   · go_wp2;go_ret;refine⟨oH ?_,af (Below.refl _ _) _⟩;rw [HN.out]
  |succ j=>
   have e0:((j+1:Nat):Int)- 1=(j:Int):=om1;rw [e0];have hj:j<l.length:=by rw [← Hn.out];omega
   have hck:=hc j hj;have d1:=EF l j hj;have d2:=AO l j;have d3:=HV.out;have hsj:=hs j;obtain⟨A,hA⟩: ∃ A,val (l.drop (j+1))=A:=⟨_,rfl⟩;obtain⟨B,hB⟩: ∃ B,val (l.drop j)=B:=⟨_,rfl⟩;obtain⟨dg,hdg⟩: ∃ dg,l.getD j 0=dg:=⟨_,rfl⟩;rw [hdg] at hck hsj d1;rw [hA] at d1 ⊢;rw [hB] at d1 d2;have HB:Hid (val (l.drop j)=B):=hB;have D1:Hid (B=dg+10*A):=d1;have b1:10*A+dg<=9223372036854775807:=om1;clear d1 d2 d3 hA hB hdg hc;go_wp2;go_round
   case rel=>exact⟨j,om1,rfl,by rw [HB.out,D1.out];go_num⟩
   case measure=>simp [intOf]
theorem AP(v:Value)(z:Int)(w:World)(hz: -9223372036854775807<=z)(hz1:z<=9223372036854775807)(h:bY w v z):
 Calls Tryz.prog 107 #[v] w fun e w'=>e= .returned (.int .i64 z)/\Below w.heap.size w w':=by
 obtain⟨d,rfl,hd⟩:=h;have hl:(bZ z.natAbs).length<=19:=bH (show z.natAbs<10^19 by omega);have hvd:=eH z.natAbs;rcases hd with⟨rfl,hl0⟩|⟨b,off,cap,rfl,hlc,hlt,hc⟩
 · have h0:=(gI z.natAbs).1 hl0;refine(EG _ w).mono ?_;rintro e w' ⟨rfl,hb⟩;exact⟨oH om1,hb⟩
 · refine(NI _ b off cap _ w (eU _) hlc om1 hlt.lt (by rw [hvd];omega) hc).mono ?_;rintro e w' ⟨rfl,hb⟩;refine⟨oH ?_,hb⟩;rw [hvd];by_cases hs:z<0
   · rw [decide_eq_true hs,if_pos rfl];omega
   · rw [decide_eq_false hs,if_neg (by decide)];omega
theorem Dec.Vb{z:Int}:decide (0<z.sign)=decide (0<z):=by
 rw [decide_eq_decide];exact Int.sign_pos_iff
theorem Dec.sign_neg{z:Int}:decide (z.sign<0)=decide (z<0):=by
 rw [decide_eq_decide];exact Int.sign_neg_iff
theorem Qr(v:Value)(z:Int)(w:World)(hz:(bZ z.natAbs).length<=1000000)(h:bY w v z):
 Calls Tryz.prog 97 #[v] w fun e w'=>e= .returned (.tuple #[.int .i64 (if 4611686018427387903<z then 4611686018427387903 else if z< -4611686018427387903 then-4611686018427387903 else z), .bool (decide (4611686018427387903<z)||decide (z< -4611686018427387903))])/\Below w.heap.size w w':=by
 have ht:(bZ (4611686018427387903:Int).natAbs).length<=1000000:=by
  have:=bH (show(4611686018427387903:Int).natAbs<10^19 by decide);omega
 have ht':(bZ (-4611686018427387903:Int).natAbs).length<=1000000:=by
  have:=bH (show(-4611686018427387903:Int).natAbs<10^19 by decide);omega
 have h':=h;obtain⟨d,rfl,hd⟩:=h;obtain⟨ao,cap,hd2⟩:=hd.lt;obtain⟨n,hn⟩: ∃ n,n=(bZ z.natAbs).length:=⟨_,rfl⟩;rw [← hn] at hd2;subst hd2;clear hn hd;obtain⟨p,hp⟩: ∃ p,p=decide (z<0):=⟨_,rfl⟩;rw [← hp] at h';rw [← hp];clear hp;have q0:(w.alloc (.cells #[.bool p, .slice ao n cap] 190)).cell? ⟨w.heap.size,0,none⟩=some (.bool p):=by simp
 have q1:(w.alloc (.cells #[.bool p, .slice ao n cap] 190)).cell? ⟨w.heap.size,1,none⟩=some (.slice ao n cap):=by simp
 have s1:=Dec.Vb (z:=z- 4611686018427387903);have s2:=Dec.sign_neg (z:=z- -4611686018427387903);by_cases c1:4611686018427387903<z
 ·rw [if_pos c1,decide_eq_true c1];rw [decide_eq_true (show 0<z- 4611686018427387903 by omega)] at s1;clear s2;go_enter Tryz.func97,Tryz.ntmps97
  go_wp2;go_region_held3 (fun w'=>w'.cell? ⟨w.heap.size,0,none⟩=some (.bool p)/\w'.cell? ⟨w.heap.size,1,none⟩=some (.slice ao n cap)) (go_keep) (first|(go_at_call 99;refine(fJ 4611686018427387903 _ om1 om1).mono ?_;rintro e w1 ⟨v1,rfl,hn1,hb1⟩;have f0:=ah hb1 q0;have f1:=ah hb1 q1)|(go_at_call 184;refine(uI _ _ z 4611686018427387903 _ hz ht (h'.below (ae (af (Below.refl _ _) _).drew hb1)) hn1).mono ?_;rintro e w2 ⟨rfl,hb2⟩;have g0:=ah hb2 f0;have g1:=ah hb2 f1))
  all_goals go_wp2
  all_goals go_ret2
  all_goals exact⟨rfl,ae (ae (af (Below.refl _ _) _).drew hb1) hb2⟩
 ·rw [if_neg c1,decide_eq_false c1];rw [decide_eq_false (show ¬0<z- 4611686018427387903 by omega)] at s1;by_cases c2:z< -4611686018427387903
  ·rw [if_pos c2,decide_eq_true c2];rw [decide_eq_true (show z- -4611686018427387903<0 by omega)] at s2;go_enter Tryz.func97,Tryz.ntmps97
   go_wp2;go_region_held3 (fun w'=>w'.cell? ⟨w.heap.size,0,none⟩=some (.bool p)/\w'.cell? ⟨w.heap.size,1,none⟩=some (.slice ao n cap)) (go_keep) (first|(go_at_call 99;refine(fJ 4611686018427387903 _ om1 om1).mono ?_;rintro e w1 ⟨v1,rfl,hn1,hb1⟩;have f0:=ah hb1 q0;have f1:=ah hb1 q1)|(go_at_call 184;refine(uI _ _ z 4611686018427387903 _ hz ht (h'.below (ae (af (Below.refl _ _) _).drew hb1)) hn1).mono ?_;rintro e w2 ⟨rfl,hb2⟩;have g0:=ah hb2 f0;have g1:=ah hb2 f1))
   all_goals go_wp2
   all_goals have h2:=h'.below (ae (ae (af (Below.refl _ _) _).drew hb1) hb2)
   all_goals go_region_held3 (fun w'=>w'.cell? ⟨w.heap.size,0,none⟩=some (.bool p)/\w'.cell? ⟨w.heap.size,1,none⟩=some (.slice ao n cap)) (go_keep) (first|(go_at_call 99;refine(fJ (-4611686018427387903) _ om1 om1).mono ?_;rintro e w3 ⟨v3,rfl,hn3,hb3⟩;have k0:=ah hb3 g0;have k1:=ah hb3 g1)|(go_at_call 184;refine(uI _ _ z (-4611686018427387903) _ hz ht' (h2.below (ae (Below.refl _ _).drew hb3)) hn3).mono ?_;rintro e w4 ⟨rfl,hb4⟩;have j0:=ah hb4 k0;have j1:=ah hb4 k1))
   all_goals go_wp2
   all_goals go_ret2
   all_goals exact⟨rfl,ae (ae (ae (ae (af (Below.refl _ _) _).drew hb1) hb2).drew hb3) hb4⟩
  ·rw [if_neg c2,decide_eq_false c2];rw [decide_eq_false (show ¬z- -4611686018427387903<0 by omega)] at s2;go_enter Tryz.func97,Tryz.ntmps97
   go_wp2;go_region_held3 (fun w'=>w'.cell? ⟨w.heap.size,0,none⟩=some (.bool p)/\w'.cell? ⟨w.heap.size,1,none⟩=some (.slice ao n cap)) (go_keep) (first|(go_at_call 99;refine(fJ 4611686018427387903 _ om1 om1).mono ?_;rintro e w1 ⟨v1,rfl,hn1,hb1⟩;have f0:=ah hb1 q0;have f1:=ah hb1 q1)|(go_at_call 184;refine(uI _ _ z 4611686018427387903 _ hz ht (h'.below (ae (af (Below.refl _ _) _).drew hb1)) hn1).mono ?_;rintro e w2 ⟨rfl,hb2⟩;have g0:=ah hb2 f0;have g1:=ah hb2 f1))
   all_goals go_wp2
   all_goals have h2:=h'.below (ae (ae (af (Below.refl _ _) _).drew hb1) hb2)
   all_goals go_region_held3 (fun w'=>w'.cell? ⟨w.heap.size,0,none⟩=some (.bool p)/\w'.cell? ⟨w.heap.size,1,none⟩=some (.slice ao n cap)) (go_keep) (first|(go_at_call 99;refine(fJ (-4611686018427387903) _ om1 om1).mono ?_;rintro e w3 ⟨v3,rfl,hn3,hb3⟩;have k0:=ah hb3 g0;have k1:=ah hb3 g1)|(go_at_call 184;refine(uI _ _ z (-4611686018427387903) _ hz ht' (h2.below (ae (Below.refl _ _).drew hb3)) hn3).mono ?_;rintro e w4 ⟨rfl,hb4⟩;have j0:=ah hb4 k0;have j1:=ah hb4 k1))
   all_goals go_wp2_with fail
   all_goals refine(AP _ z _ om1 om1 (h2.below (ae (ae (Below.refl _ _).drew hb3) hb4))).mono ?_
   all_goals rintro e w5 ⟨rfl,hb5⟩
   all_goals go_wp2
   all_goals go_ret2
   all_goals exact⟨rfl,ae (ae (ae (ae (ae (af (Below.refl _ _) _).drew hb1) hb2).drew hb3) hb4) hb5⟩
end
section
open Go.RowKit Tg
attribute [local go_sem ↓] Go.wp_at_zero Go.wp_at_succ
namespace Tg
def AQ(w:World)(b:Nat)(x y:Int):Prop:=w.heap[b]?=some (.cells #[.int .i64 x, .int .i64 y] 385 (0,0))
theorem AQ.lt{w:World}{b:Nat}{x y:Int}(h:AQ w b x y):b<w.heap.size:=by
 rcases Nat.lt_or_ge b w.heap.size with k|k
 · exact k
 · unfold AQ at h;rw [Array.getElem?_eq_none k] at h;cases h
theorem Lj(w:World)(x y:Int):AQ (w.alloc (.cells #[.int .i64 x, .int .i64 y] 385)) w.heap.size x y:=heap_alloc_new w _
theorem AQ.keep{w w':World}{b:Nat}{x y:Int}(h:AQ w b x y)(hb:Below w.heap.size w w'):AQ w' b x y:=by
 unfold AQ;rw [hb.block b h.lt];exact h
theorem AQ.drew{w:World}{b:Nat}{x y:Int}(h:AQ w b x y):AQ w.drew b x y:=h
theorem AQ.row{w:World}{b:Nat}{x y:Int}(h:AQ w b x y)(x' y':Int):AQ (w.setRow b #[.int .i64 x', .int .i64 y']) b x' y':=setRow_heap w b _ _ _ (0,0) h
theorem Ll{B g:Nat}{w0 w:World}(hb:Below B w0 w)(hBg:B<=g)(cs:Array Value):Below B w0 (w.setRow g cs):=
 hb.trans ⟨rfl,rfl,rfl,by simp,fun k hk=>setRow_other w g k cs om1⟩
theorem AQ.c0{w:World}{b:Nat}{x y:Int}(h:AQ w b x y):w.cell? ⟨b,0,none⟩=some (.int .i64 x):=by rw [cell_of_row w b 0 _ _ (0,0) h];rfl
theorem AQ.c1{w:World}{b:Nat}{x y:Int}(h:AQ w b x y):w.cell? ⟨b,1,none⟩=some (.int .i64 y):=by rw [cell_of_row w b 1 _ _ (0,0) h];rfl
theorem AU:(Tryz.prog.info? 385).map (·.size)=some 2:=by kernel_rfl
theorem yl{ops:Array Oper}{rest:List Oper}{o:Oper}{a:Act}{w:World}{Q:Exit->Act->World->Prop}(hgd:o.guard=none)(x:Operand)(ho:o.op= .load 385 x)
 (b:Nat) (p q:Int) (hx:a.eval x= .pointer (some ⟨b,0,none⟩)) (hr:AQ w b p q)
 (h:wpList Tryz.prog ops Q rest (a.put o.dst (.agg #[.int .i64 p, .int .i64 q])) w):wpList Tryz.prog ops Q (o::rest) a w:=
 wpList_load_row hgd _ x ho b hx _ _ _ _ hr Tryz.underlying385 rfl AU h
theorem vO{ops:Array Oper}{rest:List Oper}{o:Oper}{a:Act}{w:World}{Q:Exit->Act->World->Prop}(hgd:o.guard=none)(x y:Operand)(ho:o.op= .store 385 x y)
 (b:Nat) (p q p' q':Int) (hx:a.eval x= .pointer (some ⟨b,0,none⟩)) (hy:a.eval y= .agg #[.int .i64 p, .int .i64 q]) (hr:AQ w b p' q')
 (h:wpList Tryz.prog ops Q rest (a.put o.dst undef) (w.setRow b #[.int .i64 p, .int .i64 q])):wpList Tryz.prog ops Q (o::rest) a w:=
 wpList_store_row hgd _ x y ho b _ hx hy _ _ hr AU rfl (by kernel_rfl) h
theorem Gt(w:World)(A:Obj)(x y:Int):AQ ((w.alloc A).alloc (.cells #[.int .i64 x, .int .i64 y] 385)) (w.heap.size+1) x y:=by
 have h:=Lj (w.alloc A) x y;rwa [show(w.alloc A).heap.size=w.heap.size+1 by simp] at h
theorem Gu{fn:Func}{p:Tmp}(h:fn.results= #[.cell p 385])(tmps:Array Value)(w:World)(b:Nat)(x y:Int)(hp:tmps.getD p undef= .pointer (some ⟨b,0,none⟩))
 (hr:AQ w b x y):(results fn tmps).run Tryz.prog w= .ok (.agg #[.int .i64 x, .int .i64 y]) w:=
 results_cell_row h tmps w b _ _ _ _ hp hr Tryz.underlying385 rfl AU
end Tg
theorem Vd(x y:Int)(k:Nat)(w:World)(hk:k<64)(h0: -9000000000000000000<=x- fl y k)(h1:x- fl y k<=9000000000000000000)(h2: -9000000000000000000<=y+fl x k)(h3:y+fl x k<=9000000000000000000):
 Calls Tryz.prog 295 #[.agg #[.int .i64 x, .int .i64 y], .int .i64 k] w fun e w'=>e= .returned (.agg #[.int .i64 (x- fl y k), .int .i64 (y+fl x k)])/\Below w.heap.size w w':=by
 unfold fl at*;obtain⟨D,hD⟩: ∃ D,(2:Int)^k=D:=⟨_,rfl⟩;rw [hD] at h0 h1 h2 h3 ⊢;have hk0:(0:Int)<=(k:Int):=om1;have hk1:(k:Int)<64:=om1;go_enter Tryz.func295,Tryz.ntmps295
 go_wp2;go_region
 go_wp2;exact bodyPost_ret (v:= .agg #[.int .i64 (x- y/D), .int .i64 (y+x/D)]) (Gu Tryz.results295 _ _ (w.heap.size+1) _ _ rfl (Gt w _ _ _).drew) rfl ⟨rfl,(af (af (Below.refl _ _) _) _).drew⟩
theorem Qs(x y:Int)(k:Nat)(w:World)(hk:k<64)(h0: -9000000000000000000<=x+fl y k)(h1:x+fl y k<=9000000000000000000)(h2: -9000000000000000000<=y- fl x k)(h3:y- fl x k<=9000000000000000000):
 Calls Tryz.prog 296 #[.agg #[.int .i64 x, .int .i64 y], .int .i64 k] w fun e w'=>e= .returned (.agg #[.int .i64 (x+fl y k), .int .i64 (y- fl x k)])/\Below w.heap.size w w':=by
 unfold fl at*;obtain⟨D,hD⟩: ∃ D,(2:Int)^k=D:=⟨_,rfl⟩;rw [hD] at h0 h1 h2 h3 ⊢;have hk0:(0:Int)<=(k:Int):=om1;have hk1:(k:Int)<64:=om1;go_enter Tryz.func296,Tryz.ntmps296
 go_wp2;go_region
 go_wp2;exact bodyPost_ret (v:= .agg #[.int .i64 (x+y/D), .int .i64 (y- x/D)]) (Gu Tryz.results296 _ _ (w.heap.size+1) _ _ rfl (Gt w _ _ _).drew) rfl ⟨rfl,(af (af (Below.refl _ _) _) _).drew⟩
end
section
open Go.RowKit Dec
namespace Nv
theorem AV{n:Int}(h:n.natAbs<10^100):(bZ n.natAbs).length<=1000000:=by
 have:=bH h;omega
end Nv
end
section
open Go.RowKit Dec
namespace Dec
theorem Ve(x y:Int):((decide (x<0) !=decide (y<0)) && decide (0<x.natAbs*y.natAbs))=decide (x*y<0):=by
 have hp:0<x.natAbs*y.natAbs↔x≠0/\y≠0:=by
  rw [Nat.pos_iff_ne_zero,Ne,Nat.mul_eq_zero,Int.natAbs_eq_zero,Int.natAbs_eq_zero];omega
 rw [Bool.eq_iff_iff,Bool.and_eq_true,decide_eq_true_iff,decide_eq_true_iff,bne_iff_ne,hp];rcases Int.lt_trichotomy x 0 with hx|hx|hx
 · rcases Int.lt_trichotomy y 0 with hy|hy|hy
   · have:=Int.mul_pos_of_neg_of_neg hx hy;simp [hx,hy];omega
   · subst hy;simp
   · have:=Int.mul_neg_of_neg_of_pos hx hy;simp [hx,this,show ¬y<0 by omega];omega
 · subst hx;simp
 · rcases Int.lt_trichotomy y 0 with hy|hy|hy
   · have:=Int.mul_neg_of_pos_of_neg hx hy;simp [hy,this,show ¬x<0 by omega];omega
   · subst hy;simp
   · have:=Int.mul_pos hx hy;simp [show ¬x<0 by omega,show ¬y<0 by omega];omega
theorem mul_81{a b:Nat}(ha:a<10)(hb:b<10):((a:Nat):Int)*((b:Nat):Int)<=81:=by
 have:a*b<=9*9:=Nat.mul_le_mul om1 om1;have e:((a:Nat):Int)*((b:Nat):Int)=((a*b:Nat):Int):=(Int.natCast_mul a b).symm;omega
theorem Own.drewN{B:Nat}{w0 w:World}{v:Value}{l:List Nat}(h:Own B w0 w v l)(n:Nat):Own B w0 (w.drewN n) v l:=⟨h.row,below_drewN h.below n,h.base⟩
theorem Own.store{B:Nat}{w0 w:World}{g N c:Nat}{l:List Nat}(h:Own B w0 w (.slice (some ⟨g,0,none⟩) N c) l)(hN:l.length=N)(hg:B<=g)(j:Nat)(z:Int)(d:Nat)(hz:z=(d:Int)):
 Own B w0 (w.setCell ⟨g,j,none⟩ (.int .i64 z)) (.slice (some ⟨g,0,none⟩) N c) (l.set j d):=by
 subst hz;subst hN;obtain⟨h1,h2⟩:=h.row.stored j (.int .i64 (d:Int));refine⟨?_,h.below.grown h2 h.base ?_,Nat.le_trans h.base h2.size⟩
 · rw [List.length_set];have e:vals (l.set j d)=(vals l).set j (.int .i64 (d:Int)):=by unfold vals;rw [List.map_set]
   rw [e];exact h1
 · intro k hk;cases hk;exact hg
theorem Own.at{B:Nat}{w0 w:World}{g N c:Nat}{l:List Nat}(h:Own B w0 w (.slice (some ⟨g,0,none⟩) N c) l)(hN:l.length=N){j:Nat}(hj:j<N):
 w.cell? ⟨g,j,none⟩=some (.int .i64 ((l.getD j 0:Nat):Int)):=by
 subst hN;rw [h.row.cellAt j om1];simp [vals,List.getD,List.getElem?_eq_getElem hj]
theorem Own.free{B:Nat}{w0 w:World}{g N c:Nat}{l:List Nat}(h:Own B w0 w (.slice (some ⟨g,0,none⟩) N c) l)(hN:l.length=N)(j:Nat):w.frozen? ⟨g,j,none⟩=false:=by
 subst hN;exact h.row.frozenAt j
theorem iR{B:Nat}{w0 w:World}{g N:Nat}(h:w.ownsRow B 3 1 (.slice (some ⟨g,0,none⟩) N N) N (madeCells #[Value.int .i64 0] N).toList)(hg:w0.grownBy w none)(hB:B=w0.heap.size):
 Own B w0 w (.slice (some ⟨g,0,none⟩) N N) (List.replicate N 0):=by
 refine⟨?_,(Below.refl _ _).grown hg om1 (by intro k hk;cases hk),by have:=hg.size;omega⟩
 have e:(madeCells #[Value.int .i64 0] N).toList=vals (List.replicate N 0):=by
  rw [toList_madeCells_one];simp [vals]
 rw [e] at h;simpa using h
end Dec
attribute [local go_sem ↓] Go.wp_at_zero Go.wp_at_succ
theorem EH{p:Prop}(h:p:=by
 have Hend:=Hid.mk' hend;clear hend;have hrd0:=hown.rd;have hbel:=hown.below;have j0:wr.cell? ⟨w.heap.size,0,none⟩=some (.bool p):=(hown.below.cell (p:=⟨w.heap.size,0,none⟩) (show w.heap.size<w.heap.size+1+1+1 by omega)).trans (by go_simp);have j1:wr.cell? ⟨w.heap.size+1,0,none⟩=some (.bool q):=(hown.below.cell (p:=⟨w.heap.size+1,0,none⟩) (show w.heap.size+1<w.heap.size+1+1+1 by omega)).trans (by go_simp);have r0:wr.cell? ⟨w.heap.size+1+1,0,none⟩=some (.bool false):=(hown.below.cell (p:=⟨w.heap.size+1+1,0,none⟩) (show w.heap.size+1+1<w.heap.size+1+1+1 by omega)).trans (by go_simp);have r1:wr.cell? ⟨w.heap.size+1+1,1,none⟩=some (.slice none 0 0):=(hown.below.cell (p:=⟨w.heap.size+1+1,1,none⟩) (show w.heap.size+1+1<w.heap.size+1+1+1 by omega)).trans (by go_simp);have g0:wr.frozen? ⟨w.heap.size+1+1,0,none⟩=false:=(hown.below.frozen (p:=⟨w.heap.size+1+1,0,none⟩) (show w.heap.size+1+1<w.heap.size+1+1+1 by omega)).trans (by go_simp);have g1:wr.frozen? ⟨w.heap.size+1+1,1,none⟩=false:=(hown.below.frozen (p:=⟨w.heap.size+1+1,1,none⟩) (show w.heap.size+1+1<w.heap.size+1+1+1 by omega)).trans (by go_simp);clear hown;go_wp2
 go_region_held3 (fun w'=>w'.cell? ⟨w.heap.size,0,none⟩=some (.bool p)/\w'.cell? ⟨w.heap.size+1,0,none⟩=some (.bool q)) (first|exact⟨aW (aW (ah hb2 j0) (show w.heap.size≠w.heap.size+1+1 by omega) _) (show w.heap.size≠w.heap.size+1+1 by omega) _,aW (aW (ah hb2 j1) (show w.heap.size+1≠w.heap.size+1+1 by omega) _) (show w.heap.size+1≠w.heap.size+1+1 by omega) _⟩|exact⟨ah hb2 j0,ah hb2 j1⟩|exact⟨j0,j1⟩|go_keep)
  (first
   |(go_at_call 260;refine(sQ _ _ _ Hend.out.1 (by rw [Hend.out.2.2,Hx.out,Hy.out];omega) (hrd0.below (Below.refl _ _).drew (Nat.le_refl _))).mono ?_;rintro e w1 ⟨v1,rfl,hrd1,rfl⟩;rw [Hend.out.2.1] at hrd1;obtain⟨a1,c1,hv1⟩:=hrd1.lt;subst hv1)
   |(go_at_call 185;refine(kS _ _ (val x*val y) _ hs4 hrd1).mono ?_;rintro e w2 ⟨rfl,hb2⟩;have q0:w2.cell? ⟨w.heap.size+1+1,0,none⟩=some (.bool false):=ah hb2 r0;have q1:w2.cell? ⟨w.heap.size+1+1,1,none⟩=some (.slice none 0 0):=ah hb2 r1;have f0:w2.frozen? ⟨w.heap.size+1+1,0,none⟩=false:=eP hb2 r0 g0;have f1:w2.frozen? ⟨w.heap.size+1+1,1,none⟩=false:=eP hb2 r1 g1))
 go_wp2;have hB:=(((ae (ae (af (af (af (Below.refl _ w) _) _) _) (hbel.mono (by simp))).drew hb2).setCell (p:=⟨w.heap.size+1+1,0,none⟩) (show w.heap.size<=w.heap.size+1+1 by omega) (.bool ((p !=q) && decide (0<val x*val y)))).setCell (p:=⟨w.heap.size+1+1,1,none⟩) (show w.heap.size<=w.heap.size+1+1 by omega) (.slice a1 (bZ (val x*val y)).length c1));have hR:=(hrd1.below hb2 (Nat.le_refl _)).set2 q0 q1 (.bool ((p !=q) && decide (0<val x*val y))) (.slice a1 (bZ (val x*val y)).length c1)
 exact bodyPost_ret (v:= .agg #[.bool ((p !=q) && decide (0<val x*val y)), .slice a1 (bZ (val x*val y)).length c1]) (by simp [results,Tryz.results180,go_sem,q0,q1];cases p<;>cases q<;>rfl) rfl ⟨_,rfl,hR,hB⟩):p:=h
set_option maxRecDepth 100000 in
theorem Qu(p q:Bool)(ao bo:Option Addr)(ba oa ca bb ob cb n m N:Nat)(x y:List Nat)(w:World)(hn:n<=1000000)(hm:m<=1000000)(hx:x.length=n)(hy:y.length=m)(hN:N=n+m+1)(hsx:Small x)(hsy:Small y)
 (hao:ao=some ⟨ba,oa,none⟩\/(ao=none/\n=0)) (hbo:bo=some ⟨bb,ob,none⟩\/(bo=none/\m=0))
 (hca: ∀ t,t<n->ba<w.heap.size/\w.cell? ⟨ba,oa+t,none⟩=some (.int .i64 ((x.getD t 0:Nat):Int))) (hcb: ∀ t,t<m->bb<w.heap.size/\w.cell? ⟨bb,ob+t,none⟩=some (.int .i64 ((y.getD t 0:Nat):Int))):
 Calls Tryz.prog 180 #[.agg #[.bool p, .slice ao n ca], .agg #[.bool q, .slice bo m cb]] w fun e w'=> ∃ d,e= .returned (.agg #[.bool ((p !=q) && decide (0<val x*val y)),d])/\Rd w' d (bZ (val x*val y))/\Below w.heap.size w w':=by
 have Hx:Hid (x.length=n):=hx;have Hy:Hid (y.length=m):=hy;have HN:Hid (N=n+m+1):=hN;have hN1:N<=n+m+1:=om1;have hN2:n+m+1<=N:=om1
 have hst:xB x y 0 0 (List.replicate N 0) 0:=by
  rw [hN,← hx,← hy];exact I7 x y
 have hs4:(bZ (val x*val y)).length<=4000000:=by
  refine Nat.le_trans (bH (k:=n+m) ?_) om1;have a1:=oN hsx;have a2:=oN hsy;rw [hx] at a1;rw [hy] at a2;rw [Nat.pow_add];rcases Nat.eq_zero_or_pos (val y) with h|h
  ·rw [h,Nat.mul_zero];exact Nat.mul_pos (Nat.pow_pos om1) (Nat.pow_pos om1)
  ·exact Nat.lt_of_lt_of_le (Nat.mul_lt_mul_of_pos_right a1 h) (Nat.mul_le_mul_left _ om1)
 clear hx hy hN;obtain⟨i0,hi,hz0,hz1,hz2⟩:=info_parts Tryz.xE;rcases hao with rfl|⟨rfl,rfl⟩
 ·rcases hbo with rfl|⟨rfl,rfl⟩
  ·go_enter Tryz.func180,Tryz.ntmps180
   go_wp2_with (at_make;refine wpList_make_full _ rfl _ _ 188 rfl (w.heap.size+1+1+1) 3 i0 (.int .i64 0) 1 Tryz.underlying188 hi hz0 hz1 _ _ _ _ N rfl rfl om1 om1 (by rw [hz2];omega) (by unfold maxLen;omega) (by simp) ?_)
   intro w0 hown0 hgrow0;have hO0:Own (w.heap.size+1+1+1) (((w.alloc (.cells #[.bool p, .slice (some ⟨ba,oa,none⟩) n ca] 190)).alloc (.cells #[.bool q, .slice (some ⟨bb,ob,none⟩) m cb] 190)).alloc (.cells #[.bool false, .slice none 0 0] 190)) w0 (.slice (some ⟨w.heap.size+1+1+1,0,none⟩) N N) (List.replicate N 0):=iR hown0 hgrow0 (by simp);clear hown0 hgrow0;go_wp2;go_loopw [6] (fun i wr=> ∃ (k:Nat) (l:List Nat),i= .int .i64 k/\k<=n/\xB x y k 0 l 0/\Own (w.heap.size+1+1+1) (((w.alloc (.cells #[.bool p, .slice (some ⟨ba,oa,none⟩) n ca] 190)).alloc (.cells #[.bool q, .slice (some ⟨bb,ob,none⟩) m cb] 190)).alloc (.cells #[.bool false, .slice none 0 0] 190)) wr (.slice (some ⟨w.heap.size+1+1+1,0,none⟩) N N) l) (fun i _=>n- (intOf i).toNat)
   case atStart=>exact⟨0,_,rfl,Nat.zero_le _,hst,hO0⟩
   case round=>
    obtain⟨k,l,rfl,hk,hmu,hown⟩:=hrel;have kA:wr.cell? ⟨w.heap.size,1,none⟩=some (.slice (some ⟨ba,oa,none⟩) n ca):=(hown.below.cell (p:=⟨w.heap.size,1,none⟩) (show w.heap.size<w.heap.size+1+1+1 by omega)).trans (by go_simp);have kB:wr.cell? ⟨w.heap.size+1,1,none⟩=some (.slice (some ⟨bb,ob,none⟩) m cb):=(hown.below.cell (p:=⟨w.heap.size+1,1,none⟩) (show w.heap.size+1<w.heap.size+1+1+1 by omega)).trans (by go_simp);by_cases h1:k<n
    ·go_wp2;go_loopw [7,8] (fun c j ws=> ∃ (t cc:Nat) (l:List Nat),j= .int .i64 t/\c= .int .i64 cc/\cc<=9/\t<=m+1/\xB x y k t l cc/\Own (w.heap.size+1+1+1) (((w.alloc (.cells #[.bool p, .slice (some ⟨ba,oa,none⟩) n ca] 190)).alloc (.cells #[.bool q, .slice (some ⟨bb,ob,none⟩) m cb] 190)).alloc (.cells #[.bool false, .slice none 0 0] 190)) ws (.slice (some ⟨w.heap.size+1+1+1,0,none⟩) N N) l) (fun _ j _=>m+1- (intOf j).toNat)
     case atStart=>exact⟨0,0,l,rfl,rfl,om1,om1,hmu,hown⟩
     case round=>
      obtain⟨t,cc,l1,rfl,rfl,hcc,ht,hmu1,hown1⟩:=hrel;clear kA kB hmu hown;have hl1:Hid (l1.length=N):=by have:=hmu1.1;rw [Hx.out,Hy.out] at this;rw [HN.out];exact this
      have kA:wr.cell? ⟨w.heap.size,1,none⟩=some (.slice (some ⟨ba,oa,none⟩) n ca):=(hown1.below.cell (p:=⟨w.heap.size,1,none⟩) (show w.heap.size<w.heap.size+1+1+1 by omega)).trans (by go_simp);have kB:wr.cell? ⟨w.heap.size+1,1,none⟩=some (.slice (some ⟨bb,ob,none⟩) m cb):=(hown1.below.cell (p:=⟨w.heap.size+1,1,none⟩) (show w.heap.size+1<w.heap.size+1+1+1 by omega)).trans (by go_simp);by_cases ht1:t<=m
      ·have kO:wr.cell? ⟨w.heap.size+1+1+1,k+t,none⟩=some (.int .i64 ((l1.getD (k+t) 0:Nat):Int)):=hown1.at hl1.out om1;have fO:wr.frozen? ⟨w.heap.size+1+1+1,k+t,none⟩=false:=hown1.free hl1.out _;have dl:=hmu1.2.1 (k+t);simp only [List.getD] at dl;by_cases ht2:t<m
       ·have ga:wr.cell? ⟨ba,oa+k,none⟩=some (.int .i64 ((x.getD k 0:Nat):Int)):=((hown1.below.cell (p:=⟨ba,oa+k,none⟩) (by have:=(hca k om1).1;show ba<_;omega)).trans ((af (af (af (Below.refl _ w) _) _) _).cell (p:=⟨ba,oa+k,none⟩) (hca k om1).1)).trans (hca k om1).2;have gb:wr.cell? ⟨bb,ob+t,none⟩=some (.int .i64 ((y.getD t 0:Nat):Int)):=((hown1.below.cell (p:=⟨bb,ob+t,none⟩) (by have:=(hcb t ht2).1;show bb<_;omega)).trans ((af (af (af (Below.refl _ w) _) _) _).cell (p:=⟨bb,ob+t,none⟩) (hcb t ht2).1)).trans (hcb t ht2).2;have dx:=hsx k;have dy:=hsy t;simp only [List.getD] at dx dy;have pr0:(0:Int)<=((x[k]?.getD 0:Nat):Int)*((y[t]?.getD 0:Nat):Int):=Int.mul_nonneg om1 om1;have pr1:((x[k]?.getD 0:Nat):Int)*((y[t]?.getD 0:Nat):Int)<=81:=mul_81 dx dy;go_wp2;go_quiet (fail)
        go_wp2;go_roundw
        case rel=>
         have hs:=xC hmu1 hsx hsy (by rw [hl1.out];omega) (rfl:(l1.getD (k+t) 0+cc+x.getD k 0*y.getD t 0)=_);refine⟨t+1,(l1.getD (k+t) 0+cc+x.getD k 0*y.getD t 0)/10,_,by go_num, ?_,hs.2.2.1,om1,hs,(hown1.drewN _).store hl1.out (Nat.le_refl _) _ _ _ ?_⟩
         ·refine congrArg (Value.int .i64) ?_;simp only [List.getD];omega
         ·simp only [List.getD];omega
        case measure=>simp [intOf];omega
       ·go_wp2;go_roundw
        case rel=>
         have hy0:y[t]?.getD 0=0:=by simp [List.getElem?_eq_none (show y.length<=t by rw [Hy.out];omega)]
         have hs:=xC hmu1 hsx hsy (by rw [hl1.out];omega) (rfl:(l1.getD (k+t) 0+cc+x.getD k 0*y.getD t 0)=_);refine⟨t+1,(l1.getD (k+t) 0+cc+x.getD k 0*y.getD t 0)/10,_,by go_num, ?_,hs.2.2.1,om1,hs,hown1.store hl1.out (Nat.le_refl _) _ _ _ ?_⟩
         ·refine congrArg (Value.int .i64) ?_;simp only [List.getD];rw [hy0,Nat.mul_zero];omega
         ·simp only [List.getD];rw [hy0,Nat.mul_zero];omega
        case measure=>simp [intOf];omega
      ·go_wp2;go_roundw
       case rel=>
        have e:t=y.length+1:=by rw [Hy.out];omega
        rw [e] at hmu1;exact⟨k+1,l1,by go_num,om1,Dx hmu1 hsx hsy,hown1⟩
       case measure=>simp [intOf];omega
    ·have hend:=vI hmu (by rw [Hx.out];omega);exact EH
  ·go_enter Tryz.func180,Tryz.ntmps180
   go_wp2_with (at_make;refine wpList_make_full _ rfl _ _ 188 rfl (w.heap.size+1+1+1) 3 i0 (.int .i64 0) 1 Tryz.underlying188 hi hz0 hz1 _ _ _ _ N rfl rfl om1 om1 (by rw [hz2];omega) (by unfold maxLen;omega) (by simp) ?_)
   intro w0 hown0 hgrow0;have hO0:Own (w.heap.size+1+1+1) (((w.alloc (.cells #[.bool p, .slice (some ⟨ba,oa,none⟩) n ca] 190)).alloc (.cells #[.bool q, .slice none 0 cb] 190)).alloc (.cells #[.bool false, .slice none 0 0] 190)) w0 (.slice (some ⟨w.heap.size+1+1+1,0,none⟩) N N) (List.replicate N 0):=iR hown0 hgrow0 (by simp);clear hown0 hgrow0;go_wp2;go_loopw [6] (fun i wr=> ∃ (k:Nat) (l:List Nat),i= .int .i64 k/\k<=n/\xB x y k 0 l 0/\Own (w.heap.size+1+1+1) (((w.alloc (.cells #[.bool p, .slice (some ⟨ba,oa,none⟩) n ca] 190)).alloc (.cells #[.bool q, .slice none 0 cb] 190)).alloc (.cells #[.bool false, .slice none 0 0] 190)) wr (.slice (some ⟨w.heap.size+1+1+1,0,none⟩) N N) l) (fun i _=>n- (intOf i).toNat)
   case atStart=>exact⟨0,_,rfl,Nat.zero_le _,hst,hO0⟩
   case round=>
    obtain⟨k,l,rfl,hk,hmu,hown⟩:=hrel;have kA:wr.cell? ⟨w.heap.size,1,none⟩=some (.slice (some ⟨ba,oa,none⟩) n ca):=(hown.below.cell (p:=⟨w.heap.size,1,none⟩) (show w.heap.size<w.heap.size+1+1+1 by omega)).trans (by go_simp);have kB:wr.cell? ⟨w.heap.size+1,1,none⟩=some (.slice none 0 cb):=(hown.below.cell (p:=⟨w.heap.size+1,1,none⟩) (show w.heap.size+1<w.heap.size+1+1+1 by omega)).trans (by go_simp);by_cases h1:k<n
    ·go_wp2;go_loopw [7,8] (fun c j ws=> ∃ (t cc:Nat) (l:List Nat),j= .int .i64 t/\c= .int .i64 cc/\cc<=9/\t<=0+1/\xB x y k t l cc/\Own (w.heap.size+1+1+1) (((w.alloc (.cells #[.bool p, .slice (some ⟨ba,oa,none⟩) n ca] 190)).alloc (.cells #[.bool q, .slice none 0 cb] 190)).alloc (.cells #[.bool false, .slice none 0 0] 190)) ws (.slice (some ⟨w.heap.size+1+1+1,0,none⟩) N N) l) (fun _ j _=>0+1- (intOf j).toNat)
     case atStart=>exact⟨0,0,l,rfl,rfl,om1,om1,hmu,hown⟩
     case round=>
      obtain⟨t,cc,l1,rfl,rfl,hcc,ht,hmu1,hown1⟩:=hrel;clear kA kB hmu hown;have hl1:Hid (l1.length=N):=by have:=hmu1.1;rw [Hx.out,Hy.out] at this;rw [HN.out];exact this
      have kA:wr.cell? ⟨w.heap.size,1,none⟩=some (.slice (some ⟨ba,oa,none⟩) n ca):=(hown1.below.cell (p:=⟨w.heap.size,1,none⟩) (show w.heap.size<w.heap.size+1+1+1 by omega)).trans (by go_simp);have kB:wr.cell? ⟨w.heap.size+1,1,none⟩=some (.slice none 0 cb):=(hown1.below.cell (p:=⟨w.heap.size+1,1,none⟩) (show w.heap.size+1<w.heap.size+1+1+1 by omega)).trans (by go_simp);by_cases ht1:t<=0
      ·have ht0:t=0:=om1;subst ht0;have kO:wr.cell? ⟨w.heap.size+1+1+1,k,none⟩=some (.int .i64 ((l1.getD k 0:Nat):Int)):=hown1.at hl1.out om1;have fO:wr.frozen? ⟨w.heap.size+1+1+1,k,none⟩=false:=hown1.free hl1.out _;have dl:=hmu1.2.1 k;simp only [List.getD] at dl;go_wp2;go_roundw
       case rel=>
        have hy0:y[0]?.getD 0=0:=by simp [List.getElem?_eq_none (show y.length<=0 by rw [Hy.out];omega)]
        have hs:=xC hmu1 hsx hsy (by rw [hl1.out];omega) (rfl:(l1.getD (k+0) 0+cc+x.getD k 0*y.getD 0 0)=_);simp only [Nat.add_zero,Nat.zero_add] at hs;refine⟨1,(l1.getD k 0+cc+x.getD k 0*y.getD 0 0)/10,_,by go_num, ?_,hs.2.2.1,om1,hs,hown1.store hl1.out (Nat.le_refl _) _ _ _ ?_⟩
        ·refine congrArg (Value.int .i64) ?_;simp only [List.getD];rw [hy0,Nat.mul_zero];omega
        ·simp only [List.getD];rw [hy0,Nat.mul_zero];omega
       case measure=>simp [intOf]
      ·go_wp2;go_roundw
       case rel=>
        have e:t=y.length+1:=by rw [Hy.out];omega
        rw [e] at hmu1;exact⟨k+1,l1,by go_num,om1,Dx hmu1 hsx hsy,hown1⟩
       case measure=>simp [intOf];omega
    ·have hend:=vI hmu (by rw [Hx.out];omega);exact EH
 ·rcases hbo with rfl|⟨rfl,rfl⟩
  ·go_enter Tryz.func180,Tryz.ntmps180
   go_wp2_with (at_make;refine wpList_make_full _ rfl _ _ 188 rfl (w.heap.size+1+1+1) 3 i0 (.int .i64 0) 1 Tryz.underlying188 hi hz0 hz1 _ _ _ _ N rfl rfl om1 om1 (by rw [hz2];omega) (by unfold maxLen;omega) (by simp) ?_)
   intro w0 hown0 hgrow0;have hO0:Own (w.heap.size+1+1+1) (((w.alloc (.cells #[.bool p, .slice none 0 ca] 190)).alloc (.cells #[.bool q, .slice (some ⟨bb,ob,none⟩) m cb] 190)).alloc (.cells #[.bool false, .slice none 0 0] 190)) w0 (.slice (some ⟨w.heap.size+1+1+1,0,none⟩) N N) (List.replicate N 0):=iR hown0 hgrow0 (by simp);clear hown0 hgrow0;go_wp2;go_loopw [6] (fun i wr=> ∃ (k:Nat) (l:List Nat),i= .int .i64 k/\k<=0/\xB x y k 0 l 0/\Own (w.heap.size+1+1+1) (((w.alloc (.cells #[.bool p, .slice none 0 ca] 190)).alloc (.cells #[.bool q, .slice (some ⟨bb,ob,none⟩) m cb] 190)).alloc (.cells #[.bool false, .slice none 0 0] 190)) wr (.slice (some ⟨w.heap.size+1+1+1,0,none⟩) N N) l) (fun i _=>0- (intOf i).toNat)
   case atStart=>exact⟨0,_,rfl,Nat.zero_le _,hst,hO0⟩
   case round=>
    obtain⟨k,l,rfl,hk,hmu,hown⟩:=hrel;have kA:wr.cell? ⟨w.heap.size,1,none⟩=some (.slice none 0 ca):=(hown.below.cell (p:=⟨w.heap.size,1,none⟩) (show w.heap.size<w.heap.size+1+1+1 by omega)).trans (by go_simp);have kB:wr.cell? ⟨w.heap.size+1,1,none⟩=some (.slice (some ⟨bb,ob,none⟩) m cb):=(hown.below.cell (p:=⟨w.heap.size+1,1,none⟩) (show w.heap.size+1<w.heap.size+1+1+1 by omega)).trans (by go_simp);have hend:=vI hmu (by rw [Hx.out];omega);exact EH
  ·go_enter Tryz.func180,Tryz.ntmps180
   go_wp2_with (at_make;refine wpList_make_full _ rfl _ _ 188 rfl (w.heap.size+1+1+1) 3 i0 (.int .i64 0) 1 Tryz.underlying188 hi hz0 hz1 _ _ _ _ N rfl rfl om1 om1 (by rw [hz2];omega) (by unfold maxLen;omega) (by simp) ?_)
   intro w0 hown0 hgrow0;have hO0:Own (w.heap.size+1+1+1) (((w.alloc (.cells #[.bool p, .slice none 0 ca] 190)).alloc (.cells #[.bool q, .slice none 0 cb] 190)).alloc (.cells #[.bool false, .slice none 0 0] 190)) w0 (.slice (some ⟨w.heap.size+1+1+1,0,none⟩) N N) (List.replicate N 0):=iR hown0 hgrow0 (by simp);clear hown0 hgrow0;go_wp2;go_loopw [6] (fun i wr=> ∃ (k:Nat) (l:List Nat),i= .int .i64 k/\k<=0/\xB x y k 0 l 0/\Own (w.heap.size+1+1+1) (((w.alloc (.cells #[.bool p, .slice none 0 ca] 190)).alloc (.cells #[.bool q, .slice none 0 cb] 190)).alloc (.cells #[.bool false, .slice none 0 0] 190)) wr (.slice (some ⟨w.heap.size+1+1+1,0,none⟩) N N) l) (fun i _=>0- (intOf i).toNat)
   case atStart=>exact⟨0,_,rfl,Nat.zero_le _,hst,hO0⟩
   case round=>
    obtain⟨k,l,rfl,hk,hmu,hown⟩:=hrel;have kA:wr.cell? ⟨w.heap.size,1,none⟩=some (.slice none 0 ca):=(hown.below.cell (p:=⟨w.heap.size,1,none⟩) (show w.heap.size<w.heap.size+1+1+1 by omega)).trans (by go_simp);have kB:wr.cell? ⟨w.heap.size+1,1,none⟩=some (.slice none 0 cb):=(hown.below.cell (p:=⟨w.heap.size+1,1,none⟩) (show w.heap.size+1<w.heap.size+1+1+1 by omega)).trans (by go_simp);have hend:=vI hmu (by rw [Hx.out];omega);exact EH
theorem mul_any(va vb:Value)(x y:Int)(w:World)(hx:(bZ x.natAbs).length<=1000000)(hy:(bZ y.natAbs).length<=1000000)(ha:bY w va x)(hb:bY w vb y):
 Calls Tryz.prog 180 #[va,vb] w fun e w'=> ∃ v,e= .returned v/\bY w' v (x*y)/\Below w.heap.size w w':=by
 obtain⟨da,rfl,hda⟩:=ha;obtain⟨db,rfl,hdb⟩:=hb;obtain⟨ao,ba,oa,ca,rfl,_,hao,hca⟩:=hda.shape;obtain⟨bo,bb,ob,cb,rfl,_,hbo,hcb⟩:=hdb.shape;refine(Qu (decide (x<0)) (decide (y<0)) ao bo ba oa ca bb ob cb _ _ _ (bZ x.natAbs) (bZ y.natAbs) w hx hy rfl rfl rfl (eU _) (eU _) hao hbo hca hcb).mono ?_;rintro e w' ⟨d,rfl,hd,hw⟩;rw [eH,eH] at hd;rw [eH,eH];refine⟨_,rfl,⟨d, ?_,by rw [Int.natAbs_mul];exact hd⟩,hw⟩;rw [Ve x y]
end
end Go.Proofs.YtcefcokpjbebhaaGreatDoor
