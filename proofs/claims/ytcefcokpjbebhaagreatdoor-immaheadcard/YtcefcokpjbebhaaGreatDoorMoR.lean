/-
  The document's answer of layer 11 (radomeref11): May, Time, Name, times, by, rows of noughts.
-/
import Derived.Test.YtcefcokpjbebhaaGreatDoorM25
import Derived.Test.YtcefcokpjbebhaaGreatDoorM8
import Derived.Test.YtcefcokpjbebhaaGreatDoorM4
import Derived.Test.YtcefcokpjbebhaaGreatDoorLgV
set_option linter.unusedSimpArgs false
set_option linter.unusedVariables false
set_option maxHeartbeats 1000000
set_option maxRecDepth 10000
namespace Go.Proofs.YtcefcokpjbebhaaGreatDoor
open Go.RowKit Vc St Qn Dt Tg Ld Mt Mo
attribute [local go_sem ↓] Go.wp_at_zero Go.wp_at_succ
theorem dtimes_any(a b:Int)(w:World)(ha0: -9223372036854775808<=a)(ha1:a<=9223372036854775807)(hb0: -9223372036854775808<=b)(hb1:b<=9223372036854775807):
 Calls Tryz.prog 95 #[.int .i64 a, .int .i64 b] w fun e w'=>e= .returned (.int .i64 (ml a b))/\Below w.heap.size w w':=by
 have HC:=hide (vdot_one a b 20 20 w rfl ha0 ha1 hb0 hb1 om1);have e1:Qn.clamp (Qn.rne (a*b) (2^20))=ml a b:=rfl;rw [e1] at HC;clear e1;go_enter Tryz.func95,Tryz.ntmps95
 go_wp2_with fail
 refine HC.out.mono ?_;rintro e w1 ⟨rfl,k1⟩;go_wp2;go_ret;exact⟨rfl,k1⟩
theorem dby_any(a b:Int)(w:World)(ha0: -9223372036854775808<=a)(ha1:a<=9223372036854775807)(hb0: -9223372036854775808<=b)(hb1:b<=9223372036854775807)(hb:b≠0):
 Calls Tryz.prog 109 #[.int .i64 a, .int .i64 b] w fun e w'=>e= .returned (.int .i64 (dv a b))/\Below w.heap.size w w':=by
 have HC:=hide (ldiv_any a b 20 w ha0 ha1 hb0 hb1 hb om1);have e1:signed a b (clamp (rne ((a.natAbs:Int)*2^20) b.natAbs))=dv a b:=rfl;rw [e1] at HC;clear e1;go_enter Tryz.func109,Tryz.ntmps109
 go_wp2_with fail
 refine HC.out.mono ?_;rintro e w1 ⟨rfl,rfl⟩;go_wp2;go_ret;exact⟨rfl,Below.refl _ _⟩
theorem dempty_any(w:World):
 Calls Tryz.prog 94 #[] w fun e w'=> ∃ L cm G,e= .returned (.slice (some ⟨L,0,none⟩) 6 cm)/\RwsAt w.heap.size w w' L cm G 6 6 (fun _ _=>0):=by
 obtain⟨i0,hi,hz0,hz1,hz2⟩:=info_parts infoI64;go_enter Tryz.func94,Tryz.ntmps94
 go_wp2;go_loopw [1,2] (fun out i wr=> ∃ k:Nat,k<=6/\i= .int .i64 (k:Int)/\Rws w.heap.size w wr out k 6 (fun _ _=>0)) (fun _ i _=>6- (intOf i).toNat)
 case atStart=>exact⟨0,om1,rfl,Rws.nil (Below.refl _ _) (Nat.le_refl _) _ _⟩
 case round=>
  rename World=>wo;obtain⟨k,hk,rfl,hL⟩:=hrel;by_cases h:k<6
  · have HL:=hide hL;clear hL;go_wp2_with (at_make;refine wpList_make_full _ rfl _ _ 27 rfl wo.heap.size 2 i0 (.int .i64 0) 1 Tryz.underlying27 hi hz0 hz1 _ _ _ _ 6 rfl rfl rfl rfl (by rw [hz2];omega) (by unfold maxLen;omega) (Nat.le_refl _) ?_)
    intro w1 hown hgrow;have hO:=own_made hown hgrow (Nat.le_refl _);have hW:=hide (own_whole hO);have HB:=hide hO.below;clear hown hgrow hO;go_wp2_with (at_builtin;refine wpList_pushR rl1 _ _ rl1 w.heap.size w _ k 6 (fun _ _=>0) rl1 HL.out HB.out om1 wo.heap.size hW.out (Nat.le_refl _) rl1 ?_)
    intro v' w' hL';go_wp2;go_roundw
    case rel=>exact⟨k+1,om1,by go_num,hL'⟩
    case measure=>simp [intOf];omega
  · obtain rfl:k=6:=om1;obtain⟨L,cm,G,rfl,hA⟩:=hL.open om1;go_wp2;go_ret;exact⟨L,cm,G,rfl,hA⟩
theorem dtime_any(d:Int)(w:World):
 Calls Tryz.prog 39 #[.int .i64 d] w fun e w'=>e= .returned (.bool (decide (1<=d/\d<=67108864)))/\Below w.heap.size w w':=by
 rcases Int.lt_or_le d 1 with h|h
 · have e:decide (1<=d/\d<=67108864)=false:=decide_eq_false om1;rw [e];clear e;go_enter Tryz.func39,Tryz.ntmps39
   go_wp2;go_ret;exact⟨rfl,Below.refl _ _⟩
 · have e:decide (1<=d/\d<=67108864)=decide (d<=67108864):=by rw [decide_eq_decide];omega
   rw [e];clear e;go_enter Tryz.func39,Tryz.ntmps39
   go_wp2;go_ret;exact⟨rfl,Below.refl _ _⟩
theorem dmay_yes(K R N:Int)(w:World)(h:MayM K R N):
 Calls Tryz.prog 47 #[.agg #[.int .i64 K, .int .i64 R, .int .i64 N]] w fun e w'=>e= .returned (.bool true)/\Below w.heap.size w w':=by
 obtain⟨⟨n1,n2⟩,h⟩:=h;have d1:decide (N<1)=false:=decide_eq_false om1;have d2:decide (1073741824<N)=false:=decide_eq_false om1;rcases h with⟨hK,rfl⟩|⟨hK,r1,r2⟩
 · rcases hK with rfl|rfl
   all_goals
    go_enter Tryz.func47,Tryz.ntmps47
    go_wp2;go_ret;exact⟨rfl,below_al (Below.refl _ _) _⟩
 · rcases hK with rfl|rfl
   all_goals
    go_enter Tryz.func47,Tryz.ntmps47
    go_wp2;go_ret;exact⟨rfl,below_al (Below.refl _ _) _⟩
theorem dmay_no(K R N:Int)(w:World)(h: ¬MayM K R N):
 Calls Tryz.prog 47 #[.agg #[.int .i64 K, .int .i64 R, .int .i64 N]] w fun e w'=>e= .returned (.bool false)/\Below w.heap.size w w':=by
 by_cases hN:1<=N/\N<=1073741824
 · have d1:decide (N<1)=false:=decide_eq_false om1;have d2:decide (1073741824<N)=false:=decide_eq_false om1;by_cases hK:0<=K/\K<=3
   · have d3:decide (K<0)=false:=decide_eq_false om1;have d4:decide (3<K)=false:=decide_eq_false om1;by_cases h2:K<2
     · have hR:R≠0:=fun e=>h ⟨hN, .inl ⟨om1,e⟩⟩;have d5:(R==0)=false:=beq_eq_false_iff_ne.2 hR;clear h hN hK hR;go_enter Tryz.func47,Tryz.ntmps47
       go_wp2;go_ret;exact⟨rfl,below_al (Below.refl _ _) _⟩
     · have hR: ¬(1048576<=R/\R<=268435456):=fun e=>h ⟨hN, .inr ⟨by unfold Turns;omega,e⟩⟩;clear h hN hK;rcases Int.lt_or_le R 1048576 with r1|r1
       · clear hR;go_enter Tryz.func47,Tryz.ntmps47
         go_wp2;go_ret;exact⟨rfl,below_al (Below.refl _ _) _⟩
       · have d6:decide (R<=268435456)=false:=decide_eq_false om1;clear hR;go_enter Tryz.func47,Tryz.ntmps47
         go_wp2;go_ret;exact⟨rfl,below_al (Below.refl _ _) _⟩
   · clear h hN;rcases Int.lt_or_le K 0 with k1|k1
     · clear hK;go_enter Tryz.func47,Tryz.ntmps47
       go_wp2;go_ret;exact⟨rfl,below_al (Below.refl _ _) _⟩
     · have d3:decide (K<0)=false:=decide_eq_false om1;have d4:3<K:=om1;clear hK;go_enter Tryz.func47,Tryz.ntmps47
       go_wp2;go_ret;exact⟨rfl,below_al (Below.refl _ _) _⟩
 · clear h;rcases Int.lt_or_le N 1 with n1|n1
   · clear hN;go_enter Tryz.func47,Tryz.ntmps47
     go_wp2;go_ret;exact⟨rfl,below_al (Below.refl _ _) _⟩
   · have n2:1073741824<N:=om1;clear hN;go_enter Tryz.func47,Tryz.ntmps47
     go_wp2;go_ret;exact⟨rfl,below_al (Below.refl _ _) _⟩
end Go.Proofs.YtcefcokpjbebhaaGreatDoor
