/-
  The document's answer of layer 11 (radomeref11): May, Time, Name, times, by, rows of noughts.
-/
import Derived.Test.YtcefcokpjbebhaaGreatDoorM25
import Derived.Test.YtcefcokpjbebhaaGreatDoorLgV
set_option linter.unusedSimpArgs false
set_option linter.unusedVariables false
set_option maxHeartbeats 1000000
set_option maxRecDepth 10000
namespace Go.Proofs.YtcefcokpjbebhaaGreatDoor
open Go.RowKit Vc St Qn Dt Tg Ld Mt Mo
attribute [local go_sem ↓] Go.wp_at_zero Go.wp_at_succ
theorem WU(K R N:Int)(w:World)(h:CV K R N):
 Calls Tryz.prog 47 #[.agg #[.int .i64 K, .int .i64 R, .int .i64 N]] w fun e w'=>e= .returned (.bool true)/\Below w.heap.size w w':=by
 obtain⟨⟨n1,n2⟩,h⟩:=h;have d1:decide (N<1)=false:=decide_eq_false om1;have d2:decide (1073741824<N)=false:=decide_eq_false om1;rcases h with⟨hK,rfl⟩|⟨hK,r1,r2⟩
 · rcases hK with rfl|rfl
   all_goals
    go_enter Tryz.func47,Tryz.ntmps47
    go_wp2;go_ret;exact⟨rfl,af (Below.refl _ _) _⟩
 · rcases hK with rfl|rfl
   all_goals
    go_enter Tryz.func47,Tryz.ntmps47
    go_wp2;go_ret;exact⟨rfl,af (Below.refl _ _) _⟩
theorem aa3(K R N:Int)(w:World)(h: ¬CV K R N):
 Calls Tryz.prog 47 #[.agg #[.int .i64 K, .int .i64 R, .int .i64 N]] w fun e w'=>e= .returned (.bool false)/\Below w.heap.size w w':=by
 by_cases hN:1<=N/\N<=1073741824
 · have d1:decide (N<1)=false:=decide_eq_false om1;have d2:decide (1073741824<N)=false:=decide_eq_false om1;by_cases hK:0<=K/\K<=3
   · have d3:decide (K<0)=false:=decide_eq_false om1;have d4:decide (3<K)=false:=decide_eq_false om1;by_cases h2:K<2
     · have hR:R≠0:=fun e=>h ⟨hN, .inl ⟨om1,e⟩⟩;have d5:(R==0)=false:=beq_eq_false_iff_ne.2 hR;clear h hN hK hR;go_enter Tryz.func47,Tryz.ntmps47
       go_wp2;go_ret;exact⟨rfl,af (Below.refl _ _) _⟩
     · have hR: ¬(1048576<=R/\R<=268435456):=fun e=>h ⟨hN, .inr ⟨by unfold uw;omega,e⟩⟩;clear h hN hK;rcases Int.lt_or_le R 1048576 with r1|r1
       · clear hR;go_enter Tryz.func47,Tryz.ntmps47
         go_wp2;go_ret;exact⟨rfl,af (Below.refl _ _) _⟩
       · have d6:decide (R<=268435456)=false:=decide_eq_false om1;clear hR;go_enter Tryz.func47,Tryz.ntmps47
         go_wp2;go_ret;exact⟨rfl,af (Below.refl _ _) _⟩
   · clear h hN;rcases Int.lt_or_le K 0 with k1|k1
     · clear hK;go_enter Tryz.func47,Tryz.ntmps47
       go_wp2;go_ret;exact⟨rfl,af (Below.refl _ _) _⟩
     · have d3:decide (K<0)=false:=decide_eq_false om1;have d4:3<K:=om1;clear hK;go_enter Tryz.func47,Tryz.ntmps47
       go_wp2;go_ret;exact⟨rfl,af (Below.refl _ _) _⟩
 · clear h;rcases Int.lt_or_le N 1 with n1|n1
   · clear hN;go_enter Tryz.func47,Tryz.ntmps47
     go_wp2;go_ret;exact⟨rfl,af (Below.refl _ _) _⟩
   · have n2:1073741824<N:=om1;clear hN;go_enter Tryz.func47,Tryz.ntmps47
     go_wp2;go_ret;exact⟨rfl,af (Below.refl _ _) _⟩
end Go.Proofs.YtcefcokpjbebhaaGreatDoor
