/-
  How things move (model): steps one behind the other, Check, Name, and what a turn is.
-/
import Derived.Test.YtcefcokpjbebhaaGreatDoorMoMath
import Derived.Test.YtcefcokpjbebhaaGreatDoorM5
set_option linter.unusedSimpArgs false
set_option linter.unusedVariables false
set_option maxHeartbeats 1000000
namespace Go.Proofs.YtcefcokpjbebhaaGreatDoor
open Go.RowKit Vc St Qn Dt Tg Ld Mo
attribute [local go_sem ↓] Go.wp_at_zero Go.wp_at_succ
namespace Mo
theorem Hu:Is 85 3:=⟨by kernel_rfl,⟨_,Tryz.underlying85,rfl⟩⟩
theorem isAc:Is 244 4:=⟨by kernel_rfl,⟨_,Tryz.underlying244,rfl⟩⟩
def CU(w:World)(g:Nat):Prop:=ai w g 144 [.bool false]
theorem CU.keep{w w':World}{g:Nat}(h:CU w g)(b:Below w.heap.size w w'):CU w' g:=ai.keep h b
theorem Ou{w:World}{g:Nat}(h:CU w g):Below w.heap.size w (w.setCell ⟨g,0,none⟩ (.bool false)):=by
 refine⟨rfl,rfl,rfl,by simp,fun k hk=> ?_⟩;by_cases e:k=g
 · subst e;have h1:ai (w.setCell ⟨k,0,none⟩ (.bool false)) k 144 [.bool false]:=ai.set h 0 (.bool false);exact h1.trans h.symm
 · exact heap_setCell_other w _ k _ e
end Mo
theorem xQ(g:Nat)(n:Int)(w:World)(h:CU w g):
 Calls Tryz.prog 150 #[.pointer (some ⟨g,0,none⟩), .int .i64 n, .bool false] w fun e w'=>e= .returned (.int .i64 n)/\Below w.heap.size w w':=by
 have c0:w.cell? ⟨g,0,none⟩=some (.bool false):=ai.cell h (k:=0) rfl rfl;have f0:=ai.free h 0;have B:=Ou h;clear h;go_enter Tryz.func150,Tryz.ntmps150
 go_wp2;go_ret;exact⟨rfl,B⟩
theorem H9(g:Nat)(n:Int)(v:Value)(w:World)(h:CU w g):
 Calls Tryz.prog 228 #[.pointer (some ⟨g,0,none⟩), .int .i64 n, .bool false,v] w fun e w'=>e= .returned (.int .i64 n)/\Below w.heap.size w w':=by
 have HB:=hide (xQ g n w h);clear h;go_enter Tryz.func228,Tryz.ntmps228
 go_wp2_with fail
 refine HB.out.mono ?_;rintro e w1 ⟨rfl,k1⟩;go_wp2;go_ret;exact⟨rfl,k1⟩
theorem tN(g:Nat)(a b:Int)(w:World)(h:CU w g)(ha0: -9223372036854775808<=a)(ha1:a<=9223372036854775807)(hb0: -9223372036854775808<=b)(hb1:b<=9223372036854775807)(ho:mlO a b=false):
 Calls Tryz.prog 149 #[.pointer (some ⟨g,0,none⟩), .int .i64 a, .int .i64 b] w fun e w'=>e= .returned (.int .i64 (ml a b))/\Below w.heap.size w w':=by
 have HC:=hide (tJ a b 20 w ha0 ha1 hb0 hb1 om1);have e1:clamp (rne (a*b) (2^20))=ml a b:=rfl;have e2:great (rne (a*b) (2^20))=mlO a b:=rfl;rw [e1,e2,ho] at HC;have HN:=hide (fun W (k:Below w.heap.size w W)=>H9 g (ml a b) .nilIface W (h.keep k));clear e1 e2 ho h;generalize ml a b=r at*;go_enter Tryz.func149,Tryz.ntmps149
 go_wp2_with fail
 refine HC.out.mono ?_;rintro e w1 ⟨rfl,k1⟩;go_wp2_with fail
 refine(HN.out _ k1).mono ?_;rintro e w2 ⟨rfl,k2⟩;go_wp2;go_ret;exact⟨rfl,ae k1 k2⟩
theorem FH(g:Nat)(d:Int)(w:World)(h:CU w g)(t:qU d):
 Calls Tryz.prog 148 #[.pointer (some ⟨g,0,none⟩), .int .i64 d] w fun e w'=>e= .returned (.int .i64 (hf d))/\Below w.heap.size w w':=by
 have h1:=Zw t;have h2:=Zx t;obtain⟨t0,t1⟩:=t;have H1:=hide (tN g d d w h om1 om1 om1 om1 h1.1);have H2:=hide (fun W (k:Below w.heap.size w W)=>tN g (ml d d) 524288 W (h.keep k) om1 om1 om1 om1 h2.1);have e1:ml (ml d d) 524288=hf d:=rfl;rw [e1] at H2;clear e1 h1 h2 h;generalize ml d d=q at*;generalize hf d=r at*;go_enter Tryz.func148,Tryz.ntmps148
 go_wp2_with fail
 refine H1.out.mono ?_;rintro e w1 ⟨rfl,k1⟩;go_wp2_with fail
 refine(H2.out _ k1).mono ?_;rintro e w2 ⟨rfl,k2⟩;go_wp2;go_ret;exact⟨rfl,ae k1 k2⟩
namespace Mo
def uw(K:Int):Prop:=K=2\/K=3
def CV(K R N:Int):Prop:=lT N/\((K=0\/K=1)/\R=0\/uw K/\UM R)
def nm(K:Int):Value:= .string (if K=0 then { data:= #[115,116,105,108,108] } else if K=1 then { data:= #[112,117,115,104,101,100] } else if K=2 then { data:= #[108,101,102,116] } else if K=3 then { data:= #[114,105,103,104,116] } else { data:= #[] })
end Mo
theorem name_any(K:Int)(w:World):
 Calls Tryz.prog 143 #[.int .i64 K] w fun e w'=>e= .returned (nm K)/\Below w.heap.size w w':=by
 by_cases h0:K=0
 · subst h0;go_enter Tryz.func143,Tryz.ntmps143
   go_wp2;go_ret;exact⟨rfl,Below.refl _ _⟩
 by_cases h1:K=1
 · subst h1;go_enter Tryz.func143,Tryz.ntmps143
   go_wp2;go_ret;exact⟨rfl,Below.refl _ _⟩
 by_cases h2:K=2
 · subst h2;go_enter Tryz.func143,Tryz.ntmps143
   go_wp2;go_ret;exact⟨rfl,Below.refl _ _⟩
 by_cases h3:K=3
 · subst h3;go_enter Tryz.func143,Tryz.ntmps143
   go_wp2;go_ret;exact⟨rfl,Below.refl _ _⟩
 have e:nm K= .string { data:= #[] }:=by unfold nm;rw [if_neg h0,if_neg h1,if_neg h2,if_neg h3]
 rw [e];clear e;go_enter Tryz.func143,Tryz.ntmps143
 go_wp2;go_ret;exact⟨rfl,Below.refl _ _⟩
theorem Ro(K:Int)(u v:Value)(w:World)(h:uw K):
 Calls Tryz.prog 226 #[.agg #[.int .i64 K,u,v]] w fun e w'=>e= .returned (.bool true)/\Below w.heap.size w w':=by
 rcases h with rfl|rfl
 · go_enter Tryz.func226,Tryz.ntmps226
   go_wp2;go_ret;exact⟨rfl,af (Below.refl _ _) _⟩
 · go_enter Tryz.func226,Tryz.ntmps226
   go_wp2;go_ret;exact⟨rfl,af (Below.refl _ _) _⟩
theorem LZ(K:Int)(u v:Value)(w:World)(h: ¬uw K):
 Calls Tryz.prog 226 #[.agg #[.int .i64 K,u,v]] w fun e w'=>e= .returned (.bool false)/\Below w.heap.size w w':=by
 have h2:(K==2)=false:=beq_eq_false_iff_ne.2 fun e=>h (.inl e);have h3:(K==3)=false:=beq_eq_false_iff_ne.2 fun e=>h (.inr e);clear h;go_enter Tryz.func226,Tryz.ntmps226
 go_wp2;go_ret;exact⟨rfl,af (Below.refl _ _) _⟩
theorem Rq{p:Prop}(h:p:=by
 go_wp2_with (first|(refine St.aI Hu rl1 _ rl1 _ _ rl1 (by with_reducible exact r0) rfl ?_))
 refine(Ro K _ v _ h).mono ?_;rintro e w1 ⟨rfl,k1⟩;have c1:w1.cell? ⟨w.heap.size,1,none⟩=some (.int .i64 R):=ai.cell (ai.keep r0 k1) (k:=1) rfl rfl;go_wp2;go_ret
 exact⟨rfl,ae (af (Below.refl _ _) _) k1⟩):p:=h
theorem VZ(K R:Int)(v:Value)(w:World)(h:uw K/\UM R\/ ¬uw K/\R=0):
 Calls Tryz.prog 144 #[.agg #[.int .i64 K, .int .i64 R,v]] w fun e w'=>e= .returned (.bool true)/\Below w.heap.size w w':=by
 have r0:=aH w 85 [.int .i64 K, .int .i64 R,v];rcases h with⟨h,h1,h2⟩|⟨h,rfl⟩
 · go_enter Tryz.func144,Tryz.ntmps144
   exact Rq
 · go_enter Tryz.func144,Tryz.ntmps144
   go_wp2_with (first|(refine St.aI Hu rl1 _ rl1 _ _ rl1 (by with_reducible exact r0) rfl ?_))
   refine(LZ K _ v _ h).mono ?_;rintro e w1 ⟨rfl,k1⟩;have c1:w1.cell? ⟨w.heap.size,1,none⟩=some (.int .i64 0):=ai.cell (ai.keep r0 k1) (k:=1) rfl rfl;go_wp2;go_ret;exact⟨rfl,ae (af (Below.refl _ _) _) k1⟩
theorem ZE(K R:Int)(v:Value)(w:World)(h:uw K/\ ¬UM R\/ ¬uw K/\R≠0):
 Calls Tryz.prog 144 #[.agg #[.int .i64 K, .int .i64 R,v]] w fun e w'=>e= .returned (.bool false)/\Below w.heap.size w w':=by
 have r0:=aH w 85 [.int .i64 K, .int .i64 R,v];rcases h with⟨h,h1⟩|⟨h,h1⟩
 · rcases Int.lt_or_le R 1048576 with h2|h2
   · clear h1;go_enter Tryz.func144,Tryz.ntmps144
     exact Rq
   · have h3:268435456<R:=by
      rcases Int.lt_or_le 268435456 R with h3|h3
      · exact h3
      · exact absurd ⟨h2,h3⟩ h1
     have h4:decide (R<=268435456)=false:=decide_eq_false om1;clear h1;go_enter Tryz.func144,Tryz.ntmps144
     exact Rq
 · have h2:(R==0)=false:=beq_eq_false_iff_ne.2 h1;clear h1;go_enter Tryz.func144,Tryz.ntmps144
   go_wp2_with (first|(refine St.aI Hu rl1 _ rl1 _ _ rl1 (by with_reducible exact r0) rfl ?_))
   refine(LZ K _ v _ h).mono ?_;rintro e w1 ⟨rfl,k1⟩;have c1:w1.cell? ⟨w.heap.size,1,none⟩=some (.int .i64 R):=ai.cell (ai.keep r0 k1) (k:=1) rfl rfl;go_wp2;go_ret;exact⟨rfl,ae (af (Below.refl _ _) _) k1⟩
theorem Mc(d:Int)(w:World)(h:qU d):
 Calls Tryz.prog 71 #[.int .i64 d] w fun e w'=>e= .returned (.bool true)/\Below w.heap.size w w':=by
 obtain⟨h0,h1⟩:=h;go_enter Tryz.func71,Tryz.ntmps71
 go_wp2;go_ret;exact⟨rfl,Below.refl _ _⟩
theorem ZF(d:Int)(w:World)(h: ¬qU d):
 Calls Tryz.prog 71 #[.int .i64 d] w fun e w'=>e= .returned (.bool false)/\Below w.heap.size w w':=by
 rcases Int.lt_or_le d 1 with h0|h0
 · clear h;go_enter Tryz.func71,Tryz.ntmps71
   go_wp2;go_ret;exact⟨rfl,Below.refl _ _⟩
 · have h1:67108864<d:=by
    rcases Int.lt_or_le 67108864 d with h3|h3
    · exact h3
    · exact absurd ⟨h0,h3⟩ h
   have h4:decide (d<=67108864)=false:=decide_eq_false om1;clear h;go_enter Tryz.func71,Tryz.ntmps71
   go_wp2;go_ret;exact⟨rfl,Below.refl _ _⟩
namespace Mo
theorem nm_not{K:Int}(h: ¬(K=0\/K=1)/\ ¬uw K):nm K= .string { data:= #[] }:=by
 unfold nm;rw [if_neg (fun e=>h.1 (.inl e)),if_neg (fun e=>h.1 (.inr e)),if_neg (fun e=>h.2 (.inl e)),if_neg (fun e=>h.2 (.inr e))]
end Mo
theorem XG{p:Prop}(h:p:=by
 go_wp2_with fail
 refine(HN.out _).mono ?_;rintro e w1 ⟨rfl,k1⟩;have r1:=ai.keep r0 k1;have c2:w1.cell? ⟨w.heap.size,2,none⟩=some (.int .i64 N):=ai.cell r1 (k:=2) rfl rfl;unfold nm;go_wp2_with (first|(refine St.aI Hu rl1 _ rl1 _ _ rl1 (by with_reducible exact r1) rfl ?_))
 refine(H2.out _).mono ?_;rintro e w2 ⟨rfl,k2⟩;go_wp2;go_ret
 exact⟨rfl,ae (ae (af (Below.refl _ _) _) k1) k2⟩):p:=h
theorem XH{p:Prop}(h:p:=by
 go_enter Tryz.func70,Tryz.ntmps70
 go_wp2_with fail
 refine(HN.out _).mono ?_;rintro e w1 ⟨rfl,k1⟩;have c2:w1.cell? ⟨w.heap.size,2,none⟩=some (.int .i64 N):=ai.cell (ai.keep r0 k1) (k:=2) rfl rfl;unfold nm;go_wp2;go_ret
 exact⟨rfl,ae (af (Below.refl _ _) _) k1⟩):p:=h
theorem Ia(K R N:Int)(w:World)(h: ¬CV K R N):
 Calls Tryz.prog 70 #[.agg #[.int .i64 K, .int .i64 R, .int .i64 N]] w fun e w'=>e= .returned (.iface 93 (.int .i64 1))/\Below w.heap.size w w':=by
 have r0:=aH w 85 [.int .i64 K, .int .i64 R, .int .i64 N];have HN:=hide (fun W=>name_any K W);by_cases hK:(K=0\/K=1)\/uw K
 · have HR:Hid (¬lT N\/(uw K/\ ¬UM R\/ ¬uw K/\R≠0)):=by
    by_cases hN:lT N
    · refine .inr ?_;rcases hK with hK|hK
      · refine .inr ⟨fun q=> ?_,fun q=>h ⟨hN, .inl ⟨hK,q⟩⟩⟩;rcases hK with rfl|rfl<;>rcases q with q|q<;>omega
      · exact .inl ⟨hK,fun q=>h ⟨hN, .inr ⟨hK,q⟩⟩⟩
    · exact .inl hN
   clear h;have H1:=hide (fun W (h:lT N)=>ZE K R (.int .i64 N) W (by rcases HR.out with q|q;(exact absurd h q);exact q));clear HR;rcases hK with(rfl|rfl)|(rfl|rfl)
   all_goals
    rcases Int.lt_or_le N 1 with n1|n1
    · clear H1;exact XH
    · rcases Int.lt_or_le 1073741824 N with n2|n2
      · clear H1;exact XH
      · have H2:=hide (fun W=>H1.out W ⟨n1,n2⟩);have d1:decide (N<1)=false:=decide_eq_false om1;have d2:decide (1073741824<N)=false:=decide_eq_false om1;clear H1;go_enter Tryz.func70,Tryz.ntmps70
        exact XG
 · have hK': ¬(K=0\/K=1)/\ ¬uw K:=⟨fun q=>hK (.inl q),fun q=>hK (.inr q)⟩;rw [nm_not hK'] at HN;clear hK hK' h;go_enter Tryz.func70,Tryz.ntmps70
   go_wp2_with fail
   refine(HN.out _).mono ?_;rintro e w1 ⟨rfl,k1⟩;go_wp2;go_ret;exact⟨rfl,ae (af (Below.refl _ _) _) k1⟩
theorem tV(K R N:Int)(w:World)(h:CV K R N):
 Calls Tryz.prog 70 #[.agg #[.int .i64 K, .int .i64 R, .int .i64 N]] w fun e w'=>e= .returned .nilIface/\Below w.heap.size w w':=by
 have r0:=aH w 85 [.int .i64 K, .int .i64 R, .int .i64 N];have HN:=hide (fun W=>name_any K W);obtain⟨⟨n1,n2⟩,h⟩:=h
 have HR:Hid (uw K/\UM R\/ ¬uw K/\R=0):=by
  rcases h with⟨h,e⟩|h
  · refine .inr ⟨fun q=> ?_,e⟩;rcases h with rfl|rfl<;>rcases q with q|q<;>omega
  · exact .inl h
 have hK:(K=0\/K=1)\/uw K:=by
  rcases h with⟨h,_⟩|⟨h,_⟩
  · exact .inl h
  · exact .inr h
 have H2:=hide (fun W=>VZ K R (.int .i64 N) W HR.out);have d1:decide (N<1)=false:=decide_eq_false om1;have d2:decide (1073741824<N)=false:=decide_eq_false om1;clear HR h;rcases hK with(rfl|rfl)|(rfl|rfl)
 all_goals
  go_enter Tryz.func70,Tryz.ntmps70
  exact XG
end Go.Proofs.YtcefcokpjbebhaaGreatDoor
