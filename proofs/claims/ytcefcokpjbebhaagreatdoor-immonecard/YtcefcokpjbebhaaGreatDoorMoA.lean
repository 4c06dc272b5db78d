/-
  How things move (model): steps one behind the other, Check, Name, and what a turn is.
-/
import Derived.Test.YtcefcokpjbebhaaGreatDoorMoMath
import Derived.Test.YtcefcokpjbebhaaGreatDoorM5
import Derived.Test.YtcefcokpjbebhaaGreatDoorM15
import Derived.Deep.RegionWith
set_option linter.unusedSimpArgs false
set_option linter.unusedVariables false
set_option maxHeartbeats 1000000
namespace Go.Proofs.YtcefcokpjbebhaaGreatDoor
open Go.RowKit Vc St Qn Dt Tg Ld Mo
attribute [local go_sem ↓] Go.wp_at_zero Go.wp_at_succ
namespace Mo
theorem isMd:Is 85 3:=⟨by kernel_rfl,⟨_,Tryz.underlying85,rfl⟩⟩
theorem isAc:Is 244 4:=⟨by kernel_rfl,⟨_,Tryz.underlying244,rfl⟩⟩
def Sure(w:World)(g:Nat):Prop:=CRow w g 144 [.bool false]
theorem Sure.keep{w w':World}{g:Nat}(h:Sure w g)(b:Below w.heap.size w w'):Sure w' g:=CRow.keep h b
theorem below_same{w:World}{g:Nat}(h:Sure w g):Below w.heap.size w (w.setCell ⟨g,0,none⟩ (.bool false)):=by
 refine⟨rfl,rfl,rfl,by simp,fun k hk=> ?_⟩;by_cases e:k=g
 · subst e;have h1:CRow (w.setCell ⟨k,0,none⟩ (.bool false)) k 144 [.bool false]:=CRow.set h 0 (.bool false);exact h1.trans h.symm
 · exact heap_setCell_other w _ k _ e
end Mo
theorem bounded_no(g:Nat)(n:Int)(w:World)(h:Sure w g):
 Calls Tryz.prog 150 #[.pointer (some ⟨g,0,none⟩), .int .i64 n, .bool false] w fun e w'=>e= .returned (.int .i64 n)/\Below w.heap.size w w':=by
 have c0:w.cell? ⟨g,0,none⟩=some (.bool false):=CRow.cell h (k:=0) rfl rfl;have f0:=CRow.free h 0;have B:=below_same h;clear h;go_enter Tryz.func150,Tryz.ntmps150
 go_wp2;go_ret;exact⟨rfl,B⟩
theorem number_no(g:Nat)(n:Int)(v:Value)(w:World)(h:Sure w g):
 Calls Tryz.prog 228 #[.pointer (some ⟨g,0,none⟩), .int .i64 n, .bool false,v] w fun e w'=>e= .returned (.int .i64 n)/\Below w.heap.size w w':=by
 have HB:=hide (bounded_no g n w h);clear h;go_enter Tryz.func228,Tryz.ntmps228
 go_wp2_with fail
 refine HB.out.mono ?_;rintro e w1 ⟨rfl,k1⟩;go_wp2;go_ret;exact⟨rfl,k1⟩
theorem product_no(g:Nat)(a b:Int)(w:World)(h:Sure w g)(ha0: -9223372036854775808<=a)(ha1:a<=9223372036854775807)(hb0: -9223372036854775808<=b)(hb1:b<=9223372036854775807)(ho:mlO a b=false):
 Calls Tryz.prog 149 #[.pointer (some ⟨g,0,none⟩), .int .i64 a, .int .i64 b] w fun e w'=>e= .returned (.int .i64 (ml a b))/\Below w.heap.size w w':=by
 have HC:=hide (qmul_any a b 20 w ha0 ha1 hb0 hb1 (by omega));have e1:clamp (rne (a*b) (2^20))=ml a b:=rfl;have e2:great (rne (a*b) (2^20))=mlO a b:=rfl;rw [e1,e2,ho] at HC;have HN:=hide (fun W (k:Below w.heap.size w W)=>number_no g (ml a b) .nilIface W (h.keep k));clear e1 e2 ho h;generalize ml a b=r at*;go_enter Tryz.func149,Tryz.ntmps149
 go_wp2_with fail
 refine HC.out.mono ?_;rintro e w1 ⟨rfl,k1⟩;go_wp2_with fail
 refine(HN.out _ k1).mono ?_;rintro e w2 ⟨rfl,k2⟩;go_wp2;go_ret;exact⟨rfl,below_tr k1 k2⟩
theorem half_no(g:Nat)(d:Int)(w:World)(h:Sure w g)(t:MayT d):
 Calls Tryz.prog 148 #[.pointer (some ⟨g,0,none⟩), .int .i64 d] w fun e w'=>e= .returned (.int .i64 (hf d))/\Below w.heap.size w w':=by
 have h1:=sq_in t;have h2:=hf_in t;obtain⟨t0,t1⟩:=t;have H1:=hide (product_no g d d w h (by omega) (by omega) (by omega) (by omega) h1.1);have H2:=hide (fun W (k:Below w.heap.size w W)=>product_no g (ml d d) 524288 W (h.keep k) (by omega) (by omega) (by omega) (by omega) h2.1);have e1:ml (ml d d) 524288=hf d:=rfl;rw [e1] at H2;clear e1 h1 h2 h;generalize ml d d=q at*;generalize hf d=r at*;go_enter Tryz.func148,Tryz.ntmps148
 go_wp2_with fail
 refine H1.out.mono ?_;rintro e w1 ⟨rfl,k1⟩;go_wp2_with fail
 refine(H2.out _ k1).mono ?_;rintro e w2 ⟨rfl,k2⟩;go_wp2;go_ret;exact⟨rfl,below_tr k1 k2⟩
namespace Mo
def Turns(K:Int):Prop:=K=2\/K=3
def MayM(K R N:Int):Prop:=MayN N/\((K=0\/K=1)/\R=0\/Turns K/\MayR R)
def nm(K:Int):Value:= .string (if K=0 then { data:= #[115,116,105,108,108] } else if K=1 then { data:= #[112,117,115,104,101,100] } else if K=2 then { data:= #[108,101,102,116] } else if K=3 then { data:= #[114,105,103,104,116] } else { data:= #[] })
end Mo
theorem name_any(K:Int)(w:World):
 Calls Tryz.prog 143 #[.int .i64 K] w fun e w'=>e= .returned (nm K)/\Below w.heap.size w w':=by
 by_cases h0:K=0
 · subst h0;go_enter Tryz.func143,Tryz.ntmps143
   go_wp2;go_ret;exact⟨rfl,Below.refl _ _⟩
 by_cases h1:K=1
 · subst h1;go_enter Tryz.func143,Tryz.ntmps143
   go_wp2;go_ret;exact⟨rfl,Below.refl _ _⟩
 by_cases h2:K=2
 · subst h2;go_enter Tryz.func143,Tryz.ntmps143
   go_wp2;go_ret;exact⟨rfl,Below.refl _ _⟩
 by_cases h3:K=3
 · subst h3;go_enter Tryz.func143,Tryz.ntmps143
   go_wp2;go_ret;exact⟨rfl,Below.refl _ _⟩
 have e:nm K= .string { data:= #[] }:=by unfold nm;rw [if_neg h0,if_neg h1,if_neg h2,if_neg h3]
 rw [e];clear e;go_enter Tryz.func143,Tryz.ntmps143
 go_wp2;go_ret;exact⟨rfl,Below.refl _ _⟩
theorem turns_yes(K:Int)(u v:Value)(w:World)(h:Turns K):
 Calls Tryz.prog 226 #[.agg #[.int .i64 K,u,v]] w fun e w'=>e= .returned (.bool true)/\Below w.heap.size w w':=by
 rcases h with rfl|rfl
 · go_enter Tryz.func226,Tryz.ntmps226
   go_wp2;go_ret;exact⟨rfl,below_al (Below.refl _ _) _⟩
 · go_enter Tryz.func226,Tryz.ntmps226
   go_wp2;go_ret;exact⟨rfl,below_al (Below.refl _ _) _⟩
theorem turns_no(K:Int)(u v:Value)(w:World)(h: ¬Turns K):
 Calls Tryz.prog 226 #[.agg #[.int .i64 K,u,v]] w fun e w'=>e= .returned (.bool false)/\Below w.heap.size w w':=by
 have h2:(K==2)=false:=beq_eq_false_iff_ne.2 fun e=>h (.inl e);have h3:(K==3)=false:=beq_eq_false_iff_ne.2 fun e=>h (.inr e);clear h;go_enter Tryz.func226,Tryz.ntmps226
 go_wp2;go_ret;exact⟨rfl,below_al (Below.refl _ _) _⟩
theorem moaFa1{p:Prop}(h:p:=by
 go_wp2_with (first|(refine St.wpList_load isMd (by rfl) _ (by rfl) _ _ (by rfl) (by with_reducible exact r0) rfl ?_))
 refine(turns_yes K _ v _ h).mono ?_;rintro e w1 ⟨rfl,k1⟩;have c1:w1.cell? ⟨w.heap.size,1,none⟩=some (.int .i64 R):=CRow.cell (CRow.keep r0 k1) (k:=1) rfl rfl;go_wp2;go_ret
 exact⟨rfl,below_tr (below_al (Below.refl _ _) _) k1⟩):p:=h
theorem rate_yes(K R:Int)(v:Value)(w:World)(h:Turns K/\MayR R\/ ¬Turns K/\R=0):
 Calls Tryz.prog 144 #[.agg #[.int .i64 K, .int .i64 R,v]] w fun e w'=>e= .returned (.bool true)/\Below w.heap.size w w':=by
 have r0:=crow_new w 85 [.int .i64 K, .int .i64 R,v];rcases h with⟨h,h1,h2⟩|⟨h,rfl⟩
 · go_enter Tryz.func144,Tryz.ntmps144
   exact moaFa1
 · go_enter Tryz.func144,Tryz.ntmps144
   go_wp2_with (first|(refine St.wpList_load isMd (by rfl) _ (by rfl) _ _ (by rfl) (by with_reducible exact r0) rfl ?_))
   refine(turns_no K _ v _ h).mono ?_;rintro e w1 ⟨rfl,k1⟩;have c1:w1.cell? ⟨w.heap.size,1,none⟩=some (.int .i64 0):=CRow.cell (CRow.keep r0 k1) (k:=1) rfl rfl;go_wp2;go_ret;exact⟨rfl,below_tr (below_al (Below.refl _ _) _) k1⟩
theorem rate_no(K R:Int)(v:Value)(w:World)(h:Turns K/\ ¬MayR R\/ ¬Turns K/\R≠0):
 Calls Tryz.prog 144 #[.agg #[.int .i64 K, .int .i64 R,v]] w fun e w'=>e= .returned (.bool false)/\Below w.heap.size w w':=by
 have r0:=crow_new w 85 [.int .i64 K, .int .i64 R,v];rcases h with⟨h,h1⟩|⟨h,h1⟩
 · rcases Int.lt_or_le R 1048576 with h2|h2
   · clear h1;go_enter Tryz.func144,Tryz.ntmps144
     exact moaFa1
   · have h3:268435456<R:=by
      rcases Int.lt_or_le 268435456 R with h3|h3
      · exact h3
      · exact absurd ⟨h2,h3⟩ h1
     have h4:decide (R<=268435456)=false:=decide_eq_false (by omega);clear h1;go_enter Tryz.func144,Tryz.ntmps144
     exact moaFa1
 · have h2:(R==0)=false:=beq_eq_false_iff_ne.2 h1;clear h1;go_enter Tryz.func144,Tryz.ntmps144
   go_wp2_with (first|(refine St.wpList_load isMd (by rfl) _ (by rfl) _ _ (by rfl) (by with_reducible exact r0) rfl ?_))
   refine(turns_no K _ v _ h).mono ?_;rintro e w1 ⟨rfl,k1⟩;have c1:w1.cell? ⟨w.heap.size,1,none⟩=some (.int .i64 R):=CRow.cell (CRow.keep r0 k1) (k:=1) rfl rfl;go_wp2;go_ret;exact⟨rfl,below_tr (below_al (Below.refl _ _) _) k1⟩
theorem time_yes(d:Int)(w:World)(h:MayT d):
 Calls Tryz.prog 71 #[.int .i64 d] w fun e w'=>e= .returned (.bool true)/\Below w.heap.size w w':=by
 obtain⟨h0,h1⟩:=h;go_enter Tryz.func71,Tryz.ntmps71
 go_wp2;go_ret;exact⟨rfl,Below.refl _ _⟩
theorem time_no(d:Int)(w:World)(h: ¬MayT d):
 Calls Tryz.prog 71 #[.int .i64 d] w fun e w'=>e= .returned (.bool false)/\Below w.heap.size w w':=by
 rcases Int.lt_or_le d 1 with h0|h0
 · clear h;go_enter Tryz.func71,Tryz.ntmps71
   go_wp2;go_ret;exact⟨rfl,Below.refl _ _⟩
 · have h1:67108864<d:=by
    rcases Int.lt_or_le 67108864 d with h3|h3
    · exact h3
    · exact absurd ⟨h0,h3⟩ h
   have h4:decide (d<=67108864)=false:=decide_eq_false (by omega);clear h;go_enter Tryz.func71,Tryz.ntmps71
   go_wp2;go_ret;exact⟨rfl,Below.refl _ _⟩
namespace Mo
theorem nm_not{K:Int}(h: ¬(K=0\/K=1)/\ ¬Turns K):nm K= .string { data:= #[] }:=by
 unfold nm;rw [if_neg (fun e=>h.1 (.inl e)),if_neg (fun e=>h.1 (.inr e)),if_neg (fun e=>h.2 (.inl e)),if_neg (fun e=>h.2 (.inr e))]
end Mo
theorem moaFa2{p:Prop}(h:p:=by
 go_wp2_with fail
 refine(HN.out _).mono ?_;rintro e w1 ⟨rfl,k1⟩;have r1:=CRow.keep r0 k1;have c2:w1.cell? ⟨w.heap.size,2,none⟩=some (.int .i64 N):=CRow.cell r1 (k:=2) rfl rfl;unfold nm;go_wp2_with (first|(refine St.wpList_load isMd (by rfl) _ (by rfl) _ _ (by rfl) (by with_reducible exact r1) rfl ?_))
 refine(H2.out _).mono ?_;rintro e w2 ⟨rfl,k2⟩;go_wp2;go_ret
 exact⟨rfl,below_tr (below_tr (below_al (Below.refl _ _) _) k1) k2⟩):p:=h
theorem moaFa3{p:Prop}(h:p:=by
 go_enter Tryz.func70,Tryz.ntmps70
 go_wp2_with fail
 refine(HN.out _).mono ?_;rintro e w1 ⟨rfl,k1⟩;have c2:w1.cell? ⟨w.heap.size,2,none⟩=some (.int .i64 N):=CRow.cell (CRow.keep r0 k1) (k:=2) rfl rfl;unfold nm;go_wp2;go_ret
 exact⟨rfl,below_tr (below_al (Below.refl _ _) _) k1⟩):p:=h
theorem mcheck_no(K R N:Int)(w:World)(h: ¬MayM K R N):
 Calls Tryz.prog 70 #[.agg #[.int .i64 K, .int .i64 R, .int .i64 N]] w fun e w'=>e= .returned (.iface 93 (.int .i64 1))/\Below w.heap.size w w':=by
 have r0:=crow_new w 85 [.int .i64 K, .int .i64 R, .int .i64 N];have HN:=hide (fun W=>name_any K W);by_cases hK:(K=0\/K=1)\/Turns K
 · have HR:Hid (¬MayN N\/(Turns K/\ ¬MayR R\/ ¬Turns K/\R≠0)):=by
    by_cases hN:MayN N
    · refine .inr ?_;rcases hK with hK|hK
      · refine .inr ⟨fun q=> ?_,fun q=>h ⟨hN, .inl ⟨hK,q⟩⟩⟩;rcases hK with rfl|rfl<;>rcases q with q|q<;>omega
      · exact .inl ⟨hK,fun q=>h ⟨hN, .inr ⟨hK,q⟩⟩⟩
    · exact .inl hN
   clear h;have H1:=hide (fun W (h:MayN N)=>rate_no K R (.int .i64 N) W (by rcases HR.out with q|q;(exact absurd h q);exact q));clear HR;rcases hK with(rfl|rfl)|(rfl|rfl)
   all_goals
    rcases Int.lt_or_le N 1 with n1|n1
    · clear H1;exact moaFa3
    · rcases Int.lt_or_le 1073741824 N with n2|n2
      · clear H1;exact moaFa3
      · have H2:=hide (fun W=>H1.out W ⟨n1,n2⟩);have d1:decide (N<1)=false:=decide_eq_false (by omega);have d2:decide (1073741824<N)=false:=decide_eq_false (by omega);clear H1;go_enter Tryz.func70,Tryz.ntmps70
        exact moaFa2
 · have hK': ¬(K=0\/K=1)/\ ¬Turns K:=⟨fun q=>hK (.inl q),fun q=>hK (.inr q)⟩;rw [nm_not hK'] at HN;clear hK hK' h;go_enter Tryz.func70,Tryz.ntmps70
   go_wp2_with fail
   refine(HN.out _).mono ?_;rintro e w1 ⟨rfl,k1⟩;go_wp2;go_ret;exact⟨rfl,below_tr (below_al (Below.refl _ _) _) k1⟩
theorem mcheck_yes(K R N:Int)(w:World)(h:MayM K R N):
 Calls Tryz.prog 70 #[.agg #[.int .i64 K, .int .i64 R, .int .i64 N]] w fun e w'=>e= .returned .nilIface/\Below w.heap.size w w':=by
 have r0:=crow_new w 85 [.int .i64 K, .int .i64 R, .int .i64 N];have HN:=hide (fun W=>name_any K W);obtain⟨⟨n1,n2⟩,h⟩:=h
 have HR:Hid (Turns K/\MayR R\/ ¬Turns K/\R=0):=by
  rcases h with⟨h,e⟩|h
  · refine .inr ⟨fun q=> ?_,e⟩;rcases h with rfl|rfl<;>rcases q with q|q<;>omega
  · exact .inl h
 have hK:(K=0\/K=1)\/Turns K:=by
  rcases h with⟨h,_⟩|⟨h,_⟩
  · exact .inl h
  · exact .inr h
 have H2:=hide (fun W=>rate_yes K R (.int .i64 N) W HR.out);have d1:decide (N<1)=false:=decide_eq_false (by omega);have d2:decide (1073741824<N)=false:=decide_eq_false (by omega);clear HR h;rcases hK with(rfl|rfl)|(rfl|rfl)
 all_goals
  go_enter Tryz.func70,Tryz.ntmps70
  exact moaFa2
end Go.Proofs.YtcefcokpjbebhaaGreatDoor
