/-
  Package like (layer 16): Weights; slices.Grow, slices.Concat of two; Best.
-/
import Derived.Test.YtdgcnaijndocnaaGreatDoorLkK
import Derived.Test.YtdgcnaijndocnaaGreatDoorLkQ
import Derived.Lib.AppendZeros
import Derived.Test.YtdgcnaijndocnaaGreatDoorM35
import Derived.Test.YtdgcnaijndocnaaGreatDoorM22
set_option linter.unusedSimpArgs false
set_option linter.unusedVariables false
namespace Go.Proofs.YtdgcnaijndocnaaGreatDoor
open Go.RowKit Vc Cn St Qn Lk Gw
set_option maxRecDepth 10000 in
set_option maxHeartbeats 2000000 in
theorem k_weights : KWeights := by
 intro W lo co n cl m cc l c fl hl bl' hc bc hf0 hf1
 by_cases hmay : n = m ∧ Ch m c 0 ∧ ∀ k, k < n → -4611686018427387903 ≤ l k ∧ l k ≤ 4611686018427387903
 ·have HM := hideH (kmay_any W lo co n cl m cc l c hl bl' hc bc true (fun _ => hmay) (fun q => by cases q))
  obtain ⟨rfl, hch, heach⟩ := hmay
  have hmz : MayL n l c 0 := ⟨hch, by omega, by omega, heach⟩
  obtain ⟨x, hao, hca⟩ := hl.get
  obtain ⟨y, hbo, hcb⟩ := hc.get
  have l1 := hl.le
  have l2 := hl.cap
  have l3 := hc.le
  have l4 := hc.cap
  have n0 := hch.one
  have n4 := hch.four
  obtain rfl := hao (by omega)
  obtain rfl := hbo (by omega)
  have HWe : Hid (∀ w, Below W.heap.size W w → Calls Tryz.prog 39 #[.slice (some x) n cl, .slice (some y) n cc] w fun e w' => ∃ g : Nat, e = .returned (.tuple #[.slice (some ⟨g, 0, none⟩) n n, .bool (wo l c n n)]) ∧ CRow w' g 2 (vals n (wz l c n)) ∧ w.heap.size ≤ g ∧ Below w.heap.size w w') :=
   fun w b => kweighed_any x y n cl cc l c w hmz l1 l2 l3 l4 (fun k hk => keep_cell b (hca k hk)) (fun k hk => keep_cell b (hcb k hk))
  have HOf : Hid (∀ (w : World) (g : Nat), CRow w g 2 (vals n (wz l c n)) → Calls Tryz.prog 40 #[.slice (some ⟨g, 0, none⟩) n n, .int .i64 fl] w fun e w' => ∃ vo vn vc ev, e = .returned (.tuple #[.slice vo vn vc, ev]) ∧ Below w.heap.size w w' ∧ Sl w' vo vn vc (oc fl (wz l c n) n) ∧
    ((¬ MayW n (wz l c n) fl ∧ vn = 0 ∧ ev = errV 1) ∨ (MayW n (wz l c n) fl ∧ tot (wz l c n) n = 0 ∧ vn = 0 ∧ ev = errV 11) ∨ (MayW n (wz l c n) fl ∧ 0 < tot (wz l c n) n ∧ vn = n ∧ ev = .nilIface))) :=
   fun w g r => cn_of w (some ⟨g, 0, none⟩) n n (wz l c n) fl (crow_sl r n4) (fun k => by have := wz_in hmz k; omega) hf0 hf1
  have HP := hideH (wz_pos hmz)
  have HMW : Hid (0 ≤ fl ∧ fl ≤ 67108864 → MayW n (wz l c n) fl ∧ MayL n l c fl) := fun q => ⟨wz_may (fl := fl) ⟨hch, q.1, q.2, heach⟩, ⟨hch, q.1, q.2, heach⟩⟩
  have HNW : Hid (¬ (0 ≤ fl ∧ fl ≤ 67108864) → ¬ MayL n l c fl) := fun q r => q ⟨r.lo, r.hi⟩
  obtain ⟨Z, hZ⟩ : ∃ Z, Z = wz l c n := ⟨_, rfl⟩
  obtain ⟨O, hO⟩ : ∃ Z, Z = wo l c n n := ⟨_, rfl⟩
  rw [← hZ] at HWe HOf HP HMW
  rw [← hO] at HWe
  rw [← hZ, ← hO]
  clear hZ hO hmz hl bl' hc bc hca hcb hao hbo heach hch
  go_enter Tryz.func12, Tryz.ntmps12
  go_wp2_with (first
   | (go_at_call 38; refine HM.out.mono ?_; rintro e w1 ⟨rfl, k1⟩; have K1 := hideH k1; clear k1)
   | (go_at_call 39; refine (HWe.out _ K1.out).mono ?_; rintro e w2 ⟨g, rfl, c2, hg, k2⟩; have C2 := hideH c2; have K2 := hideH (below_tr K1.out k2); clear c2 k2))
  refine (HOf.out _ _ C2.out).mono ?_
  by_cases hf : 0 ≤ fl ∧ fl ≤ 67108864
  ·rintro e w3 ⟨vo, vn, vc, ev, rfl, k3, s3, ⟨q, _⟩ | ⟨_, q, _⟩ | ⟨q1, q2, q3, rfl⟩⟩
   ·exact absurd (HMW.out hf).1 q
   ·have := HP.out; omega
   ·obtain rfl := q3.symm
    have K3 := hideH (below_tr K2.out k3)
    have S3 := hideH s3
    clear k3 s3 q1 q2
    go_wp2
    go_ret3
    exact ⟨_, _, _, _, _, rfl, K3.out, S3.out, Or.inr ⟨trivial, (HMW.out hf).2, rfl, rfl, rfl⟩⟩
  ·rintro e w3 ⟨vo, vn, vc, ev, rfl, k3, s3, ⟨_, rfl, rfl⟩ | ⟨q, _⟩ | ⟨q, _⟩⟩
   ·have K3 := hideH (below_tr K2.out k3)
    clear k3 s3
    unfold errV
    go_wp2
    go_ret3
    exact ⟨_, _, _, _, _, rfl, K3.out, Sl.none _ _, Or.inl ⟨fun r => HNW.out hf r.2, rfl, rfl⟩⟩
   ·exact absurd ⟨q.lo, q.hi⟩ hf
   ·exact absurd ⟨q.lo, q.hi⟩ hf
 ·have HM := hideH (kmay_any W lo co n cl m cc l c hl bl' hc bc false (fun q => by cases q) (fun _ => hmay))
  have HN : Hid (¬ (n = m ∧ MayL n l c fl)) := fun q => hmay ⟨q.1, by rw [← q.1]; exact q.2.ch, q.2.each⟩
  have l1 := hl.le
  have l2 := hl.cap
  have l3 := hc.le
  have l4 := hc.cap
  clear hmay hl bl' hc bc
  go_enter Tryz.func12, Tryz.ntmps12
  go_wp2_with (go_at_call 38; refine HM.out.mono ?_; rintro e w1 ⟨rfl, k1⟩; have K1 := hideH k1; clear k1)
  go_ret3
  exact ⟨_, _, _, _, _, rfl, K1.out, Sl.none _ _, Or.inl ⟨HN.out, rfl, rfl⟩⟩
set_option maxRecDepth 10000 in
set_option maxHeartbeats 2000000 in
theorem kgrow_any (N : Nat) (w : World) (hN : N ≤ 64) :
  Calls Tryz.prog 107 #[.slice none 0 0, .int .i64 (N : Int)] w fun e w' => ∃ v, e = .returned v ∧ Own w.heap.size w w' v 0 (fun _ => 0) := by
 by_cases h0 : N = 0
 ·subst h0
  go_enter Tryz.func107, Tryz.ntmps107
  go_wp2
  go_ret
  exact ⟨_, rfl, Own.nil (Below.refl _ _) (Nat.le_refl _) _⟩
 ·obtain ⟨i0, hi, hz0, hz1, hz2⟩ := info_parts infoI64
  have hr : ∀ ty, (Builtin.append_ #[22, 3] ty #[.slice none 0 0, .int .i64 (N : Int)]).run Tryz.prog w = _ := fun ty =>
   Lib.run_append_nil_zeros w 22 3 ty 2 i0 (.int .i64 0) .i64 .i64 Tryz.underlying22 Tryz.underlying3 hi hz0 N (by omega) (by rw [hz1]; omega) (by omega) (by rw [hz2]; omega)
  have hcap := grownCap_le_maxLen w N 0 2 (by unfold maxLen; omega)
  have hge := grownCap_ge w N 0 2
  obtain ⟨G, hG⟩ : ∃ G, G = grownCap w N 0 2 := ⟨_, rfl⟩
  rw [← hG] at hr hcap hge
  have hS : ∀ W, (Instr.slice 22 (.slice (some ⟨w.heap.size, 0, none⟩) N G) none (some (.int .i64 0)) none).run Tryz.prog W = .ok (.slice (some ⟨w.heap.size, 0, none⟩) 0 G) W := fun W => run_headA ⟨w.heap.size, 0, none⟩ N G 0 (Nat.zero_le _) W
  obtain ⟨cs, hcs⟩ : ∃ cs, cs = Builtin.zeroCells (Value.int .i64 0).cells N ++ Builtin.zeroCells (Value.int .i64 0).cells (G - N) := ⟨_, rfl⟩
  rw [← hcs] at hr
  have hsz : cs.size = G := by rw [hcs]; simp [size_zeroCells]; show N * 1 + (G - N) * 1 = G; omega
  have HO : Hid (Own w.heap.size w (w.drew.alloc (.cells cs 2)) (.slice (some ⟨w.heap.size, 0, none⟩) 0 G) 0 (fun _ => 0)) := by
   refine ⟨⟨rfl, Or.inr ⟨w.heap.size, G, cs, rfl, Nat.le_refl _, heap_alloc_new w.drew _, Nat.zero_le _, hcap, by rw [hsz, Nat.mul_one], rfl⟩⟩, ?_, ?_⟩
   ·exact (Vc.below_drew' w).alloc (Nat.le_refl _) _
   ·show w.heap.size ≤ (w.drew.alloc (.cells cs 2)).heap.size
    simp
  have e1 : IntKind.i64.wrap (N : Int) = N := by rw [IntKind.wrap_i64]; omega
  have e2 : (N : Int) > 0 := by omega
  have e3 : ¬ (N : Int) < 0 := by omega
  have HR := hideH hr
  clear hcs hG hsz hr hcap hge hi hz0 hz1 hz2
  go_enter Tryz.func107, Tryz.ntmps107
  go_wp2_with (at_builtin; refine Lib.wpList_append_run _ rfl _ _ _ _ rfl _ _ rfl rfl _ _ (HR.out _) ?_)
  go_ret
  exact ⟨_, rfl, HO.out⟩
set_option maxRecDepth 10000 in
set_option maxHeartbeats 2000000 in
theorem kconcat_any (g : Nat) (A0 A1 : Addr) (L0 L1 C0 C1 : Nat) (z0 z1 : Nat → Int) (w : World) (h0 : w.cell? ⟨g, 0, none⟩ = some (.slice (some A0) L0 C0)) (h1 : w.cell? ⟨g, 1, none⟩ = some (.slice (some A1) L1 C1))
  (c0 : ∀ k, k < L0 → w.cell? (A0.add k) = some (.int .i64 (z0 k))) (c1 : ∀ k, k < L1 → w.cell? (A1.add k) = some (.int .i64 (z1 k))) (hL : L0 + L1 ≤ 64) :
  Calls Tryz.prog 48 #[.slice (some ⟨g, 0, none⟩) 2 2] w fun e w' => ∃ v, e = .returned v ∧ Own w.heap.size w w' v (L0 + L1) (fun k => if k < L0 then z0 k else z1 (k - L0)) := by
 have HG := hideH (kgrow_any (L0 + L1) w hL)
 have H0 := hideH h0
 have H1 := hideH h1
 have HC0 := hideH c0
 have HC1 := hideH c1
 have e1 : IntKind.i64.wrap (L0 : Int) = L0 := by rw [IntKind.wrap_i64]; omega
 have e2 : IntKind.i64.wrap ((L0 : Int) + L1) = ((L0 + L1 : Nat) : Int) := by rw [IntKind.wrap_i64]; omega
 have e3 : decide ((L0 : Int) < 0) = false := decide_eq_false (by omega)
 have e4 : decide ((((L0 + L1 : Nat) : Int)) < 0) = false := decide_eq_false (by omega)
 obtain ⟨M, hM⟩ : ∃ M, M = L0 + L1 := ⟨_, rfl⟩
 rw [← hM] at HG e2 e4 ⊢
 have HM := hideH hM
 clear c0 c1 hM
 go_enter Tryz.func48, Tryz.ntmps48
 go_wp2
 refine wp_loop_rounds 3 ?_
 rw [rounds_succ]; go_wp2
 rw [rounds_succ]; go_wp2
 rw [rounds_succ]
 go_wp2_with (go_at_call 107; refine HG.out.mono ?_; rintro e w1 ⟨v, rfl, o1⟩; have b1 := o1.below; have f0 := keep_cell b1 H0.out; have f1 := keep_cell b1 H1.out; have O1 := hideH o1; have B1 := hideH b1; clear o1 b1 h0 h1)
 refine wp_loop_rounds 3 ?_
 rw [rounds_succ]
 go_wp2_with (at_builtin; refine wpList_appendSl (by rfl) (.tmp 31) (.tmp 32) (by rfl) w.heap.size w _ 0 (fun _ => 0) (by rfl) O1.out A0 L0 C0 z0 (by rfl) (fun k hk => keep_cell B1.out (HC0.out k hk)) (by omega) ?_; intro v2 w2 o2 _; have b2 := o2.below; have q0 := keep_cell b2 H0.out; have q1 := keep_cell b2 H1.out; have O2 : Hid (Own w.heap.size w w2 v2 L0 z0) := (by rw [Nat.zero_add] at o2; exact o2.congr (fun k hk => by rw [if_neg (by omega)]; rfl)); have B2 := hideH b2; clear o2 b2 f0 f1)
 rw [rounds_succ]
 go_wp2_with (at_builtin; refine wpList_appendSl (by rfl) (.tmp 31) (.tmp 32) (by rfl) w.heap.size w _ L0 z0 (by rfl) O2.out A1 L1 C1 z1 (by rfl) (fun k hk => keep_cell B2.out (HC1.out k hk)) (by omega) ?_; intro v3 w3 o3 _; have O3 := hideH o3; clear o3 q0 q1)
 rw [rounds_succ]
 go_wp2
 go_ret
 exact ⟨_, rfl, by rw [HM.out]; exact O3.out⟩
set_option maxRecDepth 10000 in
set_option maxHeartbeats 2000000 in
theorem k_best : KBest := by
 intro W lo n cl l hl bl'
 have l1 := hl.le
 have l2 := hl.cap
 by_cases hm : 1 ≤ n ∧ n ≤ 64
 ·obtain ⟨x, hao, hca⟩ := hl.get
  obtain rfl := hao (by omega)
  obtain ⟨n1, hn1⟩ : ∃ n1, n = n1 + 1 := ⟨n - 1, by omega⟩
  have hq : mst l n < n := by rw [hn1]; have := mst_lt l n1; omega
  have hs := mst_spec l n1
  rw [← hn1] at hs
  have hmx : mx l n = l (mst l n) := by rw [hn1]; exact mx_is l n1
  have HMx := hideH (cmaxI_any x n cl l W (by omega) l1 l2 hca)
  have HIx := hideH (cindexI_any x n cl l (mx l n) (mst l n) W hq l1 l2 hca hmx.symm (fun i hi => by rw [hmx]; have := hs.2 i hi; omega))
  have HP : Hid (pl l n = mst l n) := pl_mst l n
  rw [hmx] at HMx HIx
  obtain ⟨iq, hqq⟩ : ∃ q, q = mst l n := ⟨_, rfl⟩
  rw [← hqq] at hq HIx HMx HP
  have hb := bl' iq
  have hT := run_headA x n cl iq (by omega)
  obtain ⟨y, hy, hY⟩ := run_tailA x n cl (iq + 1) (by omega) l1
  have eq1 : ((iq + 1 : Nat) : Int) = (iq : Int) + 1 := by omega
  rw [eq1] at hY
  have ew : IntKind.i64.wrap ((iq : Int) + 1) = (iq : Int) + 1 := by rw [IntKind.wrap_i64]; omega
  have HC : Hid (∀ w (g : Nat), w.cell? ⟨g, 0, none⟩ = some (.slice (some x) iq cl) → w.cell? ⟨g, 1, none⟩ = some (.slice (some y) (n - (iq + 1)) (cl - (iq + 1))) → Below W.heap.size W w → Calls Tryz.prog 48 #[.slice (some ⟨g, 0, none⟩) 2 2] w fun e w' => ∃ v, e = .returned v ∧ Own w.heap.size w w' v (n - 1) (oth l iq)) := fun w g q0 q1 b => by
   refine (kconcat_any g x y iq (n - (iq + 1)) cl (cl - (iq + 1)) l (fun k => l (iq + 1 + k)) w q0 q1 (fun k hk => keep_cell b (hca k (by omega))) (fun k hk => ?_) (by omega)).mono ?_
   ·have e := hca (iq + 1 + k) (by omega)
    rw [hy (by omega)]
    have e2 : (x.add (iq + 1)).add k = x.add (iq + 1 + k) := by obtain ⟨b, o, p⟩ := x; simp [Addr.add]; split <;> simp [Nat.add_assoc]
    rw [e2]
    exact keep_cell b e
   ·rintro e w' ⟨v, rfl, o⟩
    have e3 : iq + (n - (iq + 1)) = n - 1 := by omega
    rw [e3] at o
    exact ⟨v, rfl, o⟩
  have HLf : Hid (2 ≤ n → lft l iq n = Qn.clamp (l iq - mx (oth l iq) (n - 1))) := fun h2 => by
   obtain ⟨n2, hn2⟩ : ∃ n2, n = n2 + 2 := ⟨n - 2, by omega⟩
   subst hn2
   exact lft_is hq
  have HL1 : Hid (n = 1 → lft l iq n = 4611686018427387903) := fun h1 => by
   subst h1
   have e : iq = 0 := by omega
   subst e
   rfl
  have HMA : Hid (∀ (w : World) (ao : Option Addr) (c : Nat), 2 ≤ n → Sl w ao (n - 1) c (oth l iq) → Calls Tryz.prog 46 #[.slice ao (n - 1) c] w fun e w' => e = .returned (.int .i64 (mx (oth l iq) (n - 1))) ∧ w' = w) := fun w ao c h2 s => by
   obtain ⟨x', hx', hc'⟩ := s.get
   obtain rfl := hx' (by omega)
   exact cmaxI_any x' (n - 1) c (oth l iq) w (by omega) s.le s.cap hc'
  have hmb : -9223372036854775808 ≤ mx (oth l iq) (n - 1) ∧ mx (oth l iq) (n - 1) ≤ 9223372036854775807 ∨ ¬ 2 ≤ n := by
   by_cases h2 : 2 ≤ n
   ·refine Or.inl ?_
    obtain ⟨n2, hn2⟩ : ∃ n2, n - 1 = n2 + 1 := ⟨n - 2, by omega⟩
    rw [hn2, mx_is]
    unfold oth
    split
    ·exact bl' _
    ·exact bl' _
   ·exact Or.inr h2
  obtain ⟨X, hX⟩ : ∃ X, X = mx (oth l iq) (n - 1) := ⟨_, rfl⟩
  obtain ⟨Z, hZ⟩ : ∃ Z, Z = oth l iq := ⟨_, rfl⟩
  obtain ⟨M, hM⟩ : ∃ M, M = l iq := ⟨_, rfl⟩
  rw [← hX] at HLf HMA hmb
  rw [← hM] at HLf HMx HIx hb
  rw [← hZ] at HC HMA
  obtain ⟨m, hm1⟩ : ∃ m, m = n - 1 := ⟨_, rfl⟩
  rw [← hm1] at HC HMA
  have HM1 := hideH hm1
  have HMB := hideH hmb
  have HS : Hid (2 ≤ n → ∀ w, Calls Tryz.prog 49 #[.int .i64 M, .int .i64 X] w fun e w' => e = .returned (.tuple #[.int .i64 (clamp (M - X)), .bool (great (M - X))]) ∧ Below w.heap.size w w') := fun h2 w => by
   rcases HMB.out with q | q
   ·exact qsub_any M X w (by omega) (by omega) (by omega) (by omega)
   ·exact absurd h2 q
  clear hm1 hX hZ hM hmb hqq hmx hs hca hl hao bl' hn1 hy eq1
  go_enter Tryz.func14, Tryz.ntmps14
  go_upto_region 5 with (first
   | (go_at_call 46; refine HMx.out.mono ?_; rintro e w' ⟨rfl, q⟩; obtain rfl := q.symm)
   | (go_at_call 47; refine HIx.out.mono ?_; rintro e w' ⟨rfl, q⟩; obtain rfl := q.symm)
   | fail)
  go_cut [7] (fun v wx => ∃ ao ca, v = .slice ao m ca ∧ Sl wx ao m ca Z ∧ Below W.heap.size W wx)
  case first =>
   go_region_with (first
    | (go_at_call 48; refine (HC.out _ _ (by go_simp) (by go_simp) (below_al (Below.refl _ _) _).drew).mono ?_; rintro e w2 ⟨v, rfl, o2⟩)
    | fail)
   all_goals obtain ⟨ao, ca, rfl, s2⟩ := o2.sl
   all_goals have k2 := below_tr (below_al (Below.refl _ W) (.cells #[Value.slice (some x) iq cl, Value.slice (some y) (n - (iq + 1)) (cl - (iq + 1))] 22)).drew o2.below
   all_goals clear o2
   all_goals go_wp2_with fail
   all_goals go_meet
   all_goals exact ⟨_, _, rfl, s2, k2⟩
  rename World => wx
  obtain ⟨ao, ca, rfl, s2, k2⟩ := hcut
  have s3 := s2.le
  have s4 := s2.cap
  have S2 := hideH s2
  have K2 := hideH k2
  clear s2 k2 hT hY
  by_cases h0 : m = 0
  ·subst h0
   go_wp2
   go_ret3
   exact ⟨iq, 4611686018427387903, .nilIface, rfl, K2.out, Or.inr ⟨hm.1, hm.2, HP.out.symm, by rw [HP.out]; exact (HL1.out (by have := HM1.out; omega)).symm, rfl⟩⟩
  ·have e1 : ((m : Int) == 0) = false := beq_eq_false_iff_ne.2 (by omega)
   have h2 : 2 ≤ n := by have := HM1.out; omega
   have HMX := hideH (HMA.out wx ao ca h2 S2.out)
   have HSX := hideH (HS.out h2)
   have HLX := hideH (HLf.out h2)
   clear HMA HS HLf HM1
   go_wp2_with (first
    | (go_at_call 46; refine HMX.out.mono ?_; rintro e w' ⟨rfl, q⟩; obtain rfl := q.symm)
    | (go_at_call 49; refine (HSX.out _).mono ?_; rintro e w3 ⟨rfl, k3⟩))
   go_ret3
   exact ⟨iq, _, .nilIface, rfl, below_tr K2.out k3, Or.inr ⟨hm.1, hm.2, HP.out.symm, by rw [HP.out, HLX.out], rfl⟩⟩
 ·have HN := hideH hm
  clear hl bl'
  by_cases h1 : n < 1
  ·have e1 : decide ((n : Int) < 1) = true := decide_eq_true (by omega)
   go_enter Tryz.func14, Tryz.ntmps14
   go_wp2
   go_ret3
   exact ⟨0, 0, errK 1, rfl, Below.refl _ _, Or.inl ⟨HN.out, rfl, rfl, rfl⟩⟩
  ·have e1 : decide ((n : Int) < 1) = false := decide_eq_false (by omega)
   have e2 : decide ((n : Int) > 64) = true := decide_eq_true (by omega)
   go_enter Tryz.func14, Tryz.ntmps14
   go_wp2
   go_ret3
   exact ⟨0, 0, errK 1, rfl, Below.refl _ _, Or.inl ⟨HN.out, rfl, rfl, rfl⟩⟩
end Go.Proofs.YtdgcnaijndocnaaGreatDoor
namespace Go.Proofs.YtdgcnaijndocnaaGreatDoor
open Go.RowKit Vc St Lk
namespace Lk
theorem half_no {s : Int} (h : -4611686018427387903 ≤ s ∧ s ≤ 4611686018427387903) : Qn.great (Qn.rne (s * -524288) (2 ^ 20)) = false := by
  have a := Gw.rne_ge (n := s * -524288) (d := 2 ^ 20) (A := 2305843009213693952) (by decide) (by omega)
  have b := Gw.rne_le (n := s * -524288) (d := 2 ^ 20) (A := 2305843009213693952) (by decide) (by omega)
  exact great_no (by omega)
theorem ofO_is (L : Nat → Nat → Int) (d v : Nat → Int) : ofO L d v = ((Ld.downO L v 2 || Ld.farO (Ld.downV L v 2) d 2) || Qn.great (ofF L d v + Ld.logS d 2)) := by
  unfold ofO
  rw [show Qn.great (Qn.rne (ofS L d v * -524288) (2 ^ 20)) = false from half_no (cl_in _), Bool.or_false]
end Lk
set_option maxRecDepth 20000 in
set_option maxHeartbeats 2000000 in
theorem kof_by (V : Nat → Int) (z d : Nat → Int) (F : Int) (q : Bool) (s : Int) (w : World) (hF0 : -4611686018427387903 ≤ F ∧ F ≤ 4611686018427387903) (hs0 : -9223372036854775808 ≤ s ∧ s ≤ 9223372036854775807)
  (hF : ∀ W, Calls Tryz.prog 23 #[.agg (Up.gvals V 2 z d).toArray] W fun e w' => e = .returned (.tuple #[.int .i64 F, .bool q, .nilIface]) ∧ Below W.heap.size W w')
  (hL : ∀ W, Calls Tryz.prog 24 #[.agg (Ld.fvals 2 z d).toArray] W fun e w' => e = .returned (.tuple #[.int .i64 s, .nilIface]) ∧ Below W.heap.size W w') :
  Calls Tryz.prog 8 #[.agg (Up.gvals V 2 z d).toArray] w fun e w' => e = .returned (.tuple #[.int .i64 (Qn.clamp (Qn.rne (Qn.clamp (F + s) * -524288) (2 ^ 20))), .bool (q || Qn.great (F + s)), .nilIface]) ∧ Below w.heap.size w w' := by
 have HF := Ud.hide hF
 have HL := Ud.hide hL
 have HA := Ud.hide (fun W => qadd_any F s W (by omega) (by omega) (by omega) (by omega))
 have hc := cl_in (F + s)
 have HM := Ud.hide (fun W => qmul_any (Qn.clamp (F + s)) (-524288) 20 W (by omega) (by omega) (by omega) (by omega) (by omega))
 obtain ⟨A, hA⟩ : ∃ A, A = Qn.clamp (F + s) := ⟨_, rfl⟩
 obtain ⟨G, hG⟩ : ∃ A, A = Qn.great (F + s) := ⟨_, rfl⟩
 rw [← hA, ← hG] at HA
 rw [← hA] at HM
 rw [← hA, ← hG]
 obtain ⟨B, hB⟩ : ∃ A', A' = Qn.clamp (Qn.rne (A * -524288) (2 ^ 20)) := ⟨_, rfl⟩
 obtain ⟨B', hB'⟩ : ∃ A', A' = Qn.great (Qn.rne (A * -524288) (2 ^ 20)) := ⟨_, rfl⟩
 rw [← hB, ← hB'] at HM
 rw [← hB]
 have g0 := crow_new w 35 (Up.gvals V 2 z d)
 have B0 := below_al (Below.refl _ w) (.cells (Up.gvals V 2 z d).toArray 35)
 obtain ⟨W, hW⟩ : ∃ W, W = w.alloc (.cells (Up.gvals V 2 z d).toArray 35) := ⟨_, rfl⟩
 rw [← hW] at g0 B0
 have HW := Ud.hide hW
 have HB0 := Ud.hide B0
 have HS : Hid (∀ U, Below W.heap.size W U → Up.GRow U w.heap.size V 2 z d) := fun U k => CRow.keep g0 k
 clear hW hF hL g0 B0 hA hG hB hB' hc
 cases q
 all_goals
  go_enter Tryz.func8, Tryz.ntmps8
  go_wp2_with (first
   | (rw [← HW.out])
   | ((with_reducible show wpList _ _ _ _ _ _); refine Ud.loadC Up.isG _ (by with_reducible rfl) w.heap.size _ (by rfl) (HS.out _ (Below.refl _ _)) (Up.gvals_len _ _ _ _) (by kernel_rfl) ?_)
   | (go_at_call 23; refine (HF.out _).mono ?_; rintro e w1 ⟨rfl, k1⟩; have K1 := Ud.hide k1; clear k1)
   | ((with_reducible show wpList _ _ _ _ _ _); refine St.wpList_part Ld.isF (by kernel_rfl) _ (by with_reducible rfl) w.heap.size 2 _ (by rfl) (Up.GRow.rf (HS.out _ K1.out)) (Ld.fvals_len _ _ _) ?_)
   | (go_at_call 24; refine (HL.out _).mono ?_; rintro e w2 ⟨rfl, k2⟩; have K2 := Ud.hide (below_tr K1.out k2); clear k2)
   | (go_at_call 25; refine (HA.out _).mono ?_; rintro e w3 ⟨rfl, k3⟩; have K3 := Ud.hide (below_tr K2.out k3); clear k3)
   | (go_at_call 26; refine (HM.out _).mono ?_; rintro e w4 ⟨rfl, k4⟩; have K4 := Ud.hide (below_tr K3.out k4); clear k4)
   | fail)
  go_ret3
  exact ⟨rfl, below_tr HB0.out K4.out⟩
theorem k_of : KOf := by
  intro W X P x y a b c hf
  have h := kof_by (Ud.v2 (Ud.ox X x) (Ud.oy X y)) (Mt.mz 2 2 (Ud.fL P a b c)) (Ud.fD P a b c) _ _ (Ld.logS (Ud.fD P a b c) 2) W (Ld.farV_bd (Ld.downV (Ud.fL P a b c) (Ud.v2 (Ud.ox X x) (Ud.oy X y)) 2) (Ud.fD P a b c) 2) (log_in _)
    (fun W => ufar_ok X P x y a b c W hf) (fun W => llog_any 2 _ _ W (Up.may_gap hf))
  rw [ofO_is]
  exact h
theorem k_none : KOf0 := by
  intro W
  have HF := Ud.hide (fun w => ufar_none w)
  have g0 := crow_new W 35 (Up.gvals (fun _ => 0) 0 (fun _ => 0) (fun _ => 0))
  have B0 := below_al (Below.refl _ W) (.cells (Up.gvals (fun _ => 0) 0 (fun _ => 0) (fun _ => 0)).toArray 35)
  obtain ⟨U, hU⟩ : ∃ U, U = W.alloc (.cells (Up.gvals (fun _ => 0) 0 (fun _ => 0) (fun _ => 0)).toArray 35) := ⟨_, rfl⟩
  rw [← hU] at g0 B0
  have HU := Ud.hide hU
  have HB0 := Ud.hide B0
  have HG0 := Ud.hide g0
  clear hU B0 g0
  go_enter Tryz.func8, Tryz.ntmps8
  go_wp2_with (first
    | (rw [← HU.out])
    | ((with_reducible show wpList _ _ _ _ _ _); refine Ud.loadC Up.isG _ (by with_reducible rfl) W.heap.size _ (by rfl) HG0.out (Up.gvals_len _ _ _ _) (by kernel_rfl) ?_)
    | (go_at_call 23; refine (HF.out _).mono ?_; rintro e w1 ⟨rfl, k1⟩; have K1 := Ud.hide k1; clear k1)
    | fail)
  go_ret3
  exact ⟨rfl, below_tr HB0.out K1.out⟩
theorem likePkg : Lk.LPkg := ⟨k_of, k_none, k_weights, k_best⟩
end Go.Proofs.YtdgcnaijndocnaaGreatDoor
