/-
  Places by range and angle (polar): Spread, spread, Of.
-/
import Derived.Test.YtefgkeeeanakeaaDoorPoA
set_option linter.unusedSimpArgs false
set_option linter.unusedVariables false
namespace Go.Proofs.YtefgkeeeanakeaaDoor
open Go.RowKit Vc St Qn Dt Tg Ld Po
attribute [local go_sem ↓] Go.wp_at_zero Go.wp_at_succ

namespace Po
theorem al_bd (R : Int) : -4611686018427387903 ≤ al R ∧ al R ≤ 4611686018427387903 := clamp_bd _
theorem wi_bd (F T : Int) : -4611686018427387903 ≤ wi F T ∧ wi F T ≤ 4611686018427387903 := clamp_bd _
theorem ac_bd (F T : Int) : -4611686018427387903 ≤ ac F T ∧ ac F T ≤ 4611686018427387903 := clamp_bd _
theorem pr_bd (F T : Int) : -4611686018427387903 ≤ pr F T ∧ pr F T ≤ 4611686018427387903 := clamp_bd _
theorem su_bd (a b c d : Int) : -4611686018427387903 ≤ su a b c d ∧ su a b c d ≤ 4611686018427387903 := clamp_bd _
/-- May a range be? -/
def MayF (F : Int) : Prop := 0 ≤ F ∧ F ≤ 1099511627776
end Po

set_option maxRecDepth 10000 in
set_option maxHeartbeats 1000000 in
theorem spread_no (R T F : Int) (w : World) (h : ¬ MayS R T ∨ ¬ MayF F) :
    Calls Tryd.prog 7 #[.agg #[.int .i64 R, .int .i64 T], .int .i64 F] w fun e w' => e = .returned (.tuple #[.int .i64 0, .int .i64 0, .iface 54 (.int .i64 1)]) ∧ Below w.heap.size w w' := by
  by_cases hS : MayS R T
  · have hF : ¬ MayF F := by rcases h with h | h
                             · exact absurd hS h
                             · exact h
    clear h
    rcases Int.lt_or_le F 0 with h1 | h1
    · clear hF
      go_enter Tryd.func7, Tryd.ntmps7
      go_wp2_with (first | (refine St.wpList_load isSn (by rfl) _ (by rfl) _ _ (by rfl) (by with_reducible exact crow_new w _ [.int .i64 R, .int .i64 T]) rfl ?_))
      refine (pcheck_yes R T _ hS).mono ?_
      rintro e w1 ⟨rfl, k1⟩
      go_wp2
      go_ret3
      exact ⟨rfl, below_tr (below_al (Below.refl _ _) _) k1⟩
    · have h2 : 1099511627776 < F := by
        rcases Int.lt_or_le 1099511627776 F with h2 | h2
        · exact h2
        · exact absurd ⟨h1, h2⟩ hF
      clear hF
      go_enter Tryd.func7, Tryd.ntmps7
      go_wp2_with (first | (refine St.wpList_load isSn (by rfl) _ (by rfl) _ _ (by rfl) (by with_reducible exact crow_new w _ [.int .i64 R, .int .i64 T]) rfl ?_))
      refine (pcheck_yes R T _ hS).mono ?_
      rintro e w1 ⟨rfl, k1⟩
      go_wp2
      go_ret3
      exact ⟨rfl, below_tr (below_al (Below.refl _ _) _) k1⟩
  · clear h
    go_enter Tryd.func7, Tryd.ntmps7
    go_wp2_with (first | (refine St.wpList_load isSn (by rfl) _ (by rfl) _ _ (by rfl) (by with_reducible exact crow_new w _ [.int .i64 R, .int .i64 T]) rfl ?_))
    refine (pcheck_no R T _ hS).mono ?_
    rintro e w1 ⟨rfl, k1⟩
    go_wp2
    go_ret3
    exact ⟨rfl, below_tr (below_al (Below.refl _ _) _) k1⟩

set_option maxRecDepth 10000 in
set_option maxHeartbeats 1000000 in
theorem spread_yes (R T F : Int) (w : World) (hS : MayS R T) (hF : MayF F) :
    Calls Tryd.prog 7 #[.agg #[.int .i64 R, .int .i64 T], .int .i64 F] w fun e w' => e = .returned (.tuple #[.int .i64 (al R), .int .i64 (ac F T), .nilIface]) ∧ Below w.heap.size w w' := by
  obtain ⟨s1, s2, s3, s4⟩ := id hS
  obtain ⟨f1, f2⟩ := hF
  have bW := wi_bd F T
  have HW := hide (fun W => prod30 F T W (by omega) (by omega) (by omega) (by omega))
  have HA := hide (fun W => prod20 R R W (by omega) (by omega) (by omega) (by omega))
  have HB := hide (fun W => prod20 (wi F T) (wi F T) W (by omega) (by omega) (by omega) (by omega))
  have e1 : pr F T = wi F T := rfl
  have e2 : clamp (rne (R * R) (2 ^ 20)) = al R := rfl
  have e3 : clamp (rne (wi F T * wi F T) (2 ^ 20)) = ac F T := rfl
  rw [e1] at HW
  rw [e2] at HA
  rw [e3] at HB
  obtain ⟨A, hA⟩ : ∃ A, A = al R := ⟨_, rfl⟩
  obtain ⟨V, hV⟩ : ∃ V, V = wi F T := ⟨_, rfl⟩
  obtain ⟨B, hB⟩ : ∃ B, B = ac F T := ⟨_, rfl⟩
  rw [← hA] at HA ⊢
  rw [← hV] at HW HB bW
  rw [← hB] at HB ⊢
  clear e1 e2 e3 hA hV hB
  have r0 := crow_new w 33 [.int .i64 R, .int .i64 T]
  go_enter Tryd.func7, Tryd.ntmps7
  go_wp2_with (first | (refine St.wpList_load isSn (by rfl) _ (by rfl) _ _ (by rfl) (by with_reducible exact r0) rfl ?_))
  refine (pcheck_yes R T _ hS).mono ?_
  rintro e w1 ⟨rfl, k1⟩
  have r1 := CRow.keep r0 k1
  have c1 : w1.cell? ⟨w.heap.size, 1, none⟩ = some (.int .i64 T) := CRow.cell r1 (k := 1) rfl rfl
  go_wp2_with fail
  refine (HW.out _).mono ?_
  rintro e w2 ⟨rfl, k2⟩
  have r2 := CRow.keep r1 k2
  have c2 : w2.cell? ⟨w.heap.size, 0, none⟩ = some (.int .i64 R) := CRow.cell r2 (k := 0) rfl rfl
  go_wp2_with fail
  refine (HA.out _).mono ?_
  rintro e w3 ⟨rfl, k3⟩
  go_wp2_with fail
  refine (HB.out _).mono ?_
  rintro e w4 ⟨rfl, k4⟩
  go_wp2
  go_ret3
  exact ⟨rfl, below_tr (below_tr (below_tr (below_tr (below_al (Below.refl _ _) _) k1) k2) k3) k4⟩

namespace Po
/-- Squares and the product of sine and cosine; the spreads. -/
def ssV (t : Int) : Int := pr (sine t) (sine t)
def ccV (t : Int) : Int := pr (cosine t) (cosine t)
def scV (t : Int) : Int := pr (sine t) (cosine t)
def xxV (t a b : Int) : Int := su a (ssV t) b (ccV t)
def yyV (t a b : Int) : Int := su a (ccV t) b (ssV t)
def xyV (t a b : Int) : Int := su a (scV t) (-b) (scV t)
def ovV (t a b : Int) : Bool := suO a (ssV t) b (ccV t) || suO a (ccV t) b (ssV t) || suO a (scV t) (-b) (scV t)
/-- A place and its spreads, as cells. -/
def see (x y xx yy xy : Int) : List Value := [.int .i64 x, .int .i64 y, .int .i64 xx, .int .i64 yy, .int .i64 xy]
end Po

set_option maxRecDepth 10000 in
set_option maxHeartbeats 1000000 in
theorem pspread_any (g : Nat) (t a b x y u v z : Int) (w : World) (hT : AngTab w) (h : CRow w g 28 (see x y u v z)) (t0 : 0 ≤ t) (t1 : t ≤ 4294967295) (a0 : -4611686018427387903 ≤ a) (a1 : a ≤ 4611686018427387903) (b0 : -4611686018427387903 ≤ b) (b1 : b ≤ 4611686018427387903) :
    Calls Tryd.prog 17 #[.pointer (some ⟨g, 0, none⟩), .int .u32 t, .int .i64 a, .int .i64 b] w fun e w' => e = .returned (.bool (ovV t a b)) ∧ CRow w' g 28 (see x y (xxV t a b) (yyV t a b) (xyV t a b)) ∧ But (· = g) w w' := by
  have sb := sine_bd t
  have cb := cosine_bd t
  have b1' := pr_bd (sine t) (sine t)
  have b2' := pr_bd (cosine t) (cosine t)
  have b3' := pr_bd (sine t) (cosine t)
  have HB := hide (both_any t w hT t0 t1)
  have H1 := hide (fun W => prod30 (sine t) (sine t) W (by omega) (by omega) (by omega) (by omega))
  have H2 := hide (fun W => prod30 (cosine t) (cosine t) W (by omega) (by omega) (by omega) (by omega))
  have H3 := hide (fun W => prod30 (sine t) (cosine t) W (by omega) (by omega) (by omega) (by omega))
  have H4 := hide (fun W => psum_any a (ssV t) b (ccV t) W (by omega) (by omega) (by unfold ssV; omega) (by unfold ssV; omega) (by omega) (by omega) (by unfold ccV; omega) (by unfold ccV; omega))
  have H5 := hide (fun W => psum_any a (ccV t) b (ssV t) W (by omega) (by omega) (by unfold ccV; omega) (by unfold ccV; omega) (by omega) (by omega) (by unfold ssV; omega) (by unfold ssV; omega))
  have H6 := hide (fun W => psum_any a (scV t) (-b) (scV t) W (by omega) (by omega) (by unfold scV; omega) (by unfold scV; omega) (by omega) (by omega) (by unfold scV; omega) (by unfold scV; omega))
  clear b1' b2' b3'
  have e1 : pr (sine t) (sine t) = ssV t := rfl
  have e2 : pr (cosine t) (cosine t) = ccV t := rfl
  have e3 : pr (sine t) (cosine t) = scV t := rfl
  have e4 : su a (ssV t) b (ccV t) = xxV t a b := rfl
  have e5 : su a (ccV t) b (ssV t) = yyV t a b := rfl
  have e6 : su a (scV t) (-b) (scV t) = xyV t a b := rfl
  have eO : Hid (ovV t a b = (suO a (ssV t) b (ccV t) || suO a (ccV t) b (ssV t) || suO a (scV t) (-b) (scV t))) := rfl
  rw [eO.out]
  clear eO
  rw [e1] at H1
  rw [e2] at H2
  rw [e3] at H3
  rw [e4] at H4
  rw [e5] at H5
  rw [e6] at H6
  clear e1 e2 e3 e4 e5 e6
  obtain ⟨S, hS⟩ : ∃ S, S = sine t := ⟨_, rfl⟩
  obtain ⟨C, hC⟩ : ∃ C, C = cosine t := ⟨_, rfl⟩
  obtain ⟨SS, hSS⟩ : ∃ S, S = ssV t := ⟨_, rfl⟩
  obtain ⟨CC, hCC⟩ : ∃ S, S = ccV t := ⟨_, rfl⟩
  obtain ⟨SC, hSC⟩ : ∃ S, S = scV t := ⟨_, rfl⟩
  obtain ⟨X, hX⟩ : ∃ S, S = xxV t a b := ⟨_, rfl⟩
  obtain ⟨Y, hY⟩ : ∃ S, S = yyV t a b := ⟨_, rfl⟩
  obtain ⟨Z, hZ⟩ : ∃ S, S = xyV t a b := ⟨_, rfl⟩
  rw [← hS, ← hSS] at H1
  rw [← hC, ← hCC] at H2
  rw [← hS, ← hC, ← hSC] at H3
  rw [← hS, ← hC] at HB
  rw [← hX, ← hSS, ← hCC] at H4
  rw [← hY, ← hSS, ← hCC] at H5
  rw [← hZ, ← hSC] at H6
  rw [← hX, ← hY, ← hZ, ← hSS, ← hCC, ← hSC]
  obtain ⟨o1, h1⟩ : ∃ o, o = suO a SS b CC := ⟨_, rfl⟩
  obtain ⟨o2, h2⟩ : ∃ o, o = suO a CC b SS := ⟨_, rfl⟩
  obtain ⟨o3, h3⟩ : ∃ o, o = suO a SC (-b) SC := ⟨_, rfl⟩
  rw [← h1] at H4 ⊢
  rw [← h2] at H5 ⊢
  rw [← h3] at H6 ⊢
  clear hS hC hSS hCC hSC hX hY hZ h1 h2 h3 sb cb
  go_enter Tryd.func17, Tryd.ntmps17
  go_wp2_with fail
  refine HB.out.mono ?_
  rintro e w1 ⟨rfl, k1⟩
  have r1 := CRow.keep h k1
  go_wp2_with fail
  refine (H1.out _).mono ?_
  rintro e w2 ⟨rfl, k2⟩
  have r2 := CRow.keep r1 k2
  go_wp2_with fail
  refine (H2.out _).mono ?_
  rintro e w3 ⟨rfl, k3⟩
  have r3 := CRow.keep r2 k3
  go_wp2_with fail
  refine (H3.out _).mono ?_
  rintro e w4 ⟨rfl, k4⟩
  have r4 := CRow.keep r3 k4
  go_wp2_with fail
  refine (H4.out _).mono ?_
  rintro e w5 ⟨rfl, k5⟩
  have r5 := CRow.keep r4 k5
  have c5 : w5.cell? ⟨g, 2, none⟩ = some (.int .i64 u) := CRow.cell r5 (k := 2) rfl rfl
  have f5 := CRow.free r5 2
  have B5 := below_tr (below_tr (below_tr (below_tr k1 k2) k3) k4) k5
  go_wp2_with fail
  refine (H5.out _).mono ?_
  rintro e w6 ⟨rfl, k6⟩
  have q5 : CRow (w5.setCell ⟨g, 2, none⟩ (.int .i64 X)) g 28 (see x y X v z) := CRow.set r5 2 _
  have r6 := CRow.keep q5 k6
  have c6 : w6.cell? ⟨g, 3, none⟩ = some (.int .i64 v) := CRow.cell r6 (k := 3) rfl rfl
  have f6 := CRow.free r6 3
  have B6 := ((but_of (P := (· = g)) B5).set (p := ⟨g, 2, none⟩) (.int .i64 X) rfl).then k6
  go_wp2_with fail
  refine (H6.out _).mono ?_
  rintro e w7 ⟨rfl, k7⟩
  have q6 : CRow (w6.setCell ⟨g, 3, none⟩ (.int .i64 Y)) g 28 (see x y X Y z) := CRow.set r6 3 _
  have r7 := CRow.keep q6 k7
  have c7 : w7.cell? ⟨g, 4, none⟩ = some (.int .i64 z) := CRow.cell r7 (k := 4) rfl rfl
  have f7 := CRow.free r7 4
  have B7 := (B6.set (p := ⟨g, 3, none⟩) (.int .i64 Y) rfl).then k7
  have q7 : CRow (w7.setCell ⟨g, 4, none⟩ (.int .i64 Z)) g 28 (see x y X Y Z) := CRow.set r7 4 _
  have B8 := B7.set (p := ⟨g, 4, none⟩) (.int .i64 Z) rfl
  clear c5 f5 c6 f6 r1 r2 r3 r4 r5 q5 r6 q6 B5 B6 B7 k1 k2 k3 k4 k5 k6 k7 HB H1 H2 H3 H4 H5 H6
  cases o1 <;> cases o2 <;> go_wp2
  all_goals go_ret
  all_goals exact ⟨rfl, q7, B8⟩

namespace Po
theorem zeroSe : (#[.int .i64 0, .int .i64 0, .int .i64 0, .int .i64 0, .int .i64 0] : Array Value) = (see 0 0 0 0 0).toArray := rfl
theorem one_see (x y xx yy xy : Int) : ∀ v ∈ see x y xx yy xy, v.oneCell' = true := by
  intro v hv
  simp only [see, List.mem_cons, List.not_mem_nil, or_false] at hv
  rcases hv with rfl | rfl | rfl | rfl | rfl <;> rfl
/-- The place. -/
def px (t F : Int) : Int := clamp (rne (F * sine t) (2 ^ 30))
def py (t F : Int) : Int := clamp (rne (F * cosine t) (2 ^ 30))
end Po

set_option maxRecDepth 10000 in
set_option maxHeartbeats 1000000 in
theorem pof_no (R T F : Int) (u m : Value) (w : World) (h : ¬ MayS R T ∨ ¬ MayF F) :
    Calls Tryd.prog 6 #[.agg #[.int .i64 R, .int .i64 T], .agg #[.int .i64 F, u, m]] w fun e w' => e = .returned (.tuple #[.agg (see 0 0 0 0 0).toArray, .bool false, .iface 54 (.int .i64 1)]) ∧ Below w.heap.size w w' := by
  have r0 := ((crow_new w 33 [.int .i64 R, .int .i64 T]).alloc (.cells #[.int .i64 F, u, m] 34)).alloc (.cells #[.int .i64 0, .int .i64 0, .int .i64 0, .int .i64 0, .int .i64 0] 28)
  go_enter Tryd.func6, Tryd.ntmps6
  go_wp2_with (first | (refine St.wpList_load isSn (by rfl) _ (by rfl) _ _ (by rfl) (by with_reducible exact r0) rfl ?_))
  refine (spread_no R T F _ h).mono ?_
  rintro e w1 ⟨rfl, k1⟩
  have r1 := CRow.keep (crow_new2 w (.cells #[.int .i64 R, .int .i64 T] 33) (.cells #[.int .i64 F, u, m] 34) 28 (see 0 0 0 0 0)) k1
  go_wp2_with (first | (refine St.wpList_store isSe (by rfl) _ _ (by rfl) _ (see 0 0 0 0 0) (see 0 0 0 0 0) (by rfl) (by rfl) (by with_reducible exact r1) rfl rfl (one_see _ _ _ _ _) ?_))
  exact bodyPost_ret (v := .tuple #[.agg (see 0 0 0 0 0).toArray, .bool false, .iface 54 (.int .i64 1)]) (results_3 isSe Tryd.results6 _ _ (w.heap.size + 1 + 1) (see 0 0 0 0 0) rfl (CRow.row r1 _) rfl) rfl ⟨rfl, below_row (below_tr (below_al (below_al (below_al (Below.refl _ _) _) _) _) k1) (by omega) _⟩

set_option maxRecDepth 10000 in
set_option maxHeartbeats 2000000 in
theorem pof_yes (R T F A : Int) (m : Value) (w : World) (hT : AngTab w) (hS : MayS R T) (hF : MayF F) (u0 : 0 ≤ A) (u1 : A ≤ 65535) :
    Calls Tryd.prog 6 #[.agg #[.int .i64 R, .int .i64 T], .agg #[.int .i64 F, .int .u16 A, m]] w fun e w' =>
      e = .returned (.tuple #[.agg (see (px (65536 * A) F) (py (65536 * A) F) (xxV (65536 * A) (al R) (ac F T)) (yyV (65536 * A) (al R) (ac F T)) (xyV (65536 * A) (al R) (ac F T))).toArray, .bool (ovV (65536 * A) (al R) (ac F T)), .nilIface]) ∧ Below w.heap.size w w' := by
  have bA := al_bd R
  have bB := ac_bd F T
  obtain ⟨f1, f2⟩ := id hF
  have HS := hide (fun W => spread_yes R T F W hS hF)
  have HP := hide (fun W (h : AngTab W) => place_any (65536 * A) F W h (by omega) (by omega) (by omega) (by omega))
  have HT := hide (fun W => tof_any A W u0 u1)
  have HQ := hide (fun g x y W (h : AngTab W) (hr : CRow W g 28 (see x y 0 0 0)) => pspread_any g (65536 * A) (al R) (ac F T) x y 0 0 0 W h hr (by omega) (by omega) bA.1 bA.2 bB.1 bB.2)
  obtain ⟨t, ht⟩ : ∃ t, t = 65536 * A := ⟨_, rfl⟩
  rw [Int.mul_comm A 65536] at HT
  rw [← ht] at HP HT HQ ⊢
  have e1 : clamp (rne (F * sine t) (2 ^ 30)) = px t F := rfl
  have e2 : clamp (rne (F * cosine t) (2 ^ 30)) = py t F := rfl
  rw [e1, e2] at HP
  obtain ⟨X, hX⟩ : ∃ S, S = px t F := ⟨_, rfl⟩
  obtain ⟨Y, hY⟩ : ∃ S, S = py t F := ⟨_, rfl⟩
  obtain ⟨a, ha⟩ : ∃ S, S = al R := ⟨_, rfl⟩
  obtain ⟨b, hb⟩ : ∃ S, S = ac F T := ⟨_, rfl⟩
  rw [← hX, ← hY] at HP
  rw [← hX, ← hY, ← ha, ← hb]
  rw [← ha, ← hb] at HS HQ
  obtain ⟨U, hU⟩ : ∃ S, S = xxV t a b := ⟨_, rfl⟩
  obtain ⟨V, hV⟩ : ∃ S, S = yyV t a b := ⟨_, rfl⟩
  obtain ⟨Z, hZ⟩ : ∃ S, S = xyV t a b := ⟨_, rfl⟩
  obtain ⟨o, ho⟩ : ∃ S, S = ovV t a b := ⟨_, rfl⟩
  rw [← hU, ← hV, ← hZ, ← ho] at HQ
  rw [← hU, ← hV, ← hZ, ← ho]
  clear ht e1 e2 hX hY ha hb hU hV hZ ho bA bB hS hF
  have r0 := ((crow_new w 33 [.int .i64 R, .int .i64 T]).alloc (.cells #[.int .i64 F, .int .u16 A, m] 34)).alloc (.cells #[.int .i64 0, .int .i64 0, .int .i64 0, .int .i64 0, .int .i64 0] 28)
  have p0 := (crow_new1 w (.cells #[.int .i64 R, .int .i64 T] 33) 34 [.int .i64 F, .int .u16 A, m]).alloc (.cells #[.int .i64 0, .int .i64 0, .int .i64 0, .int .i64 0, .int .i64 0] 28)
  have s0 := crow_new2 w (.cells #[.int .i64 R, .int .i64 T] 33) (.cells #[.int .i64 F, .int .u16 A, m] 34) 28 (see 0 0 0 0 0)
  have B0 : Below w.heap.size w (((w.alloc (.cells #[.int .i64 R, .int .i64 T] 33)).alloc (.cells #[.int .i64 F, .int .u16 A, m] 34)).alloc (.cells #[.int .i64 0, .int .i64 0, .int .i64 0, .int .i64 0, .int .i64 0] 28)) := below_al (below_al (below_al (Below.refl _ _) _) _) _
  have T0 := hT.below B0
  go_enter Tryd.func6, Tryd.ntmps6
  go_wp2_with (first | (refine St.wpList_load isSn (by rfl) _ (by rfl) _ _ (by rfl) (by with_reducible exact r0) rfl ?_))
  refine (HS.out _).mono ?_
  rintro e w1 ⟨rfl, k1⟩
  have p1 := CRow.keep p0 k1
  have s1 := CRow.keep s0 k1
  have T1 := T0.below k1
  have B1 := below_tr B0 k1
  have c1 : w1.cell? ⟨w.heap.size + 1, 1, none⟩ = some (.int .u16 A) := CRow.cell p1 (k := 1) rfl rfl
  have d1 : w1.cell? ⟨w.heap.size + 1, 0, none⟩ = some (.int .i64 F) := CRow.cell p1 (k := 0) rfl rfl
  clear r0 p0 s0 T0 B0 k1
  go_wp2_with fail
  refine (HT.out _).mono ?_
  rintro e w1' ⟨rfl, rfl⟩
  go_wp2_with fail
  refine (HP.out _ T1).mono ?_
  rintro e w2 ⟨rfl, k2⟩
  have s2 := CRow.keep s1 k2
  have T2 := T1.below k2
  have B2 := below_tr B1 k2
  clear c1 d1 p1 s1 T1 B1 k2
  have l2 := s2.lt
  go_wp2_with (first
    | (rw [zeroSe]; refine St.wpList_storeNew isSe (by rfl) _ _ (by rfl) _ _ (see X Y 0 0 0) (by rfl) (by rfl) rfl rfl (one_see _ _ _ _ _) ?_; intro w3 n3 k3; have s3 := CRow.keep s2 k3; have T3 := T2.below k3; have B3 := below_tr B2 k3; clear s2 T2))
  refine (HQ.out _ X Y _ T3 n3).mono ?_
  rintro e w4 ⟨rfl, n4, k4⟩
  have s4 := crowBut s3 k4 (by omega)
  have B4 := k4.below B3 (by have := B3.size; omega) (by rintro k rfl; have := B2.size; omega)
  clear s3 T3 n3 k4
  go_wp2_with (first
    | (refine St.wpList_load isSe (by rfl) _ (by rfl) _ _ (by rfl) (by with_reducible exact n4) rfl ?_)
    | (refine St.wpList_store isSe (by rfl) _ _ (by rfl) _ (see 0 0 0 0 0) (see X Y U V Z) (by rfl) (by rfl) (by with_reducible exact s4) rfl rfl (one_see _ _ _ _ _) ?_))
  exact bodyPost_ret (v := .tuple #[.agg (see X Y U V Z).toArray, .bool o, .nilIface]) (results_3 isSe Tryd.results6 _ _ (w.heap.size + 1 + 1) (see X Y U V Z) rfl (CRow.row s4 _) rfl) rfl ⟨rfl, below_row B4 (by omega) _⟩
end Go.Proofs.YtefgkeeeanakeaaDoor
