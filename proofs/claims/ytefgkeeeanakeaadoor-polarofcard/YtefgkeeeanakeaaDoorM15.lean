/-
  Places by range and angle (polar): Check, product, sum, Spread.
-/
import Derived.Test.YtefgkeeeanakeaaDoorM12
import Derived.Test.YtefgkeeeanakeaaDoorM13
import Derived.Test.YtefgkeeeanakeaaDoorTurnA
import Derived.Deep.RegionWith
set_option linter.unusedSimpArgs false
set_option linter.unusedVariables false
namespace Go.Proofs.YtefgkeeeanakeaaDoor
open Go.RowKit Vc St Qn Dt Tg Ld
attribute [local go_sem ↓] Go.wp_at_zero Go.wp_at_succ

namespace Po
theorem isSn : Is 33 2 := ⟨by kernel_rfl, ⟨_, Tryd.underlying33, rfl⟩⟩
theorem isPl : Is 34 3 := ⟨by kernel_rfl, ⟨_, Tryd.underlying34, rfl⟩⟩
theorem isSe : Is 28 5 := ⟨by kernel_rfl, ⟨_, Tryd.underlying28, rfl⟩⟩
/-- May a sensor be? -/
def MayS (R T : Int) : Prop := 1 ≤ R ∧ R ≤ 17179869184 ∧ 1 ≤ T ∧ T ≤ 268435456
/-- Along, across; products and sums, rounded. -/
def al (R : Int) : Int := clamp (rne (R * R) (2 ^ 20))
def wi (F T : Int) : Int := clamp (rne (F * T) (2 ^ 30))
def ac (F T : Int) : Int := clamp (rne (wi F T * wi F T) (2 ^ 20))
def pr (a b : Int) : Int := clamp (rne (a * b) (2 ^ 30))
def su (a b c d : Int) : Int := clamp (rne (a * b + c * d) (2 ^ 30))
def suO (a b c d : Int) : Bool := great (rne (a * b + c * d) (2 ^ 30))
theorem sl_two {w : World} {x : Addr} {a b : Int} (h0 : w.cell? x = some (.int .i64 a)) (h1 : w.cell? (x.add 1) = some (.int .i64 b)) : Sl w (some x) 2 2 (fun k => if k = 0 then a else b) :=
  ⟨Nat.le_refl _, by omega, fun k hk => ⟨x, rfl, by
    rcases k with _ | _ | k
    · exact h0
    · exact h1
    · omega⟩⟩
end Po
open Po

set_option maxHeartbeats 400000 in
theorem pcheck_yes (R T : Int) (w : World) (h : MayS R T) :
    Calls Tryd.prog 9 #[.agg #[.int .i64 R, .int .i64 T]] w fun e w' => e = .returned .nilIface ∧ Below w.heap.size w w' := by
  obtain ⟨h1, h2, h3, h4⟩ := h
  go_enter Tryd.func9, Tryd.ntmps9
  go_wp2
  go_ret
  exact ⟨rfl, below_al (Below.refl _ _) _⟩
set_option maxHeartbeats 400000 in
theorem pcheck_no (R T : Int) (w : World) (h : ¬ MayS R T) :
    Calls Tryd.prog 9 #[.agg #[.int .i64 R, .int .i64 T]] w fun e w' => e = .returned (.iface 54 (.int .i64 1)) ∧ Below w.heap.size w w' := by
  rcases Int.lt_or_le R 1 with h1 | h1
  · clear h
    go_enter Tryd.func9, Tryd.ntmps9
    go_wp2
    go_ret
    exact ⟨rfl, below_al (Below.refl _ _) _⟩
  rcases Int.lt_or_le 17179869184 R with h2 | h2
  · clear h
    go_enter Tryd.func9, Tryd.ntmps9
    go_wp2
    go_ret
    exact ⟨rfl, below_al (Below.refl _ _) _⟩
  rcases Int.lt_or_le T 1 with h3 | h3
  · clear h
    go_enter Tryd.func9, Tryd.ntmps9
    go_wp2
    go_ret
    exact ⟨rfl, below_al (Below.refl _ _) _⟩
  rcases Int.lt_or_le 268435456 T with h4 | h4
  · clear h
    go_enter Tryd.func9, Tryd.ntmps9
    go_wp2
    go_ret
    exact ⟨rfl, below_al (Below.refl _ _) _⟩
  exact absurd ⟨h1, h2, h3, h4⟩ h

set_option maxHeartbeats 400000 in
theorem prod30 (a b : Int) (w : World) (ha0 : -9223372036854775808 ≤ a) (ha1 : a ≤ 9223372036854775807) (hb0 : -9223372036854775808 ≤ b) (hb1 : b ≤ 9223372036854775807) :
    Calls Tryd.prog 18 #[.int .i64 a, .int .i64 b, .int .i64 30] w fun e w' => e = .returned (.int .i64 (pr a b)) ∧ Below w.heap.size w w' := by
  have HC := hide (qmul_any a b 30 w ha0 ha1 hb0 hb1 (by omega))
  unfold pr
  go_enter Tryd.func18, Tryd.ntmps18
  go_wp2_with fail
  refine HC.out.mono ?_
  rintro e w1 ⟨rfl, k1⟩
  go_wp2
  go_ret
  exact ⟨rfl, k1⟩
set_option maxHeartbeats 400000 in
theorem prod20 (a b : Int) (w : World) (ha0 : -9223372036854775808 ≤ a) (ha1 : a ≤ 9223372036854775807) (hb0 : -9223372036854775808 ≤ b) (hb1 : b ≤ 9223372036854775807) :
    Calls Tryd.prog 18 #[.int .i64 a, .int .i64 b, .int .i64 20] w fun e w' => e = .returned (.int .i64 (clamp (rne (a * b) (2 ^ 20)))) ∧ Below w.heap.size w w' := by
  have HC := hide (qmul_any a b 20 w ha0 ha1 hb0 hb1 (by omega))
  go_enter Tryd.func18, Tryd.ntmps18
  go_wp2_with fail
  refine HC.out.mono ?_
  rintro e w1 ⟨rfl, k1⟩
  go_wp2
  go_ret
  exact ⟨rfl, k1⟩

theorem qdot_two (a b c d : Int) (w : World) (ha0 : -9223372036854775808 ≤ a) (ha1 : a ≤ 9223372036854775807) (hb0 : -9223372036854775808 ≤ b) (hb1 : b ≤ 9223372036854775807) (hc0 : -9223372036854775808 ≤ c) (hc1 : c ≤ 9223372036854775807) (hd0 : -9223372036854775808 ≤ d) (hd1 : d ≤ 9223372036854775807) :
    Calls Tryd.prog 41 #[.slice (some ⟨w.heap.size, 0, none⟩) 2 2, .slice (some ⟨w.heap.size + 1, 0, none⟩) 2 2, .int .i64 30] ((w.alloc (.cells #[.int .i64 a, .int .i64 c] 2)).alloc (.cells #[.int .i64 b, .int .i64 d] 2)) fun e w' =>
      e = .returned (.tuple #[.int .i64 (su a b c d), .bool (suO a b c d), .nilIface]) ∧ Below w.heap.size w w' := by
  have d1 : ((w.alloc (.cells #[.int .i64 a, .int .i64 c] 2)).alloc (.cells #[.int .i64 b, .int .i64 d] 2)).cell? ⟨w.heap.size, 0, none⟩ = some (.int .i64 a) := by go_simp
  have d2 : ((w.alloc (.cells #[.int .i64 a, .int .i64 c] 2)).alloc (.cells #[.int .i64 b, .int .i64 d] 2)).cell? ⟨w.heap.size, 1, none⟩ = some (.int .i64 c) := by go_simp
  have d3 : ((w.alloc (.cells #[.int .i64 a, .int .i64 c] 2)).alloc (.cells #[.int .i64 b, .int .i64 d] 2)).cell? ⟨w.heap.size + 1, 0, none⟩ = some (.int .i64 b) := by go_simp
  have d4 : ((w.alloc (.cells #[.int .i64 a, .int .i64 c] 2)).alloc (.cells #[.int .i64 b, .int .i64 d] 2)).cell? ⟨w.heap.size + 1, 1, none⟩ = some (.int .i64 d) := by go_simp
  have s1 := sl_two (x := ⟨w.heap.size, 0, none⟩) d1 d2
  have s2 := sl_two (x := ⟨w.heap.size + 1, 0, none⟩) d3 d4
  obtain ⟨xa, hao, hca⟩ := s1.get
  obtain ⟨xb, hbo, hcb⟩ := s2.get
  have h := qdot_any (some ⟨w.heap.size, 0, none⟩) (some ⟨w.heap.size + 1, 0, none⟩) xa xb 2 2 2 _ _ 30 _ (by omega) hao hbo hca hcb (fun k => by split <;> exact ⟨by assumption, by assumption⟩) (fun k => by split <;> exact ⟨by assumption, by assumption⟩) (by omega)
  have e1 : dk (fun k => if k = 0 then a else c) (fun k => if k = 0 then b else d) 2 = a * b + c * d := by show 0 + a * b + c * d = _; omega
  rw [e1] at h
  refine h.mono ?_
  rintro e w1 ⟨rfl, k1⟩
  exact ⟨rfl, below_tr (below_al (below_al (Below.refl _ _) _) _) k1⟩

set_option maxHeartbeats 400000 in
theorem psum_any (a b c d : Int) (w : World) (ha0 : -9223372036854775808 ≤ a) (ha1 : a ≤ 9223372036854775807) (hb0 : -9223372036854775808 ≤ b) (hb1 : b ≤ 9223372036854775807) (hc0 : -9223372036854775808 ≤ c) (hc1 : c ≤ 9223372036854775807) (hd0 : -9223372036854775808 ≤ d) (hd1 : d ≤ 9223372036854775807) :
    Calls Tryd.prog 27 #[.int .i64 a, .int .i64 b, .int .i64 c, .int .i64 d] w fun e w' => e = .returned (.tuple #[.int .i64 (su a b c d), .bool (suO a b c d)]) ∧ Below w.heap.size w w' := by
  have HC := hide (qdot_two a b c d w ha0 ha1 hb0 hb1 hc0 hc1 hd0 hd1)
  go_enter Tryd.func27, Tryd.ntmps27
  go_wp2_with fail
  refine HC.out.mono ?_
  rintro e w1 ⟨rfl, k1⟩
  go_wp2
  go_ret2
  exact ⟨rfl, k1⟩
end Go.Proofs.YtefgkeeeanakeaaDoor

/-
  Places by range and angle (polar): Spread, spread, Of.
-/
set_option linter.unusedSimpArgs false
set_option linter.unusedVariables false
namespace Go.Proofs.YtefgkeeeanakeaaDoor
open Go.RowKit Vc St Qn Dt Tg Ld Po
attribute [local go_sem ↓] Go.wp_at_zero Go.wp_at_succ

namespace Po
theorem al_bd (R : Int) : -4611686018427387903 ≤ al R ∧ al R ≤ 4611686018427387903 := clamp_bd _
theorem wi_bd (F T : Int) : -4611686018427387903 ≤ wi F T ∧ wi F T ≤ 4611686018427387903 := clamp_bd _
theorem ac_bd (F T : Int) : -4611686018427387903 ≤ ac F T ∧ ac F T ≤ 4611686018427387903 := clamp_bd _
theorem pr_bd (F T : Int) : -4611686018427387903 ≤ pr F T ∧ pr F T ≤ 4611686018427387903 := clamp_bd _
theorem su_bd (a b c d : Int) : -4611686018427387903 ≤ su a b c d ∧ su a b c d ≤ 4611686018427387903 := clamp_bd _
/-- May a range be? -/
def MayF (F : Int) : Prop := 0 ≤ F ∧ F ≤ 1099511627776
end Po

set_option maxRecDepth 10000 in
set_option maxHeartbeats 1000000 in
theorem spread_no (R T F : Int) (w : World) (h : ¬ MayS R T ∨ ¬ MayF F) :
    Calls Tryd.prog 7 #[.agg #[.int .i64 R, .int .i64 T], .int .i64 F] w fun e w' => e = .returned (.tuple #[.int .i64 0, .int .i64 0, .iface 54 (.int .i64 1)]) ∧ Below w.heap.size w w' := by
  by_cases hS : MayS R T
  · have hF : ¬ MayF F := by rcases h with h | h
                             · exact absurd hS h
                             · exact h
    clear h
    rcases Int.lt_or_le F 0 with h1 | h1
    · clear hF
      go_enter Tryd.func7, Tryd.ntmps7
      go_wp2_with (first | (refine St.wpList_load isSn (by rfl) _ (by rfl) _ _ (by rfl) (by with_reducible exact crow_new w _ [.int .i64 R, .int .i64 T]) rfl ?_))
      refine (pcheck_yes R T _ hS).mono ?_
      rintro e w1 ⟨rfl, k1⟩
      go_wp2
      go_ret3
      exact ⟨rfl, below_tr (below_al (Below.refl _ _) _) k1⟩
    · have h2 : 1099511627776 < F := by
        rcases Int.lt_or_le 1099511627776 F with h2 | h2
        · exact h2
        · exact absurd ⟨h1, h2⟩ hF
      clear hF
      go_enter Tryd.func7, Tryd.ntmps7
      go_wp2_with (first | (refine St.wpList_load isSn (by rfl) _ (by rfl) _ _ (by rfl) (by with_reducible exact crow_new w _ [.int .i64 R, .int .i64 T]) rfl ?_))
      refine (pcheck_yes R T _ hS).mono ?_
      rintro e w1 ⟨rfl, k1⟩
      go_wp2
      go_ret3
      exact ⟨rfl, below_tr (below_al (Below.refl _ _) _) k1⟩
  · clear h
    go_enter Tryd.func7, Tryd.ntmps7
    go_wp2_with (first | (refine St.wpList_load isSn (by rfl) _ (by rfl) _ _ (by rfl) (by with_reducible exact crow_new w _ [.int .i64 R, .int .i64 T]) rfl ?_))
    refine (pcheck_no R T _ hS).mono ?_
    rintro e w1 ⟨rfl, k1⟩
    go_wp2
    go_ret3
    exact ⟨rfl, below_tr (below_al (Below.refl _ _) _) k1⟩

set_option maxRecDepth 10000 in
set_option maxHeartbeats 1000000 in
theorem spread_yes (R T F : Int) (w : World) (hS : MayS R T) (hF : MayF F) :
    Calls Tryd.prog 7 #[.agg #[.int .i64 R, .int .i64 T], .int .i64 F] w fun e w' => e = .returned (.tuple #[.int .i64 (al R), .int .i64 (ac F T), .nilIface]) ∧ Below w.heap.size w w' := by
  obtain ⟨s1, s2, s3, s4⟩ := id hS
  obtain ⟨f1, f2⟩ := hF
  have bW := wi_bd F T
  have HW := hide (fun W => prod30 F T W (by omega) (by omega) (by omega) (by omega))
  have HA := hide (fun W => prod20 R R W (by omega) (by omega) (by omega) (by omega))
  have HB := hide (fun W => prod20 (wi F T) (wi F T) W (by omega) (by omega) (by omega) (by omega))
  have e1 : pr F T = wi F T := rfl
  have e2 : clamp (rne (R * R) (2 ^ 20)) = al R := rfl
  have e3 : clamp (rne (wi F T * wi F T) (2 ^ 20)) = ac F T := rfl
  rw [e1] at HW
  rw [e2] at HA
  rw [e3] at HB
  obtain ⟨A, hA⟩ : ∃ A, A = al R := ⟨_, rfl⟩
  obtain ⟨V, hV⟩ : ∃ V, V = wi F T := ⟨_, rfl⟩
  obtain ⟨B, hB⟩ : ∃ B, B = ac F T := ⟨_, rfl⟩
  rw [← hA] at HA ⊢
  rw [← hV] at HW HB bW
  rw [← hB] at HB ⊢
  clear e1 e2 e3 hA hV hB
  have r0 := crow_new w 33 [.int .i64 R, .int .i64 T]
  go_enter Tryd.func7, Tryd.ntmps7
  go_wp2_with (first | (refine St.wpList_load isSn (by rfl) _ (by rfl) _ _ (by rfl) (by with_reducible exact r0) rfl ?_))
  refine (pcheck_yes R T _ hS).mono ?_
  rintro e w1 ⟨rfl, k1⟩
  have r1 := CRow.keep r0 k1
  have c1 : w1.cell? ⟨w.heap.size, 1, none⟩ = some (.int .i64 T) := CRow.cell r1 (k := 1) rfl rfl
  go_wp2_with fail
  refine (HW.out _).mono ?_
  rintro e w2 ⟨rfl, k2⟩
  have r2 := CRow.keep r1 k2
  have c2 : w2.cell? ⟨w.heap.size, 0, none⟩ = some (.int .i64 R) := CRow.cell r2 (k := 0) rfl rfl
  go_wp2_with fail
  refine (HA.out _).mono ?_
  rintro e w3 ⟨rfl, k3⟩
  go_wp2_with fail
  refine (HB.out _).mono ?_
  rintro e w4 ⟨rfl, k4⟩
  go_wp2
  go_ret3
  exact ⟨rfl, below_tr (below_tr (below_tr (below_tr (below_al (Below.refl _ _) _) k1) k2) k3) k4⟩

namespace Po
/-- Squares and the product of sine and cosine; the spreads. -/
def ssV (t : Int) : Int := pr (sine t) (sine t)
def ccV (t : Int) : Int := pr (cosine t) (cosine t)
def scV (t : Int) : Int := pr (sine t) (cosine t)
def xxV (t a b : Int) : Int := su a (ssV t) b (ccV t)
def yyV (t a b : Int) : Int := su a (ccV t) b (ssV t)
def xyV (t a b : Int) : Int := su a (scV t) (-b) (scV t)
def ovV (t a b : Int) : Bool := suO a (ssV t) b (ccV t) || suO a (ccV t) b (ssV t) || suO a (scV t) (-b) (scV t)
/-- A place and its spreads, as cells. -/
def see (x y xx yy xy : Int) : List Value := [.int .i64 x, .int .i64 y, .int .i64 xx, .int .i64 yy, .int .i64 xy]
end Po

set_option maxRecDepth 10000 in
set_option maxHeartbeats 1000000 in
theorem pspread_any (g : Nat) (t a b x y u v z : Int) (w : World) (hT : AngTab w) (h : CRow w g 28 (see x y u v z)) (t0 : 0 ≤ t) (t1 : t ≤ 4294967295) (a0 : -4611686018427387903 ≤ a) (a1 : a ≤ 4611686018427387903) (b0 : -4611686018427387903 ≤ b) (b1 : b ≤ 4611686018427387903) :
    Calls Tryd.prog 17 #[.pointer (some ⟨g, 0, none⟩), .int .u32 t, .int .i64 a, .int .i64 b] w fun e w' => e = .returned (.bool (ovV t a b)) ∧ CRow w' g 28 (see x y (xxV t a b) (yyV t a b) (xyV t a b)) ∧ But (· = g) w w' := by
  have sb := sine_bd t
  have cb := cosine_bd t
  have b1' := pr_bd (sine t) (sine t)
  have b2' := pr_bd (cosine t) (cosine t)
  have b3' := pr_bd (sine t) (cosine t)
  have HB := hide (both_any t w hT t0 t1)
  have H1 := hide (fun W => prod30 (sine t) (sine t) W (by omega) (by omega) (by omega) (by omega))
  have H2 := hide (fun W => prod30 (cosine t) (cosine t) W (by omega) (by omega) (by omega) (by omega))
  have H3 := hide (fun W => prod30 (sine t) (cosine t) W (by omega) (by omega) (by omega) (by omega))
  have H4 := hide (fun W => psum_any a (ssV t) b (ccV t) W (by omega) (by omega) (by unfold ssV; omega) (by unfold ssV; omega) (by omega) (by omega) (by unfold ccV; omega) (by unfold ccV; omega))
  have H5 := hide (fun W => psum_any a (ccV t) b (ssV t) W (by omega) (by omega) (by unfold ccV; omega) (by unfold ccV; omega) (by omega) (by omega) (by unfold ssV; omega) (by unfold ssV; omega))
  have H6 := hide (fun W => psum_any a (scV t) (-b) (scV t) W (by omega) (by omega) (by unfold scV; omega) (by unfold scV; omega) (by omega) (by omega) (by unfold scV; omega) (by unfold scV; omega))
  clear b1' b2' b3'
  have e1 : pr (sine t) (sine t) = ssV t := rfl
  have e2 : pr (cosine t) (cosine t) = ccV t := rfl
  have e3 : pr (sine t) (cosine t) = scV t := rfl
  have e4 : su a (ssV t) b (ccV t) = xxV t a b := rfl
  have e5 : su a (ccV t) b (ssV t) = yyV t a b := rfl
  have e6 : su a (scV t) (-b) (scV t) = xyV t a b := rfl
  have eO : Hid (ovV t a b = (suO a (ssV t) b (ccV t) || suO a (ccV t) b (ssV t) || suO a (scV t) (-b) (scV t))) := rfl
  rw [eO.out]
  clear eO
  rw [e1] at H1
  rw [e2] at H2
  rw [e3] at H3
  rw [e4] at H4
  rw [e5] at H5
  rw [e6] at H6
  clear e1 e2 e3 e4 e5 e6
  obtain ⟨S, hS⟩ : ∃ S, S = sine t := ⟨_, rfl⟩
  obtain ⟨C, hC⟩ : ∃ C, C = cosine t := ⟨_, rfl⟩
  obtain ⟨SS, hSS⟩ : ∃ S, S = ssV t := ⟨_, rfl⟩
  obtain ⟨CC, hCC⟩ : ∃ S, S = ccV t := ⟨_, rfl⟩
  obtain ⟨SC, hSC⟩ : ∃ S, S = scV t := ⟨_, rfl⟩
  obtain ⟨X, hX⟩ : ∃ S, S = xxV t a b := ⟨_, rfl⟩
  obtain ⟨Y, hY⟩ : ∃ S, S = yyV t a b := ⟨_, rfl⟩
  obtain ⟨Z, hZ⟩ : ∃ S, S = xyV t a b := ⟨_, rfl⟩
  rw [← hS, ← hSS] at H1
  rw [← hC, ← hCC] at H2
  rw [← hS, ← hC, ← hSC] at H3
  rw [← hS, ← hC] at HB
  rw [← hX, ← hSS, ← hCC] at H4
  rw [← hY, ← hSS, ← hCC] at H5
  rw [← hZ, ← hSC] at H6
  rw [← hX, ← hY, ← hZ, ← hSS, ← hCC, ← hSC]
  obtain ⟨o1, h1⟩ : ∃ o, o = suO a SS b CC := ⟨_, rfl⟩
  obtain ⟨o2, h2⟩ : ∃ o, o = suO a CC b SS := ⟨_, rfl⟩
  obtain ⟨o3, h3⟩ : ∃ o, o = suO a SC (-b) SC := ⟨_, rfl⟩
  rw [← h1] at H4 ⊢
  rw [← h2] at H5 ⊢
  rw [← h3] at H6 ⊢
  clear hS hC hSS hCC hSC hX hY hZ h1 h2 h3 sb cb
  go_enter Tryd.func17, Tryd.ntmps17
  go_wp2_with fail
  refine HB.out.mono ?_
  rintro e w1 ⟨rfl, k1⟩
  have r1 := CRow.keep h k1
  go_wp2_with fail
  refine (H1.out _).mono ?_
  rintro e w2 ⟨rfl, k2⟩
  have r2 := CRow.keep r1 k2
  go_wp2_with fail
  refine (H2.out _).mono ?_
  rintro e w3 ⟨rfl, k3⟩
  have r3 := CRow.keep r2 k3
  go_wp2_with fail
  refine (H3.out _).mono ?_
  rintro e w4 ⟨rfl, k4⟩
  have r4 := CRow.keep r3 k4
  go_wp2_with fail
  refine (H4.out _).mono ?_
  rintro e w5 ⟨rfl, k5⟩
  have r5 := CRow.keep r4 k5
  have c5 : w5.cell? ⟨g, 2, none⟩ = some (.int .i64 u) := CRow.cell r5 (k := 2) rfl rfl
  have f5 := CRow.free r5 2
  have B5 := below_tr (below_tr (below_tr (below_tr k1 k2) k3) k4) k5
  go_wp2_with fail
  refine (H5.out _).mono ?_
  rintro e w6 ⟨rfl, k6⟩
  have q5 : CRow (w5.setCell ⟨g, 2, none⟩ (.int .i64 X)) g 28 (see x y X v z) := CRow.set r5 2 _
  have r6 := CRow.keep q5 k6
  have c6 : w6.cell? ⟨g, 3, none⟩ = some (.int .i64 v) := CRow.cell r6 (k := 3) rfl rfl
  have f6 := CRow.free r6 3
  have B6 := ((but_of (P := (· = g)) B5).set (p := ⟨g, 2, none⟩) (.int .i64 X) rfl).then k6
  go_wp2_with fail
  refine (H6.out _).mono ?_
  rintro e w7 ⟨rfl, k7⟩
  have q6 : CRow (w6.setCell ⟨g, 3, none⟩ (.int .i64 Y)) g 28 (see x y X Y z) := CRow.set r6 3 _
  have r7 := CRow.keep q6 k7
  have c7 : w7.cell? ⟨g, 4, none⟩ = some (.int .i64 z) := CRow.cell r7 (k := 4) rfl rfl
  have f7 := CRow.free r7 4
  have B7 := (B6.set (p := ⟨g, 3, none⟩) (.int .i64 Y) rfl).then k7
  have q7 : CRow (w7.setCell ⟨g, 4, none⟩ (.int .i64 Z)) g 28 (see x y X Y Z) := CRow.set r7 4 _
  have B8 := B7.set (p := ⟨g, 4, none⟩) (.int .i64 Z) rfl
  clear c5 f5 c6 f6 r1 r2 r3 r4 r5 q5 r6 q6 B5 B6 B7 k1 k2 k3 k4 k5 k6 k7 HB H1 H2 H3 H4 H5 H6
  cases o1 <;> cases o2 <;> go_wp2
  all_goals go_ret
  all_goals exact ⟨rfl, q7, B8⟩

namespace Po
theorem zeroSe : (#[.int .i64 0, .int .i64 0, .int .i64 0, .int .i64 0, .int .i64 0] : Array Value) = (see 0 0 0 0 0).toArray := rfl
theorem one_see (x y xx yy xy : Int) : ∀ v ∈ see x y xx yy xy, v.oneCell' = true := by
  intro v hv
  simp only [see, List.mem_cons, List.not_mem_nil, or_false] at hv
  rcases hv with rfl | rfl | rfl | rfl | rfl <;> rfl
/-- The place. -/
def px (t F : Int) : Int := clamp (rne (F * sine t) (2 ^ 30))
def py (t F : Int) : Int := clamp (rne (F * cosine t) (2 ^ 30))
end Po

set_option maxRecDepth 10000 in
set_option maxHeartbeats 1000000 in
theorem pof_no (R T F : Int) (u m : Value) (w : World) (h : ¬ MayS R T ∨ ¬ MayF F) :
    Calls Tryd.prog 6 #[.agg #[.int .i64 R, .int .i64 T], .agg #[.int .i64 F, u, m]] w fun e w' => e = .returned (.tuple #[.agg (see 0 0 0 0 0).toArray, .bool false, .iface 54 (.int .i64 1)]) ∧ Below w.heap.size w w' := by
  have r0 := ((crow_new w 33 [.int .i64 R, .int .i64 T]).alloc (.cells #[.int .i64 F, u, m] 34)).alloc (.cells #[.int .i64 0, .int .i64 0, .int .i64 0, .int .i64 0, .int .i64 0] 28)
  go_enter Tryd.func6, Tryd.ntmps6
  go_wp2_with (first | (refine St.wpList_load isSn (by rfl) _ (by rfl) _ _ (by rfl) (by with_reducible exact r0) rfl ?_))
  refine (spread_no R T F _ h).mono ?_
  rintro e w1 ⟨rfl, k1⟩
  have r1 := CRow.keep (crow_new2 w (.cells #[.int .i64 R, .int .i64 T] 33) (.cells #[.int .i64 F, u, m] 34) 28 (see 0 0 0 0 0)) k1
  go_wp2_with (first | (refine St.wpList_store isSe (by rfl) _ _ (by rfl) _ (see 0 0 0 0 0) (see 0 0 0 0 0) (by rfl) (by rfl) (by with_reducible exact r1) rfl rfl (one_see _ _ _ _ _) ?_))
  exact bodyPost_ret (v := .tuple #[.agg (see 0 0 0 0 0).toArray, .bool false, .iface 54 (.int .i64 1)]) (results_3 isSe Tryd.results6 _ _ (w.heap.size + 1 + 1) (see 0 0 0 0 0) rfl (CRow.row r1 _) rfl) rfl ⟨rfl, below_row (below_tr (below_al (below_al (below_al (Below.refl _ _) _) _) _) k1) (by omega) _⟩

set_option maxRecDepth 10000 in
set_option maxHeartbeats 2000000 in
theorem pof_yes (R T F A : Int) (m : Value) (w : World) (hT : AngTab w) (hS : MayS R T) (hF : MayF F) (u0 : 0 ≤ A) (u1 : A ≤ 65535) :
    Calls Tryd.prog 6 #[.agg #[.int .i64 R, .int .i64 T], .agg #[.int .i64 F, .int .u16 A, m]] w fun e w' =>
      e = .returned (.tuple #[.agg (see (px (65536 * A) F) (py (65536 * A) F) (xxV (65536 * A) (al R) (ac F T)) (yyV (65536 * A) (al R) (ac F T)) (xyV (65536 * A) (al R) (ac F T))).toArray, .bool (ovV (65536 * A) (al R) (ac F T)), .nilIface]) ∧ Below w.heap.size w w' := by
  have bA := al_bd R
  have bB := ac_bd F T
  obtain ⟨f1, f2⟩ := id hF
  have HS := hide (fun W => spread_yes R T F W hS hF)
  have HP := hide (fun W (h : AngTab W) => place_any (65536 * A) F W h (by omega) (by omega) (by omega) (by omega))
  have HT := hide (fun W => tof_any A W u0 u1)
  have HQ := hide (fun g x y W (h : AngTab W) (hr : CRow W g 28 (see x y 0 0 0)) => pspread_any g (65536 * A) (al R) (ac F T) x y 0 0 0 W h hr (by omega) (by omega) bA.1 bA.2 bB.1 bB.2)
  obtain ⟨t, ht⟩ : ∃ t, t = 65536 * A := ⟨_, rfl⟩
  rw [Int.mul_comm A 65536] at HT
  rw [← ht] at HP HT HQ ⊢
  have e1 : clamp (rne (F * sine t) (2 ^ 30)) = px t F := rfl
  have e2 : clamp (rne (F * cosine t) (2 ^ 30)) = py t F := rfl
  rw [e1, e2] at HP
  obtain ⟨X, hX⟩ : ∃ S, S = px t F := ⟨_, rfl⟩
  obtain ⟨Y, hY⟩ : ∃ S, S = py t F := ⟨_, rfl⟩
  obtain ⟨a, ha⟩ : ∃ S, S = al R := ⟨_, rfl⟩
  obtain ⟨b, hb⟩ : ∃ S, S = ac F T := ⟨_, rfl⟩
  rw [← hX, ← hY] at HP
  rw [← hX, ← hY, ← ha, ← hb]
  rw [← ha, ← hb] at HS HQ
  obtain ⟨U, hU⟩ : ∃ S, S = xxV t a b := ⟨_, rfl⟩
  obtain ⟨V, hV⟩ : ∃ S, S = yyV t a b := ⟨_, rfl⟩
  obtain ⟨Z, hZ⟩ : ∃ S, S = xyV t a b := ⟨_, rfl⟩
  obtain ⟨o, ho⟩ : ∃ S, S = ovV t a b := ⟨_, rfl⟩
  rw [← hU, ← hV, ← hZ, ← ho] at HQ
  rw [← hU, ← hV, ← hZ, ← ho]
  clear ht e1 e2 hX hY ha hb hU hV hZ ho bA bB hS hF
  have r0 := ((crow_new w 33 [.int .i64 R, .int .i64 T]).alloc (.cells #[.int .i64 F, .int .u16 A, m] 34)).alloc (.cells #[.int .i64 0, .int .i64 0, .int .i64 0, .int .i64 0, .int .i64 0] 28)
  have p0 := (crow_new1 w (.cells #[.int .i64 R, .int .i64 T] 33) 34 [.int .i64 F, .int .u16 A, m]).alloc (.cells #[.int .i64 0, .int .i64 0, .int .i64 0, .int .i64 0, .int .i64 0] 28)
  have s0 := crow_new2 w (.cells #[.int .i64 R, .int .i64 T] 33) (.cells #[.int .i64 F, .int .u16 A, m] 34) 28 (see 0 0 0 0 0)
  have B0 : Below w.heap.size w (((w.alloc (.cells #[.int .i64 R, .int .i64 T] 33)).alloc (.cells #[.int .i64 F, .int .u16 A, m] 34)).alloc (.cells #[.int .i64 0, .int .i64 0, .int .i64 0, .int .i64 0, .int .i64 0] 28)) := below_al (below_al (below_al (Below.refl _ _) _) _) _
  have T0 := hT.below B0
  go_enter Tryd.func6, Tryd.ntmps6
  go_wp2_with (first | (refine St.wpList_load isSn (by rfl) _ (by rfl) _ _ (by rfl) (by with_reducible exact r0) rfl ?_))
  refine (HS.out _).mono ?_
  rintro e w1 ⟨rfl, k1⟩
  have p1 := CRow.keep p0 k1
  have s1 := CRow.keep s0 k1
  have T1 := T0.below k1
  have B1 := below_tr B0 k1
  have c1 : w1.cell? ⟨w.heap.size + 1, 1, none⟩ = some (.int .u16 A) := CRow.cell p1 (k := 1) rfl rfl
  have d1 : w1.cell? ⟨w.heap.size + 1, 0, none⟩ = some (.int .i64 F) := CRow.cell p1 (k := 0) rfl rfl
  clear r0 p0 s0 T0 B0 k1
  go_wp2_with fail
  refine (HT.out _).mono ?_
  rintro e w1' ⟨rfl, rfl⟩
  go_wp2_with fail
  refine (HP.out _ T1).mono ?_
  rintro e w2 ⟨rfl, k2⟩
  have s2 := CRow.keep s1 k2
  have T2 := T1.below k2
  have B2 := below_tr B1 k2
  clear c1 d1 p1 s1 T1 B1 k2
  have l2 := s2.lt
  go_wp2_with (first
    | (rw [zeroSe]; refine St.wpList_storeNew isSe (by rfl) _ _ (by rfl) _ _ (see X Y 0 0 0) (by rfl) (by rfl) rfl rfl (one_see _ _ _ _ _) ?_; intro w3 n3 k3; have s3 := CRow.keep s2 k3; have T3 := T2.below k3; have B3 := below_tr B2 k3; clear s2 T2))
  refine (HQ.out _ X Y _ T3 n3).mono ?_
  rintro e w4 ⟨rfl, n4, k4⟩
  have s4 := crowBut s3 k4 (by omega)
  have B4 := k4.below B3 (by have := B3.size; omega) (by rintro k rfl; have := B2.size; omega)
  clear s3 T3 n3 k4
  go_wp2_with (first
    | (refine St.wpList_load isSe (by rfl) _ (by rfl) _ _ (by rfl) (by with_reducible exact n4) rfl ?_)
    | (refine St.wpList_store isSe (by rfl) _ _ (by rfl) _ (see 0 0 0 0 0) (see X Y U V Z) (by rfl) (by rfl) (by with_reducible exact s4) rfl rfl (one_see _ _ _ _ _) ?_))
  exact bodyPost_ret (v := .tuple #[.agg (see X Y U V Z).toArray, .bool o, .nilIface]) (results_3 isSe Tryd.results6 _ _ (w.heap.size + 1 + 1) (see X Y U V Z) rfl (CRow.row s4 _) rfl) rfl ⟨rfl, below_row B4 (by omega) _⟩
end Go.Proofs.YtefgkeeeanakeaaDoor

/-
  What must come whatever the input is (sure of the laws of layer 10).
-/
set_option linter.unusedSimpArgs false
set_option linter.unusedVariables false
namespace Go.Proofs.YtefgkeeeanakeaaDoor
open Go.RowKit Vc St Qn Dt Tg Ld Po
attribute [local go_sem ↓] Go.wp_at_zero Go.wp_at_succ

namespace Po
theorem isRn : Is 23 2 := ⟨by kernel_rfl, ⟨_, Tryd.underlying23, rfl⟩⟩
theorem isRl : Is 26 3 := ⟨by kernel_rfl, ⟨_, Tryd.underlying26, rfl⟩⟩
theorem isRe : Is 42 5 := ⟨by kernel_rfl, ⟨_, Tryd.underlying42, rfl⟩⟩
theorem v1 : px (65536 * 0) 1048576000 = 0 := by decide +kernel
theorem v2 : py (65536 * 0) 1048576000 = 1048576000 := by decide +kernel
theorem v3 : al 52428800 = 2621440000 := by decide +kernel
theorem v4 : ac 1048576000 1048576 = 1000000 := by decide +kernel
theorem v5 : xxV (65536 * 0) 2621440000 1000000 = 1000000 := by decide +kernel
theorem v6 : yyV (65536 * 0) 2621440000 1000000 = 2621440000 := by decide +kernel
theorem v7 : xyV (65536 * 0) 2621440000 1000000 = 0 := by decide +kernel
theorem v8 : ovV (65536 * 0) 2621440000 1000000 = false := by decide +kernel
end Po

set_option maxRecDepth 10000 in
set_option maxHeartbeats 1000000 in
theorem psure_any (w : World) (hT : AngTab w) :
    Calls Tryd.prog 12 #[] w fun e w' => e = .returned (.bool true) ∧ Below w.heap.size w w' := by
  have hS : MayS 52428800 1048576 := ⟨by omega, by omega, by omega, by omega⟩
  have hF : MayF 1048576000 := ⟨by omega, by omega⟩
  have HO := hide (fun W (h : AngTab W) => pof_yes 52428800 1048576 1048576000 0 (.int .i64 0) W h hS hF (by omega) (by omega))
  have HS := hide (fun W => spread_yes 52428800 1048576 1048576000 W hS hF)
  rw [v1, v2, v3, v4, v5, v6, v7, v8] at HO
  rw [v3, v4] at HS
  clear hS hF
  go_enter Tryd.func12, Tryd.ntmps12
  go_wp2_with fail
  refine (HO.out _ hT).mono ?_
  rintro e w1 ⟨rfl, k1⟩
  go_wp2_with (first
    | (rw [zeroSe]; refine St.wpList_storeNew isSe (by rfl) _ _ (by rfl) _ _ (see 0 1048576000 1000000 2621440000 0) (by rfl) (by rfl) rfl rfl (one_see _ _ _ _ _) ?_; intro w2 n2 k2; have B2 := below_tr k1 k2))
  refine (HS.out _).mono ?_
  rintro e w3 ⟨rfl, k3⟩
  have n3 := CRow.keep n2 k3
  have c0 : w3.cell? ⟨w1.heap.size, 0, none⟩ = some (.int .i64 0) := CRow.cell n3 (k := 0) rfl rfl
  have c1 : w3.cell? ⟨w1.heap.size, 1, none⟩ = some (.int .i64 1048576000) := CRow.cell n3 (k := 1) rfl rfl
  have c2 : w3.cell? ⟨w1.heap.size, 2, none⟩ = some (.int .i64 1000000) := CRow.cell n3 (k := 2) rfl rfl
  have c3 : w3.cell? ⟨w1.heap.size, 3, none⟩ = some (.int .i64 2621440000) := CRow.cell n3 (k := 3) rfl rfl
  go_wp2
  go_ret
  exact ⟨rfl, below_tr B2 k3⟩
end Go.Proofs.YtefgkeeeanakeaaDoor

/-
  Places by range and angle: how great along and across are, what spreads make together, and a quarter of a turn further.
-/
set_option linter.unusedSimpArgs false
set_option linter.unusedVariables false
namespace Go.Proofs.YtefgkeeeanakeaaDoor
namespace Po
open Qn Tg

theorem clamp_id {n : Int} (h0 : -4611686018427387903 ≤ n) (h1 : n ≤ 4611686018427387903) : clamp n = n := by
  unfold clamp; rw [if_neg (by omega), if_neg (by omega)]
theorem great_no {n : Int} (h0 : -4611686018427387903 ≤ n) (h1 : n ≤ 4611686018427387903) : great n = false := by
  unfold great; rw [decide_eq_false (by omega), decide_eq_false (by omega)]; rfl
theorem sq_le {x B : Int} (h0 : 0 ≤ x) (h1 : x ≤ B) : 0 ≤ x * x ∧ x * x ≤ B * B :=
  ⟨Int.mul_nonneg h0 h0, Int.mul_le_mul h1 h1 h0 (by omega)⟩
theorem bounds_u16 {n : Int} (h : (Lit.int .u16 n).wf = true) : 0 ≤ n ∧ n ≤ 65535 := by
  simpa [Lit.wf, IntKind.min, IntKind.max, IntKind.signed, IntKind.bits] using h
theorem p20 : (2 : Int) ^ 20 = 1048576 := by decide
theorem p30 : (2 : Int) ^ 30 = 1073741824 := by decide
theorem al_in {R T : Int} (h : MayS R T) : al R = rne (R * R) (2 ^ 20) ∧ great (rne (R * R) (2 ^ 20)) = false ∧ 0 ≤ al R ∧ al R ≤ 281474976710656 := by
  obtain ⟨h1, h2, h3, h4⟩ := h
  have hs := sq_le (x := R) (B := 17179869184) (by omega) h2
  have hn := rne_near (R * R) (d := 2 ^ 20) (by decide)
  have h0 := rne_nn (n := R * R) (d := 2 ^ 20) (by decide) hs.1
  unfold al
  rw [p20] at *
  generalize R * R = n at *
  generalize rne n 1048576 = r at *
  rw [clamp_id (by omega) (by omega)]
  exact ⟨rfl, great_no (by omega) (by omega), by omega, by omega⟩
theorem wi_in {R T F : Int} (h : MayS R T) (hF : MayF F) : wi F T = rne (F * T) (2 ^ 30) ∧ great (rne (F * T) (2 ^ 30)) = false ∧ 0 ≤ wi F T ∧ wi F T ≤ 274877906944 := by
  obtain ⟨h1, h2, h3, h4⟩ := h
  obtain ⟨f1, f2⟩ := hF
  have hs0 : 0 ≤ F * T := Int.mul_nonneg f1 (by omega)
  have hs1 : F * T ≤ 1099511627776 * 268435456 := Int.mul_le_mul f2 h4 (by omega) (by omega)
  have hn := rne_near (F * T) (d := 2 ^ 30) (by decide)
  have h0 := rne_nn (n := F * T) (d := 2 ^ 30) (by decide) hs0
  unfold wi
  rw [p30] at *
  generalize F * T = n at *
  generalize rne n 1073741824 = r at *
  rw [clamp_id (by omega) (by omega)]
  exact ⟨rfl, great_no (by omega) (by omega), by omega, by omega⟩
theorem ac_in {R T F : Int} (h : MayS R T) (hF : MayF F) : ac F T = rne (wi F T * wi F T) (2 ^ 20) ∧ great (rne (wi F T * wi F T) (2 ^ 20)) = false ∧ 0 ≤ ac F T ∧ ac F T ≤ 72057594037927936 := by
  have hw := wi_in h hF
  have hs := sq_le hw.2.2.1 hw.2.2.2
  have hn := rne_near (wi F T * wi F T) (d := 2 ^ 20) (by decide)
  have h0 := rne_nn (n := wi F T * wi F T) (d := 2 ^ 20) (by decide) hs.1
  unfold ac
  rw [p20] at *
  generalize wi F T * wi F T = n at *
  generalize rne n 1048576 = r at *
  rw [clamp_id (by omega) (by omega)]
  exact ⟨rfl, great_no (by omega) (by omega), by omega, by omega⟩
/-- A greater range is never spread less across. -/
theorem ac_up {R T F G : Int} (h : MayS R T) (hF : MayF F) (hG : MayF G) (hFG : F ≤ G) : ac F T ≤ ac G T := by
  have f1 := wi_in h hF
  have g1 := wi_in h hG
  have f2 := ac_in h hF
  have g2 := ac_in h hG
  have hT : 0 ≤ T := by have := h.2.2.1; omega
  have hw : wi F T ≤ wi G T := by
    rw [f1.1, g1.1]
    exact rne_up (by decide) (Int.mul_le_mul_of_nonneg_right hFG hT)
  rw [f2.1, g2.1]
  exact rne_up (by decide) (Int.mul_le_mul hw hw f1.2.2.1 g1.2.2.1)
theorem pr_in {a : Int} (h0 : -5215406418 ≤ a) (h1 : a ≤ 5215406418) : 0 ≤ pr a a ∧ 2 * (1073741824 * pr a a) ≤ 2 * (a * a) + 1073741824 ∧ 2 * (a * a) - 1073741824 ≤ 2 * (1073741824 * pr a a) := by
  have hs : a * a ≤ 5215406418 * 5215406418 := by
    rcases Int.le_total 0 a with h | h
    · exact (sq_le h h1).2
    · have := (sq_le (x := -a) (B := 5215406418) (by omega) (by omega)).2
      rwa [Int.neg_mul_neg] at this
  have hq := sq_nn a
  have hn := rne_near (a * a) (d := 2 ^ 30) (by decide)
  have h0 := rne_nn (n := a * a) (d := 2 ^ 30) (by decide) hq
  unfold pr
  rw [p30] at *
  generalize a * a = n at *
  generalize rne n 1073741824 = r at *
  rw [clamp_id (by omega) (by omega)]
  exact ⟨h0, hn.1, hn.2⟩
theorem ss_cc (t : Int) : 0 ≤ ssV t ∧ 0 ≤ ccV t ∧ 1073741808 ≤ ssV t + ccV t ∧ ssV t + ccV t ≤ 1073741840 := by
  have hs := sine_bd t
  have hc := cosine_bd t
  have h1 := pr_in hs.1 hs.2
  have h2 := pr_in hc.1 hc.2
  have h3 := circle t
  unfold ssV ccV
  generalize sine t * sine t = u at *
  generalize cosine t * cosine t = v at *
  generalize pr (sine t) (sine t) = p at *
  generalize pr (cosine t) (cosine t) = q at *
  refine ⟨h1.1, h2.1, ?_, ?_⟩ <;> omega
theorem su_in {a b c d : Int} (h : suO a b c d = false) : 2 * (1073741824 * su a b c d) ≤ 2 * (a * b + c * d) + 1073741824 ∧ 2 * (a * b + c * d) - 1073741824 ≤ 2 * (1073741824 * su a b c d) := by
  have hn := rne_near (a * b + c * d) (d := 2 ^ 30) (by decide)
  have e : su a b c d = rne (a * b + c * d) (2 ^ 30) := clamp_in h
  rw [e]
  rw [p30] at *
  exact hn
theorem su_nn {a b c d : Int} (h : suO a b c d = false) (ha : 0 ≤ a) (hb : 0 ≤ b) (hc : 0 ≤ c) (hd : 0 ≤ d) : 0 ≤ su a b c d := by
  have e : su a b c d = rne (a * b + c * d) (2 ^ 30) := clamp_in h
  rw [e]
  exact rne_nn (by decide) (Int.add_nonneg (Int.mul_nonneg ha hb) (Int.mul_nonneg hc hd))
/-- By x and by y a place is spread as much as along and across. -/
theorem spreads {t a b : Int} (ha : 0 ≤ a) (hb : 0 ≤ b) (h : ovV t a b = false) :
    0 ≤ xxV t a b ∧ 0 ≤ yyV t a b ∧ xxV t a b + yyV t a b - a - b ≤ a / 1000000 + b / 1000000 + 16 ∧ -(a / 1000000 + b / 1000000 + 16) ≤ xxV t a b + yyV t a b - a - b := by
  unfold ovV at h
  simp only [Bool.or_eq_false_iff] at h
  obtain ⟨⟨h1, h2⟩, _⟩ := h
  have hp := ss_cc t
  have x0 := su_nn h1 ha hp.1 hb hp.2.1
  have y0 := su_nn h2 ha hp.2.1 hb hp.1
  have x1 := su_in h1
  have y1 := su_in h2
  refine ⟨x0, y0, ?_⟩
  show su a (ssV t) b (ccV t) + su a (ccV t) b (ssV t) - a - b ≤ a / 1000000 + b / 1000000 + 16 ∧ -(a / 1000000 + b / 1000000 + 16) ≤ su a (ssV t) b (ccV t) + su a (ccV t) b (ssV t) - a - b
  have e : (a * ssV t + b * ccV t) + (a * ccV t + b * ssV t) = (a + b) * (ssV t + ccV t) := by
    rw [Int.add_mul, Int.mul_add, Int.mul_add]; omega
  have u : (a + b) * (ssV t + ccV t) ≤ (a + b) * 1073741840 := Int.mul_le_mul_of_nonneg_left hp.2.2.2 (by omega)
  have l : (a + b) * 1073741808 ≤ (a + b) * (ssV t + ccV t) := Int.mul_le_mul_of_nonneg_left hp.2.2.1 (by omega)
  generalize (a + b) * (ssV t + ccV t) = W at *
  generalize su a (ssV t) b (ccV t) = X at *
  generalize su a (ccV t) b (ssV t) = Y at *
  generalize a * ssV t + b * ccV t = M at *
  generalize a * ccV t + b * ssV t = N at *
  clear hp h1 h2
  constructor <;> omega

/-- A quarter of a turn further. -/
theorem quarter {A B : Int} (h0 : 0 ≤ A) (h1 : A ≤ 65535) (hB : B = (A + 16384) % 65536) : sine (65536 * B) = cosine (65536 * A) ∧ cosine (65536 * B) = -sine (65536 * A) := by
  have hm : 65536 * B % 1073741824 = 65536 * A % 1073741824 := by omega
  have hb : beg (65536 * B) = beg (65536 * A) := by unfold beg; rw [hm]
  have hs : sn (65536 * B) = sn (65536 * A) := by unfold sn; rw [hb]
  have hc : cs (65536 * B) = cs (65536 * A) := by unfold cs; rw [hb]
  unfold sine cosine
  rw [hs, hc]
  rcases Int.lt_or_le A 16384 with a1 | a1
  · rw [if_pos (show 65536 * A < 1073741824 by omega), if_pos (show 65536 * A < 1073741824 by omega), if_neg (show ¬ 65536 * B < 1073741824 by omega), if_pos (show 65536 * B < 2147483648 by omega), if_neg (show ¬ 65536 * B < 1073741824 by omega), if_pos (show 65536 * B < 2147483648 by omega)]
    exact ⟨rfl, rfl⟩
  rcases Int.lt_or_le A 32768 with a2 | a2
  · rw [if_neg (show ¬ 65536 * A < 1073741824 by omega), if_neg (show ¬ 65536 * A < 1073741824 by omega), if_pos (show 65536 * A < 2147483648 by omega), if_pos (show 65536 * A < 2147483648 by omega), if_neg (show ¬ 65536 * B < 1073741824 by omega), if_neg (show ¬ 65536 * B < 2147483648 by omega), if_pos (show 65536 * B < 3221225472 by omega), if_neg (show ¬ 65536 * B < 1073741824 by omega), if_neg (show ¬ 65536 * B < 2147483648 by omega), if_pos (show 65536 * B < 3221225472 by omega)]
    exact ⟨rfl, rfl⟩
  rcases Int.lt_or_le A 49152 with a3 | a3
  · rw [if_neg (show ¬ 65536 * A < 1073741824 by omega), if_neg (show ¬ 65536 * A < 1073741824 by omega), if_neg (show ¬ 65536 * A < 2147483648 by omega), if_neg (show ¬ 65536 * A < 2147483648 by omega), if_pos (show 65536 * A < 3221225472 by omega), if_pos (show 65536 * A < 3221225472 by omega), if_neg (show ¬ 65536 * B < 1073741824 by omega), if_neg (show ¬ 65536 * B < 2147483648 by omega), if_neg (show ¬ 65536 * B < 3221225472 by omega), if_neg (show ¬ 65536 * B < 1073741824 by omega), if_neg (show ¬ 65536 * B < 2147483648 by omega), if_neg (show ¬ 65536 * B < 3221225472 by omega)]
    exact ⟨rfl, (Int.neg_neg _).symm⟩
  · rw [if_neg (show ¬ 65536 * A < 1073741824 by omega), if_neg (show ¬ 65536 * A < 1073741824 by omega), if_neg (show ¬ 65536 * A < 2147483648 by omega), if_neg (show ¬ 65536 * A < 2147483648 by omega), if_neg (show ¬ 65536 * A < 3221225472 by omega), if_neg (show ¬ 65536 * A < 3221225472 by omega), if_pos (show 65536 * B < 1073741824 by omega), if_pos (show 65536 * B < 1073741824 by omega)]
    exact ⟨rfl, (Int.neg_neg _).symm⟩
theorem pr_neg (a b : Int) : pr a (-b) = -pr a b := by
  unfold pr; rw [Int.mul_neg, rne_neg _ _ (by decide), clamp_neg]
theorem pr_comm (a b : Int) : pr a b = pr b a := by unfold pr; rw [Int.mul_comm]
theorem pr_negs (a : Int) : pr (-a) (-a) = pr a a := by
  unfold pr; rw [Int.neg_mul_neg]
theorem su_neg (a b c : Int) : su a (-b) c (-b) = -su a b c b := by
  unfold su; rw [Int.mul_neg, Int.mul_neg, ← Int.neg_add, rne_neg _ _ (by decide), clamp_neg]
theorem turned {A B F a b : Int} (h0 : 0 ≤ A) (h1 : A ≤ 65535) (hB : B = (A + 16384) % 65536) :
    px (65536 * B) F = py (65536 * A) F ∧ py (65536 * B) F = -px (65536 * A) F ∧ xxV (65536 * B) a b = yyV (65536 * A) a b ∧ yyV (65536 * B) a b = xxV (65536 * A) a b ∧ xyV (65536 * B) a b = -xyV (65536 * A) a b := by
  have hq := quarter h0 h1 hB
  have e1 : ssV (65536 * B) = ccV (65536 * A) := by unfold ssV ccV; rw [hq.1]
  have e2 : ccV (65536 * B) = ssV (65536 * A) := by unfold ssV ccV; rw [hq.2, pr_negs]
  have e3 : scV (65536 * B) = -scV (65536 * A) := by
    unfold scV; rw [hq.1, hq.2, pr_neg, pr_comm]
  refine ⟨?_, ?_, ?_, ?_, ?_⟩
  · unfold px py; rw [hq.1]
  · unfold px py; rw [hq.2, Int.mul_neg, rne_neg _ _ (by decide), clamp_neg]
  · unfold xxV yyV; rw [e1, e2]
  · unfold xxV yyV; rw [e1, e2]
  · unfold xyV; rw [e3, su_neg]
theorem ov_turned {A B a b : Int} (h0 : 0 ≤ A) (h1 : A ≤ 65535) (hB : B = (A + 16384) % 65536) : ovV (65536 * B) a b = ovV (65536 * A) a b := by
  have hq := quarter h0 h1 hB
  have e1 : ssV (65536 * B) = ccV (65536 * A) := by unfold ssV ccV; rw [hq.1]
  have e2 : ccV (65536 * B) = ssV (65536 * A) := by unfold ssV ccV; rw [hq.2, pr_negs]
  have e3 : scV (65536 * B) = -scV (65536 * A) := by
    unfold scV; rw [hq.1, hq.2, pr_neg, pr_comm]
  have e4 : suO a (-scV (65536 * A)) (-b) (-scV (65536 * A)) = suO a (scV (65536 * A)) (-b) (scV (65536 * A)) := by
    unfold suO; rw [Int.mul_neg, Int.mul_neg, ← Int.neg_add, rne_neg _ _ (by decide), great_neg]
  unfold ovV
  rw [e1, e2, e3, e4, Bool.or_comm (suO a (ccV (65536 * A)) b (ssV (65536 * A)))]
end Po
end Go.Proofs.YtefgkeeeanakeaaDoor
