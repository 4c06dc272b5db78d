/-
  The document's answer of layer 10 (radomeref10): May, In, one, Spread, Of.
-/
import Derived.Test.YtefgkeeeanakeaaDoorM15
import Derived.Test.YtefgkeeeanakeaaDoorM18
import Derived.Test.YtefgkeeeanakeaaDoorM6
set_option linter.unusedSimpArgs false
set_option linter.unusedVariables false
namespace Go.Proofs.YtefgkeeeanakeaaDoor
open Go.RowKit Vc St Qn Dt Tg Ld Po
attribute [local go_sem ↓] Go.wp_at_zero Go.wp_at_succ


set_option maxHeartbeats 400000 in
theorem rmay_yes (R T : Int) (w : World) (h : MayS R T) :
    Calls Tryd.prog 8 #[.agg #[.int .i64 R, .int .i64 T]] w fun e w' => e = .returned (.bool true) ∧ Below w.heap.size w w' := by
  obtain ⟨h1, h2, h3, h4⟩ := h
  go_enter Tryd.func8, Tryd.ntmps8
  go_wp2
  go_ret
  exact ⟨rfl, below_al (Below.refl _ _) _⟩
set_option maxHeartbeats 400000 in
theorem rmay_no (R T : Int) (w : World) (h : ¬ MayS R T) :
    Calls Tryd.prog 8 #[.agg #[.int .i64 R, .int .i64 T]] w fun e w' => e = .returned (.bool false) ∧ Below w.heap.size w w' := by
  rcases Int.lt_or_le R 1 with h1 | h1
  · clear h
    go_enter Tryd.func8, Tryd.ntmps8
    go_wp2
    go_ret
    exact ⟨rfl, below_al (Below.refl _ _) _⟩
  rcases Int.lt_or_le 17179869184 R with h2 | h2
  · clear h
    go_enter Tryd.func8, Tryd.ntmps8
    go_wp2
    go_ret
    exact ⟨rfl, below_al (Below.refl _ _) _⟩
  rcases Int.lt_or_le T 1 with h3 | h3
  · clear h
    go_enter Tryd.func8, Tryd.ntmps8
    go_wp2
    go_ret
    exact ⟨rfl, below_al (Below.refl _ _) _⟩
  rcases Int.lt_or_le 268435456 T with h4 | h4
  · clear h
    go_enter Tryd.func8, Tryd.ntmps8
    go_wp2
    go_ret
    exact ⟨ret_bool (decide_eq_false (by omega)), below_al (Below.refl _ _) _⟩
  exact absurd ⟨h1, h2, h3, h4⟩ h
theorem rin_yes (F : Int) (w : World) (h : MayF F) :
    Calls Tryd.prog 11 #[.int .i64 F] w fun e w' => e = .returned (.bool true) ∧ Below w.heap.size w w' := by
  obtain ⟨h1, h2⟩ := h
  go_enter Tryd.func11, Tryd.ntmps11
  go_wp2
  go_ret
  exact ⟨rfl, Below.refl _ _⟩
theorem rin_no (F : Int) (w : World) (h : ¬ MayF F) :
    Calls Tryd.prog 11 #[.int .i64 F] w fun e w' => e = .returned (.bool false) ∧ Below w.heap.size w w' := by
  rcases Int.lt_or_le F 0 with h1 | h1
  · clear h
    go_enter Tryd.func11, Tryd.ntmps11
    go_wp2
    go_ret
    exact ⟨rfl, Below.refl _ _⟩
  rcases Int.lt_or_le 1099511627776 F with h2 | h2
  · clear h
    go_enter Tryd.func11, Tryd.ntmps11
    go_wp2
    go_ret
    exact ⟨ret_bool (decide_eq_false (by omega)), Below.refl _ _⟩
  exact absurd ⟨h1, h2⟩ h

set_option maxHeartbeats 400000 in
theorem rone_any (a b q : Int) (p : Nat) (w : World) (hq : q = (p : Int)) (ha0 : -9223372036854775808 ≤ a) (ha1 : a ≤ 9223372036854775807) (hb0 : -9223372036854775808 ≤ b) (hb1 : b ≤ 9223372036854775807) (hp : p ≤ 62) :
    Calls Tryd.prog 22 #[.int .i64 a, .int .i64 b, .int .i64 q] w fun e w' => e = .returned (.tuple #[.int .i64 (clamp (rne (a * b) (2 ^ p))), .bool (great (rne (a * b) (2 ^ p)))]) ∧ Below w.heap.size w w' := by
  have HC := hide (vdot_one a b q p w hq ha0 ha1 hb0 hb1 hp)
  clear hq
  go_enter Tryd.func22, Tryd.ntmps22
  go_wp2_with fail
  refine HC.out.mono ?_
  rintro e w1 ⟨rfl, k1⟩
  go_wp2
  go_ret2
  exact ⟨rfl, k1⟩

theorem ldot_two (a b c d : Int) (w : World) (ha0 : -9223372036854775808 ≤ a) (ha1 : a ≤ 9223372036854775807) (hb0 : -9223372036854775808 ≤ b) (hb1 : b ≤ 9223372036854775807) (hc0 : -9223372036854775808 ≤ c) (hc1 : c ≤ 9223372036854775807) (hd0 : -9223372036854775808 ≤ d) (hd1 : d ≤ 9223372036854775807) :
    Calls Tryd.prog 23 #[.slice (some ⟨w.heap.size, 0, none⟩) 2 2, .slice (some ⟨w.heap.size + 1, 0, none⟩) 2 2, .int .i64 30] ((w.alloc (.cells #[.int .i64 a, .int .i64 c] 2)).alloc (.cells #[.int .i64 b, .int .i64 d] 2)) fun e w' =>
      e = .returned (.tuple #[.int .i64 (su a b c d), .bool (suO a b c d)]) ∧ Below w.heap.size w w' := by
  have d1 : ((w.alloc (.cells #[.int .i64 a, .int .i64 c] 2)).alloc (.cells #[.int .i64 b, .int .i64 d] 2)).cell? ⟨w.heap.size, 0, none⟩ = some (.int .i64 a) := by go_simp
  have d2 : ((w.alloc (.cells #[.int .i64 a, .int .i64 c] 2)).alloc (.cells #[.int .i64 b, .int .i64 d] 2)).cell? ⟨w.heap.size, 1, none⟩ = some (.int .i64 c) := by go_simp
  have d3 : ((w.alloc (.cells #[.int .i64 a, .int .i64 c] 2)).alloc (.cells #[.int .i64 b, .int .i64 d] 2)).cell? ⟨w.heap.size + 1, 0, none⟩ = some (.int .i64 b) := by go_simp
  have d4 : ((w.alloc (.cells #[.int .i64 a, .int .i64 c] 2)).alloc (.cells #[.int .i64 b, .int .i64 d] 2)).cell? ⟨w.heap.size + 1, 1, none⟩ = some (.int .i64 d) := by go_simp
  have s1 := sl_two (x := ⟨w.heap.size, 0, none⟩) d1 d2
  have s2 := sl_two (x := ⟨w.heap.size + 1, 0, none⟩) d3 d4
  have h := ldot_sl (some ⟨w.heap.size, 0, none⟩) (some ⟨w.heap.size + 1, 0, none⟩) 2 2 2 _ _ 30 30 _ rfl (by omega) s1 s2 (fun k => by show _ ≤ (if k = 0 then a else c) ∧ (if k = 0 then a else c) ≤ _; split <;> exact ⟨by assumption, by assumption⟩) (fun k => by show _ ≤ (if k = 0 then b else d) ∧ (if k = 0 then b else d) ≤ _; split <;> exact ⟨by assumption, by assumption⟩) (by omega)
  have e1 : dk (fun k => if k = 0 then a else c) (fun k => if k = 0 then b else d) 2 = a * b + c * d := by show 0 + a * b + c * d = _; omega
  rw [e1] at h
  refine h.mono ?_
  rintro e w1 ⟨rfl, k1⟩
  exact ⟨rfl, below_tr (below_al (below_al (Below.refl _ _) _) _) k1⟩

namespace Po
/-- Whether something was too great along or across. -/
def spO (R T F : Int) : Bool := great (rne (R * R) (2 ^ 20)) || great (rne (F * T) (2 ^ 30)) || great (rne (wi F T * wi F T) (2 ^ 20))
end Po

set_option maxRecDepth 10000 in
set_option maxHeartbeats 1000000 in
theorem rspread_any (R T F : Int) (w : World) (r0 : -9223372036854775808 ≤ R) (r1 : R ≤ 9223372036854775807) (t0 : -9223372036854775808 ≤ T) (t1 : T ≤ 9223372036854775807) (f0 : -9223372036854775808 ≤ F) (f1 : F ≤ 9223372036854775807) :
    Calls Tryd.prog 14 #[.agg #[.int .i64 R, .int .i64 T], .int .i64 F] w fun e w' => e = .returned (.tuple #[.int .i64 (al R), .int .i64 (ac F T), .bool (spO R T F)]) ∧ Below w.heap.size w w' := by
  have bW := wi_bd F T
  have HA := hide (fun W => rone_any R R 20 20 W rfl r0 r1 r0 r1 (by omega))
  have HW := hide (fun W => rone_any F T 30 30 W rfl f0 f1 t0 t1 (by omega))
  have HB := hide (fun W => rone_any (wi F T) (wi F T) 20 20 W rfl (by omega) (by omega) (by omega) (by omega) (by omega))
  have e1 : clamp (rne (F * T) (2 ^ 30)) = wi F T := rfl
  have e2 : clamp (rne (R * R) (2 ^ 20)) = al R := rfl
  have e3 : clamp (rne (wi F T * wi F T) (2 ^ 20)) = ac F T := rfl
  rw [e1] at HW
  rw [e2] at HA
  rw [e3] at HB
  unfold spO
  obtain ⟨A, hA⟩ : ∃ A, A = al R := ⟨_, rfl⟩
  obtain ⟨V, hV⟩ : ∃ V, V = wi F T := ⟨_, rfl⟩
  obtain ⟨B, hB⟩ : ∃ B, B = ac F T := ⟨_, rfl⟩
  rw [← hA] at HA ⊢
  rw [← hV] at HW HB bW ⊢
  rw [← hB] at HB ⊢
  obtain ⟨o1, h1⟩ : ∃ o, o = great (rne (R * R) (2 ^ 20)) := ⟨_, rfl⟩
  obtain ⟨o2, h2⟩ : ∃ o, o = great (rne (F * T) (2 ^ 30)) := ⟨_, rfl⟩
  obtain ⟨o3, h3⟩ : ∃ o, o = great (rne (V * V) (2 ^ 20)) := ⟨_, rfl⟩
  rw [← h1] at HA ⊢
  rw [← h2] at HW ⊢
  rw [← h3] at HB ⊢
  clear e1 e2 e3 hA hV hB h1 h2 h3
  have n0 := crow_new w 23 [.int .i64 R, .int .i64 T]
  have c0 : (w.alloc (.cells #[.int .i64 R, .int .i64 T] 23)).cell? ⟨w.heap.size, 0, none⟩ = some (.int .i64 R) := CRow.cell n0 (k := 0) rfl rfl
  go_enter Tryd.func14, Tryd.ntmps14
  go_wp2_with fail
  refine (HA.out _).mono ?_
  rintro e w1 ⟨rfl, k1⟩
  have n1 := CRow.keep n0 k1
  have c1 : w1.cell? ⟨w.heap.size, 1, none⟩ = some (.int .i64 T) := CRow.cell n1 (k := 1) rfl rfl
  go_wp2_with fail
  refine (HW.out _).mono ?_
  rintro e w2 ⟨rfl, k2⟩
  go_wp2_with fail
  refine (HB.out _).mono ?_
  rintro e w3 ⟨rfl, k3⟩
  have B3 := below_tr (below_tr (below_tr (below_al (Below.refl _ _) _) k1) k2) k3
  clear HA HW HB n0 c0 n1 c1 k1 k2 k3
  cases o1 <;> cases o2 <;> go_wp2
  all_goals go_ret3
  all_goals exact ⟨rfl, B3⟩

namespace Po
theorem zeroRe : (#[.int .i64 0, .int .i64 0, .int .i64 0, .int .i64 0, .int .i64 0] : Array Value) = (see 0 0 0 0 0).toArray := rfl
/-- XY, as the document reckons it. -/
def ryV (t a b : Int) : Int := su a (scV t) b (-scV t)
def rovV (t a b : Int) : Bool := suO a (ssV t) b (ccV t) || suO a (ccV t) b (ssV t) || suO a (scV t) b (-scV t)
theorem ryV_eq (t a b : Int) : ryV t a b = xyV t a b := by
  unfold ryV xyV su; rw [Int.mul_neg, Int.neg_mul]
theorem rovV_eq (t a b : Int) : rovV t a b = ovV t a b := by
  unfold rovV ovV suO; rw [Int.mul_neg, Int.neg_mul]
end Po

set_option maxRecDepth 10000 in
set_option maxHeartbeats 4000000 in
theorem rof_any (R T F A : Int) (m : Value) (w : World) (hS : MayS R T) (hF : MayF F) (u0 : 0 ≤ A) (u1 : A ≤ 65535) :
    Calls Tryd.prog 13 #[.agg #[.int .i64 R, .int .i64 T], .agg #[.int .i64 F, .int .u16 A, m]] w fun e w' =>
      e = .returned (.tuple #[.agg (see (px (65536 * A) F) (py (65536 * A) F) (xxV (65536 * A) (al R) (ac F T)) (yyV (65536 * A) (al R) (ac F T)) (xyV (65536 * A) (al R) (ac F T))).toArray, .bool (spO R T F || ovV (65536 * A) (al R) (ac F T))]) ∧ Below w.heap.size w w' := by
  have bA := al_bd R
  have bB := ac_bd F T
  obtain ⟨s1, s2, s3, s4⟩ := hS
  obtain ⟨f1, f2⟩ := hF
  obtain ⟨t, ht⟩ : ∃ t, t = 65536 * A := ⟨_, rfl⟩
  have t0 : 0 ≤ t := by omega
  have t1 : t ≤ 4294967295 := by omega
  have hc : IntKind.i64.wrap (65536 * A) = t := by rw [IntKind.wrap_i64]; omega
  rw [← ht, ← rovV_eq, ← ryV_eq]
  have sb := sine_bd t
  have cb := cosine_bd t
  have b1' := pr_bd (sine t) (sine t)
  have b2' := pr_bd (cosine t) (cosine t)
  have b3' := pr_bd (sine t) (cosine t)
  have HS := hide (fun W => rspread_any R T F W (by omega) (by omega) (by omega) (by omega) (by omega) (by omega))
  have HP := hide (fun W => rplace_any t F W t0 t1 f1 (by omega))
  have HB := hide (fun W => rboth_any t W t0 t1)
  rw [rsine_eq, rcosine_eq] at HB
  have H1 := hide (fun W => rone_any (sine t) (sine t) 30 30 W rfl (by omega) (by omega) (by omega) (by omega) (by omega))
  have H2 := hide (fun W => rone_any (cosine t) (cosine t) 30 30 W rfl (by omega) (by omega) (by omega) (by omega) (by omega))
  have H3 := hide (fun W => rone_any (sine t) (cosine t) 30 30 W rfl (by omega) (by omega) (by omega) (by omega) (by omega))
  have H4 := hide (fun W => ldot_two (al R) (ssV t) (ac F T) (ccV t) W (by omega) (by omega) (by unfold ssV; omega) (by unfold ssV; omega) (by omega) (by omega) (by unfold ccV; omega) (by unfold ccV; omega))
  have H5 := hide (fun W => ldot_two (al R) (ccV t) (ac F T) (ssV t) W (by omega) (by omega) (by unfold ccV; omega) (by unfold ccV; omega) (by omega) (by omega) (by unfold ssV; omega) (by unfold ssV; omega))
  have H6 := hide (fun W => ldot_two (al R) (scV t) (ac F T) (-scV t) W (by omega) (by omega) (by unfold scV; omega) (by unfold scV; omega) (by omega) (by omega) (by unfold scV; omega) (by unfold scV; omega))
  have sc0 : -4611686018427387903 ≤ scV t := b3'.1
  have sc1 : scV t ≤ 4611686018427387903 := b3'.2
  clear b1' b2' b3' sb cb
  have e1 : clamp (rne (sine t * sine t) (2 ^ 30)) = ssV t := rfl
  have e2 : clamp (rne (cosine t * cosine t) (2 ^ 30)) = ccV t := rfl
  have e3 : clamp (rne (sine t * cosine t) (2 ^ 30)) = scV t := rfl
  have e4 : su (al R) (ssV t) (ac F T) (ccV t) = xxV t (al R) (ac F T) := rfl
  have e5 : su (al R) (ccV t) (ac F T) (ssV t) = yyV t (al R) (ac F T) := rfl
  have e6 : su (al R) (scV t) (ac F T) (-scV t) = ryV t (al R) (ac F T) := rfl
  have e7 : clamp (rne (F * sine t) (2 ^ 30)) = px t F := rfl
  have e8 : clamp (rne (F * cosine t) (2 ^ 30)) = py t F := rfl
  have eO : Hid (rovV t (al R) (ac F T) = (suO (al R) (ssV t) (ac F T) (ccV t) || suO (al R) (ccV t) (ac F T) (ssV t) || suO (al R) (scV t) (ac F T) (-scV t))) := rfl
  rw [eO.out]
  clear eO
  rw [e1] at H1
  rw [e2] at H2
  rw [e3] at H3
  rw [e4] at H4
  rw [e5] at H5
  rw [e6] at H6
  rw [e7, e8] at HP
  clear e1 e2 e3 e4 e5 e6 e7 e8
  generalize xxV t (al R) (ac F T) = X at *
  generalize yyV t (al R) (ac F T) = Y at *
  generalize ryV t (al R) (ac F T) = Z at *
  generalize px t F = PX at *
  generalize py t F = PY at *
  generalize suO (al R) (ssV t) (ac F T) (ccV t) = o1 at *
  generalize suO (al R) (ccV t) (ac F T) (ssV t) = o2 at *
  generalize suO (al R) (scV t) (ac F T) (-scV t) = o3 at *
  generalize great (rne (sine t * sine t) (2 ^ 30)) = g1 at *
  generalize great (rne (cosine t * cosine t) (2 ^ 30)) = g2 at *
  generalize great (rne (sine t * cosine t) (2 ^ 30)) = g3 at *
  generalize ssV t = SS at *
  generalize ccV t = CC at *
  generalize scV t = SC at *
  generalize sine t = S at *
  generalize cosine t = C at *
  generalize al R = a at *
  generalize ac F T = b at *
  generalize spO R T F = o at *
  have r0 := ((crow_new w 23 [.int .i64 R, .int .i64 T]).alloc (.cells #[.int .i64 F, .int .u16 A, m] 26)).alloc (.cells #[.int .i64 0, .int .i64 0, .int .i64 0, .int .i64 0, .int .i64 0] 42)
  have p0 := (crow_new1 w (.cells #[.int .i64 R, .int .i64 T] 23) 26 [.int .i64 F, .int .u16 A, m]).alloc (.cells #[.int .i64 0, .int .i64 0, .int .i64 0, .int .i64 0, .int .i64 0] 42)
  have n0 := crow_new2 w (.cells #[.int .i64 R, .int .i64 T] 23) (.cells #[.int .i64 F, .int .u16 A, m] 26) 42 (see 0 0 0 0 0)
  have B0 : Below w.heap.size w (((w.alloc (.cells #[.int .i64 R, .int .i64 T] 23)).alloc (.cells #[.int .i64 F, .int .u16 A, m] 26)).alloc (.cells #[.int .i64 0, .int .i64 0, .int .i64 0, .int .i64 0, .int .i64 0] 42)) := below_al (below_al (below_al (Below.refl _ _) _) _) _
  have c0 : (((w.alloc (.cells #[.int .i64 R, .int .i64 T] 23)).alloc (.cells #[.int .i64 F, .int .u16 A, m] 26)).alloc (.cells #[.int .i64 0, .int .i64 0, .int .i64 0, .int .i64 0, .int .i64 0] 42)).cell? ⟨w.heap.size + 1, 1, none⟩ = some (.int .u16 A) := CRow.cell p0 (k := 1) rfl rfl
  have d0 : (((w.alloc (.cells #[.int .i64 R, .int .i64 T] 23)).alloc (.cells #[.int .i64 F, .int .u16 A, m] 26)).alloc (.cells #[.int .i64 0, .int .i64 0, .int .i64 0, .int .i64 0, .int .i64 0] 42)).cell? ⟨w.heap.size + 1, 0, none⟩ = some (.int .i64 F) := CRow.cell p0 (k := 0) rfl rfl
  clear ht
  go_enter Tryd.func13, Tryd.ntmps13
  go_wp2_with fail
  refine (HP.out _).mono ?_
  rintro e w1 ⟨rfl, k1⟩
  have r1 := CRow.keep r0 k1
  have p1 := CRow.keep p0 k1
  have n1 := CRow.keep n0 k1
  have B1 := below_tr B0 k1
  have d1 : w1.cell? ⟨w.heap.size + 1, 0, none⟩ = some (.int .i64 F) := CRow.cell p1 (k := 0) rfl rfl
  clear r0 p0 n0 c0 d0 B0 k1 hc
  go_wp2_with (first | (refine St.wpList_load isRn (by rfl) _ (by rfl) _ _ (by rfl) (by with_reducible exact r1) rfl ?_))
  refine (HS.out _).mono ?_
  rintro e w2 ⟨rfl, k2⟩
  have n2 := CRow.keep n1 k2
  have B2 := below_tr B1 k2
  clear r1 p1 n1 d1 B1 k2 HS HP
  go_wp2_with fail
  refine (HB.out _).mono ?_
  rintro e w3 ⟨rfl, k3⟩
  have n3 := CRow.keep n2 k3
  have B3 := below_tr B2 k3
  clear n2 B2 k3 HB
  go_wp2_with fail
  refine (H1.out _).mono ?_
  rintro e w4 ⟨rfl, k4⟩
  have n4 := CRow.keep n3 k4
  have B4 := below_tr B3 k4
  clear n3 B3 k4 H1
  go_wp2_with fail
  refine (H2.out _).mono ?_
  rintro e w5 ⟨rfl, k5⟩
  have n5 := CRow.keep n4 k5
  have B5 := below_tr B4 k5
  clear n4 B4 k5 H2
  go_wp2_with fail
  refine (H3.out _).mono ?_
  rintro e w6 ⟨rfl, k6⟩
  have n6 := CRow.keep n5 k6
  have B6 := below_tr B5 k6
  clear n5 B5 k6 H3
  go_wp2_with fail
  refine (H4.out w6).mono ?_
  rintro e w7 ⟨rfl, k7⟩
  have n7 := CRow.keep n6 k7
  have B7 := below_tr B6 k7
  clear n6 B6 k7 H4
  go_wp2_with fail
  refine (H5.out w7).mono ?_
  rintro e w8 ⟨rfl, k8⟩
  have n8 := CRow.keep n7 k8
  have B8 := below_tr B7 k8
  clear n7 B7 k8 H5
  go_wp2_with fail
  refine (H6.out w8).mono ?_
  rintro e w9 ⟨rfl, k9⟩
  have n9 := CRow.keep n8 k9
  have B9 := below_tr B8 k9
  clear n8 B8 k9 H6
  have E : Hid (∀ W : World, CRow W (w.heap.size + 1 + 1) 42 (see 0 0 0 0 0) → Below w.heap.size w W → ∀ (tmps : Array Value), tmps.getD 4 undef = .pointer (some ⟨w.heap.size + 1 + 1, 0, none⟩) → tmps.getD 5 undef = .bool (o || (o1 || o2 || o3)) →
      bodyPost Tryd.prog Tryd.f13 (fun e w' => e = .returned (.tuple #[.agg (see PX PY X Y Z).toArray, .bool (o || (o1 || o2 || o3))]) ∧ Below w.heap.size w w') Exit.ret { tmps := tmps, defers := [] } (W.setRow (w.heap.size + 1 + 1) (see PX PY X Y Z).toArray)) := by
    refine hide ?_
    intro W hn hb tmps h4 h5
    exact bodyPost_ret (v := .tuple #[.agg (see PX PY X Y Z).toArray, .bool (o || (o1 || o2 || o3))]) (by rw [← h5]; exact results_2 isRe Tryd.results13 _ _ (w.heap.size + 1 + 1) (see PX PY X Y Z) h4 (CRow.row hn _) rfl) rfl ⟨rfl, below_row hb (by omega) _⟩
  go_upto_region 11 with fail
  cases o <;> cases o1 <;> cases o2
  all_goals (repeat (first | (refine St.wpList_store isRe rfl (.tmp 4) (.tmp 104) rfl _ (see 0 0 0 0 0) (see PX PY X Y Z) (by rfl) (by rfl) (by with_reducible exact n9) rfl rfl (one_see _ _ _ _ _) ?_) | go_step))
  all_goals exact E.out _ n9 B9 _ rfl rfl
end Go.Proofs.YtefgkeeeanakeaaDoor
