/-
  The law PolarSpreads: by x and by y a place is spread as much as along and across, but for little.
-/
import Derived.Test.YtefgkeeeanakeaaDoorPoS
import Derived.Test.YtefgkeeeanakeaaDoorPoN
import Derived.Test.YtefgkeeeanakeaaDoorErrA
import Derived.Test.YtefgkeeeanakeaaDoorFPolarSpreads
set_option linter.unusedSimpArgs false
set_option linter.unusedVariables false
namespace Go.Proofs.YtefgkeeeanakeaaDoor
open Go.RowKit Vc St Qn Dt Tg Ld Po
attribute [local go_sem ↓] Go.wp_at_zero Go.wp_at_succ

set_option maxRecDepth 10000 in
set_option maxHeartbeats 2000000 in
theorem pspreads_bad (R T F A m more : Int) (w : World) (hE : ErrTab w) (hT : AngTab w) (h : ¬ MayS R T ∨ ¬ MayF F) :
    Calls Tryd.prog 4 #[.agg #[.int .i64 R, .int .i64 T], .agg #[.int .i64 F, .int .u16 A, .int .i64 m], .int .i64 more] w fun e w' => e = .returned (.bool true) ∧ Below w.heap.size w w' := by
  have HO := hide (fun W => pof_no R T F (.int .u16 A) (.int .i64 m) W h)
  clear h
  have r0 := (crow_new w 23 [.int .i64 R, .int .i64 T]).alloc (.cells #[.int .i64 F, .int .u16 A, .int .i64 m] 26)
  have p0 := crow_new1 w (.cells #[.int .i64 R, .int .i64 T] 23) 26 [.int .i64 F, .int .u16 A, .int .i64 m]
  have B0 : Below w.heap.size w ((w.alloc (.cells #[.int .i64 R, .int .i64 T] 23)).alloc (.cells #[.int .i64 F, .int .u16 A, .int .i64 m] 26)) := below_al (below_al (Below.refl _ _) _) _
  have T0 := hT.below B0
  have E0 := hE.below B0
  go_enter Tryd.func4, Tryd.ntmps4
  go_wp2_with (first
    | (refine St.wpList_load isRn (by rfl) _ (by rfl) _ _ (by rfl) (by with_reducible exact r0) rfl ?_)
    | (refine St.wpList_load isRl (by rfl) _ (by rfl) _ _ (by rfl) (by with_reducible exact p0) rfl ?_))
  refine (HO.out _).mono ?_
  rintro e w1 ⟨rfl, k1⟩
  have B1 := below_tr B0 k1
  have T1 := T0.below k1
  have E1 := E0.below k1
  go_wp2_with (first
    | (rw [zeroSe]; refine St.wpList_storeNew isSe (by rfl) _ _ (by rfl) _ _ (see 0 0 0 0 0) (by rfl) (by rfl) rfl rfl (one_see _ _ _ _ _) ?_; intro w2 n2 k2; have B2 := below_tr B1 k2; have T2 := T1.below k2; have E2 := E1.below k2))
  refine (num_err 1 _ E2).mono ?_
  rintro e w3 ⟨rfl, k3⟩
  go_wp2_with fail
  refine (psure_any _ (T2.below k3)).mono ?_
  rintro e w4 ⟨rfl, k4⟩
  go_wp2
  go_ret
  exact ⟨rfl, below_tr (below_tr B2 k3) k4⟩

set_option maxRecDepth 10000 in
set_option maxHeartbeats 2000000 in
theorem pspreads_great (R T F A m more : Int) (w : World) (hE : ErrTab w) (hT : AngTab w) (hS : MayS R T) (hF : MayF F) (u0 : 0 ≤ A) (u1 : A ≤ 65535) (ho : ovV (65536 * A) (al R) (ac F T) = true) :
    Calls Tryd.prog 4 #[.agg #[.int .i64 R, .int .i64 T], .agg #[.int .i64 F, .int .u16 A, .int .i64 m], .int .i64 more] w fun e w' => e = .returned (.bool true) ∧ Below w.heap.size w w' := by
  have HO := hide (fun W (h : AngTab W) => pof_yes R T F A (.int .i64 m) W h hS hF u0 u1)
  have HS := hide (fun W => spread_yes R T F W hS hF)
  have a1 := al_in hS
  have b1 := ac_in hS hF
  have a2 := a1.2.2.1
  have a3 := a1.2.2.2
  have b2 := b1.2.2.1
  have b3 := b1.2.2.2
  clear a1 b1
  rw [ho] at HO
  have f1 := hF.1
  have f2 := hF.2
  have bU := su_bd (al R) (ssV (65536 * A)) (ac F T) (ccV (65536 * A))
  have bV := su_bd (al R) (ccV (65536 * A)) (ac F T) (ssV (65536 * A))
  have eU : su (al R) (ssV (65536 * A)) (ac F T) (ccV (65536 * A)) = xxV (65536 * A) (al R) (ac F T) := rfl
  have eV : su (al R) (ccV (65536 * A)) (ac F T) (ssV (65536 * A)) = yyV (65536 * A) (al R) (ac F T) := rfl
  rw [eU] at bU
  rw [eV] at bV
  clear ho eU eV hS hF u0 u1
  generalize px (65536 * A) F = X at HO
  generalize py (65536 * A) F = Y at HO
  generalize xyV (65536 * A) (al R) (ac F T) = Z at HO
  obtain ⟨U, hU⟩ : ∃ U, U = xxV (65536 * A) (al R) (ac F T) := ⟨_, rfl⟩
  obtain ⟨V, hV⟩ : ∃ U, U = yyV (65536 * A) (al R) (ac F T) := ⟨_, rfl⟩
  rw [← hU, ← hV] at HO
  rw [← hU] at bU
  rw [← hV] at bV
  clear hU hV
  obtain ⟨a, ha⟩ : ∃ U, U = al R := ⟨_, rfl⟩
  obtain ⟨b, hb⟩ : ∃ U, U = ac F T := ⟨_, rfl⟩
  rw [← ha, ← hb] at HS
  rw [← ha] at a2 a3
  rw [← hb] at b2 b3
  clear ha hb
  clear bU bV a2 a3 b2 b3 HS
  have r0 := (crow_new w 23 [.int .i64 R, .int .i64 T]).alloc (.cells #[.int .i64 F, .int .u16 A, .int .i64 m] 26)
  have p0 := crow_new1 w (.cells #[.int .i64 R, .int .i64 T] 23) 26 [.int .i64 F, .int .u16 A, .int .i64 m]
  have B0 : Below w.heap.size w ((w.alloc (.cells #[.int .i64 R, .int .i64 T] 23)).alloc (.cells #[.int .i64 F, .int .u16 A, .int .i64 m] 26)) := below_al (below_al (Below.refl _ _) _) _
  have T0 := hT.below B0
  have E0 := hE.below B0
  go_enter Tryd.func4, Tryd.ntmps4
  go_wp2_with (first
    | (refine St.wpList_load isRn (by rfl) _ (by rfl) _ _ (by rfl) (by with_reducible exact r0) rfl ?_)
    | (refine St.wpList_load isRl (by rfl) _ (by rfl) _ _ (by rfl) (by with_reducible exact p0) rfl ?_))
  refine (HO.out _ T0).mono ?_
  rintro e w1 ⟨rfl, k1⟩
  have B1 := below_tr B0 k1
  have T1 := T0.below k1
  have r1 := CRow.keep r0 k1
  have p1 := CRow.keep p0 k1
  go_wp2_with (first
    | (rw [zeroSe]; refine St.wpList_storeNew isSe (by rfl) _ _ (by rfl) _ _ (see X Y U V Z) (by rfl) (by rfl) rfl rfl (one_see _ _ _ _ _) ?_; intro w2 n2 k2; have B2 := below_tr B1 k2; have T2 := T1.below k2; have r2 := CRow.keep r1 k2; have p2 := CRow.keep p1 k2; have d2 : w2.cell? ⟨w.heap.size + 1, 0, none⟩ = some (.int .i64 F) := CRow.cell p2 (k := 0) rfl rfl))
  refine (psure_any _ T2).mono ?_
  rintro e w4 ⟨rfl, k4⟩
  go_wp2
  go_ret
  exact ⟨rfl, below_tr B2 k4⟩

set_option maxRecDepth 10000 in
set_option maxHeartbeats 2000000 in
theorem pspreads_far (R T F A m more : Int) (w : World) (hE : ErrTab w) (hT : AngTab w) (hS : MayS R T) (hF : MayF F) (u0 : 0 ≤ A) (u1 : A ≤ 65535) (ho : ovV (65536 * A) (al R) (ac F T) = false) (m0 : 0 ≤ more) (m1 : more ≤ 1099511627776 - F) :
    Calls Tryd.prog 4 #[.agg #[.int .i64 R, .int .i64 T], .agg #[.int .i64 F, .int .u16 A, .int .i64 m], .int .i64 more] w fun e w' => e = .returned (.bool true) ∧ Below w.heap.size w w' := by
  have HO := hide (fun W (h : AngTab W) => pof_yes R T F A (.int .i64 m) W h hS hF u0 u1)
  have HS := hide (fun W => spread_yes R T F W hS hF)
  have hG : MayF (F + more) := ⟨by have := hF.1; omega, by omega⟩
  have HG := hide (fun W => spread_yes R T (F + more) W hS hG)
  have cb := ac_up hS hF hG (by omega)
  have a1 := al_in hS
  have b1 := ac_in hS hF
  have a2 := a1.2.2.1
  have a3 := a1.2.2.2
  have b2 := b1.2.2.1
  have b3 := b1.2.2.2
  clear a1 b1
  have sp := spreads a2 b2 ho
  have c0 := (ac_in hS hG).2.2.1
  have c3 := (ac_in hS hG).2.2.2
  rw [ho] at HO
  have f1 := hF.1
  have f2 := hF.2
  have bU := su_bd (al R) (ssV (65536 * A)) (ac F T) (ccV (65536 * A))
  have bV := su_bd (al R) (ccV (65536 * A)) (ac F T) (ssV (65536 * A))
  have eU : su (al R) (ssV (65536 * A)) (ac F T) (ccV (65536 * A)) = xxV (65536 * A) (al R) (ac F T) := rfl
  have eV : su (al R) (ccV (65536 * A)) (ac F T) (ssV (65536 * A)) = yyV (65536 * A) (al R) (ac F T) := rfl
  rw [eU] at bU
  rw [eV] at bV
  clear ho eU eV hS hF u0 u1
  generalize px (65536 * A) F = X at HO
  generalize py (65536 * A) F = Y at HO
  generalize xyV (65536 * A) (al R) (ac F T) = Z at HO
  obtain ⟨U, hU⟩ : ∃ U, U = xxV (65536 * A) (al R) (ac F T) := ⟨_, rfl⟩
  obtain ⟨V, hV⟩ : ∃ U, U = yyV (65536 * A) (al R) (ac F T) := ⟨_, rfl⟩
  rw [← hU, ← hV] at HO
  rw [← hU, ← hV] at sp
  rw [← hU] at bU
  rw [← hV] at bV
  clear hU hV
  obtain ⟨a, ha⟩ : ∃ U, U = al R := ⟨_, rfl⟩
  obtain ⟨b, hb⟩ : ∃ U, U = ac F T := ⟨_, rfl⟩
  rw [← ha, ← hb] at HS
  rw [← ha] at HG
  rw [← ha, ← hb] at sp
  rw [← hb] at cb
  rw [← ha] at a2 a3
  rw [← hb] at b2 b3
  clear ha hb
  obtain ⟨c, hc⟩ : ∃ U, U = ac (F + more) T := ⟨_, rfl⟩
  rw [← hc] at HG cb c0 c3
  clear hc hG
  have q1 : a.tdiv 1000000 = a / 1000000 := Int.tdiv_eq_ediv_of_nonneg a2
  have q2 : b.tdiv 1000000 = b / 1000000 := Int.tdiv_eq_ediv_of_nonneg b2
  have z1 : 0 ≤ a / 1000000 ∧ a / 1000000 ≤ 281474976710656 := by omega
  have z2 : 0 ≤ b / 1000000 ∧ b / 1000000 ≤ 72057594037927936 := by omega
  generalize a / 1000000 = P at *
  generalize b / 1000000 = Q at *
  obtain ⟨s0, s1, s2, s3⟩ := sp
  have r0 := (crow_new w 23 [.int .i64 R, .int .i64 T]).alloc (.cells #[.int .i64 F, .int .u16 A, .int .i64 m] 26)
  have p0 := crow_new1 w (.cells #[.int .i64 R, .int .i64 T] 23) 26 [.int .i64 F, .int .u16 A, .int .i64 m]
  have B0 : Below w.heap.size w ((w.alloc (.cells #[.int .i64 R, .int .i64 T] 23)).alloc (.cells #[.int .i64 F, .int .u16 A, .int .i64 m] 26)) := below_al (below_al (Below.refl _ _) _) _
  have T0 := hT.below B0
  have E0 := hE.below B0
  go_enter Tryd.func4, Tryd.ntmps4
  go_wp2_with (first
    | (refine St.wpList_load isRn (by rfl) _ (by rfl) _ _ (by rfl) (by with_reducible exact r0) rfl ?_)
    | (refine St.wpList_load isRl (by rfl) _ (by rfl) _ _ (by rfl) (by with_reducible exact p0) rfl ?_))
  refine (HO.out _ T0).mono ?_
  rintro e w1 ⟨rfl, k1⟩
  have B1 := below_tr B0 k1
  have T1 := T0.below k1
  have r1 := CRow.keep r0 k1
  have p1 := CRow.keep p0 k1
  go_wp2_with (first
    | (rw [zeroSe]; refine St.wpList_storeNew isSe (by rfl) _ _ (by rfl) _ _ (see X Y U V Z) (by rfl) (by rfl) rfl rfl (one_see _ _ _ _ _) ?_; intro w2 n2 k2; have B2 := below_tr B1 k2; have T2 := T1.below k2; have r2 := CRow.keep r1 k2; have p2 := CRow.keep p1 k2; have d2 : w2.cell? ⟨w.heap.size + 1, 0, none⟩ = some (.int .i64 F) := CRow.cell p2 (k := 0) rfl rfl)
    | (refine St.wpList_load isRn (by rfl) _ (by rfl) _ _ (by rfl) (by with_reducible exact r2) rfl ?_))
  refine (HS.out _).mono ?_
  rintro e w3 ⟨rfl, k3⟩
  have n3 := CRow.keep n2 k3
  have r3 := CRow.keep r2 k3
  have d3 := keep_cell k3 d2
  have x3 : w3.cell? ⟨w1.heap.size, 2, none⟩ = some (.int .i64 U) := CRow.cell n3 (k := 2) rfl rfl
  have y3 : w3.cell? ⟨w1.heap.size, 3, none⟩ = some (.int .i64 V) := CRow.cell n3 (k := 3) rfl rfl
  have T3 := T2.below k3
  have B3 := below_tr B2 k3
  clear r0 r1 r2 p0 p1 p2 n2 d2 k1 k2 k3 T0 T1 T2 B0 B1 B2 E0
  go_wp2_with (first
    | (refine St.wpList_load isRn (by rfl) _ (by rfl) _ _ (by rfl) (by with_reducible exact r3) rfl ?_))
  refine (HG.out _).mono ?_
  rintro e w4 ⟨rfl, k4⟩
  have T4 := T3.below k4
  go_wp2_with fail
  refine (psure_any _ T4).mono ?_
  rintro e w5 ⟨rfl, k5⟩
  go_wp2
  go_ret
  exact ⟨rfl, below_tr (below_tr B3 k4) k5⟩

set_option maxRecDepth 10000 in
set_option maxHeartbeats 2000000 in
theorem pspreads_near1 (R T F A m more : Int) (w : World) (hE : ErrTab w) (hT : AngTab w) (hS : MayS R T) (hF : MayF F) (u0 : 0 ≤ A) (u1 : A ≤ 65535) (ho : ovV (65536 * A) (al R) (ac F T) = false) (hm : more < 0) :
    Calls Tryd.prog 4 #[.agg #[.int .i64 R, .int .i64 T], .agg #[.int .i64 F, .int .u16 A, .int .i64 m], .int .i64 more] w fun e w' => e = .returned (.bool true) ∧ Below w.heap.size w w' := by
  have HO := hide (fun W (h : AngTab W) => pof_yes R T F A (.int .i64 m) W h hS hF u0 u1)
  have HS := hide (fun W => spread_yes R T F W hS hF)
  have a1 := al_in hS
  have b1 := ac_in hS hF
  have a2 := a1.2.2.1
  have a3 := a1.2.2.2
  have b2 := b1.2.2.1
  have b3 := b1.2.2.2
  clear a1 b1
  have sp := spreads a2 b2 ho
  rw [ho] at HO
  have f1 := hF.1
  have f2 := hF.2
  have bU := su_bd (al R) (ssV (65536 * A)) (ac F T) (ccV (65536 * A))
  have bV := su_bd (al R) (ccV (65536 * A)) (ac F T) (ssV (65536 * A))
  have eU : su (al R) (ssV (65536 * A)) (ac F T) (ccV (65536 * A)) = xxV (65536 * A) (al R) (ac F T) := rfl
  have eV : su (al R) (ccV (65536 * A)) (ac F T) (ssV (65536 * A)) = yyV (65536 * A) (al R) (ac F T) := rfl
  rw [eU] at bU
  rw [eV] at bV
  clear ho eU eV hS hF u0 u1
  generalize px (65536 * A) F = X at HO
  generalize py (65536 * A) F = Y at HO
  generalize xyV (65536 * A) (al R) (ac F T) = Z at HO
  obtain ⟨U, hU⟩ : ∃ U, U = xxV (65536 * A) (al R) (ac F T) := ⟨_, rfl⟩
  obtain ⟨V, hV⟩ : ∃ U, U = yyV (65536 * A) (al R) (ac F T) := ⟨_, rfl⟩
  rw [← hU, ← hV] at HO
  rw [← hU, ← hV] at sp
  rw [← hU] at bU
  rw [← hV] at bV
  clear hU hV
  obtain ⟨a, ha⟩ : ∃ U, U = al R := ⟨_, rfl⟩
  obtain ⟨b, hb⟩ : ∃ U, U = ac F T := ⟨_, rfl⟩
  rw [← ha, ← hb] at HS
  rw [← ha, ← hb] at sp
  rw [← ha] at a2 a3
  rw [← hb] at b2 b3
  clear ha hb
  have q1 : a.tdiv 1000000 = a / 1000000 := Int.tdiv_eq_ediv_of_nonneg a2
  have q2 : b.tdiv 1000000 = b / 1000000 := Int.tdiv_eq_ediv_of_nonneg b2
  have z1 : 0 ≤ a / 1000000 ∧ a / 1000000 ≤ 281474976710656 := by omega
  have z2 : 0 ≤ b / 1000000 ∧ b / 1000000 ≤ 72057594037927936 := by omega
  generalize a / 1000000 = P at *
  generalize b / 1000000 = Q at *
  obtain ⟨s0, s1, s2, s3⟩ := sp
  have r0 := (crow_new w 23 [.int .i64 R, .int .i64 T]).alloc (.cells #[.int .i64 F, .int .u16 A, .int .i64 m] 26)
  have p0 := crow_new1 w (.cells #[.int .i64 R, .int .i64 T] 23) 26 [.int .i64 F, .int .u16 A, .int .i64 m]
  have B0 : Below w.heap.size w ((w.alloc (.cells #[.int .i64 R, .int .i64 T] 23)).alloc (.cells #[.int .i64 F, .int .u16 A, .int .i64 m] 26)) := below_al (below_al (Below.refl _ _) _) _
  have T0 := hT.below B0
  have E0 := hE.below B0
  go_enter Tryd.func4, Tryd.ntmps4
  go_wp2_with (first
    | (refine St.wpList_load isRn (by rfl) _ (by rfl) _ _ (by rfl) (by with_reducible exact r0) rfl ?_)
    | (refine St.wpList_load isRl (by rfl) _ (by rfl) _ _ (by rfl) (by with_reducible exact p0) rfl ?_))
  refine (HO.out _ T0).mono ?_
  rintro e w1 ⟨rfl, k1⟩
  have B1 := below_tr B0 k1
  have T1 := T0.below k1
  have r1 := CRow.keep r0 k1
  have p1 := CRow.keep p0 k1
  go_wp2_with (first
    | (rw [zeroSe]; refine St.wpList_storeNew isSe (by rfl) _ _ (by rfl) _ _ (see X Y U V Z) (by rfl) (by rfl) rfl rfl (one_see _ _ _ _ _) ?_; intro w2 n2 k2; have B2 := below_tr B1 k2; have T2 := T1.below k2; have r2 := CRow.keep r1 k2; have p2 := CRow.keep p1 k2; have d2 : w2.cell? ⟨w.heap.size + 1, 0, none⟩ = some (.int .i64 F) := CRow.cell p2 (k := 0) rfl rfl)
    | (refine St.wpList_load isRn (by rfl) _ (by rfl) _ _ (by rfl) (by with_reducible exact r2) rfl ?_))
  refine (HS.out _).mono ?_
  rintro e w3 ⟨rfl, k3⟩
  have n3 := CRow.keep n2 k3
  have r3 := CRow.keep r2 k3
  have d3 := keep_cell k3 d2
  have x3 : w3.cell? ⟨w1.heap.size, 2, none⟩ = some (.int .i64 U) := CRow.cell n3 (k := 2) rfl rfl
  have y3 : w3.cell? ⟨w1.heap.size, 3, none⟩ = some (.int .i64 V) := CRow.cell n3 (k := 3) rfl rfl
  have T3 := T2.below k3
  have B3 := below_tr B2 k3
  clear r0 r1 r2 p0 p1 p2 n2 d2 k1 k2 k3 T0 T1 T2 B0 B1 B2 E0
  go_wp2_with (first
    | (refine St.wpList_load isRn (by rfl) _ (by rfl) _ _ (by rfl) (by with_reducible exact r3) rfl ?_))
  refine (HS.out _).mono ?_
  rintro e w4 ⟨rfl, k4⟩
  have T4 := T3.below k4
  go_wp2_with fail
  refine (psure_any _ T4).mono ?_
  rintro e w5 ⟨rfl, k5⟩
  go_wp2
  go_ret
  exact ⟨rfl, below_tr (below_tr B3 k4) k5⟩

set_option maxRecDepth 10000 in
set_option maxHeartbeats 2000000 in
theorem pspreads_near2 (R T F A m more : Int) (w : World) (hE : ErrTab w) (hT : AngTab w) (hS : MayS R T) (hF : MayF F) (u0 : 0 ≤ A) (u1 : A ≤ 65535) (ho : ovV (65536 * A) (al R) (ac F T) = false) (h0 : 0 ≤ more) (hm : 1099511627776 - F < more) :
    Calls Tryd.prog 4 #[.agg #[.int .i64 R, .int .i64 T], .agg #[.int .i64 F, .int .u16 A, .int .i64 m], .int .i64 more] w fun e w' => e = .returned (.bool true) ∧ Below w.heap.size w w' := by
  have HO := hide (fun W (h : AngTab W) => pof_yes R T F A (.int .i64 m) W h hS hF u0 u1)
  have HS := hide (fun W => spread_yes R T F W hS hF)
  have a1 := al_in hS
  have b1 := ac_in hS hF
  have a2 := a1.2.2.1
  have a3 := a1.2.2.2
  have b2 := b1.2.2.1
  have b3 := b1.2.2.2
  clear a1 b1
  have sp := spreads a2 b2 ho
  rw [ho] at HO
  have f1 := hF.1
  have f2 := hF.2
  have bU := su_bd (al R) (ssV (65536 * A)) (ac F T) (ccV (65536 * A))
  have bV := su_bd (al R) (ccV (65536 * A)) (ac F T) (ssV (65536 * A))
  have eU : su (al R) (ssV (65536 * A)) (ac F T) (ccV (65536 * A)) = xxV (65536 * A) (al R) (ac F T) := rfl
  have eV : su (al R) (ccV (65536 * A)) (ac F T) (ssV (65536 * A)) = yyV (65536 * A) (al R) (ac F T) := rfl
  rw [eU] at bU
  rw [eV] at bV
  clear ho eU eV hS hF u0 u1
  generalize px (65536 * A) F = X at HO
  generalize py (65536 * A) F = Y at HO
  generalize xyV (65536 * A) (al R) (ac F T) = Z at HO
  obtain ⟨U, hU⟩ : ∃ U, U = xxV (65536 * A) (al R) (ac F T) := ⟨_, rfl⟩
  obtain ⟨V, hV⟩ : ∃ U, U = yyV (65536 * A) (al R) (ac F T) := ⟨_, rfl⟩
  rw [← hU, ← hV] at HO
  rw [← hU, ← hV] at sp
  rw [← hU] at bU
  rw [← hV] at bV
  clear hU hV
  obtain ⟨a, ha⟩ : ∃ U, U = al R := ⟨_, rfl⟩
  obtain ⟨b, hb⟩ : ∃ U, U = ac F T := ⟨_, rfl⟩
  rw [← ha, ← hb] at HS
  rw [← ha, ← hb] at sp
  rw [← ha] at a2 a3
  rw [← hb] at b2 b3
  clear ha hb
  have q1 : a.tdiv 1000000 = a / 1000000 := Int.tdiv_eq_ediv_of_nonneg a2
  have q2 : b.tdiv 1000000 = b / 1000000 := Int.tdiv_eq_ediv_of_nonneg b2
  have z1 : 0 ≤ a / 1000000 ∧ a / 1000000 ≤ 281474976710656 := by omega
  have z2 : 0 ≤ b / 1000000 ∧ b / 1000000 ≤ 72057594037927936 := by omega
  generalize a / 1000000 = P at *
  generalize b / 1000000 = Q at *
  obtain ⟨s0, s1, s2, s3⟩ := sp
  have r0 := (crow_new w 23 [.int .i64 R, .int .i64 T]).alloc (.cells #[.int .i64 F, .int .u16 A, .int .i64 m] 26)
  have p0 := crow_new1 w (.cells #[.int .i64 R, .int .i64 T] 23) 26 [.int .i64 F, .int .u16 A, .int .i64 m]
  have B0 : Below w.heap.size w ((w.alloc (.cells #[.int .i64 R, .int .i64 T] 23)).alloc (.cells #[.int .i64 F, .int .u16 A, .int .i64 m] 26)) := below_al (below_al (Below.refl _ _) _) _
  have T0 := hT.below B0
  have E0 := hE.below B0
  go_enter Tryd.func4, Tryd.ntmps4
  go_wp2_with (first
    | (refine St.wpList_load isRn (by rfl) _ (by rfl) _ _ (by rfl) (by with_reducible exact r0) rfl ?_)
    | (refine St.wpList_load isRl (by rfl) _ (by rfl) _ _ (by rfl) (by with_reducible exact p0) rfl ?_))
  refine (HO.out _ T0).mono ?_
  rintro e w1 ⟨rfl, k1⟩
  have B1 := below_tr B0 k1
  have T1 := T0.below k1
  have r1 := CRow.keep r0 k1
  have p1 := CRow.keep p0 k1
  go_wp2_with (first
    | (rw [zeroSe]; refine St.wpList_storeNew isSe (by rfl) _ _ (by rfl) _ _ (see X Y U V Z) (by rfl) (by rfl) rfl rfl (one_see _ _ _ _ _) ?_; intro w2 n2 k2; have B2 := below_tr B1 k2; have T2 := T1.below k2; have r2 := CRow.keep r1 k2; have p2 := CRow.keep p1 k2; have d2 : w2.cell? ⟨w.heap.size + 1, 0, none⟩ = some (.int .i64 F) := CRow.cell p2 (k := 0) rfl rfl)
    | (refine St.wpList_load isRn (by rfl) _ (by rfl) _ _ (by rfl) (by with_reducible exact r2) rfl ?_))
  refine (HS.out _).mono ?_
  rintro e w3 ⟨rfl, k3⟩
  have n3 := CRow.keep n2 k3
  have r3 := CRow.keep r2 k3
  have d3 := keep_cell k3 d2
  have x3 : w3.cell? ⟨w1.heap.size, 2, none⟩ = some (.int .i64 U) := CRow.cell n3 (k := 2) rfl rfl
  have y3 : w3.cell? ⟨w1.heap.size, 3, none⟩ = some (.int .i64 V) := CRow.cell n3 (k := 3) rfl rfl
  have T3 := T2.below k3
  have B3 := below_tr B2 k3
  clear r0 r1 r2 p0 p1 p2 n2 d2 k1 k2 k3 T0 T1 T2 B0 B1 B2 E0
  go_wp2_with (first
    | (refine St.wpList_load isRn (by rfl) _ (by rfl) _ _ (by rfl) (by with_reducible exact r3) rfl ?_))
  refine (HS.out _).mono ?_
  rintro e w4 ⟨rfl, k4⟩
  have T4 := T3.below k4
  go_wp2_with fail
  refine (psure_any _ T4).mono ?_
  rintro e w5 ⟨rfl, k5⟩
  go_wp2
  go_ret
  exact ⟨rfl, below_tr (below_tr B3 k4) k5⟩

theorem spreads_walk : FPolarSpreads.Walk := by
  intro R T F A m more w w0 w1 w2 w3 w4 w5 hE hT
  obtain ⟨u0, u1⟩ := bounds_u16 w3
  by_cases hS : MayS R T
  · by_cases hF : MayF F
    · cases ho : ovV (65536 * A) (al R) (ac F T) with
      | true => exact pspreads_great R T F A m more w hE hT hS hF u0 u1 ho
      | false =>
        by_cases hm : 0 ≤ more ∧ more ≤ 1099511627776 - F
        · exact pspreads_far R T F A m more w hE hT hS hF u0 u1 ho hm.1 hm.2
        · rcases Int.lt_or_le more 0 with h | h
          · exact pspreads_near1 R T F A m more w hE hT hS hF u0 u1 ho h
          · exact pspreads_near2 R T F A m more w hE hT hS hF u0 u1 ho h (by omega)
    · exact pspreads_bad R T F A m more w hE hT (.inr hF)
  · exact pspreads_bad R T F A m more w hE hT (.inl hS)

theorem polarSpreads_card : Rows.PolarSpreadsCardSaid := FPolarSpreads.card spreads_walk
end Go.Proofs.YtefgkeeeanakeaaDoor
