/-
  The law PolarOf: any plot as a place, and how exact it is, or the error.
-/
import Derived.Test.YtefgkeeeanakeaaDoorPoR
import Derived.Test.YtefgkeeeanakeaaDoorM15
import Derived.Test.YtefgkeeeanakeaaDoorM13
import Derived.Test.YtefgkeeeanakeaaDoorErrA
import Derived.Test.YtefgkeeeanakeaaDoorFPolarOf
set_option linter.unusedSimpArgs false
set_option linter.unusedVariables false
namespace Go.Proofs.YtefgkeeeanakeaaDoor
open Go.RowKit Vc St Qn Dt Tg Ld Po
attribute [local go_sem ↓] Go.wp_at_zero Go.wp_at_succ

namespace Po
theorem isEq : IsI 28 5 := ⟨by kernel_rfl, by kernel_rfl, by kernel_rfl, by kernel_rfl⟩
theorem see_at (x y xx yy xy : Int) : ∀ k, k < 5 → (see x y xx yy xy)[k]? = some (.int .i64 ([x, y, xx, yy, xy].getD k 0)) := by
  intro k hk
  rcases k with _ | _ | _ | _ | _ | k
  · rfl
  · rfl
  · rfl
  · rfl
  · rfl
  · omega
theorem one_rl (F A m : Int) : ∀ v ∈ ([.int .i64 F, .int .u16 A, .int .i64 m] : List Value), v.oneCell' = true := by
  intro v hv
  simp only [List.mem_cons, List.not_mem_nil, or_false] at hv
  rcases hv with rfl | rfl | rfl <;> rfl
end Po

set_option maxRecDepth 10000 in
set_option maxHeartbeats 4000000 in
theorem pof_law_sensor (R T F A m : Int) (w : World) (hE : ErrTab w) (hT : AngTab w) (h : ¬ MayS R T) :
    Calls Tryd.prog 3 #[.agg #[.int .i64 R, .int .i64 T], .agg #[.int .i64 F, .int .u16 A, .int .i64 m]] w fun e w' => e = .returned (.bool true) ∧ Below w.heap.size w w' := by
  have HO := hide (fun W => pof_no R T F (.int .u16 A) (.int .i64 m) W (.inl h))
  have HS := hide (fun W => spread_no R T F W (.inl h))
  have r0 := (crow_new w 23 [.int .i64 R, .int .i64 T]).alloc (.cells #[.int .i64 F, .int .u16 A, .int .i64 m] 26)
  have p0 := crow_new1 w (.cells #[.int .i64 R, .int .i64 T] 23) 26 [.int .i64 F, .int .u16 A, .int .i64 m]
  have B0 : Below w.heap.size w ((w.alloc (.cells #[.int .i64 R, .int .i64 T] 23)).alloc (.cells #[.int .i64 F, .int .u16 A, .int .i64 m] 26)) := below_al (below_al (Below.refl _ _) _) _
  go_enter Tryd.func3, Tryd.ntmps3
  go_wp2_with (first
    | (refine St.wpList_load isRn (by rfl) _ (by rfl) _ _ (by rfl) (by with_reducible exact r0) rfl ?_)
    | (refine St.wpList_load isRl (by rfl) _ (by rfl) _ _ (by rfl) (by with_reducible exact p0) rfl ?_))
  refine (HO.out _).mono ?_
  rintro e w1 ⟨rfl, k1⟩
  have B1 := below_tr B0 k1
  have r1 := CRow.keep r0 k1
  have p1 := CRow.keep p0 k1
  go_wp2_with (first
    | (rw [zeroSe]; refine St.wpList_storeNew isSe (by rfl) _ _ (by rfl) _ _ (see 0 0 0 0 0) (by rfl) (by rfl) rfl rfl (one_see _ _ _ _ _) ?_; intro w2 n2 k2; have B2 := below_tr B1 k2; have r2 := CRow.keep r1 k2; have p2 := CRow.keep p1 k2; have d2 : w2.cell? ⟨w.heap.size + 1, 0, none⟩ = some (.int .i64 F) := CRow.cell p2 (k := 0) rfl rfl; clear r0 p0 r1 p1 k1 k2 B0 B1)
    | (refine St.wpList_load isRn (by rfl) _ (by rfl) _ _ (by rfl) (by with_reducible exact r2) rfl ?_))
  refine (HS.out _).mono ?_
  rintro e w3 ⟨rfl, k3⟩
  have B3 := below_tr B2 k3
  have r3 := CRow.keep r2 k3
  have p3 := CRow.keep p2 k3
  have n3 := CRow.keep n2 k3
  clear r2 p2 n2 d2 k3 B2
  go_wp2_with (first
    | (refine St.wpList_load isRn (by rfl) _ (by rfl) _ _ (by rfl) (by with_reducible exact r3) rfl ?_))
  refine (rmay_no R T _ h).mono ?_
  rintro e w4 ⟨rfl, k4⟩
  have B4 := below_tr B3 k4
  have r4 := CRow.keep r3 k4
  have p4 := CRow.keep p3 k4
  have n4 := CRow.keep n3 k4
  clear r3 p3 n3 k4 B3
  go_wp2_with (first
    | (refine St.wpList_load isRn (by rfl) _ (by rfl) _ _ (by rfl) (by with_reducible exact r4) rfl ?_))
  refine (pcheck_no R T _ h).mono ?_
  rintro e w5 ⟨rfl, k5⟩
  have B5 := below_tr B4 k5
  have r5 := CRow.keep r4 k5
  have p5 := CRow.keep p4 k5
  have n5 := CRow.keep n4 k5
  have d5 : w5.cell? ⟨w.heap.size + 1, 0, none⟩ = some (.int .i64 F) := CRow.cell p5 (k := 0) rfl rfl
  clear r4 p4 n4 k5 B4
  go_wp2_with fail
  refine (num_err 1 _ (hE.below B5)).mono ?_
  rintro e w6 ⟨rfl, k6⟩
  have B6 := below_tr B5 k6
  have n6 := CRow.keep n5 k6
  go_wp2_with fail
  refine (num_err 1 _ (hE.below B6)).mono ?_
  rintro e w7 ⟨rfl, k7⟩
  have B7 := below_tr B6 k7
  have n7 := CRow.keep n6 k7
  go_wp2_with fail
  refine (num_err 1 _ (hE.below B7)).mono ?_
  rintro e w8 ⟨rfl, k8⟩
  have B8 := below_tr B7 k8
  have n8 := CRow.keep n7 k8
  go_wp2_with (first
    | (refine St.wpList_load isSe (by rfl) _ (by rfl) _ _ (by rfl) (by with_reducible exact n8) rfl ?_)
    | (refine St.wpList_eqI isEq (by rfl) _ _ _ (by rfl) (see 0 0 0 0 0) _ (by rfl) (by rfl) (see_at _ _ _ _ _) ?_))
  refine (psure_any _ (hT.below B8)).mono ?_
  rintro e w9 ⟨rfl, k9⟩
  go_wp2
  go_ret
  exact ⟨rfl, below_tr B8 k9⟩

set_option maxRecDepth 10000 in
set_option maxHeartbeats 4000000 in
theorem pof_law_range (R T F A m : Int) (w : World) (hE : ErrTab w) (hT : AngTab w) (hS : MayS R T) (h : ¬ MayF F) :
    Calls Tryd.prog 3 #[.agg #[.int .i64 R, .int .i64 T], .agg #[.int .i64 F, .int .u16 A, .int .i64 m]] w fun e w' => e = .returned (.bool true) ∧ Below w.heap.size w w' := by
  have HO := hide (fun W => pof_no R T F (.int .u16 A) (.int .i64 m) W (.inr h))
  have HS := hide (fun W => spread_no R T F W (.inr h))
  have r0 := (crow_new w 23 [.int .i64 R, .int .i64 T]).alloc (.cells #[.int .i64 F, .int .u16 A, .int .i64 m] 26)
  have p0 := crow_new1 w (.cells #[.int .i64 R, .int .i64 T] 23) 26 [.int .i64 F, .int .u16 A, .int .i64 m]
  have B0 : Below w.heap.size w ((w.alloc (.cells #[.int .i64 R, .int .i64 T] 23)).alloc (.cells #[.int .i64 F, .int .u16 A, .int .i64 m] 26)) := below_al (below_al (Below.refl _ _) _) _
  go_enter Tryd.func3, Tryd.ntmps3
  go_wp2_with (first
    | (refine St.wpList_load isRn (by rfl) _ (by rfl) _ _ (by rfl) (by with_reducible exact r0) rfl ?_)
    | (refine St.wpList_load isRl (by rfl) _ (by rfl) _ _ (by rfl) (by with_reducible exact p0) rfl ?_))
  refine (HO.out _).mono ?_
  rintro e w1 ⟨rfl, k1⟩
  have B1 := below_tr B0 k1
  have r1 := CRow.keep r0 k1
  have p1 := CRow.keep p0 k1
  go_wp2_with (first
    | (rw [zeroSe]; refine St.wpList_storeNew isSe (by rfl) _ _ (by rfl) _ _ (see 0 0 0 0 0) (by rfl) (by rfl) rfl rfl (one_see _ _ _ _ _) ?_; intro w2 n2 k2; have B2 := below_tr B1 k2; have r2 := CRow.keep r1 k2; have p2 := CRow.keep p1 k2; have d2 : w2.cell? ⟨w.heap.size + 1, 0, none⟩ = some (.int .i64 F) := CRow.cell p2 (k := 0) rfl rfl; clear r0 p0 r1 p1 k1 k2 B0 B1)
    | (refine St.wpList_load isRn (by rfl) _ (by rfl) _ _ (by rfl) (by with_reducible exact r2) rfl ?_))
  refine (HS.out _).mono ?_
  rintro e w3 ⟨rfl, k3⟩
  have B3 := below_tr B2 k3
  have r3 := CRow.keep r2 k3
  have p3 := CRow.keep p2 k3
  have n3 := CRow.keep n2 k3
  clear r2 p2 n2 d2 k3 B2
  go_wp2_with (first
    | (refine St.wpList_load isRn (by rfl) _ (by rfl) _ _ (by rfl) (by with_reducible exact r3) rfl ?_))
  refine (rmay_yes R T _ hS).mono ?_
  rintro e w4 ⟨rfl, k4⟩
  have B4 := below_tr B3 k4
  have r4 := CRow.keep r3 k4
  have p4 := CRow.keep p3 k4
  have n4 := CRow.keep n3 k4
  clear r3 p3 n3 k4 B3
  go_wp2_with (first
    | (refine St.wpList_load isRn (by rfl) _ (by rfl) _ _ (by rfl) (by with_reducible exact r4) rfl ?_))
  refine (pcheck_yes R T _ hS).mono ?_
  rintro e w5 ⟨rfl, k5⟩
  have B5 := below_tr B4 k5
  have r5 := CRow.keep r4 k5
  have p5 := CRow.keep p4 k5
  have n5 := CRow.keep n4 k5
  have d5 : w5.cell? ⟨w.heap.size + 1, 0, none⟩ = some (.int .i64 F) := CRow.cell p5 (k := 0) rfl rfl
  clear r4 p4 n4 k5 B4
  go_wp2_with fail
  refine (rin_no F _ h).mono ?_
  rintro e w6 ⟨rfl, k6⟩
  have B6 := below_tr B5 k6
  have n6 := CRow.keep n5 k6
  go_wp2_with fail
  refine (num_err 1 _ (hE.below B6)).mono ?_
  rintro e w7 ⟨rfl, k7⟩
  have B7 := below_tr B6 k7
  have n7 := CRow.keep n6 k7
  go_wp2_with fail
  refine (num_err 1 _ (hE.below B7)).mono ?_
  rintro e w8 ⟨rfl, k8⟩
  have B8 := below_tr B7 k8
  have n8 := CRow.keep n7 k8
  go_wp2_with (first
    | (refine St.wpList_load isSe (by rfl) _ (by rfl) _ _ (by rfl) (by with_reducible exact n8) rfl ?_)
    | (refine St.wpList_eqI isEq (by rfl) _ _ _ (by rfl) (see 0 0 0 0 0) _ (by rfl) (by rfl) (see_at _ _ _ _ _) ?_))
  refine (psure_any _ (hT.below B8)).mono ?_
  rintro e w9 ⟨rfl, k9⟩
  go_wp2
  go_ret
  exact ⟨rfl, below_tr B8 k9⟩

set_option maxRecDepth 10000 in
set_option maxHeartbeats 4000000 in
theorem pof_law_good (R T F A m : Int) (w : World) (hE : ErrTab w) (hT : AngTab w) (hS : MayS R T) (hF : MayF F) (u0 : 0 ≤ A) (u1 : A ≤ 65535) :
    Calls Tryd.prog 3 #[.agg #[.int .i64 R, .int .i64 T], .agg #[.int .i64 F, .int .u16 A, .int .i64 m]] w fun e w' => e = .returned (.bool true) ∧ Below w.heap.size w w' := by
  have HO := hide (fun W (h : AngTab W) => pof_yes R T F A (.int .i64 m) W h hS hF u0 u1)
  have HS := hide (fun W => spread_yes R T F W hS hF)
  have HR := hide (fun W => rof_any R T F A (.int .i64 m) W hS hF u0 u1)
  have HQ := hide (fun W => rspread_any R T F W (by have := hS.1; omega) (by have := hS.2.1; omega) (by have := hS.2.2.1; omega) (by have := hS.2.2.2; omega) (by have := hF.1; omega) (by have := hF.2; omega))
  have eO : spO R T F = false := by
    unfold spO; rw [(al_in hS).2.1, (wi_in hS hF).2.1, (ac_in hS hF).2.1]; rfl
  rw [eO, Bool.false_or] at HR
  rw [eO] at HQ
  clear eO
  generalize px (65536 * A) F = X at *
  generalize py (65536 * A) F = Y at *
  generalize xxV (65536 * A) (al R) (ac F T) = U at *
  generalize yyV (65536 * A) (al R) (ac F T) = V at *
  generalize xyV (65536 * A) (al R) (ac F T) = Z at *
  generalize ovV (65536 * A) (al R) (ac F T) = o at *
  generalize al R = a at *
  generalize ac F T = b at *
  have r0 := (crow_new w 23 [.int .i64 R, .int .i64 T]).alloc (.cells #[.int .i64 F, .int .u16 A, .int .i64 m] 26)
  have p0 := crow_new1 w (.cells #[.int .i64 R, .int .i64 T] 23) 26 [.int .i64 F, .int .u16 A, .int .i64 m]
  have B0 : Below w.heap.size w ((w.alloc (.cells #[.int .i64 R, .int .i64 T] 23)).alloc (.cells #[.int .i64 F, .int .u16 A, .int .i64 m] 26)) := below_al (below_al (Below.refl _ _) _) _
  go_enter Tryd.func3, Tryd.ntmps3
  go_wp2_with (first
    | (refine St.wpList_load isRn (by rfl) _ (by rfl) _ _ (by rfl) (by with_reducible exact r0) rfl ?_)
    | (refine St.wpList_load isRl (by rfl) _ (by rfl) _ _ (by rfl) (by with_reducible exact p0) rfl ?_))
  refine (HO.out _ (hT.below B0)).mono ?_
  rintro e w1 ⟨rfl, k1⟩
  have B1 := below_tr B0 k1
  have r1 := CRow.keep r0 k1
  have p1 := CRow.keep p0 k1
  go_wp2_with (first
    | (rw [zeroSe]; refine St.wpList_storeNew isSe (by rfl) _ _ (by rfl) _ _ (see X Y U V Z) (by rfl) (by rfl) rfl rfl (one_see _ _ _ _ _) ?_; intro w2 n2 k2; have B2 := below_tr B1 k2; have r2 := CRow.keep r1 k2; have p2 := CRow.keep p1 k2; have d2 : w2.cell? ⟨w.heap.size + 1, 0, none⟩ = some (.int .i64 F) := CRow.cell p2 (k := 0) rfl rfl; clear r0 p0 r1 p1 k1 k2 B0 B1)
    | (refine St.wpList_load isRn (by rfl) _ (by rfl) _ _ (by rfl) (by with_reducible exact r2) rfl ?_))
  refine (HS.out _).mono ?_
  rintro e w3 ⟨rfl, k3⟩
  have B3 := below_tr B2 k3
  have r3 := CRow.keep r2 k3
  have p3 := CRow.keep p2 k3
  have n3 := CRow.keep n2 k3
  clear r2 p2 n2 d2 k3 B2
  go_wp2_with (first
    | (refine St.wpList_load isRn (by rfl) _ (by rfl) _ _ (by rfl) (by with_reducible exact r3) rfl ?_))
  refine (rmay_yes R T _ hS).mono ?_
  rintro e w4 ⟨rfl, k4⟩
  have B4 := below_tr B3 k4
  have r4 := CRow.keep r3 k4
  have p4 := CRow.keep p3 k4
  have n4 := CRow.keep n3 k4
  clear r3 p3 n3 k4 B3
  go_wp2_with (first
    | (refine St.wpList_load isRn (by rfl) _ (by rfl) _ _ (by rfl) (by with_reducible exact r4) rfl ?_))
  refine (pcheck_yes R T _ hS).mono ?_
  rintro e w5 ⟨rfl, k5⟩
  have B5 := below_tr B4 k5
  have r5 := CRow.keep r4 k5
  have p5 := CRow.keep p4 k5
  have n5 := CRow.keep n4 k5
  have d5 : w5.cell? ⟨w.heap.size + 1, 0, none⟩ = some (.int .i64 F) := CRow.cell p5 (k := 0) rfl rfl
  clear r4 p4 n4 k5 B4
  go_wp2_with fail
  refine (rin_yes F _ hF).mono ?_
  rintro e w6 ⟨rfl, k6⟩
  have B6 := below_tr B5 k6
  have r6 := CRow.keep r5 k6
  have p6 := CRow.keep p5 k6
  have n6 := CRow.keep n5 k6
  clear r5 p5 n5 d5 k6 B5
  go_wp2_with (first
    | (refine St.wpList_load isRn (by rfl) _ (by rfl) _ _ (by rfl) (by with_reducible exact r6) rfl ?_)
    | (refine St.wpList_load isRl (by rfl) _ (by rfl) _ _ (by rfl) (by with_reducible exact p6) rfl ?_))
  refine (HR.out _).mono ?_
  rintro e w7 ⟨rfl, k7⟩
  have B7 := below_tr B6 k7
  have r7 := CRow.keep r6 k7
  have p7 := CRow.keep p6 k7
  have n7 := CRow.keep n6 k7
  clear r6 p6 n6 k7 B6
  go_wp2_with (first
    | (rw [zeroSe]; refine St.wpList_storeNew isRe (by rfl) _ _ (by rfl) _ _ (see X Y U V Z) (by rfl) (by rfl) rfl rfl (one_see _ _ _ _ _) ?_; intro w8 y8 k8; have B8 := below_tr B7 k8; have r8 := CRow.keep r7 k8; have p8 := CRow.keep p7 k8; have n8 := CRow.keep n7 k8; have d8 : w8.cell? ⟨w.heap.size + 1, 0, none⟩ = some (.int .i64 F) := CRow.cell p8 (k := 0) rfl rfl; clear r7 p7 n7 k8 B7)
    | (refine St.wpList_load isRn (by rfl) _ (by rfl) _ _ (by rfl) (by with_reducible exact r8) rfl ?_))
  refine (HQ.out _).mono ?_
  rintro e w9 ⟨rfl, k9⟩
  have B9 := below_tr B8 k9
  have n9 := CRow.keep n8 k9
  have y9 := CRow.keep y8 k9
  clear r8 p8 n8 y8 d8 k9 B8
  go_wp2_with (first
    | (refine St.wpList_load isSe (by rfl) _ (by rfl) _ _ (by rfl) (by with_reducible exact n9) rfl ?_)
    | (refine St.wpList_load isRe (by rfl) _ (by rfl) _ _ (by rfl) (by with_reducible exact y9) rfl ?_)
    | (refine St.wpList_eqI isEq (by rfl) _ _ _ (by rfl) (see X Y U V Z) _ (by rfl) (by rfl) (see_at _ _ _ _ _) ?_))
  refine (psure_any _ (hT.below B9)).mono ?_
  rintro e w10 ⟨rfl, k10⟩
  go_wp2
  go_ret
  exact ⟨rfl, below_tr B9 k10⟩

theorem of_walk : FPolarOf.Walk := by
  intro R T F A m w w0 w1 w2 w3 w4 hE hT
  obtain ⟨u0, u1⟩ := bounds_u16 w3
  by_cases hS : MayS R T
  · by_cases hF : MayF F
    · exact pof_law_good R T F A m w hE hT hS hF u0 u1
    · exact pof_law_range R T F A m w hE hT hS hF
  · exact pof_law_sensor R T F A m w hE hT hS

theorem polarOf_card : Rows.PolarOfCardSaid := FPolarOf.card of_walk
end Go.Proofs.YtefgkeeeanakeaaDoor
