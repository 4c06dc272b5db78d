/-
  The law PolarQuarter: a plot a quarter of a turn further.
-/
import Derived.Test.YtefgkeeeanakeaaDoorPoS
import Derived.Test.YtefgkeeeanakeaaDoorPoN
import Derived.Test.YtefgkeeeanakeaaDoorErrA
import Derived.Test.YtefgkeeeanakeaaDoorFPolarQuarter
set_option linter.unusedSimpArgs false
set_option linter.unusedVariables false
namespace Go.Proofs.YtefgkeeeanakeaaDoor
open Go.RowKit Vc St Qn Dt Tg Ld Po
attribute [local go_sem ↓] Go.wp_at_zero Go.wp_at_succ

namespace Po
theorem zeroPl : (#[.int .i64 0, .int .u16 0, .int .i64 0] : Array Value) = ([.int .i64 0, .int .u16 0, .int .i64 0] : List Value).toArray := rfl
theorem one_pl (F A m : Int) : ∀ v ∈ ([.int .i64 F, .int .u16 A, .int .i64 m] : List Value), v.oneCell' = true := by
  intro v hv
  simp only [List.mem_cons, List.not_mem_nil, or_false] at hv
  rcases hv with rfl | rfl | rfl <;> rfl
end Po

set_option maxRecDepth 10000 in
set_option maxHeartbeats 2000000 in
theorem pquarter_bad (R T F A m : Int) (w : World) (hE : ErrTab w) (hT : AngTab w) (h : ¬ MayS R T ∨ ¬ MayF F) :
    Calls Tryd.prog 5 #[.agg #[.int .i64 R, .int .i64 T], .agg #[.int .i64 F, .int .u16 A, .int .i64 m]] w fun e w' => e = .returned (.bool true) ∧ Below w.heap.size w w' := by
  obtain ⟨B, hB⟩ : ∃ B, IntKind.u16.wrap (A + 16384) = B := ⟨_, rfl⟩
  have HO := hide (fun A W => pof_no R T F (.int .u16 A) (.int .i64 m) W h)
  clear h
  have r0 := (crow_new w 23 [.int .i64 R, .int .i64 T]).alloc (.cells #[.int .i64 F, .int .u16 A, .int .i64 m] 26)
  have p0 := crow_new1 w (.cells #[.int .i64 R, .int .i64 T] 23) 26 [.int .i64 F, .int .u16 A, .int .i64 m]
  have B0 : Below w.heap.size w ((w.alloc (.cells #[.int .i64 R, .int .i64 T] 23)).alloc (.cells #[.int .i64 F, .int .u16 A, .int .i64 m] 26)) := below_al (below_al (Below.refl _ _) _) _
  go_enter Tryd.func5, Tryd.ntmps5
  go_wp2_with (first
    | (refine St.wpList_load isRn (by rfl) _ (by rfl) _ _ (by rfl) (by with_reducible exact r0) rfl ?_)
    | (refine St.wpList_load isRl (by rfl) _ (by rfl) _ _ (by rfl) (by with_reducible exact p0) rfl ?_))
  refine (HO.out A _).mono ?_
  rintro e w1 ⟨rfl, k1⟩
  have B1 := below_tr B0 k1
  have r1 := CRow.keep r0 k1
  have p1 := CRow.keep p0 k1
  go_wp2_with (first
    | (rw [zeroSe]; refine St.wpList_storeNew isSe (by rfl) _ _ (by rfl) _ _ (see 0 0 0 0 0) (by rfl) (by rfl) rfl rfl (one_see _ _ _ _ _) ?_; intro w2 n2 k2; have B2 := below_tr B1 k2; have r2 := CRow.keep r1 k2; have p2 := CRow.keep p1 k2; clear r1 p1)
    | (refine St.wpList_load isRl (by rfl) _ (by rfl) _ _ (by rfl) (by with_reducible exact p2) rfl ?_)
    | (rw [zeroPl]; refine St.wpList_storeNew isPl (by rfl) _ _ (by rfl) _ _ [.int .i64 F, .int .u16 A, .int .i64 m] (by rfl) (by rfl) rfl rfl (one_pl _ _ _) ?_; intro w3 n3 k3; have B3 := below_tr B2 k3; have r3 := CRow.keep r2 k3; have l2 := B2.size; have l3 := r2.lt; have c3 : w3.cell? ⟨w2.heap.size, 1, none⟩ = some (.int .u16 A) := CRow.cell n3 (k := 1) rfl rfl; have f3 := CRow.free n3 1; have n4 : CRow (w3.setCell ⟨w2.heap.size, 1, none⟩ (.int .u16 B)) w2.heap.size 34 [.int .i64 F, .int .u16 B, .int .i64 m] := CRow.set n3 1 (.int .u16 B); have r4 := CRow.other r3 (p := ⟨w2.heap.size, 1, none⟩) (.int .u16 B) (show w.heap.size ≠ w2.heap.size by omega); have B4 := B3.trans (St.below_set (x := ⟨w2.heap.size, 1, none⟩) B3.size (show w.heap.size ≤ w2.heap.size by omega) (.int .u16 B)))
    | (refine St.wpList_load isRn (by rfl) _ (by rfl) _ _ (by rfl) (by with_reducible exact r4) rfl ?_)
    | (refine St.wpList_load isPl (by rfl) _ (by rfl) _ _ (by rfl) (by with_reducible exact n4) rfl ?_))
  refine (HO.out B _).mono ?_
  rintro e w5 ⟨rfl, k5⟩
  have B5 := below_tr B4 k5
  go_wp2_with (first
    | (rw [zeroSe]; refine St.wpList_storeNew isSe (by rfl) _ _ (by rfl) _ _ (see 0 0 0 0 0) (by rfl) (by rfl) rfl rfl (one_see _ _ _ _ _) ?_; intro w6 n6 k6; have B6 := below_tr B5 k6))
  refine (num_err 1 _ (hE.below B6)).mono ?_
  rintro e w7 ⟨rfl, k7⟩
  have B7 := below_tr B6 k7
  go_wp2_with fail
  refine (num_err 1 _ (hE.below B7)).mono ?_
  rintro e w8 ⟨rfl, k8⟩
  have B8 := below_tr B7 k8
  go_wp2_with fail
  refine (psure_any _ (hT.below B8)).mono ?_
  rintro e w9 ⟨rfl, k9⟩
  go_wp2
  go_ret
  exact ⟨rfl, below_tr B8 k9⟩

set_option maxRecDepth 10000 in
set_option maxHeartbeats 2000000 in
theorem pquarter_great (R T F A m : Int) (w : World) (hE : ErrTab w) (hT : AngTab w) (hS : MayS R T) (hF : MayF F) (u0 : 0 ≤ A) (u1 : A ≤ 65535) (ho : ovV (65536 * A) (al R) (ac F T) = true) :
    Calls Tryd.prog 5 #[.agg #[.int .i64 R, .int .i64 T], .agg #[.int .i64 F, .int .u16 A, .int .i64 m]] w fun e w' => e = .returned (.bool true) ∧ Below w.heap.size w w' := by
  obtain ⟨B, hB⟩ : ∃ B, IntKind.u16.wrap (A + 16384) = B := ⟨_, rfl⟩
  have hB' : B = (A + 16384) % 65536 := by rw [← hB, IntKind.wrap_u16]
  have HO := hide (fun W (h : AngTab W) => pof_yes R T F A (.int .i64 m) W h hS hF u0 u1)
  have HQ := hide (fun W (h : AngTab W) => pof_yes R T F B (.int .i64 m) W h hS hF (by omega) (by omega))
  have ht := turned (F := F) (a := al R) (b := ac F T) u0 u1 hB'
  rw [ht.1, ht.2.1, ht.2.2.1, ht.2.2.2.1, ht.2.2.2.2, ov_turned u0 u1 hB', ho] at HQ
  rw [ho] at HO
  have bX : -4611686018427387903 ≤ px (65536 * A) F ∧ px (65536 * A) F ≤ 4611686018427387903 := clamp_bd _
  have bY : -4611686018427387903 ≤ py (65536 * A) F ∧ py (65536 * A) F ≤ 4611686018427387903 := clamp_bd _
  have bZ : -4611686018427387903 ≤ xyV (65536 * A) (al R) (ac F T) ∧ xyV (65536 * A) (al R) (ac F T) ≤ 4611686018427387903 := clamp_bd _
  have f1 := hF.1
  have f2 := hF.2
  have q1 : F.tdiv 100000000 = F / 100000000 := Int.tdiv_eq_ediv_of_nonneg f1
  have z1 : 0 ≤ F / 100000000 ∧ F / 100000000 ≤ 1099511627776 := by omega
  clear ht hB' hS hF u0 u1 ho
  generalize F / 100000000 = P at *
  generalize px (65536 * A) F = X at *
  generalize py (65536 * A) F = Y at *
  generalize xyV (65536 * A) (al R) (ac F T) = Z at *
  generalize xxV (65536 * A) (al R) (ac F T) = U at *
  generalize yyV (65536 * A) (al R) (ac F T) = V at *
  have r0 := (crow_new w 23 [.int .i64 R, .int .i64 T]).alloc (.cells #[.int .i64 F, .int .u16 A, .int .i64 m] 26)
  have p0 := crow_new1 w (.cells #[.int .i64 R, .int .i64 T] 23) 26 [.int .i64 F, .int .u16 A, .int .i64 m]
  have B0 : Below w.heap.size w ((w.alloc (.cells #[.int .i64 R, .int .i64 T] 23)).alloc (.cells #[.int .i64 F, .int .u16 A, .int .i64 m] 26)) := below_al (below_al (Below.refl _ _) _) _
  go_enter Tryd.func5, Tryd.ntmps5
  go_wp2_with (first
    | (refine St.wpList_load isRn (by rfl) _ (by rfl) _ _ (by rfl) (by with_reducible exact r0) rfl ?_)
    | (refine St.wpList_load isRl (by rfl) _ (by rfl) _ _ (by rfl) (by with_reducible exact p0) rfl ?_))
  refine (HO.out _ (hT.below B0)).mono ?_
  rintro e w1 ⟨rfl, k1⟩
  have B1 := below_tr B0 k1
  have r1 := CRow.keep r0 k1
  have p1 := CRow.keep p0 k1
  go_wp2_with (first
    | (rw [zeroSe]; refine St.wpList_storeNew isSe (by rfl) _ _ (by rfl) _ _ (see X Y U V Z) (by rfl) (by rfl) rfl rfl (one_see _ _ _ _ _) ?_; intro w2 n2 k2; have B2 := below_tr B1 k2; have r2 := CRow.keep r1 k2; have p2 := CRow.keep p1 k2; clear r1 p1)
    | (refine St.wpList_load isRl (by rfl) _ (by rfl) _ _ (by rfl) (by with_reducible exact p2) rfl ?_)
    | (rw [zeroPl]; refine St.wpList_storeNew isPl (by rfl) _ _ (by rfl) _ _ [.int .i64 F, .int .u16 A, .int .i64 m] (by rfl) (by rfl) rfl rfl (one_pl _ _ _) ?_; intro w3 n3 k3; have B3 := below_tr B2 k3; have r3 := CRow.keep r2 k3; have l2 := B2.size; have l3 := r2.lt; have l4 := p2.lt; have l5 := n2.lt; have c3 : w3.cell? ⟨w2.heap.size, 1, none⟩ = some (.int .u16 A) := CRow.cell n3 (k := 1) rfl rfl; have f3 := CRow.free n3 1; have n4 : CRow (w3.setCell ⟨w2.heap.size, 1, none⟩ (.int .u16 B)) w2.heap.size 34 [.int .i64 F, .int .u16 B, .int .i64 m] := CRow.set n3 1 (.int .u16 B); have r4 := CRow.other r3 (p := ⟨w2.heap.size, 1, none⟩) (.int .u16 B) (show w.heap.size ≠ w2.heap.size by omega); have p4 := CRow.other (CRow.keep p2 k3) (p := ⟨w2.heap.size, 1, none⟩) (.int .u16 B) (show w.heap.size + 1 ≠ w2.heap.size by omega); have x4 := CRow.other (CRow.keep n2 k3) (p := ⟨w2.heap.size, 1, none⟩) (.int .u16 B) (show w1.heap.size ≠ w2.heap.size by omega); have B4 := B3.trans (St.below_set (x := ⟨w2.heap.size, 1, none⟩) B3.size (show w.heap.size ≤ w2.heap.size by omega) (.int .u16 B)))
    | (refine St.wpList_load isRn (by rfl) _ (by rfl) _ _ (by rfl) (by with_reducible exact r4) rfl ?_)
    | (refine St.wpList_load isPl (by rfl) _ (by rfl) _ _ (by rfl) (by with_reducible exact n4) rfl ?_))
  refine (HQ.out _ (hT.below B4)).mono ?_
  rintro e w5 ⟨rfl, k5⟩
  have B5 := below_tr B4 k5
  have p5 := CRow.keep p4 k5
  have x5 := CRow.keep x4 k5
  clear c3 f3
  go_wp2_with (first
    | (rw [zeroSe]; refine St.wpList_storeNew isSe (by rfl) _ _ (by rfl) _ _ (see Y (-X) V U (-Z)) (by rfl) (by rfl) rfl rfl (one_see _ _ _ _ _) ?_; intro w6 n6 k6; have B6 := below_tr B5 k6; have p6 := CRow.keep p5 k6; have x6 := CRow.keep x5 k6; have d6 : w6.cell? ⟨w.heap.size + 1, 0, none⟩ = some (.int .i64 F) := CRow.cell p6 (k := 0) rfl rfl; have s0 : w6.cell? ⟨w1.heap.size, 0, none⟩ = some (.int .i64 X) := CRow.cell x6 (k := 0) rfl rfl; have s1 : w6.cell? ⟨w1.heap.size, 1, none⟩ = some (.int .i64 Y) := CRow.cell x6 (k := 1) rfl rfl; have s2 : w6.cell? ⟨w1.heap.size, 2, none⟩ = some (.int .i64 U) := CRow.cell x6 (k := 2) rfl rfl; have s3 : w6.cell? ⟨w1.heap.size, 3, none⟩ = some (.int .i64 V) := CRow.cell x6 (k := 3) rfl rfl; have s4 : w6.cell? ⟨w1.heap.size, 4, none⟩ = some (.int .i64 Z) := CRow.cell x6 (k := 4) rfl rfl; have t0 : w6.cell? ⟨w5.heap.size, 0, none⟩ = some (.int .i64 Y) := CRow.cell n6 (k := 0) rfl rfl; have t1 : w6.cell? ⟨w5.heap.size, 1, none⟩ = some (.int .i64 (-X)) := CRow.cell n6 (k := 1) rfl rfl; have t2 : w6.cell? ⟨w5.heap.size, 2, none⟩ = some (.int .i64 V) := CRow.cell n6 (k := 2) rfl rfl; have t3 : w6.cell? ⟨w5.heap.size, 3, none⟩ = some (.int .i64 U) := CRow.cell n6 (k := 3) rfl rfl; have t4 : w6.cell? ⟨w5.heap.size, 4, none⟩ = some (.int .i64 (-Z)) := CRow.cell n6 (k := 4) rfl rfl; clear r0 p0 r2 p2 r3 r4 p4 x4 p5 x5 n2 n3 n4))
  refine (psure_any _ (hT.below B6)).mono ?_
  rintro e w9 ⟨rfl, k9⟩
  go_wp2
  go_ret
  exact ⟨rfl, below_tr B6 k9⟩

set_option maxRecDepth 10000 in
set_option maxHeartbeats 2000000 in
theorem pquarter_good (R T F A m : Int) (w : World) (hE : ErrTab w) (hT : AngTab w) (hS : MayS R T) (hF : MayF F) (u0 : 0 ≤ A) (u1 : A ≤ 65535) (ho : ovV (65536 * A) (al R) (ac F T) = false) :
    Calls Tryd.prog 5 #[.agg #[.int .i64 R, .int .i64 T], .agg #[.int .i64 F, .int .u16 A, .int .i64 m]] w fun e w' => e = .returned (.bool true) ∧ Below w.heap.size w w' := by
  obtain ⟨B, hB⟩ : ∃ B, IntKind.u16.wrap (A + 16384) = B := ⟨_, rfl⟩
  have hB' : B = (A + 16384) % 65536 := by rw [← hB, IntKind.wrap_u16]
  have HO := hide (fun W (h : AngTab W) => pof_yes R T F A (.int .i64 m) W h hS hF u0 u1)
  have HQ := hide (fun W (h : AngTab W) => pof_yes R T F B (.int .i64 m) W h hS hF (by omega) (by omega))
  have ht := turned (F := F) (a := al R) (b := ac F T) u0 u1 hB'
  rw [ht.1, ht.2.1, ht.2.2.1, ht.2.2.2.1, ht.2.2.2.2, ov_turned u0 u1 hB', ho] at HQ
  rw [ho] at HO
  have bX : -4611686018427387903 ≤ px (65536 * A) F ∧ px (65536 * A) F ≤ 4611686018427387903 := clamp_bd _
  have bY : -4611686018427387903 ≤ py (65536 * A) F ∧ py (65536 * A) F ≤ 4611686018427387903 := clamp_bd _
  have bZ : -4611686018427387903 ≤ xyV (65536 * A) (al R) (ac F T) ∧ xyV (65536 * A) (al R) (ac F T) ≤ 4611686018427387903 := clamp_bd _
  have f1 := hF.1
  have f2 := hF.2
  have q1 : F.tdiv 100000000 = F / 100000000 := Int.tdiv_eq_ediv_of_nonneg f1
  have z1 : 0 ≤ F / 100000000 ∧ F / 100000000 ≤ 1099511627776 := by omega
  clear ht hB' hS hF u0 u1 ho
  generalize F / 100000000 = P at *
  generalize px (65536 * A) F = X at *
  generalize py (65536 * A) F = Y at *
  generalize xyV (65536 * A) (al R) (ac F T) = Z at *
  generalize xxV (65536 * A) (al R) (ac F T) = U at *
  generalize yyV (65536 * A) (al R) (ac F T) = V at *
  have r0 := (crow_new w 23 [.int .i64 R, .int .i64 T]).alloc (.cells #[.int .i64 F, .int .u16 A, .int .i64 m] 26)
  have p0 := crow_new1 w (.cells #[.int .i64 R, .int .i64 T] 23) 26 [.int .i64 F, .int .u16 A, .int .i64 m]
  have B0 : Below w.heap.size w ((w.alloc (.cells #[.int .i64 R, .int .i64 T] 23)).alloc (.cells #[.int .i64 F, .int .u16 A, .int .i64 m] 26)) := below_al (below_al (Below.refl _ _) _) _
  go_enter Tryd.func5, Tryd.ntmps5
  go_wp2_with (first
    | (refine St.wpList_load isRn (by rfl) _ (by rfl) _ _ (by rfl) (by with_reducible exact r0) rfl ?_)
    | (refine St.wpList_load isRl (by rfl) _ (by rfl) _ _ (by rfl) (by with_reducible exact p0) rfl ?_))
  refine (HO.out _ (hT.below B0)).mono ?_
  rintro e w1 ⟨rfl, k1⟩
  have B1 := below_tr B0 k1
  have r1 := CRow.keep r0 k1
  have p1 := CRow.keep p0 k1
  go_wp2_with (first
    | (rw [zeroSe]; refine St.wpList_storeNew isSe (by rfl) _ _ (by rfl) _ _ (see X Y U V Z) (by rfl) (by rfl) rfl rfl (one_see _ _ _ _ _) ?_; intro w2 n2 k2; have B2 := below_tr B1 k2; have r2 := CRow.keep r1 k2; have p2 := CRow.keep p1 k2; clear r1 p1)
    | (refine St.wpList_load isRl (by rfl) _ (by rfl) _ _ (by rfl) (by with_reducible exact p2) rfl ?_)
    | (rw [zeroPl]; refine St.wpList_storeNew isPl (by rfl) _ _ (by rfl) _ _ [.int .i64 F, .int .u16 A, .int .i64 m] (by rfl) (by rfl) rfl rfl (one_pl _ _ _) ?_; intro w3 n3 k3; have B3 := below_tr B2 k3; have r3 := CRow.keep r2 k3; have l2 := B2.size; have l3 := r2.lt; have l4 := p2.lt; have l5 := n2.lt; have c3 : w3.cell? ⟨w2.heap.size, 1, none⟩ = some (.int .u16 A) := CRow.cell n3 (k := 1) rfl rfl; have f3 := CRow.free n3 1; have n4 : CRow (w3.setCell ⟨w2.heap.size, 1, none⟩ (.int .u16 B)) w2.heap.size 34 [.int .i64 F, .int .u16 B, .int .i64 m] := CRow.set n3 1 (.int .u16 B); have r4 := CRow.other r3 (p := ⟨w2.heap.size, 1, none⟩) (.int .u16 B) (show w.heap.size ≠ w2.heap.size by omega); have p4 := CRow.other (CRow.keep p2 k3) (p := ⟨w2.heap.size, 1, none⟩) (.int .u16 B) (show w.heap.size + 1 ≠ w2.heap.size by omega); have x4 := CRow.other (CRow.keep n2 k3) (p := ⟨w2.heap.size, 1, none⟩) (.int .u16 B) (show w1.heap.size ≠ w2.heap.size by omega); have B4 := B3.trans (St.below_set (x := ⟨w2.heap.size, 1, none⟩) B3.size (show w.heap.size ≤ w2.heap.size by omega) (.int .u16 B)))
    | (refine St.wpList_load isRn (by rfl) _ (by rfl) _ _ (by rfl) (by with_reducible exact r4) rfl ?_)
    | (refine St.wpList_load isPl (by rfl) _ (by rfl) _ _ (by rfl) (by with_reducible exact n4) rfl ?_))
  refine (HQ.out _ (hT.below B4)).mono ?_
  rintro e w5 ⟨rfl, k5⟩
  have B5 := below_tr B4 k5
  have p5 := CRow.keep p4 k5
  have x5 := CRow.keep x4 k5
  clear c3 f3
  go_wp2_with (first
    | (rw [zeroSe]; refine St.wpList_storeNew isSe (by rfl) _ _ (by rfl) _ _ (see Y (-X) V U (-Z)) (by rfl) (by rfl) rfl rfl (one_see _ _ _ _ _) ?_; intro w6 n6 k6; have B6 := below_tr B5 k6; have p6 := CRow.keep p5 k6; have x6 := CRow.keep x5 k6; have d6 : w6.cell? ⟨w.heap.size + 1, 0, none⟩ = some (.int .i64 F) := CRow.cell p6 (k := 0) rfl rfl; have s0 : w6.cell? ⟨w1.heap.size, 0, none⟩ = some (.int .i64 X) := CRow.cell x6 (k := 0) rfl rfl; have s1 : w6.cell? ⟨w1.heap.size, 1, none⟩ = some (.int .i64 Y) := CRow.cell x6 (k := 1) rfl rfl; have s2 : w6.cell? ⟨w1.heap.size, 2, none⟩ = some (.int .i64 U) := CRow.cell x6 (k := 2) rfl rfl; have s3 : w6.cell? ⟨w1.heap.size, 3, none⟩ = some (.int .i64 V) := CRow.cell x6 (k := 3) rfl rfl; have s4 : w6.cell? ⟨w1.heap.size, 4, none⟩ = some (.int .i64 Z) := CRow.cell x6 (k := 4) rfl rfl; have t0 : w6.cell? ⟨w5.heap.size, 0, none⟩ = some (.int .i64 Y) := CRow.cell n6 (k := 0) rfl rfl; have t1 : w6.cell? ⟨w5.heap.size, 1, none⟩ = some (.int .i64 (-X)) := CRow.cell n6 (k := 1) rfl rfl; have t2 : w6.cell? ⟨w5.heap.size, 2, none⟩ = some (.int .i64 V) := CRow.cell n6 (k := 2) rfl rfl; have t3 : w6.cell? ⟨w5.heap.size, 3, none⟩ = some (.int .i64 U) := CRow.cell n6 (k := 3) rfl rfl; have t4 : w6.cell? ⟨w5.heap.size, 4, none⟩ = some (.int .i64 (-Z)) := CRow.cell n6 (k := 4) rfl rfl; clear r0 p0 r2 p2 r3 r4 p4 x4 p5 x5 n2 n3 n4))
  refine (psure_any _ (hT.below B6)).mono ?_
  rintro e w9 ⟨rfl, k9⟩
  go_wp2
  go_ret
  exact ⟨rfl, below_tr B6 k9⟩

theorem quarter_walk : FPolarQuarter.Walk := by
  intro R T F A m w w0 w1 w2 w3 w4 hE hT
  obtain ⟨u0, u1⟩ := bounds_u16 w3
  by_cases hS : MayS R T
  · by_cases hF : MayF F
    · cases ho : ovV (65536 * A) (al R) (ac F T) with
      | true => exact pquarter_great R T F A m w hE hT hS hF u0 u1 ho
      | false => exact pquarter_good R T F A m w hE hT hS hF u0 u1 ho
    · exact pquarter_bad R T F A m w hE hT (.inr hF)
  · exact pquarter_bad R T F A m w hE hT (.inl hS)

theorem polarQuarter_card : Rows.PolarQuarterCardSaid := FPolarQuarter.card quarter_walk
end Go.Proofs.YtefgkeeeanakeaaDoor
