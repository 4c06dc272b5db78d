/-
  The law GrowRises: a greater number has no lesser power, and no lesser logarithm, but for two last bits; twice a number has the logarithm of two more.
-/
import Derived.Test.YtjhjboplbliggaaDoorGwRise
import Derived.Test.YtjhjboplbliggaaDoorGwS
import Derived.Test.YtjhjboplbliggaaDoorFGrowRises
import Derived.RegionTactic
import Derived.ChangeAlike
import Derived.BigRegion
import Derived.Deep.DeepCutAuto
import Derived.Deep.RegionHeld3
import Derived.Deep.CutRange
set_option linter.unusedSimpArgs false
set_option linter.unusedVariables false
namespace Go.Proofs.YtjhjboplbliggaaDoor
open Go.RowKit Gw
attribute [local go_sem ↓] Go.wp_at_zero Go.wp_at_succ

namespace Gw
theorem lg2 : lgb 2 (dn 2) (0 : Nat) = 726817 := by decide +kernel
theorem dn_of_twice {p : Int} (h0 : 1 ≤ p) (h1 : p ≤ 1152921504606846976) : dn (2 * p) = dn p + 1 := by
  have a := dn_ok (x := p) h0 (by omega)
  have b := dn_ok (x := 2 * p) (by omega) (by omega)
  have c := dn_twice a h1
  have := dn_mono b c (Int.le_refl _)
  have := dn_mono c b (Int.le_refl _)
  omega
end Gw

set_option maxRecDepth 20000 in
set_option maxHeartbeats 1000000 in
theorem rises_any (x0 x1 p q : Int) (w : World) (hE : ErrTab w) (b0 : -9223372036854775808 ≤ x0 ∧ x0 ≤ 9223372036854775807) (b1 : -9223372036854775808 ≤ x1 ∧ x1 ≤ 9223372036854775807) (bp : -9223372036854775808 ≤ p ∧ p ≤ 9223372036854775807) (bq : -9223372036854775808 ≤ q ∧ q ≤ 9223372036854775807) :
    Calls Tryd.prog 5 #[.agg #[.int .i64 x0, .int .i64 x1], .agg #[.int .i64 p, .int .i64 q]] w fun e w' => e = .returned (.bool true) ∧ Below w.heap.size w w' := by
  obtain ⟨m, hm⟩ : ∃ m, x0.tmod 67108864 = m := ⟨_, rfl⟩
  obtain ⟨n, hn⟩ : ∃ n, x1.tmod 67108864 = n := ⟨_, rfl⟩
  have bm : -67108864 < m ∧ m < 67108864 := by
    have a := Int.tmod_lt_of_pos x0 (show (0 : Int) < 67108864 by omega)
    have b := Int.lt_tmod_of_pos x0 (show (0 : Int) < 67108864 by omega)
    omega
  have bn : -67108864 < n ∧ n < 67108864 := by
    have a := Int.tmod_lt_of_pos x1 (show (0 : Int) < 67108864 by omega)
    have b := Int.lt_tmod_of_pos x1 (show (0 : Int) < 67108864 by omega)
    omega
  obtain ⟨A, hA⟩ : ∃ A : Int, A = -(m.natAbs : Int) := ⟨_, rfl⟩
  obtain ⟨B, hB⟩ : ∃ B : Int, B = -(n.natAbs : Int) := ⟨_, rfl⟩
  have bA : -67108864 < A ∧ A ≤ 0 := by omega
  have bB : -67108864 < B ∧ B ≤ 0 := by omega
  have HAm := Hid.mkA hA
  have HBn := Hid.mkA hB
  clear hA hB
  have KW : Below w.heap.size w ((w.alloc (Obj.cells #[.int .i64 x0, .int .i64 x1] 40)).alloc (Obj.cells #[.int .i64 p, .int .i64 q] 40)).drew := (below_al (below_al (Below.refl _ _) _) _).drew
  have hR : ((w.alloc (Obj.cells #[.int .i64 x0, .int .i64 x1] 40)).alloc (Obj.cells #[.int .i64 p, .int .i64 q] 40)).drew.heap[w.heap.size + 1]? = some (.cells #[.int .i64 p, .int .i64 q] 40 (0, 0)) := by
    have h := heap_alloc_new (w.alloc (Obj.cells #[.int .i64 x0, .int .i64 x1] 40)) (Obj.cells #[.int .i64 p, .int .i64 q] 40)
    rwa [show (w.alloc (Obj.cells #[.int .i64 x0, .int .i64 x1] 40)).heap.size = w.heap.size + 1 by simp] at h
  have c0 := cell_of_row _ _ 0 _ _ (0, 0) hR
  have c1 := cell_of_row _ _ 1 _ _ (0, 0) hR
  have hlo : min A B ≤ max A B := by omega
  have hr := ex_rise (x := min A B) (y := max A B) hlo (by omega)
  have be1 := ex_bd' (x := min A B) (by omega)
  have be2 := ex_bd' (x := max A B) (by omega)
  have H1 := Hid.mkA (fun W => gexp_any (min A B) W (by omega) (by omega))
  have H2 := Hid.mkA (fun W => gexp_any (max A B) W (by omega) (by omega))
  obtain ⟨E1, hE1⟩ : ∃ E, E = ex (min A B) := ⟨_, rfl⟩
  obtain ⟨E2, hE2⟩ : ∃ E, E = ex (max A B) := ⟨_, rfl⟩
  rw [← hE1] at H1 hr be1
  rw [← hE2] at H2 hr be2
  clear hE1 hE2 hlo hR
  go_enter Tryd.func5, Tryd.ntmps5
  go_wp2
  go_region
  go_upto_if 33 with fail
  generalize ((w.alloc (Obj.cells #[.int .i64 x0, .int .i64 x1] 40)).alloc (Obj.cells #[.int .i64 p, .int .i64 q] 40)).drew = W at *
  go_cut [5] (fun v wx => v = .int .i64 A ∧ wx = W)
  case first =>
    by_cases h : 0 < m
    · go_wp2_with fail
      all_goals go_meet
      all_goals exact ⟨by rw [HAm.out]; refine congrArg (Value.int IntKind.i64) ?_; omega, rfl⟩
    · go_wp2_with fail
      all_goals go_meet
      all_goals exact ⟨by rw [HAm.out]; refine congrArg (Value.int IntKind.i64) ?_; omega, rfl⟩
  case rest =>
   obtain ⟨rfl, rfl⟩ := hcut
   go_upto_if 37 with fail
   go_cut [6] (fun v wx => v = .int .i64 B ∧ wx = wc)
   case first =>
    by_cases h : 0 < n
    · go_wp2_with fail
      all_goals go_meet
      all_goals exact ⟨by rw [HBn.out]; refine congrArg (Value.int IntKind.i64) ?_; omega, rfl⟩
    · go_wp2_with fail
      all_goals go_meet
      all_goals exact ⟨by rw [HBn.out]; refine congrArg (Value.int IntKind.i64) ?_; omega, rfl⟩
   case rest =>
    obtain ⟨rfl, rfl⟩ := hcut
    clear HAm HBn bm bn
    go_wp2_with fail
    refine (H1.out _).mono ?_
    rintro e w1 ⟨rfl, k1⟩
    go_wp2_with fail
    refine (H2.out _).mono ?_
    rintro e w2 ⟨rfl, k2⟩
    have d0 := keep_cell (below_tr k1 k2) c0
    have d1 := keep_cell (below_tr k1 k2) c1
    have K2 := below_tr (below_tr KW k1) k2
    clear c0 c1 k1 k2 KW H1 H2
    have SU := Hid.mkA (fun W hW => gwsure_any W hW)
    have e2 := hE.below K2
    by_cases a1 : p < 1
    · go_wp2
      go_region
      go_wp2_with fail
      refine (SU.out _ (e2.below (Below.refl _ _).drew)).mono ?_
      rintro e w3 ⟨rfl, k3⟩
      go_wp2
      go_ret
      exact ⟨rfl, below_tr K2.drew k3⟩
    · by_cases a2 : q < 1
      · go_wp2
        go_region
        go_wp2_with fail
        refine (SU.out _ (e2.below (Below.refl _ _).drew)).mono ?_
        rintro e w3 ⟨rfl, k3⟩
        go_wp2
        go_ret
        exact ⟨rfl, below_tr K2.drew k3⟩
      · by_cases a3 : 1152921504606846976 < p
        · go_wp2
          go_region
          go_wp2_with fail
          refine (SU.out _ (e2.below (Below.refl _ _).drew)).mono ?_
          rintro e w3 ⟨rfl, k3⟩
          go_wp2
          go_ret
          exact ⟨rfl, below_tr K2.drew k3⟩
        · by_cases a4 : 1152921504606846976 < q
          · go_wp2
            go_region
            go_wp2_with fail
            refine (SU.out _ (e2.below (Below.refl _ _).drew)).mono ?_
            rintro e w3 ⟨rfl, k3⟩
            go_wp2
            go_ret
            exact ⟨rfl, below_tr K2.drew k3⟩
          · have L1 := Hid.mkA (fun W => glog_any (min p q) 20 W (by omega) (by omega) (by omega))
            have L2 := Hid.mkA (fun W => glog_any (max p q) 20 W (by omega) (by omega) (by omega))
            have L3 := Hid.mkA (fun W => glog_any (2 * p) 20 W (by omega) (by omega) (by omega))
            have L4 := Hid.mkA (fun W => glog_any p 20 W (by omega) (by omega) (by omega))
            have L5 := Hid.mkA (fun W => glog_any 2 0 W (by omega) (by omega) (by omega))
            rw [lg2] at L5
            have r1 := lgb_rise (20 : Nat) (dn_ok (x := min p q) (by omega) (by omega)) (dn_ok (x := max p q) (by omega) (by omega)) (by omega)
            have dp := dn_ok (x := p) (by omega) (by omega)
            have r2 := lgb_twice (20 : Nat) dp
            rw [← dn_of_twice (p := p) (by omega) (by omega)] at r2
            have bd : ∀ z : Int, 1 ≤ z → z ≤ 4611686018427387903 → -93675630 ≤ lgb z (dn z) (20 : Nat) ∧ lgb z (dn z) (20 : Nat) ≤ 93675630 := fun z z0 z1 => by
              have dz := dn_ok (x := z) z0 z1
              have mz := mo_bd dz
              obtain ⟨f0, f1, _, _⟩ := dz
              exact lg_bd mz.1 mz.2 (by omega) (by omega)
            have v1 := bd (min p q) (by omega) (by omega)
            have v2 := bd (max p q) (by omega) (by omega)
            have v3 := bd (2 * p) (by omega) (by omega)
            have v4 := bd p (by omega) (by omega)
            obtain ⟨V1, hV1⟩ : ∃ V, V = lgb (min p q) (dn (min p q)) (20 : Nat) := ⟨_, rfl⟩
            obtain ⟨V2, hV2⟩ : ∃ V, V = lgb (max p q) (dn (max p q)) (20 : Nat) := ⟨_, rfl⟩
            obtain ⟨V3, hV3⟩ : ∃ V, V = lgb (2 * p) (dn (2 * p)) (20 : Nat) := ⟨_, rfl⟩
            obtain ⟨V4, hV4⟩ : ∃ V, V = lgb p (dn p) (20 : Nat) := ⟨_, rfl⟩
            rw [← hV1] at L1 r1 v1
            rw [← hV2] at L2 r1 v2
            rw [← hV3] at L3 r2 v3
            rw [← hV4] at L4 r2 v4
            have g1 : decide (V2 + 2 < V1) = false := decide_eq_false (by omega)
            have g2 : decide (-2 ≤ V3 - V4 - 726817) = true := decide_eq_true (by omega)
            have g3 : decide (V3 - V4 - 726817 ≤ 2) = true := decide_eq_true (by omega)
            clear hV1 hV2 hV3 hV4 bd dp
            go_wp2
            go_region
            go_wp2_with fail
            refine (L1.out _).mono ?_
            rintro e w3 ⟨rfl, k3⟩
            go_wp2_with fail
            refine (L2.out _).mono ?_
            rintro e w4 ⟨rfl, k4⟩
            go_wp2_with fail
            refine (L3.out _).mono ?_
            rintro e w5 ⟨rfl, k5⟩
            go_wp2_with fail
            refine (L4.out _).mono ?_
            rintro e w6 ⟨rfl, k6⟩
            go_wp2_with fail
            refine (L5.out _).mono ?_
            rintro e w7 ⟨rfl, k7⟩
            have K7 := below_tr (below_tr (below_tr (below_tr (below_tr K2.drew k3) k4) k5) k6) k7
            go_wp2_with fail
            refine (SU.out _ (hE.below K7)).mono ?_
            rintro e w8 ⟨rfl, k8⟩
            go_wp2
            go_ret
            exact ⟨rfl, below_tr K7 k8⟩

theorem rises_walk : FGrowRises.Walk := by
  intro x0 x1 p q w h0 h1 h2 h3 hE
  exact rises_any x0 x1 p q w hE (bounds_i64 h0) (bounds_i64 h1) (bounds_i64 h2) (bounds_i64 h3)

theorem growRises_holds : Rows.GrowRisesCardSaid := FGrowRises.card rises_walk
end Go.Proofs.YtjhjboplbliggaaDoor
