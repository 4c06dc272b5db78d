/-
  Two of the document's answer (radomeref01): two to a power.
-/
import Derived.Test.YtiahijcdfeimgaaDoorRefF
import Derived.Test.YtiahijcdfeimgaaDoorNumR
import Derived.Deep.DeepCutAuto
import Derived.Deep.RegionWith
set_option linter.unusedSimpArgs false
set_option linter.unusedVariables false
namespace Go.Proofs.YtiahijcdfeimgaaDoor
open Go.RowKit Dec
attribute [local go_sem ↓] Go.wp_at_zero Go.wp_at_succ

namespace Dec
theorem isNum_nat {w : World} {d : Value} {n : Nat} (h : Rd w d (digs n)) : IsNum w (.agg #[.bool false, d]) (n : Int) :=
  ⟨d, by rw [decide_eq_false (Int.not_lt.2 (Int.natCast_nonneg n))], by rw [Int.natAbs_natCast]; exact h⟩
theorem IsNum.nat {w : World} {v : Value} {n : Nat} (h : IsNum w v (n : Int)) : ∃ a c, v = .agg #[.bool false, .slice a (digs n).length c] ∧ Rd w (.slice a (digs n).length c) (digs n) := by
  obtain ⟨d, rfl, hd⟩ := h
  rw [Int.natAbs_natCast] at hd
  obtain ⟨a, c, rfl⟩ := hd.lt
  exact ⟨a, c, by rw [decide_eq_false (Int.not_lt.2 (Int.natCast_nonneg n))], hd⟩
theorem len_two (n : Nat) : (digs (2 ^ n)).length ≤ n + 1 := by
  refine length_digs_le (Nat.lt_of_lt_of_le (Nat.pow_lt_pow_right (a := 2) (by omega) (Nat.lt_succ_self n)) (Nat.pow_le_pow_left (by omega) _))
end Dec

set_option maxHeartbeats 2000000 in
/-- Two: two to a power. -/
theorem two_any (n : Nat) (w : World) (hn : n ≤ 100000) :
    Calls Tryd.prog 22 #[.int .i64 n] w fun e w' => ∃ v, e = .returned v ∧ IsNum w' v ((2 ^ n : Nat) : Int) ∧ Below w.heap.size w w' := by
  have l30 : (digs (1073741824 : Int).natAbs).length ≤ 1000000 := by
    have := length_digs_le (show (1073741824 : Int).natAbs < 10 ^ 10 by decide)
    omega
  have n0 : (0 : Int) ≤ (n : Int) := by omega
  have n1 : (n : Int) ≤ 100000 := by omega
  go_enter Tryd.func22, Tryd.ntmps22
  go_wp2_with fail
  refine (of_any 1 _ (by omega) (by omega)).mono ?_
  rintro e w1 ⟨v1, rfl, hn1, hb1⟩
  obtain ⟨a1, L1, c1, rfl⟩ := IsNum.form0 (n := 1) hn1
  have kB : Row2 w1 w.heap.size (.bool false) (.slice none 0 0) := (row2_new w _ _).keep hb1
  have hB1 : Below w.heap.size w w1 := below_tr (below_al (Below.refl _ _) _) hb1
  have hBl : w.heap.size < w1.heap.size := by have := hb1.size; simp at this; omega
  go_wp2
  go_loopw [4] (fun i wr => ∃ (k : Nat) (a : Option Addr) (L c : Nat), i = .int .i64 (30 * (k : Int)) ∧ 30 * k ≤ n ∧ Row2 wr w1.heap.size (.bool false) (.slice a L c) ∧ IsNum wr (.agg #[.bool false, .slice a L c]) ((2 ^ (30 * k) : Nat) : Int) ∧ Row2 wr w.heap.size (.bool false) (.slice none 0 0) ∧ Below w.heap.size w wr) (fun i _ => n - (intOf i).toNat)
  case atStart => exact ⟨0, a1, L1, c1, rfl, by omega, row2_new w1 _ _, hn1.below (below_al (Below.refl _ _) _), kB.alloc _, below_al hB1 _⟩
  case round =>
    obtain ⟨k, a, L, c, rfl, hk, hrow, hnum, hres, hbel⟩ := hrel
    have x0 := hrow.c0
    have x1 := hrow.c1
    by_cases h1 : 30 * k + 30 ≤ n
    · have f0 := hrow.free 0
      have f1 := hrow.free 1
      have hl := len_two (30 * k)
      obtain ⟨T, hT⟩ : ∃ T, T = 2 ^ (30 * k) := ⟨_, rfl⟩
      rw [← hT] at hl hnum
      have HT := Hid.mk' hT
      clear hT
      go_wp2
      go_region_with
        (first
          | (go_at_call 21; refine (of_any 1073741824 _ (by omega) (by omega)).mono ?_; rintro e w2 ⟨v2, rfl, hn2, hb2⟩; have y0 := keep_cell hb2 x0; have y1 := keep_cell hb2 x1)
          | (go_at_call 20; refine (mul_any _ _ (T : Int) 1073741824 _ (by rw [len_nat]; omega) l30 (hnum.below (below_tr (Below.refl _ _).drew hb2)) hn2).mono ?_; rintro e w3 ⟨v3, rfl, hn3, hb3⟩; have hn4 : IsNum w3 v3 ((T * 1073741824 : Nat) : Int) := (by simpa using hn3); obtain ⟨a3, L3, c3, hv3⟩ := hn4.form0; subst hv3; have hrow3 := (hrow.drew.keep hb2).keep hb3; have g0 := hrow3.c0; have g1 := hrow3.c1; have g2 := hrow3.free 0; have g3 := hrow3.free 1))
      all_goals go_wp2
      all_goals go_roundw
      case rel =>
        have e : 2 ^ (30 * (k + 1)) = T * 1073741824 := by rw [HT.out, Nat.mul_add, Nat.pow_add]
        exact ⟨k + 1, a3, L3, c3, by go_num, by omega, hrow3.set2 _ _, by rw [e]; exact hn4.row2 hrow3 _ _, (((hres.drew.keep hb2).keep hb3).other _ (show w.heap.size ≠ w1.heap.size by omega)).other _ (show w.heap.size ≠ w1.heap.size by omega), below_set2 (below_tr (below_tr hbel.drew hb2) hb3) (by omega) _ _⟩
      case measure => simp [intOf]; omega
      case rel =>
        have e : 2 ^ (30 * (k + 1)) = T * 1073741824 := by rw [HT.out, Nat.mul_add, Nat.pow_add]
        exact ⟨k + 1, a3, L3, c3, by go_num, by omega, hrow3.set2 _ _, by rw [e]; exact hn4.row2 hrow3 _ _, (((hres.drew.keep hb2).keep hb3).other _ (show w.heap.size ≠ w1.heap.size by omega)).other _ (show w.heap.size ≠ w1.heap.size by omega), below_set2 (below_tr (below_tr hbel.drew hb2) hb3) (by omega) _ _⟩
      case measure => simp [intOf]; omega
    · have hmod : (n : Int) % 30 = ((n - 30 * k : Nat) : Int) := by omega
      go_wp2
      go_loopw [5] (fun i ws => ∃ (j : Nat) (a : Option Addr) (L c : Nat), i = .int .i64 (j : Int) ∧ j ≤ n - 30 * k ∧ Row2 ws w1.heap.size (.bool false) (.slice a L c) ∧ IsNum ws (.agg #[.bool false, .slice a L c]) ((2 ^ (30 * k + j) : Nat) : Int) ∧ Row2 ws w.heap.size (.bool false) (.slice none 0 0) ∧ Below w.heap.size w ws) (fun i _ => n - 30 * k - (intOf i).toNat)
      case atStart => exact ⟨0, a, L, c, rfl, by omega, hrow, hnum, hres, hbel⟩
      case round =>
        clear hrow hnum hres hbel x0 x1
        obtain ⟨j, a, L, c, rfl, hj, hrow, hnum, hres, hbel⟩ := hrel
        have x0 := hrow.c0
        have x1 := hrow.c1
        by_cases h2 : j < n - 30 * k
        · have hl := len_two (30 * k + j)
          obtain ⟨T, hT⟩ : ∃ T, T = 2 ^ (30 * k + j) := ⟨_, rfl⟩
          rw [← hT] at hl hnum
          have HT := Hid.mk' hT
          clear hT
          go_wp2_with fail
          refine (add_any _ _ (T : Int) (T : Int) _ (by rw [len_nat]; omega) (by rw [len_nat]; omega) hnum hnum).mono ?_
          rintro e w3 ⟨v3, rfl, hn3, hb3⟩
          have hn4 : IsNum w3 v3 ((T + T : Nat) : Int) := (by simpa using hn3)
          obtain ⟨a3, L3, c3, hv3⟩ := hn4.form0
          subst hv3
          have hrow3 := hrow.keep hb3
          have g0 := hrow3.c0
          have g1 := hrow3.c1
          have g2 := hrow3.free 0
          have g3 := hrow3.free 1
          go_wp2
          go_roundw
          case rel =>
            have e : 2 ^ (30 * k + (j + 1)) = T + T := by rw [HT.out, ← Nat.add_assoc, Nat.pow_succ]; omega
            exact ⟨j + 1, a3, L3, c3, by go_num, by omega, hrow3.set2 _ _, by rw [e]; exact hn4.row2 hrow3 _ _, ((hres.keep hb3).other _ (show w.heap.size ≠ w1.heap.size by omega)).other _ (show w.heap.size ≠ w1.heap.size by omega), below_set2 (below_tr hbel hb3) (by omega) _ _⟩
          case measure => simp [intOf]; omega
        · have ej : 30 * k + j = n := by omega
          rw [ej] at hnum
          have y0 := hres.c0
          have y1 := hres.c1
          have y2 := hres.free 0
          have y3 := hres.free 1
          go_wp2
          have e5 := hres.set2 (.bool false) (.slice a L c)
          have t0 := e5.c0
          have t1 := e5.c1
          refine bodyPost_ret (v := .agg #[.bool false, .slice a L c]) ?_ rfl ⟨_, rfl, hnum.row2 hres _ _, below_set2 hbel (Nat.le_refl _) _ _⟩
          clear e5 y0 y1 y2 y3 x0 x1
          revert t0 t1
          generalize (wr.setCell ⟨w.heap.size, 0, none⟩ (.bool false)).setCell ⟨w.heap.size, 1, none⟩ (.slice a L c) = W5
          intro t0 t1
          simp [results, Tryd.results22, go_sem, t0, t1]

end Go.Proofs.YtiahijcdfeimgaaDoor
