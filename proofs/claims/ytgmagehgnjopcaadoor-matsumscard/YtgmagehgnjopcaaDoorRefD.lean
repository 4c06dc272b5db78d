/-
  Add, Sub and Cmp of the document's answer (radomeref01), for whatever two numbers: the sum, the difference, and how they compare.
-/
import Derived.Test.YtgmagehgnjopcaaDoorRefC
set_option linter.unusedSimpArgs false
set_option linter.unusedVariables false
namespace Go.Proofs.YtgmagehgnjopcaaDoor
open Go.RowKit Dec

/-- Add: the sum. -/
theorem add_any (va vb : Value) (x y : Int) (w : World) (hx : (digs x.natAbs).length ≤ 1000000) (hy : (digs y.natAbs).length ≤ 1000000) (ha : IsNum w va x) (hb : IsNum w vb y) :
    Calls Tryd.prog 65 #[va, vb] w fun e w' => ∃ v, e = .returned v ∧ IsNum w' v (x + y) ∧ Below w.heap.size w w' := by
  obtain ⟨da, rfl, hda⟩ := ha
  obtain ⟨db, rfl, hdb⟩ := hb
  obtain ⟨ao, ca, rfl⟩ := hda.lt
  obtain ⟨bo, cb, rfl⟩ := hdb.lt
  by_cases h : decide (x < 0) = decide (y < 0)
  · have := add_same (decide (x < 0)) ao bo _ _ ca cb x.natAbs y.natAbs w hx hy hda hdb
    rw [← h]
    refine this.mono ?_
    rintro e w' ⟨d, rfl, hd, hw⟩
    have h2 : x < 0 ↔ y < 0 := by simpa using h
    refine ⟨_, rfl, ⟨d, ?_, ?_⟩, hw⟩
    · have e : (decide (x < 0) && decide (0 < x.natAbs + y.natAbs)) = decide (x + y < 0) := by
        rw [Bool.eq_iff_iff]; simp; omega
      rw [e]
    · rw [show (x + y).natAbs = x.natAbs + y.natAbs by omega]; exact hd
  · have h2 : ¬ (x < 0 ↔ y < 0) := by simpa using h
    have e : decide (y < 0) = !decide (x < 0) := by
      rw [Bool.eq_iff_iff]; simp; omega
    rw [e]
    refine (add_diff (decide (x < 0)) ao bo _ _ ca cb x.natAbs y.natAbs w hx hy hda hdb).mono ?_
    rintro e1 w' ⟨d, rfl, hd, hw⟩
    refine ⟨_, rfl, ⟨d, ?_, ?_⟩, hw⟩
    · have e : (if x.natAbs < y.natAbs then (!decide (x < 0) && decide (0 < y.natAbs - x.natAbs)) else (decide (x < 0) && decide (0 < x.natAbs - y.natAbs))) = decide (x + y < 0) := by
        split
        · rw [Bool.eq_iff_iff]; simp; omega
        · rw [Bool.eq_iff_iff]; simp; omega
      rw [e]
    · rw [show (x + y).natAbs = if x.natAbs < y.natAbs then y.natAbs - x.natAbs else x.natAbs - y.natAbs by split <;> omega]; exact hd

attribute [local go_sem ↓] Go.wp_at_zero Go.wp_at_succ

set_option maxHeartbeats 3200000 in
/-- Sub: the difference. -/
theorem sub_any (va vb : Value) (x y : Int) (w : World) (hx : (digs x.natAbs).length ≤ 1000000) (hy : (digs y.natAbs).length ≤ 1000000) (ha : IsNum w va x) (hb : IsNum w vb y) :
    Calls Tryd.prog 67 #[va, vb] w fun e w' => ∃ v, e = .returned v ∧ IsNum w' v (x - y) ∧ Below w.heap.size w w' := by
  have hx' := ha
  have hy' := hb
  obtain ⟨da, rfl, hda⟩ := ha
  obtain ⟨db, rfl, hdb⟩ := hb
  obtain ⟨ao, ca, hda2⟩ := hda.lt
  obtain ⟨bo, cb, hdb2⟩ := hdb.lt
  obtain ⟨n, hn⟩ : ∃ n, n = (digs x.natAbs).length := ⟨_, rfl⟩
  obtain ⟨m, hm⟩ : ∃ n, n = (digs y.natAbs).length := ⟨_, rfl⟩
  rw [← hn] at hda2
  rw [← hm] at hdb2
  subst hda2 hdb2
  clear hn hm
  have hyn : (digs (-y).natAbs).length ≤ 1000000 := by rw [Int.natAbs_neg]; exact hy
  obtain ⟨p, hp⟩ : ∃ p, p = decide (x < 0) := ⟨_, rfl⟩
  obtain ⟨q, hq⟩ : ∃ p, p = decide (y < 0) := ⟨_, rfl⟩
  rw [← hp] at hx'
  rw [← hq] at hy'
  rw [← hp, ← hq]
  clear hp hq
  go_enter Tryd.func67, Tryd.ntmps67
  go_wp2
  go_region_held3 (fun w' => w'.cell? ⟨w.heap.size, 0, none⟩ = some (.bool p) ∧ w'.cell? ⟨w.heap.size, 1, none⟩ = some (.slice ao n ca) ∧ w'.cell? ⟨w.heap.size + 1, 0, none⟩ = some (.bool q) ∧ w'.cell? ⟨w.heap.size + 1, 1, none⟩ = some (.slice bo m cb))
    (first | exact ⟨keep_set (keep_set (keep_cell hb2 k0) (show w.heap.size ≠ w.heap.size + 1 + 1 by omega) _) (show w.heap.size ≠ w.heap.size + 1 + 1 by omega) _, keep_set (keep_set (keep_cell hb2 k1) (show w.heap.size ≠ w.heap.size + 1 + 1 by omega) _) (show w.heap.size ≠ w.heap.size + 1 + 1 by omega) _, keep_set (keep_set (keep_cell hb2 k2) (show w.heap.size + 1 ≠ w.heap.size + 1 + 1 by omega) _) (show w.heap.size + 1 ≠ w.heap.size + 1 + 1 by omega) _, keep_set (keep_set (keep_cell hb2 k3) (show w.heap.size + 1 ≠ w.heap.size + 1 + 1 by omega) _) (show w.heap.size + 1 ≠ w.heap.size + 1 + 1 by omega) _⟩ | exact ⟨keep_cell hb2 k0, keep_cell hb2 k1, keep_cell hb2 k2, keep_cell hb2 k3⟩ | exact ⟨k0, k1, k2, k3⟩ | go_keep)
    (first
      | (go_at_call 84; refine (neg_any _ y _ hy (hy'.below (below_al (below_al (below_al (Below.refl _ _) _) _) _).drew)).mono ?_; rintro e w1 ⟨v1, rfl, hn1, hb1⟩; have r0 : w1.cell? ⟨w.heap.size + 1 + 1, 0, none⟩ = some (.bool false) := keep_cell hb1 (by go_simp); have r1 : w1.cell? ⟨w.heap.size + 1 + 1, 1, none⟩ = some (.slice none 0 0) := keep_cell hb1 (by go_simp); have g0 : w1.frozen? ⟨w.heap.size + 1 + 1, 0, none⟩ = false := keep_free hb1 (v := .bool false) (by go_simp) (by go_simp); have g1 : w1.frozen? ⟨w.heap.size + 1 + 1, 1, none⟩ = false := keep_free hb1 (v := .slice none 0 0) (by go_simp) (by go_simp); have k0 : w1.cell? ⟨w.heap.size, 0, none⟩ = some (.bool p) := keep_cell hb1 (by go_simp); have k1 : w1.cell? ⟨w.heap.size, 1, none⟩ = some (.slice ao n ca) := keep_cell hb1 (by go_simp); have k2 : w1.cell? ⟨w.heap.size + 1, 0, none⟩ = some (.bool q) := keep_cell hb1 (by go_simp); have k3 : w1.cell? ⟨w.heap.size + 1, 1, none⟩ = some (.slice bo m cb) := keep_cell hb1 (by go_simp))
      | (go_at_call 65; refine (add_any _ _ x (-y) _ hx hyn (hx'.below (below_tr (below_al (below_al (below_al (Below.refl _ _) _) _) _).drew hb1)) hn1).mono ?_; rintro e w2 ⟨v2, rfl, ⟨d2, rfl, hd2⟩, hb2⟩; obtain ⟨a2, c2, hv2⟩ := hd2.lt; subst hv2; have q0 : w2.cell? ⟨w.heap.size + 1 + 1, 0, none⟩ = some (.bool false) := keep_cell hb2 r0; have q1 : w2.cell? ⟨w.heap.size + 1 + 1, 1, none⟩ = some (.slice none 0 0) := keep_cell hb2 r1; have f0 : w2.frozen? ⟨w.heap.size + 1 + 1, 0, none⟩ = false := keep_free hb2 r0 g0; have f1 : w2.frozen? ⟨w.heap.size + 1 + 1, 1, none⟩ = false := keep_free hb2 r1 g1))
  go_wp2
  have hB := (((below_tr (below_al (below_al (below_al (Below.refl _ w) _) _) _).drew (below_tr hb1 hb2)).setCell (p := ⟨w.heap.size + 1 + 1, 0, none⟩) (show w.heap.size ≤ w.heap.size + 1 + 1 by omega) (.bool (decide (x + -y < 0)))).setCell (p := ⟨w.heap.size + 1 + 1, 1, none⟩) (show w.heap.size ≤ w.heap.size + 1 + 1 by omega) (.slice a2 (digs (x + -y).natAbs).length c2))
  have hR := hd2.set2 q0 q1 (.bool (decide (x + -y < 0))) (.slice a2 (digs (x + -y).natAbs).length c2)
  refine bodyPost_ret (v := .agg #[.bool (decide (x + -y < 0)), .slice a2 (digs (x + -y).natAbs).length c2]) (by simp [results, Tryd.results67, go_sem, q0, q1]) rfl ⟨_, rfl, ?_, hB⟩
  rw [Int.sub_eq_add_neg]
  exact ⟨_, rfl, hR⟩

set_option maxHeartbeats 800000 in
/-- Cmp: how two compare. -/
theorem cmp_any (va vb : Value) (x y : Int) (w : World) (hx : (digs x.natAbs).length ≤ 1000000) (hy : (digs y.natAbs).length ≤ 1000000) (ha : IsNum w va x) (hb : IsNum w vb y) :
    Calls Tryd.prog 85 #[va, vb] w fun e w' => e = .returned (.int .i64 (x - y).sign) ∧ Below w.heap.size w w' := by
  have hx' := ha
  have hy' := hb
  have hl : (digs (x - y).natAbs).length ≤ 4000000 := by
    have h1 := length_add_le x.natAbs y.natAbs
    have h2 := length_le_of_le (show (x - y).natAbs ≤ x.natAbs + y.natAbs by omega)
    omega
  obtain ⟨da, rfl, hda⟩ := ha
  obtain ⟨db, rfl, hdb⟩ := hb
  obtain ⟨ao, ca, hda2⟩ := hda.lt
  obtain ⟨bo, cb, hdb2⟩ := hdb.lt
  obtain ⟨n, hn⟩ : ∃ n, n = (digs x.natAbs).length := ⟨_, rfl⟩
  obtain ⟨m, hm⟩ : ∃ n, n = (digs y.natAbs).length := ⟨_, rfl⟩
  rw [← hn] at hda2
  rw [← hm] at hdb2
  subst hda2 hdb2
  clear hn hm
  obtain ⟨p, hp⟩ : ∃ p, p = decide (x < 0) := ⟨_, rfl⟩
  obtain ⟨q, hq⟩ : ∃ p, p = decide (y < 0) := ⟨_, rfl⟩
  rw [← hp] at hx'
  rw [← hq] at hy'
  rw [← hp, ← hq]
  clear hp hq
  go_enter Tryd.func85, Tryd.ntmps85
  go_wp2_with fail
  refine (sub_any _ _ x y _ hx hy (hx'.below (below_al (below_al (Below.refl _ _) _) _)) (hy'.below (below_al (below_al (Below.refl _ _) _) _))).mono ?_
  rintro e w1 ⟨v1, rfl, hn1, hb1⟩
  go_wp2_with fail
  refine (sign_any _ (x - y) _ hl hn1).mono ?_
  rintro e w2 ⟨rfl, hb2⟩
  go_wp2
  go_ret
  exact ⟨rfl, below_tr (below_al (below_al (Below.refl _ _) _) _) (below_tr hb1 hb2)⟩

end Go.Proofs.YtgmagehgnjopcaaDoor
