/-
  Mul of the document's answer (radomeref01): the product of two numbers.
-/
import Derived.Test.YtiahijcdfeimgaaDoorRefE
import Derived.Test.YtiahijcdfeimgaaDoorPure
set_option linter.unusedSimpArgs false
set_option linter.unusedVariables false
namespace Go.Proofs.YtiahijcdfeimgaaDoor
open Go.RowKit Dec
namespace Dec

theorem mul_sign (x y : Int) : ((decide (x < 0) != decide (y < 0)) && decide (0 < x.natAbs * y.natAbs)) = decide (x * y < 0) := by
  have hp : 0 < x.natAbs * y.natAbs ↔ x ≠ 0 ∧ y ≠ 0 := by
    rw [Nat.pos_iff_ne_zero, Ne, Nat.mul_eq_zero, Int.natAbs_eq_zero, Int.natAbs_eq_zero]; omega
  rw [Bool.eq_iff_iff, Bool.and_eq_true, decide_eq_true_iff, decide_eq_true_iff, bne_iff_ne, hp]
  rcases Int.lt_trichotomy x 0 with hx | hx | hx
  · rcases Int.lt_trichotomy y 0 with hy | hy | hy
    · have := Int.mul_pos_of_neg_of_neg hx hy
      simp [hx, hy]; omega
    · subst hy; simp
    · have := Int.mul_neg_of_neg_of_pos hx hy
      simp [hx, this, show ¬ y < 0 by omega]; omega
  · subst hx; simp
  · rcases Int.lt_trichotomy y 0 with hy | hy | hy
    · have := Int.mul_neg_of_pos_of_neg hx hy
      simp [hy, this, show ¬ x < 0 by omega]; omega
    · subst hy; simp
    · have := Int.mul_pos hx hy
      simp [show ¬ x < 0 by omega, show ¬ y < 0 by omega]; omega

theorem mul_81 {a b : Nat} (ha : a < 10) (hb : b < 10) : ((a : Nat) : Int) * ((b : Nat) : Int) ≤ 81 := by
  have : a * b ≤ 9 * 9 := Nat.mul_le_mul (by omega) (by omega)
  have e : ((a : Nat) : Int) * ((b : Nat) : Int) = ((a * b : Nat) : Int) := (Int.natCast_mul a b).symm
  omega

theorem Own.drewN {B : Nat} {w0 w : World} {v : Value} {l : List Nat} (h : Own B w0 w v l) (n : Nat) : Own B w0 (w.drewN n) v l := ⟨h.row, below_drewN h.below n, h.base⟩

theorem Own.store {B : Nat} {w0 w : World} {g N c : Nat} {l : List Nat} (h : Own B w0 w (.slice (some ⟨g, 0, none⟩) N c) l) (hN : l.length = N) (hg : B ≤ g) (j : Nat) (z : Int) (d : Nat) (hz : z = (d : Int)) :
    Own B w0 (w.setCell ⟨g, j, none⟩ (.int .i64 z)) (.slice (some ⟨g, 0, none⟩) N c) (l.set j d) := by
  subst hz
  subst hN
  obtain ⟨h1, h2⟩ := h.row.stored j (.int .i64 (d : Int))
  refine ⟨?_, h.below.grown h2 h.base ?_, Nat.le_trans h.base h2.size⟩
  · rw [List.length_set]
    have e : vals (l.set j d) = (vals l).set j (.int .i64 (d : Int)) := by unfold vals; rw [List.map_set]
    rw [e]; exact h1
  · intro k hk
    cases hk; exact hg

theorem Own.at {B : Nat} {w0 w : World} {g N c : Nat} {l : List Nat} (h : Own B w0 w (.slice (some ⟨g, 0, none⟩) N c) l) (hN : l.length = N) {j : Nat} (hj : j < N) :
    w.cell? ⟨g, j, none⟩ = some (.int .i64 ((l.getD j 0 : Nat) : Int)) := by
  subst hN
  rw [h.row.cellAt j (by omega)]
  simp [vals, List.getD, List.getElem?_eq_getElem hj]

theorem Own.free {B : Nat} {w0 w : World} {g N c : Nat} {l : List Nat} (h : Own B w0 w (.slice (some ⟨g, 0, none⟩) N c) l) (hN : l.length = N) (j : Nat) : w.frozen? ⟨g, j, none⟩ = false := by
  subst hN
  exact h.row.frozenAt j

/-- What 'make' lays. -/
theorem own_made {B : Nat} {w0 w : World} {g N : Nat} (h : w.ownsRow B 3 1 (.slice (some ⟨g, 0, none⟩) N N) N (madeCells #[Value.int .i64 0] N).toList) (hg : w0.grownBy w none) (hB : B = w0.heap.size) :
    Own B w0 w (.slice (some ⟨g, 0, none⟩) N N) (List.replicate N 0) := by
  refine ⟨?_, (Below.refl _ _).grown hg (by omega) (by intro k hk; cases hk), by have := hg.size; omega⟩
  have e : (madeCells #[Value.int .i64 0] N).toList = vals (List.replicate N 0) := by
    rw [toList_madeCells_one]
    simp [vals]
  rw [e] at h
  simpa using h

end Dec

attribute [local go_sem ↓] Go.wp_at_zero Go.wp_at_succ

set_option maxRecDepth 100000 in
set_option maxHeartbeats 6400000 in
theorem mul_shape (p q : Bool) (ao bo : Option Addr) (ba oa ca bb ob cb n m N : Nat) (x y : List Nat) (w : World) (hn : n ≤ 1000000) (hm : m ≤ 1000000) (hx : x.length = n) (hy : y.length = m) (hN : N = n + m + 1) (hsx : Small x) (hsy : Small y)
    (hao : ao = some ⟨ba, oa, none⟩ ∨ (ao = none ∧ n = 0)) (hbo : bo = some ⟨bb, ob, none⟩ ∨ (bo = none ∧ m = 0))
    (hca : ∀ t, t < n → ba < w.heap.size ∧ w.cell? ⟨ba, oa + t, none⟩ = some (.int .i64 ((x.getD t 0 : Nat) : Int))) (hcb : ∀ t, t < m → bb < w.heap.size ∧ w.cell? ⟨bb, ob + t, none⟩ = some (.int .i64 ((y.getD t 0 : Nat) : Int))) :
    Calls Tryd.prog 20 #[.agg #[.bool p, .slice ao n ca], .agg #[.bool q, .slice bo m cb]] w fun e w' => ∃ d, e = .returned (.agg #[.bool ((p != q) && decide (0 < val x * val y)), d]) ∧ Rd w' d (digs (val x * val y)) ∧ Below w.heap.size w w' := by
  have Hx : Hid (x.length = n) := hx
  have Hy : Hid (y.length = m) := hy
  have HN : Hid (N = n + m + 1) := hN
  have hN1 : N ≤ n + m + 1 := by omega
  have hN2 : n + m + 1 ≤ N := by omega
  have hst : MulAt x y 0 0 (List.replicate N 0) 0 := by
    rw [hN, ← hx, ← hy]; exact mulAt_start x y
  have hs4 : (digs (val x * val y)).length ≤ 4000000 := by
    refine Nat.le_trans (length_digs_le (k := n + m) ?_) (by omega)
    have a1 := val_lt hsx
    have a2 := val_lt hsy
    rw [hx] at a1
    rw [hy] at a2
    rw [Nat.pow_add]
    rcases Nat.eq_zero_or_pos (val y) with h | h
    · rw [h, Nat.mul_zero]; exact Nat.mul_pos (Nat.pow_pos (by omega)) (Nat.pow_pos (by omega))
    · exact Nat.lt_of_lt_of_le (Nat.mul_lt_mul_of_pos_right a1 h) (Nat.mul_le_mul_left _ (by omega))
  clear hx hy hN
  obtain ⟨i0, hi, hz0, hz1, hz2⟩ := info_parts Tryd.infoInt
  rcases hao with rfl | ⟨rfl, rfl⟩
  · rcases hbo with rfl | ⟨rfl, rfl⟩
    · go_enter Tryd.func20, Tryd.ntmps20
      go_wp2_with (at_make; refine wpList_make_full _ rfl _ _ 46 rfl (w.heap.size + 1 + 1 + 1) 3 i0 (.int .i64 0) 1 Tryd.underlying46 hi hz0 hz1 _ _ _ _ N rfl rfl (by omega) (by omega) (by rw [hz2]; omega) (by unfold maxLen; omega) (by simp) ?_)
      intro w0 hown0 hgrow0
      have hO0 : Own (w.heap.size + 1 + 1 + 1) (((w.alloc (.cells #[.bool p, .slice (some ⟨ba, oa, none⟩) n ca] 48)).alloc (.cells #[.bool q, .slice (some ⟨bb, ob, none⟩) m cb] 48)).alloc (.cells #[.bool false, .slice none 0 0] 48)) w0 (.slice (some ⟨w.heap.size + 1 + 1 + 1, 0, none⟩) N N) (List.replicate N 0) := own_made hown0 hgrow0 (by simp)
      clear hown0 hgrow0
      go_wp2
      go_loopw [6] (fun i wr => ∃ (k : Nat) (l : List Nat), i = .int .i64 k ∧ k ≤ n ∧ MulAt x y k 0 l 0 ∧ Own (w.heap.size + 1 + 1 + 1) (((w.alloc (.cells #[.bool p, .slice (some ⟨ba, oa, none⟩) n ca] 48)).alloc (.cells #[.bool q, .slice (some ⟨bb, ob, none⟩) m cb] 48)).alloc (.cells #[.bool false, .slice none 0 0] 48)) wr (.slice (some ⟨w.heap.size + 1 + 1 + 1, 0, none⟩) N N) l) (fun i _ => n - (intOf i).toNat)
      case atStart => exact ⟨0, _, rfl, Nat.zero_le _, hst, hO0⟩
      case round =>
        obtain ⟨k, l, rfl, hk, hmu, hown⟩ := hrel
        have kA : wr.cell? ⟨w.heap.size, 1, none⟩ = some (.slice (some ⟨ba, oa, none⟩) n ca) := (hown.below.cell (p := ⟨w.heap.size, 1, none⟩) (show w.heap.size < w.heap.size + 1 + 1 + 1 by omega)).trans (by go_simp)
        have kB : wr.cell? ⟨w.heap.size + 1, 1, none⟩ = some (.slice (some ⟨bb, ob, none⟩) m cb) := (hown.below.cell (p := ⟨w.heap.size + 1, 1, none⟩) (show w.heap.size + 1 < w.heap.size + 1 + 1 + 1 by omega)).trans (by go_simp)
        by_cases h1 : k < n
        · go_wp2
          go_loopw [7, 8] (fun c j ws => ∃ (t cc : Nat) (l : List Nat), j = .int .i64 t ∧ c = .int .i64 cc ∧ cc ≤ 9 ∧ t ≤ m + 1 ∧ MulAt x y k t l cc ∧ Own (w.heap.size + 1 + 1 + 1) (((w.alloc (.cells #[.bool p, .slice (some ⟨ba, oa, none⟩) n ca] 48)).alloc (.cells #[.bool q, .slice (some ⟨bb, ob, none⟩) m cb] 48)).alloc (.cells #[.bool false, .slice none 0 0] 48)) ws (.slice (some ⟨w.heap.size + 1 + 1 + 1, 0, none⟩) N N) l) (fun _ j _ => m + 1 - (intOf j).toNat)
          case atStart => exact ⟨0, 0, l, rfl, rfl, by omega, by omega, hmu, hown⟩
          case round =>
            obtain ⟨t, cc, l1, rfl, rfl, hcc, ht, hmu1, hown1⟩ := hrel
            clear kA kB hmu hown
            have hl1 : Hid (l1.length = N) := by have := hmu1.1; rw [Hx.out, Hy.out] at this; rw [HN.out]; exact this
            have kA : wr.cell? ⟨w.heap.size, 1, none⟩ = some (.slice (some ⟨ba, oa, none⟩) n ca) := (hown1.below.cell (p := ⟨w.heap.size, 1, none⟩) (show w.heap.size < w.heap.size + 1 + 1 + 1 by omega)).trans (by go_simp)
            have kB : wr.cell? ⟨w.heap.size + 1, 1, none⟩ = some (.slice (some ⟨bb, ob, none⟩) m cb) := (hown1.below.cell (p := ⟨w.heap.size + 1, 1, none⟩) (show w.heap.size + 1 < w.heap.size + 1 + 1 + 1 by omega)).trans (by go_simp)
            by_cases ht1 : t ≤ m
            · have kO : wr.cell? ⟨w.heap.size + 1 + 1 + 1, k + t, none⟩ = some (.int .i64 ((l1.getD (k + t) 0 : Nat) : Int)) := hown1.at hl1.out (by omega)
              have fO : wr.frozen? ⟨w.heap.size + 1 + 1 + 1, k + t, none⟩ = false := hown1.free hl1.out _
              have dl := hmu1.2.1 (k + t)
              simp only [List.getD] at dl
              by_cases ht2 : t < m
              · have ga : wr.cell? ⟨ba, oa + k, none⟩ = some (.int .i64 ((x.getD k 0 : Nat) : Int)) := ((hown1.below.cell (p := ⟨ba, oa + k, none⟩) (by have := (hca k (by omega)).1; show ba < _; omega)).trans ((below_al (below_al (below_al (Below.refl _ w) _) _) _).cell (p := ⟨ba, oa + k, none⟩) (hca k (by omega)).1)).trans (hca k (by omega)).2
                have gb : wr.cell? ⟨bb, ob + t, none⟩ = some (.int .i64 ((y.getD t 0 : Nat) : Int)) := ((hown1.below.cell (p := ⟨bb, ob + t, none⟩) (by have := (hcb t ht2).1; show bb < _; omega)).trans ((below_al (below_al (below_al (Below.refl _ w) _) _) _).cell (p := ⟨bb, ob + t, none⟩) (hcb t ht2).1)).trans (hcb t ht2).2
                have dx := hsx k
                have dy := hsy t
                simp only [List.getD] at dx dy
                have pr0 : (0 : Int) ≤ ((x[k]?.getD 0 : Nat) : Int) * ((y[t]?.getD 0 : Nat) : Int) := Int.mul_nonneg (by omega) (by omega)
                have pr1 : ((x[k]?.getD 0 : Nat) : Int) * ((y[t]?.getD 0 : Nat) : Int) ≤ 81 := mul_81 dx dy
                go_wp2
                go_quiet (fail)
                go_wp2
                go_roundw
                case rel =>
                  have hs := mulAt_step hmu1 hsx hsy (by rw [hl1.out]; omega) (rfl : (l1.getD (k + t) 0 + cc + x.getD k 0 * y.getD t 0) = _)
                  refine ⟨t + 1, (l1.getD (k + t) 0 + cc + x.getD k 0 * y.getD t 0) / 10, _, by go_num, ?_, hs.2.2.1, by omega, hs, (hown1.drewN _).store hl1.out (Nat.le_refl _) _ _ _ ?_⟩
                  · refine congrArg (Value.int .i64) ?_; simp only [List.getD]; omega
                  · simp only [List.getD]; omega
                case measure => simp [intOf]; omega
              · go_wp2
                go_roundw
                case rel =>
                  have hy0 : y[t]?.getD 0 = 0 := by simp [List.getElem?_eq_none (show y.length ≤ t by rw [Hy.out]; omega)]
                  have hs := mulAt_step hmu1 hsx hsy (by rw [hl1.out]; omega) (rfl : (l1.getD (k + t) 0 + cc + x.getD k 0 * y.getD t 0) = _)
                  refine ⟨t + 1, (l1.getD (k + t) 0 + cc + x.getD k 0 * y.getD t 0) / 10, _, by go_num, ?_, hs.2.2.1, by omega, hs, hown1.store hl1.out (Nat.le_refl _) _ _ _ ?_⟩
                  · refine congrArg (Value.int .i64) ?_; simp only [List.getD]; rw [hy0, Nat.mul_zero]; omega
                  · simp only [List.getD]; rw [hy0, Nat.mul_zero]; omega
                case measure => simp [intOf]; omega
            · go_wp2
              go_roundw
              case rel =>
                have e : t = y.length + 1 := by rw [Hy.out]; omega
                rw [e] at hmu1
                exact ⟨k + 1, l1, by go_num, by omega, mulAt_next hmu1 hsx hsy, hown1⟩
              case measure => simp [intOf]; omega
        · have hend := mulAt_end hmu (by rw [Hx.out]; omega)
          have Hend := Hid.mk' hend
          clear hend
          have hrd0 := hown.rd
          have hbel := hown.below
          have j0 : wr.cell? ⟨w.heap.size, 0, none⟩ = some (.bool p) := (hown.below.cell (p := ⟨w.heap.size, 0, none⟩) (show w.heap.size < w.heap.size + 1 + 1 + 1 by omega)).trans (by go_simp)
          have j1 : wr.cell? ⟨w.heap.size + 1, 0, none⟩ = some (.bool q) := (hown.below.cell (p := ⟨w.heap.size + 1, 0, none⟩) (show w.heap.size + 1 < w.heap.size + 1 + 1 + 1 by omega)).trans (by go_simp)
          have r0 : wr.cell? ⟨w.heap.size + 1 + 1, 0, none⟩ = some (.bool false) := (hown.below.cell (p := ⟨w.heap.size + 1 + 1, 0, none⟩) (show w.heap.size + 1 + 1 < w.heap.size + 1 + 1 + 1 by omega)).trans (by go_simp)
          have r1 : wr.cell? ⟨w.heap.size + 1 + 1, 1, none⟩ = some (.slice none 0 0) := (hown.below.cell (p := ⟨w.heap.size + 1 + 1, 1, none⟩) (show w.heap.size + 1 + 1 < w.heap.size + 1 + 1 + 1 by omega)).trans (by go_simp)
          have g0 : wr.frozen? ⟨w.heap.size + 1 + 1, 0, none⟩ = false := (hown.below.frozen (p := ⟨w.heap.size + 1 + 1, 0, none⟩) (show w.heap.size + 1 + 1 < w.heap.size + 1 + 1 + 1 by omega)).trans (by go_simp)
          have g1 : wr.frozen? ⟨w.heap.size + 1 + 1, 1, none⟩ = false := (hown.below.frozen (p := ⟨w.heap.size + 1 + 1, 1, none⟩) (show w.heap.size + 1 + 1 < w.heap.size + 1 + 1 + 1 by omega)).trans (by go_simp)
          clear hown
          go_wp2
          go_region_held3 (fun w' => w'.cell? ⟨w.heap.size, 0, none⟩ = some (.bool p) ∧ w'.cell? ⟨w.heap.size + 1, 0, none⟩ = some (.bool q)) (first | exact ⟨keep_set (keep_set (keep_cell hb2 j0) (show w.heap.size ≠ w.heap.size + 1 + 1 by omega) _) (show w.heap.size ≠ w.heap.size + 1 + 1 by omega) _, keep_set (keep_set (keep_cell hb2 j1) (show w.heap.size + 1 ≠ w.heap.size + 1 + 1 by omega) _) (show w.heap.size + 1 ≠ w.heap.size + 1 + 1 by omega) _⟩ | exact ⟨keep_cell hb2 j0, keep_cell hb2 j1⟩ | exact ⟨j0, j1⟩ | go_keep)
            (first
              | (go_at_call 42; refine (trim_any _ _ _ Hend.out.1 (by rw [Hend.out.2.2, Hx.out, Hy.out]; omega) (hrd0.below (Below.refl _ _).drew (Nat.le_refl _))).mono ?_; rintro e w1 ⟨v1, rfl, hrd1, rfl⟩; rw [Hend.out.2.1] at hrd1; obtain ⟨a1, c1, hv1⟩ := hrd1.lt; subst hv1)
              | (go_at_call 41; refine (num_any _ _ (val x * val y) _ hs4 hrd1).mono ?_; rintro e w2 ⟨rfl, hb2⟩; have q0 : w2.cell? ⟨w.heap.size + 1 + 1, 0, none⟩ = some (.bool false) := keep_cell hb2 r0; have q1 : w2.cell? ⟨w.heap.size + 1 + 1, 1, none⟩ = some (.slice none 0 0) := keep_cell hb2 r1; have f0 : w2.frozen? ⟨w.heap.size + 1 + 1, 0, none⟩ = false := keep_free hb2 r0 g0; have f1 : w2.frozen? ⟨w.heap.size + 1 + 1, 1, none⟩ = false := keep_free hb2 r1 g1))
          go_wp2
          have hB := (((below_tr (below_tr (below_al (below_al (below_al (Below.refl _ w) _) _) _) (hbel.mono (by simp))).drew hb2).setCell (p := ⟨w.heap.size + 1 + 1, 0, none⟩) (show w.heap.size ≤ w.heap.size + 1 + 1 by omega) (.bool ((p != q) && decide (0 < val x * val y)))).setCell (p := ⟨w.heap.size + 1 + 1, 1, none⟩) (show w.heap.size ≤ w.heap.size + 1 + 1 by omega) (.slice a1 (digs (val x * val y)).length c1))
          have hR := (hrd1.below hb2 (Nat.le_refl _)).set2 q0 q1 (.bool ((p != q) && decide (0 < val x * val y))) (.slice a1 (digs (val x * val y)).length c1)
          exact bodyPost_ret (v := .agg #[.bool ((p != q) && decide (0 < val x * val y)), .slice a1 (digs (val x * val y)).length c1]) (by simp [results, Tryd.results20, go_sem, q0, q1]; cases p <;> cases q <;> rfl) rfl ⟨_, rfl, hR, hB⟩
    · go_enter Tryd.func20, Tryd.ntmps20
      go_wp2_with (at_make; refine wpList_make_full _ rfl _ _ 46 rfl (w.heap.size + 1 + 1 + 1) 3 i0 (.int .i64 0) 1 Tryd.underlying46 hi hz0 hz1 _ _ _ _ N rfl rfl (by omega) (by omega) (by rw [hz2]; omega) (by unfold maxLen; omega) (by simp) ?_)
      intro w0 hown0 hgrow0
      have hO0 : Own (w.heap.size + 1 + 1 + 1) (((w.alloc (.cells #[.bool p, .slice (some ⟨ba, oa, none⟩) n ca] 48)).alloc (.cells #[.bool q, .slice none 0 cb] 48)).alloc (.cells #[.bool false, .slice none 0 0] 48)) w0 (.slice (some ⟨w.heap.size + 1 + 1 + 1, 0, none⟩) N N) (List.replicate N 0) := own_made hown0 hgrow0 (by simp)
      clear hown0 hgrow0
      go_wp2
      go_loopw [6] (fun i wr => ∃ (k : Nat) (l : List Nat), i = .int .i64 k ∧ k ≤ n ∧ MulAt x y k 0 l 0 ∧ Own (w.heap.size + 1 + 1 + 1) (((w.alloc (.cells #[.bool p, .slice (some ⟨ba, oa, none⟩) n ca] 48)).alloc (.cells #[.bool q, .slice none 0 cb] 48)).alloc (.cells #[.bool false, .slice none 0 0] 48)) wr (.slice (some ⟨w.heap.size + 1 + 1 + 1, 0, none⟩) N N) l) (fun i _ => n - (intOf i).toNat)
      case atStart => exact ⟨0, _, rfl, Nat.zero_le _, hst, hO0⟩
      case round =>
        obtain ⟨k, l, rfl, hk, hmu, hown⟩ := hrel
        have kA : wr.cell? ⟨w.heap.size, 1, none⟩ = some (.slice (some ⟨ba, oa, none⟩) n ca) := (hown.below.cell (p := ⟨w.heap.size, 1, none⟩) (show w.heap.size < w.heap.size + 1 + 1 + 1 by omega)).trans (by go_simp)
        have kB : wr.cell? ⟨w.heap.size + 1, 1, none⟩ = some (.slice none 0 cb) := (hown.below.cell (p := ⟨w.heap.size + 1, 1, none⟩) (show w.heap.size + 1 < w.heap.size + 1 + 1 + 1 by omega)).trans (by go_simp)
        by_cases h1 : k < n
        · go_wp2
          go_loopw [7, 8] (fun c j ws => ∃ (t cc : Nat) (l : List Nat), j = .int .i64 t ∧ c = .int .i64 cc ∧ cc ≤ 9 ∧ t ≤ 0 + 1 ∧ MulAt x y k t l cc ∧ Own (w.heap.size + 1 + 1 + 1) (((w.alloc (.cells #[.bool p, .slice (some ⟨ba, oa, none⟩) n ca] 48)).alloc (.cells #[.bool q, .slice none 0 cb] 48)).alloc (.cells #[.bool false, .slice none 0 0] 48)) ws (.slice (some ⟨w.heap.size + 1 + 1 + 1, 0, none⟩) N N) l) (fun _ j _ => 0 + 1 - (intOf j).toNat)
          case atStart => exact ⟨0, 0, l, rfl, rfl, by omega, by omega, hmu, hown⟩
          case round =>
            obtain ⟨t, cc, l1, rfl, rfl, hcc, ht, hmu1, hown1⟩ := hrel
            clear kA kB hmu hown
            have hl1 : Hid (l1.length = N) := by have := hmu1.1; rw [Hx.out, Hy.out] at this; rw [HN.out]; exact this
            have kA : wr.cell? ⟨w.heap.size, 1, none⟩ = some (.slice (some ⟨ba, oa, none⟩) n ca) := (hown1.below.cell (p := ⟨w.heap.size, 1, none⟩) (show w.heap.size < w.heap.size + 1 + 1 + 1 by omega)).trans (by go_simp)
            have kB : wr.cell? ⟨w.heap.size + 1, 1, none⟩ = some (.slice none 0 cb) := (hown1.below.cell (p := ⟨w.heap.size + 1, 1, none⟩) (show w.heap.size + 1 < w.heap.size + 1 + 1 + 1 by omega)).trans (by go_simp)
            by_cases ht1 : t ≤ 0
            · have ht0 : t = 0 := by omega
              subst ht0
              have kO : wr.cell? ⟨w.heap.size + 1 + 1 + 1, k, none⟩ = some (.int .i64 ((l1.getD k 0 : Nat) : Int)) := hown1.at hl1.out (by omega)
              have fO : wr.frozen? ⟨w.heap.size + 1 + 1 + 1, k, none⟩ = false := hown1.free hl1.out _
              have dl := hmu1.2.1 k
              simp only [List.getD] at dl
              go_wp2
              go_roundw
              case rel =>
                have hy0 : y[0]?.getD 0 = 0 := by simp [List.getElem?_eq_none (show y.length ≤ 0 by rw [Hy.out]; omega)]
                have hs := mulAt_step hmu1 hsx hsy (by rw [hl1.out]; omega) (rfl : (l1.getD (k + 0) 0 + cc + x.getD k 0 * y.getD 0 0) = _)
                simp only [Nat.add_zero, Nat.zero_add] at hs
                refine ⟨1, (l1.getD k 0 + cc + x.getD k 0 * y.getD 0 0) / 10, _, by go_num, ?_, hs.2.2.1, by omega, hs, hown1.store hl1.out (Nat.le_refl _) _ _ _ ?_⟩
                · refine congrArg (Value.int .i64) ?_; simp only [List.getD]; rw [hy0, Nat.mul_zero]; omega
                · simp only [List.getD]; rw [hy0, Nat.mul_zero]; omega
              case measure => simp [intOf]
            · go_wp2
              go_roundw
              case rel =>
                have e : t = y.length + 1 := by rw [Hy.out]; omega
                rw [e] at hmu1
                exact ⟨k + 1, l1, by go_num, by omega, mulAt_next hmu1 hsx hsy, hown1⟩
              case measure => simp [intOf]; omega
        · have hend := mulAt_end hmu (by rw [Hx.out]; omega)
          have Hend := Hid.mk' hend
          clear hend
          have hrd0 := hown.rd
          have hbel := hown.below
          have j0 : wr.cell? ⟨w.heap.size, 0, none⟩ = some (.bool p) := (hown.below.cell (p := ⟨w.heap.size, 0, none⟩) (show w.heap.size < w.heap.size + 1 + 1 + 1 by omega)).trans (by go_simp)
          have j1 : wr.cell? ⟨w.heap.size + 1, 0, none⟩ = some (.bool q) := (hown.below.cell (p := ⟨w.heap.size + 1, 0, none⟩) (show w.heap.size + 1 < w.heap.size + 1 + 1 + 1 by omega)).trans (by go_simp)
          have r0 : wr.cell? ⟨w.heap.size + 1 + 1, 0, none⟩ = some (.bool false) := (hown.below.cell (p := ⟨w.heap.size + 1 + 1, 0, none⟩) (show w.heap.size + 1 + 1 < w.heap.size + 1 + 1 + 1 by omega)).trans (by go_simp)
          have r1 : wr.cell? ⟨w.heap.size + 1 + 1, 1, none⟩ = some (.slice none 0 0) := (hown.below.cell (p := ⟨w.heap.size + 1 + 1, 1, none⟩) (show w.heap.size + 1 + 1 < w.heap.size + 1 + 1 + 1 by omega)).trans (by go_simp)
          have g0 : wr.frozen? ⟨w.heap.size + 1 + 1, 0, none⟩ = false := (hown.below.frozen (p := ⟨w.heap.size + 1 + 1, 0, none⟩) (show w.heap.size + 1 + 1 < w.heap.size + 1 + 1 + 1 by omega)).trans (by go_simp)
          have g1 : wr.frozen? ⟨w.heap.size + 1 + 1, 1, none⟩ = false := (hown.below.frozen (p := ⟨w.heap.size + 1 + 1, 1, none⟩) (show w.heap.size + 1 + 1 < w.heap.size + 1 + 1 + 1 by omega)).trans (by go_simp)
          clear hown
          go_wp2
          go_region_held3 (fun w' => w'.cell? ⟨w.heap.size, 0, none⟩ = some (.bool p) ∧ w'.cell? ⟨w.heap.size + 1, 0, none⟩ = some (.bool q)) (first | exact ⟨keep_set (keep_set (keep_cell hb2 j0) (show w.heap.size ≠ w.heap.size + 1 + 1 by omega) _) (show w.heap.size ≠ w.heap.size + 1 + 1 by omega) _, keep_set (keep_set (keep_cell hb2 j1) (show w.heap.size + 1 ≠ w.heap.size + 1 + 1 by omega) _) (show w.heap.size + 1 ≠ w.heap.size + 1 + 1 by omega) _⟩ | exact ⟨keep_cell hb2 j0, keep_cell hb2 j1⟩ | exact ⟨j0, j1⟩ | go_keep)
            (first
              | (go_at_call 42; refine (trim_any _ _ _ Hend.out.1 (by rw [Hend.out.2.2, Hx.out, Hy.out]; omega) (hrd0.below (Below.refl _ _).drew (Nat.le_refl _))).mono ?_; rintro e w1 ⟨v1, rfl, hrd1, rfl⟩; rw [Hend.out.2.1] at hrd1; obtain ⟨a1, c1, hv1⟩ := hrd1.lt; subst hv1)
              | (go_at_call 41; refine (num_any _ _ (val x * val y) _ hs4 hrd1).mono ?_; rintro e w2 ⟨rfl, hb2⟩; have q0 : w2.cell? ⟨w.heap.size + 1 + 1, 0, none⟩ = some (.bool false) := keep_cell hb2 r0; have q1 : w2.cell? ⟨w.heap.size + 1 + 1, 1, none⟩ = some (.slice none 0 0) := keep_cell hb2 r1; have f0 : w2.frozen? ⟨w.heap.size + 1 + 1, 0, none⟩ = false := keep_free hb2 r0 g0; have f1 : w2.frozen? ⟨w.heap.size + 1 + 1, 1, none⟩ = false := keep_free hb2 r1 g1))
          go_wp2
          have hB := (((below_tr (below_tr (below_al (below_al (below_al (Below.refl _ w) _) _) _) (hbel.mono (by simp))).drew hb2).setCell (p := ⟨w.heap.size + 1 + 1, 0, none⟩) (show w.heap.size ≤ w.heap.size + 1 + 1 by omega) (.bool ((p != q) && decide (0 < val x * val y)))).setCell (p := ⟨w.heap.size + 1 + 1, 1, none⟩) (show w.heap.size ≤ w.heap.size + 1 + 1 by omega) (.slice a1 (digs (val x * val y)).length c1))
          have hR := (hrd1.below hb2 (Nat.le_refl _)).set2 q0 q1 (.bool ((p != q) && decide (0 < val x * val y))) (.slice a1 (digs (val x * val y)).length c1)
          exact bodyPost_ret (v := .agg #[.bool ((p != q) && decide (0 < val x * val y)), .slice a1 (digs (val x * val y)).length c1]) (by simp [results, Tryd.results20, go_sem, q0, q1]; cases p <;> cases q <;> rfl) rfl ⟨_, rfl, hR, hB⟩
  · rcases hbo with rfl | ⟨rfl, rfl⟩
    · go_enter Tryd.func20, Tryd.ntmps20
      go_wp2_with (at_make; refine wpList_make_full _ rfl _ _ 46 rfl (w.heap.size + 1 + 1 + 1) 3 i0 (.int .i64 0) 1 Tryd.underlying46 hi hz0 hz1 _ _ _ _ N rfl rfl (by omega) (by omega) (by rw [hz2]; omega) (by unfold maxLen; omega) (by simp) ?_)
      intro w0 hown0 hgrow0
      have hO0 : Own (w.heap.size + 1 + 1 + 1) (((w.alloc (.cells #[.bool p, .slice none 0 ca] 48)).alloc (.cells #[.bool q, .slice (some ⟨bb, ob, none⟩) m cb] 48)).alloc (.cells #[.bool false, .slice none 0 0] 48)) w0 (.slice (some ⟨w.heap.size + 1 + 1 + 1, 0, none⟩) N N) (List.replicate N 0) := own_made hown0 hgrow0 (by simp)
      clear hown0 hgrow0
      go_wp2
      go_loopw [6] (fun i wr => ∃ (k : Nat) (l : List Nat), i = .int .i64 k ∧ k ≤ 0 ∧ MulAt x y k 0 l 0 ∧ Own (w.heap.size + 1 + 1 + 1) (((w.alloc (.cells #[.bool p, .slice none 0 ca] 48)).alloc (.cells #[.bool q, .slice (some ⟨bb, ob, none⟩) m cb] 48)).alloc (.cells #[.bool false, .slice none 0 0] 48)) wr (.slice (some ⟨w.heap.size + 1 + 1 + 1, 0, none⟩) N N) l) (fun i _ => 0 - (intOf i).toNat)
      case atStart => exact ⟨0, _, rfl, Nat.zero_le _, hst, hO0⟩
      case round =>
        obtain ⟨k, l, rfl, hk, hmu, hown⟩ := hrel
        have kA : wr.cell? ⟨w.heap.size, 1, none⟩ = some (.slice none 0 ca) := (hown.below.cell (p := ⟨w.heap.size, 1, none⟩) (show w.heap.size < w.heap.size + 1 + 1 + 1 by omega)).trans (by go_simp)
        have kB : wr.cell? ⟨w.heap.size + 1, 1, none⟩ = some (.slice (some ⟨bb, ob, none⟩) m cb) := (hown.below.cell (p := ⟨w.heap.size + 1, 1, none⟩) (show w.heap.size + 1 < w.heap.size + 1 + 1 + 1 by omega)).trans (by go_simp)
        have hend := mulAt_end hmu (by rw [Hx.out]; omega)
        have Hend := Hid.mk' hend
        clear hend
        have hrd0 := hown.rd
        have hbel := hown.below
        have j0 : wr.cell? ⟨w.heap.size, 0, none⟩ = some (.bool p) := (hown.below.cell (p := ⟨w.heap.size, 0, none⟩) (show w.heap.size < w.heap.size + 1 + 1 + 1 by omega)).trans (by go_simp)
        have j1 : wr.cell? ⟨w.heap.size + 1, 0, none⟩ = some (.bool q) := (hown.below.cell (p := ⟨w.heap.size + 1, 0, none⟩) (show w.heap.size + 1 < w.heap.size + 1 + 1 + 1 by omega)).trans (by go_simp)
        have r0 : wr.cell? ⟨w.heap.size + 1 + 1, 0, none⟩ = some (.bool false) := (hown.below.cell (p := ⟨w.heap.size + 1 + 1, 0, none⟩) (show w.heap.size + 1 + 1 < w.heap.size + 1 + 1 + 1 by omega)).trans (by go_simp)
        have r1 : wr.cell? ⟨w.heap.size + 1 + 1, 1, none⟩ = some (.slice none 0 0) := (hown.below.cell (p := ⟨w.heap.size + 1 + 1, 1, none⟩) (show w.heap.size + 1 + 1 < w.heap.size + 1 + 1 + 1 by omega)).trans (by go_simp)
        have g0 : wr.frozen? ⟨w.heap.size + 1 + 1, 0, none⟩ = false := (hown.below.frozen (p := ⟨w.heap.size + 1 + 1, 0, none⟩) (show w.heap.size + 1 + 1 < w.heap.size + 1 + 1 + 1 by omega)).trans (by go_simp)
        have g1 : wr.frozen? ⟨w.heap.size + 1 + 1, 1, none⟩ = false := (hown.below.frozen (p := ⟨w.heap.size + 1 + 1, 1, none⟩) (show w.heap.size + 1 + 1 < w.heap.size + 1 + 1 + 1 by omega)).trans (by go_simp)
        clear hown
        go_wp2
        go_region_held3 (fun w' => w'.cell? ⟨w.heap.size, 0, none⟩ = some (.bool p) ∧ w'.cell? ⟨w.heap.size + 1, 0, none⟩ = some (.bool q)) (first | exact ⟨keep_set (keep_set (keep_cell hb2 j0) (show w.heap.size ≠ w.heap.size + 1 + 1 by omega) _) (show w.heap.size ≠ w.heap.size + 1 + 1 by omega) _, keep_set (keep_set (keep_cell hb2 j1) (show w.heap.size + 1 ≠ w.heap.size + 1 + 1 by omega) _) (show w.heap.size + 1 ≠ w.heap.size + 1 + 1 by omega) _⟩ | exact ⟨keep_cell hb2 j0, keep_cell hb2 j1⟩ | exact ⟨j0, j1⟩ | go_keep)
          (first
            | (go_at_call 42; refine (trim_any _ _ _ Hend.out.1 (by rw [Hend.out.2.2, Hx.out, Hy.out]; omega) (hrd0.below (Below.refl _ _).drew (Nat.le_refl _))).mono ?_; rintro e w1 ⟨v1, rfl, hrd1, rfl⟩; rw [Hend.out.2.1] at hrd1; obtain ⟨a1, c1, hv1⟩ := hrd1.lt; subst hv1)
            | (go_at_call 41; refine (num_any _ _ (val x * val y) _ hs4 hrd1).mono ?_; rintro e w2 ⟨rfl, hb2⟩; have q0 : w2.cell? ⟨w.heap.size + 1 + 1, 0, none⟩ = some (.bool false) := keep_cell hb2 r0; have q1 : w2.cell? ⟨w.heap.size + 1 + 1, 1, none⟩ = some (.slice none 0 0) := keep_cell hb2 r1; have f0 : w2.frozen? ⟨w.heap.size + 1 + 1, 0, none⟩ = false := keep_free hb2 r0 g0; have f1 : w2.frozen? ⟨w.heap.size + 1 + 1, 1, none⟩ = false := keep_free hb2 r1 g1))
        go_wp2
        have hB := (((below_tr (below_tr (below_al (below_al (below_al (Below.refl _ w) _) _) _) (hbel.mono (by simp))).drew hb2).setCell (p := ⟨w.heap.size + 1 + 1, 0, none⟩) (show w.heap.size ≤ w.heap.size + 1 + 1 by omega) (.bool ((p != q) && decide (0 < val x * val y)))).setCell (p := ⟨w.heap.size + 1 + 1, 1, none⟩) (show w.heap.size ≤ w.heap.size + 1 + 1 by omega) (.slice a1 (digs (val x * val y)).length c1))
        have hR := (hrd1.below hb2 (Nat.le_refl _)).set2 q0 q1 (.bool ((p != q) && decide (0 < val x * val y))) (.slice a1 (digs (val x * val y)).length c1)
        exact bodyPost_ret (v := .agg #[.bool ((p != q) && decide (0 < val x * val y)), .slice a1 (digs (val x * val y)).length c1]) (by simp [results, Tryd.results20, go_sem, q0, q1]; cases p <;> cases q <;> rfl) rfl ⟨_, rfl, hR, hB⟩
    · go_enter Tryd.func20, Tryd.ntmps20
      go_wp2_with (at_make; refine wpList_make_full _ rfl _ _ 46 rfl (w.heap.size + 1 + 1 + 1) 3 i0 (.int .i64 0) 1 Tryd.underlying46 hi hz0 hz1 _ _ _ _ N rfl rfl (by omega) (by omega) (by rw [hz2]; omega) (by unfold maxLen; omega) (by simp) ?_)
      intro w0 hown0 hgrow0
      have hO0 : Own (w.heap.size + 1 + 1 + 1) (((w.alloc (.cells #[.bool p, .slice none 0 ca] 48)).alloc (.cells #[.bool q, .slice none 0 cb] 48)).alloc (.cells #[.bool false, .slice none 0 0] 48)) w0 (.slice (some ⟨w.heap.size + 1 + 1 + 1, 0, none⟩) N N) (List.replicate N 0) := own_made hown0 hgrow0 (by simp)
      clear hown0 hgrow0
      go_wp2
      go_loopw [6] (fun i wr => ∃ (k : Nat) (l : List Nat), i = .int .i64 k ∧ k ≤ 0 ∧ MulAt x y k 0 l 0 ∧ Own (w.heap.size + 1 + 1 + 1) (((w.alloc (.cells #[.bool p, .slice none 0 ca] 48)).alloc (.cells #[.bool q, .slice none 0 cb] 48)).alloc (.cells #[.bool false, .slice none 0 0] 48)) wr (.slice (some ⟨w.heap.size + 1 + 1 + 1, 0, none⟩) N N) l) (fun i _ => 0 - (intOf i).toNat)
      case atStart => exact ⟨0, _, rfl, Nat.zero_le _, hst, hO0⟩
      case round =>
        obtain ⟨k, l, rfl, hk, hmu, hown⟩ := hrel
        have kA : wr.cell? ⟨w.heap.size, 1, none⟩ = some (.slice none 0 ca) := (hown.below.cell (p := ⟨w.heap.size, 1, none⟩) (show w.heap.size < w.heap.size + 1 + 1 + 1 by omega)).trans (by go_simp)
        have kB : wr.cell? ⟨w.heap.size + 1, 1, none⟩ = some (.slice none 0 cb) := (hown.below.cell (p := ⟨w.heap.size + 1, 1, none⟩) (show w.heap.size + 1 < w.heap.size + 1 + 1 + 1 by omega)).trans (by go_simp)
        have hend := mulAt_end hmu (by rw [Hx.out]; omega)
        have Hend := Hid.mk' hend
        clear hend
        have hrd0 := hown.rd
        have hbel := hown.below
        have j0 : wr.cell? ⟨w.heap.size, 0, none⟩ = some (.bool p) := (hown.below.cell (p := ⟨w.heap.size, 0, none⟩) (show w.heap.size < w.heap.size + 1 + 1 + 1 by omega)).trans (by go_simp)
        have j1 : wr.cell? ⟨w.heap.size + 1, 0, none⟩ = some (.bool q) := (hown.below.cell (p := ⟨w.heap.size + 1, 0, none⟩) (show w.heap.size + 1 < w.heap.size + 1 + 1 + 1 by omega)).trans (by go_simp)
        have r0 : wr.cell? ⟨w.heap.size + 1 + 1, 0, none⟩ = some (.bool false) := (hown.below.cell (p := ⟨w.heap.size + 1 + 1, 0, none⟩) (show w.heap.size + 1 + 1 < w.heap.size + 1 + 1 + 1 by omega)).trans (by go_simp)
        have r1 : wr.cell? ⟨w.heap.size + 1 + 1, 1, none⟩ = some (.slice none 0 0) := (hown.below.cell (p := ⟨w.heap.size + 1 + 1, 1, none⟩) (show w.heap.size + 1 + 1 < w.heap.size + 1 + 1 + 1 by omega)).trans (by go_simp)
        have g0 : wr.frozen? ⟨w.heap.size + 1 + 1, 0, none⟩ = false := (hown.below.frozen (p := ⟨w.heap.size + 1 + 1, 0, none⟩) (show w.heap.size + 1 + 1 < w.heap.size + 1 + 1 + 1 by omega)).trans (by go_simp)
        have g1 : wr.frozen? ⟨w.heap.size + 1 + 1, 1, none⟩ = false := (hown.below.frozen (p := ⟨w.heap.size + 1 + 1, 1, none⟩) (show w.heap.size + 1 + 1 < w.heap.size + 1 + 1 + 1 by omega)).trans (by go_simp)
        clear hown
        go_wp2
        go_region_held3 (fun w' => w'.cell? ⟨w.heap.size, 0, none⟩ = some (.bool p) ∧ w'.cell? ⟨w.heap.size + 1, 0, none⟩ = some (.bool q)) (first | exact ⟨keep_set (keep_set (keep_cell hb2 j0) (show w.heap.size ≠ w.heap.size + 1 + 1 by omega) _) (show w.heap.size ≠ w.heap.size + 1 + 1 by omega) _, keep_set (keep_set (keep_cell hb2 j1) (show w.heap.size + 1 ≠ w.heap.size + 1 + 1 by omega) _) (show w.heap.size + 1 ≠ w.heap.size + 1 + 1 by omega) _⟩ | exact ⟨keep_cell hb2 j0, keep_cell hb2 j1⟩ | exact ⟨j0, j1⟩ | go_keep)
          (first
            | (go_at_call 42; refine (trim_any _ _ _ Hend.out.1 (by rw [Hend.out.2.2, Hx.out, Hy.out]; omega) (hrd0.below (Below.refl _ _).drew (Nat.le_refl _))).mono ?_; rintro e w1 ⟨v1, rfl, hrd1, rfl⟩; rw [Hend.out.2.1] at hrd1; obtain ⟨a1, c1, hv1⟩ := hrd1.lt; subst hv1)
            | (go_at_call 41; refine (num_any _ _ (val x * val y) _ hs4 hrd1).mono ?_; rintro e w2 ⟨rfl, hb2⟩; have q0 : w2.cell? ⟨w.heap.size + 1 + 1, 0, none⟩ = some (.bool false) := keep_cell hb2 r0; have q1 : w2.cell? ⟨w.heap.size + 1 + 1, 1, none⟩ = some (.slice none 0 0) := keep_cell hb2 r1; have f0 : w2.frozen? ⟨w.heap.size + 1 + 1, 0, none⟩ = false := keep_free hb2 r0 g0; have f1 : w2.frozen? ⟨w.heap.size + 1 + 1, 1, none⟩ = false := keep_free hb2 r1 g1))
        go_wp2
        have hB := (((below_tr (below_tr (below_al (below_al (below_al (Below.refl _ w) _) _) _) (hbel.mono (by simp))).drew hb2).setCell (p := ⟨w.heap.size + 1 + 1, 0, none⟩) (show w.heap.size ≤ w.heap.size + 1 + 1 by omega) (.bool ((p != q) && decide (0 < val x * val y)))).setCell (p := ⟨w.heap.size + 1 + 1, 1, none⟩) (show w.heap.size ≤ w.heap.size + 1 + 1 by omega) (.slice a1 (digs (val x * val y)).length c1))
        have hR := (hrd1.below hb2 (Nat.le_refl _)).set2 q0 q1 (.bool ((p != q) && decide (0 < val x * val y))) (.slice a1 (digs (val x * val y)).length c1)
        exact bodyPost_ret (v := .agg #[.bool ((p != q) && decide (0 < val x * val y)), .slice a1 (digs (val x * val y)).length c1]) (by simp [results, Tryd.results20, go_sem, q0, q1]; cases p <;> cases q <;> rfl) rfl ⟨_, rfl, hR, hB⟩

/-- Mul: the product. -/
theorem mul_any (va vb : Value) (x y : Int) (w : World) (hx : (digs x.natAbs).length ≤ 1000000) (hy : (digs y.natAbs).length ≤ 1000000) (ha : IsNum w va x) (hb : IsNum w vb y) :
    Calls Tryd.prog 20 #[va, vb] w fun e w' => ∃ v, e = .returned v ∧ IsNum w' v (x * y) ∧ Below w.heap.size w w' := by
  obtain ⟨da, rfl, hda⟩ := ha
  obtain ⟨db, rfl, hdb⟩ := hb
  obtain ⟨ao, ba, oa, ca, rfl, _, hao, hca⟩ := hda.shape
  obtain ⟨bo, bb, ob, cb, rfl, _, hbo, hcb⟩ := hdb.shape
  refine (mul_shape (decide (x < 0)) (decide (y < 0)) ao bo ba oa ca bb ob cb _ _ _ (digs x.natAbs) (digs y.natAbs) w hx hy rfl rfl rfl (small_digs _) (small_digs _) hao hbo hca hcb).mono ?_
  rintro e w' ⟨d, rfl, hd, hw⟩
  rw [val_digs, val_digs] at hd
  rw [val_digs, val_digs]
  refine ⟨_, rfl, ⟨d, ?_, by rw [Int.natAbs_mul]; exact hd⟩, hw⟩
  rw [mul_sign x y]

end Go.Proofs.YtiahijcdfeimgaaDoor
