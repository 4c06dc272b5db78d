/-
  Small and Bound of the document's answer of layer 3 (radomeref03): a number of its digits, no greater than may be.
-/
import Derived.Test.YtgmagehgnjopcaaDoorRefE
import Derived.Deep.RegionHeld3
import Derived.Deep.DrawnRows
set_option linter.unusedSimpArgs false
set_option linter.unusedVariables false
namespace Go.Proofs.YtgmagehgnjopcaaDoor
open Go.RowKit Dec
attribute [local go_sem ↓] Go.wp_at_zero Go.wp_at_succ

namespace Dec
theorem val_drop (l : List Nat) (k : Nat) (h : k < l.length) : val (l.drop k) = l.getD k 0 + 10 * val (l.drop (k + 1)) := by
  rw [List.drop_eq_getElem_cons h, val_cons]
  simp [List.getD, List.getElem?_eq_getElem h]
theorem val_drop_le (l : List Nat) (k : Nat) : val (l.drop k) ≤ val l := by
  induction k with
  | zero => simp
  | succ k ih =>
    by_cases h : k < l.length
    · have := val_drop l k h; omega
    · rw [List.drop_eq_nil_of_le (by omega)]; simp [val]
end Dec

set_option maxHeartbeats 800000 in
theorem small_nil_any (p : Bool) (w : World) :
    Calls Tryd.prog 86 #[.agg #[.bool p, .slice none 0 0]] w fun e w' => e = .returned (.int .i64 0) ∧ Below w.heap.size w w' := by
  cases p
  · go_enter Tryd.func86, Tryd.ntmps86
    go_wp2
    refine wp_loop_rounds 1 ?_
    rw [rounds_succ]
    go_wp2
    go_ret
    exact ⟨rfl, below_al (Below.refl _ _) _⟩
  · go_enter Tryd.func86, Tryd.ntmps86
    go_wp2
    refine wp_loop_rounds 1 ?_
    rw [rounds_succ]
    go_wp2
    go_ret
    exact ⟨rfl, below_al (Below.refl _ _) _⟩

set_option maxHeartbeats 800000 in
theorem small_some (p : Bool) (b off cap : Nat) (l : List Nat) (w : World) (hs : Small l) (hlc : l.length ≤ cap) (hm : l.length ≤ 4000000) (hb : b < w.heap.size) (hv : val l ≤ 9223372036854775807)
    (hc : ∀ t, t < l.length → w.cell? ⟨b, off + t, none⟩ = some (.int .i64 ((l.getD t 0 : Nat) : Int))) :
    Calls Tryd.prog 86 #[.agg #[.bool p, .slice (some ⟨b, off, none⟩) l.length cap]] w fun e w' => e = .returned (.int .i64 (if p then -(val l : Int) else (val l : Int))) ∧ Below w.heap.size w w' := by
  obtain ⟨n, hn⟩ : ∃ n, n = l.length := ⟨_, rfl⟩
  rw [← hn]
  rw [← hn] at hm hlc
  have Hn : Hid (n = l.length) := hn
  clear hn
  have HV : Hid (val l ≤ 9223372036854775807) := hv
  clear hv
  have n0 : (0 : Int) ≤ (n : Int) := by omega
  have n1 : (n : Int) ≤ 4000000 := by omega
  go_enter Tryd.func86, Tryd.ntmps86
  go_wp2
  go_loop [3, 4] (fun v i => ∃ k : Nat, k ≤ n ∧ i = .int .i64 ((k : Int) - 1) ∧ v = .int .i64 (-(val (l.drop k) : Int))) (fun _ i => ((intOf i) + 1).toNat)
  case atStart => exact ⟨n, Nat.le_refl _, rfl, by rw [Hn.out, List.drop_length]; rfl⟩
  case round =>
    obtain ⟨k, hk, rfl, rfl⟩ := hrel
    cases k with
    | zero =>
      have e0 : ((0 : Nat) : Int) - 1 = -1 := by omega
      rw [e0, List.drop_zero]
      have V := HV.out
      obtain ⟨N, hN⟩ : ∃ N, val l = N := ⟨_, rfl⟩
      have HN : Hid (val l = N) := hN
      rw [hN] at V ⊢
      clear hN HV
      cases p
      · go_wp2
        go_ret
        refine ⟨ret_int ?_, below_al (Below.refl _ _) _⟩
        rw [HN.out]
      · go_wp2
        go_ret
        refine ⟨ret_int ?_, below_al (Below.refl _ _) _⟩
        rw [HN.out]
    | succ j =>
      have e0 : ((j + 1 : Nat) : Int) - 1 = (j : Int) := by omega
      rw [e0]
      have hj : j < l.length := by rw [← Hn.out]; omega
      have hck := hc j hj
      have d1 := val_drop l j hj
      have d2 := val_drop_le l j
      have d3 := HV.out
      have hsj := hs j
      obtain ⟨A, hA⟩ : ∃ A, val (l.drop (j + 1)) = A := ⟨_, rfl⟩
      obtain ⟨B, hB⟩ : ∃ B, val (l.drop j) = B := ⟨_, rfl⟩
      obtain ⟨dg, hdg⟩ : ∃ dg, l.getD j 0 = dg := ⟨_, rfl⟩
      rw [hdg] at hck hsj d1
      rw [hA] at d1 ⊢
      rw [hB] at d1 d2
      have HB : Hid (val (l.drop j) = B) := hB
      have D1 : Hid (B = dg + 10 * A) := d1
      have b1 : 10 * A + dg ≤ 9223372036854775807 := by omega
      clear d1 d2 d3 hA hB hdg hc
      go_wp2
      go_round
      case rel => exact ⟨j, by omega, rfl, by rw [HB.out, D1.out]; go_num⟩
      case measure => simp [intOf]

/-- Small: a number of 64 bits, of its digits. -/
theorem small_any (v : Value) (z : Int) (w : World) (hz : -9223372036854775807 ≤ z) (hz1 : z ≤ 9223372036854775807) (h : IsNum w v z) :
    Calls Tryd.prog 86 #[v] w fun e w' => e = .returned (.int .i64 z) ∧ Below w.heap.size w w' := by
  obtain ⟨d, rfl, hd⟩ := h
  have hl : (digs z.natAbs).length ≤ 19 := length_digs_le (show z.natAbs < 10 ^ 19 by omega)
  have hvd := val_digs z.natAbs
  rcases hd with ⟨rfl, hl0⟩ | ⟨b, off, cap, rfl, hlc, hlt, hc⟩
  · have h0 := (digs_nil_iff z.natAbs).1 hl0
    refine (small_nil_any _ w).mono ?_
    rintro e w' ⟨rfl, hb⟩
    exact ⟨ret_int (by omega), hb⟩
  · refine (small_some _ b off cap _ w (small_digs _) hlc (by omega) hlt (by rw [hvd]; omega) hc).mono ?_
    rintro e w' ⟨rfl, hb⟩
    refine ⟨ret_int ?_, hb⟩
    rw [hvd]
    by_cases hs : z < 0
    · rw [decide_eq_true hs, if_pos rfl]; omega
    · rw [decide_eq_false hs, if_neg (by decide)]; omega

theorem Dec.sign_pos {z : Int} : decide (0 < z.sign) = decide (0 < z) := by
  rw [decide_eq_decide]; exact Int.sign_pos_iff
theorem Dec.sign_neg {z : Int} : decide (z.sign < 0) = decide (z < 0) := by
  rw [decide_eq_decide]; exact Int.sign_neg_iff

set_option maxHeartbeats 4000000 in
/-- Bound: a whole number, no greater than may be, and whether it was. -/
theorem bound_any (v : Value) (z : Int) (w : World) (hz : (digs z.natAbs).length ≤ 1000000) (h : IsNum w v z) :
    Calls Tryd.prog 68 #[v] w fun e w' => e = .returned (.tuple #[.int .i64 (if 4611686018427387903 < z then 4611686018427387903 else if z < -4611686018427387903 then -4611686018427387903 else z), .bool (decide (4611686018427387903 < z) || decide (z < -4611686018427387903))]) ∧ Below w.heap.size w w' := by
  have ht : (digs (4611686018427387903 : Int).natAbs).length ≤ 1000000 := by
    have := length_digs_le (show (4611686018427387903 : Int).natAbs < 10 ^ 19 by decide)
    omega
  have ht' : (digs (-4611686018427387903 : Int).natAbs).length ≤ 1000000 := by
    have := length_digs_le (show (-4611686018427387903 : Int).natAbs < 10 ^ 19 by decide)
    omega
  have h' := h
  obtain ⟨d, rfl, hd⟩ := h
  obtain ⟨ao, cap, hd2⟩ := hd.lt
  obtain ⟨n, hn⟩ : ∃ n, n = (digs z.natAbs).length := ⟨_, rfl⟩
  rw [← hn] at hd2
  subst hd2
  clear hn hd
  obtain ⟨p, hp⟩ : ∃ p, p = decide (z < 0) := ⟨_, rfl⟩
  rw [← hp] at h'
  rw [← hp]
  clear hp
  have q0 : (w.alloc (.cells #[.bool p, .slice ao n cap] 108)).cell? ⟨w.heap.size, 0, none⟩ = some (.bool p) := by simp
  have q1 : (w.alloc (.cells #[.bool p, .slice ao n cap] 108)).cell? ⟨w.heap.size, 1, none⟩ = some (.slice ao n cap) := by simp
  have s1 := Dec.sign_pos (z := z - 4611686018427387903)
  have s2 := Dec.sign_neg (z := z - -4611686018427387903)
  by_cases c1 : 4611686018427387903 < z
  · rw [if_pos c1, decide_eq_true c1]
    rw [decide_eq_true (show 0 < z - 4611686018427387903 by omega)] at s1
    clear s2
    go_enter Tryd.func68, Tryd.ntmps68
    go_wp2
    go_region_held3 (fun w' => w'.cell? ⟨w.heap.size, 0, none⟩ = some (.bool p) ∧ w'.cell? ⟨w.heap.size, 1, none⟩ = some (.slice ao n cap)) (go_keep) (first | (go_at_call 66; refine (of_any 4611686018427387903 _ (by omega) (by omega)).mono ?_; rintro e w1 ⟨v1, rfl, hn1, hb1⟩; have f0 := keep_cell hb1 q0; have f1 := keep_cell hb1 q1) | (go_at_call 85; refine (cmp_any _ _ z 4611686018427387903 _ hz ht (h'.below (below_tr (below_al (Below.refl _ _) _).drew hb1)) hn1).mono ?_; rintro e w2 ⟨rfl, hb2⟩; have g0 := keep_cell hb2 f0; have g1 := keep_cell hb2 f1))
    all_goals go_wp2
    all_goals go_ret2
    all_goals exact ⟨rfl, below_tr (below_tr (below_al (Below.refl _ _) _).drew hb1) hb2⟩
  · rw [if_neg c1, decide_eq_false c1]
    rw [decide_eq_false (show ¬ 0 < z - 4611686018427387903 by omega)] at s1
    by_cases c2 : z < -4611686018427387903
    · rw [if_pos c2, decide_eq_true c2]
      rw [decide_eq_true (show z - -4611686018427387903 < 0 by omega)] at s2
      go_enter Tryd.func68, Tryd.ntmps68
      go_wp2
      go_region_held3 (fun w' => w'.cell? ⟨w.heap.size, 0, none⟩ = some (.bool p) ∧ w'.cell? ⟨w.heap.size, 1, none⟩ = some (.slice ao n cap)) (go_keep) (first | (go_at_call 66; refine (of_any 4611686018427387903 _ (by omega) (by omega)).mono ?_; rintro e w1 ⟨v1, rfl, hn1, hb1⟩; have f0 := keep_cell hb1 q0; have f1 := keep_cell hb1 q1) | (go_at_call 85; refine (cmp_any _ _ z 4611686018427387903 _ hz ht (h'.below (below_tr (below_al (Below.refl _ _) _).drew hb1)) hn1).mono ?_; rintro e w2 ⟨rfl, hb2⟩; have g0 := keep_cell hb2 f0; have g1 := keep_cell hb2 f1))
      all_goals go_wp2
      all_goals have h2 := h'.below (below_tr (below_tr (below_al (Below.refl _ _) _).drew hb1) hb2)
      all_goals go_region_held3 (fun w' => w'.cell? ⟨w.heap.size, 0, none⟩ = some (.bool p) ∧ w'.cell? ⟨w.heap.size, 1, none⟩ = some (.slice ao n cap)) (go_keep) (first | (go_at_call 66; refine (of_any (-4611686018427387903) _ (by omega) (by omega)).mono ?_; rintro e w3 ⟨v3, rfl, hn3, hb3⟩; have k0 := keep_cell hb3 g0; have k1 := keep_cell hb3 g1) | (go_at_call 85; refine (cmp_any _ _ z (-4611686018427387903) _ hz ht' (h2.below (below_tr (Below.refl _ _).drew hb3)) hn3).mono ?_; rintro e w4 ⟨rfl, hb4⟩; have j0 := keep_cell hb4 k0; have j1 := keep_cell hb4 k1))
      all_goals go_wp2
      all_goals go_ret2
      all_goals exact ⟨rfl, below_tr (below_tr (below_tr (below_tr (below_al (Below.refl _ _) _).drew hb1) hb2).drew hb3) hb4⟩
    · rw [if_neg c2, decide_eq_false c2]
      rw [decide_eq_false (show ¬ z - -4611686018427387903 < 0 by omega)] at s2
      go_enter Tryd.func68, Tryd.ntmps68
      go_wp2
      go_region_held3 (fun w' => w'.cell? ⟨w.heap.size, 0, none⟩ = some (.bool p) ∧ w'.cell? ⟨w.heap.size, 1, none⟩ = some (.slice ao n cap)) (go_keep) (first | (go_at_call 66; refine (of_any 4611686018427387903 _ (by omega) (by omega)).mono ?_; rintro e w1 ⟨v1, rfl, hn1, hb1⟩; have f0 := keep_cell hb1 q0; have f1 := keep_cell hb1 q1) | (go_at_call 85; refine (cmp_any _ _ z 4611686018427387903 _ hz ht (h'.below (below_tr (below_al (Below.refl _ _) _).drew hb1)) hn1).mono ?_; rintro e w2 ⟨rfl, hb2⟩; have g0 := keep_cell hb2 f0; have g1 := keep_cell hb2 f1))
      all_goals go_wp2
      all_goals have h2 := h'.below (below_tr (below_tr (below_al (Below.refl _ _) _).drew hb1) hb2)
      all_goals go_region_held3 (fun w' => w'.cell? ⟨w.heap.size, 0, none⟩ = some (.bool p) ∧ w'.cell? ⟨w.heap.size, 1, none⟩ = some (.slice ao n cap)) (go_keep) (first | (go_at_call 66; refine (of_any (-4611686018427387903) _ (by omega) (by omega)).mono ?_; rintro e w3 ⟨v3, rfl, hn3, hb3⟩; have k0 := keep_cell hb3 g0; have k1 := keep_cell hb3 g1) | (go_at_call 85; refine (cmp_any _ _ z (-4611686018427387903) _ hz ht' (h2.below (below_tr (Below.refl _ _).drew hb3)) hn3).mono ?_; rintro e w4 ⟨rfl, hb4⟩; have j0 := keep_cell hb4 k0; have j1 := keep_cell hb4 k1))
      all_goals go_wp2_with fail
      all_goals refine (small_any _ z _ (by omega) (by omega) (h2.below (below_tr (below_tr (Below.refl _ _).drew hb3) hb4))).mono ?_
      all_goals rintro e w5 ⟨rfl, hb5⟩
      all_goals go_wp2
      all_goals go_ret2
      all_goals exact ⟨rfl, below_tr (below_tr (below_tr (below_tr (below_tr (below_al (Below.refl _ _) _).drew hb1) hb2).drew hb3) hb4) hb5⟩

end Go.Proofs.YtgmagehgnjopcaaDoor
