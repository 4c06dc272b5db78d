/-
  What the document's answer (radomeref01) does to numbers with a sign: num, Sign, Neg, Add, Sub and Cmp are the sign, the number with the other one, the sum, the difference and how two compare.
-/
import Derived.Test.YtlomfjacgomhdaaDoorRefB
import Derived.Deep.RegionHeld3
import Derived.Laws.ResultCell
import Derived.Deep.DrawnRows
set_option linter.unusedSimpArgs false
set_option linter.unusedVariables false
namespace Go.Proofs.YtlomfjacgomhdaaDoor
open Go.RowKit Dec
namespace Dec

/-- The value v is the number z. -/
def IsNum (w : World) (v : Value) (z : Int) : Prop := ∃ d, v = .agg #[.bool (decide (z < 0)), d] ∧ Rd w d (digs z.natAbs)

theorem IsNum.below {w w' : World} {v : Value} {z : Int} (h : IsNum w v z) (hb : Below w.heap.size w w') : IsNum w' v z := by
  obtain ⟨d, rfl, hd⟩ := h
  exact ⟨d, rfl, hd.below hb (Nat.le_refl _)⟩

theorem bcell {W w1 : World} (hb : Below W.heap.size W w1) : (∀ b o, b < W.heap.size → w1.cell? ⟨b, o, none⟩ = W.cell? ⟨b, o, none⟩) ∧ (∀ b o, b < W.heap.size → w1.frozen? ⟨b, o, none⟩ = W.frozen? ⟨b, o, none⟩) :=
  ⟨fun b o h => hb.cell (p := ⟨b, o, none⟩) h, fun b o h => hb.frozen (p := ⟨b, o, none⟩) h⟩

theorem keep_set {w : World} {a p : Addr} {v : Value} (h : w.cell? a = some v) (hne : a.block ≠ p.block) (u : Value) : (w.setCell p u).cell? a = some v :=
  (World.cell?_of_block (Below.heap_setCell w p u a.block hne)).trans h

/-- A store into a cell that is no digit of it (its value is no int). -/
theorem Rd.set {w : World} {v : Value} {l : List Nat} (h : Rd w v l) {p : Addr} (u : Value) (hp : ∀ z, w.cell? p ≠ some (.int .i64 z)) : Rd (w.setCell p u) v l := by
  rcases h with h | ⟨b, off, cap, hv, hc, hlt, hcell⟩
  · exact Or.inl h
  · refine Or.inr ⟨b, off, cap, hv, hc, hlt.set p u, fun t ht => ?_⟩
    rw [World.cell?_setCell_other, hcell t ht]
    intro e
    subst e
    exact hp _ (hcell t ht)

theorem Rd.set2 {w : World} {v : Value} {l : List Nat} (h : Rd w v l) {R : Nat} (q0 : w.cell? ⟨R, 0, none⟩ = some (.bool false)) (q1 : w.cell? ⟨R, 1, none⟩ = some (.slice none 0 0)) (u0 u1 : Value) :
    Rd ((w.setCell ⟨R, 0, none⟩ u0).setCell ⟨R, 1, none⟩ u1) v l := by
  refine (h.set u0 (by intro z; rw [q0]; simp)).set u1 ?_
  intro z
  have e : (⟨R, 0, none⟩ : Addr) ≠ ⟨R, 1, none⟩ := by simp
  rw [World.cell?_setCell_other w _ _ _ e, q1]
  simp

theorem Rd.lt {w : World} {v : Value} {l : List Nat} (h : Rd w v l) : ∃ ao cap, v = .slice ao l.length cap := by
  rcases h with ⟨rfl, rfl⟩ | ⟨b, off, cap, rfl, _⟩
  · exact ⟨_, _, rfl⟩
  · exact ⟨_, _, rfl⟩

end Dec

set_option maxHeartbeats 400000 in
theorem num_shape (neg : Bool) (ao : Option Addr) (n cap : Nat) (w : World) (hn : n ≤ 4000000) :
    Calls Tryd.prog 41 #[.bool neg, .slice ao n cap] w fun e w' => e = .returned (.agg #[.bool (neg && decide (0 < n)), .slice ao n cap]) ∧ Below w.heap.size w w' := by
  cases neg with
  | false =>
    go_enter Tryd.func41, Tryd.ntmps41
    go_wp2
    exact bodyPost_ret (v := .agg #[.bool false, .slice ao n cap]) (by simp [results, Tryd.results41, go_sem]) rfl ⟨rfl, (Below.refl _ _).alloc (Nat.le_refl _) _⟩
  | true =>
    go_enter Tryd.func41, Tryd.ntmps41
    go_wp2
    exact bodyPost_ret (v := .agg #[.bool (decide (0 < n)), .slice ao n cap]) (by simp [results, Tryd.results41, go_sem]) rfl ⟨rfl, (Below.refl _ _).alloc (Nat.le_refl _) _⟩

theorem num_any (neg : Bool) (d : Value) (x : Nat) (w : World) (hx : (digs x).length ≤ 4000000) (hd : Rd w d (digs x)) :
    Calls Tryd.prog 41 #[.bool neg, d] w fun e w' => e = .returned (.agg #[.bool (neg && decide (0 < x)), d]) ∧ Below w.heap.size w w' := by
  obtain ⟨ao, cap, rfl⟩ := hd.lt
  have e : decide (0 < (digs x).length) = decide (0 < x) := by
    rw [decide_eq_decide]
    have := digs_nil_iff x
    rw [← List.length_eq_zero_iff] at this
    omega
  have := num_shape neg ao _ cap w hx
  rw [e] at this
  exact this

set_option maxHeartbeats 400000 in
theorem sign_shape (neg : Bool) (ao : Option Addr) (n cap : Nat) (w : World) (hn : n ≤ 4000000) :
    Calls Tryd.prog 35 #[.agg #[.bool neg, .slice ao n cap]] w fun e w' => e = .returned (.int .i64 (if n = 0 then 0 else if neg then -1 else 1)) ∧ Below w.heap.size w w' := by
  by_cases h : n = 0
  · subst h
    go_enter Tryd.func35, Tryd.ntmps35
    go_wp2
    go_ret
    exact ⟨rfl, (Below.refl _ _).alloc (Nat.le_refl _) _⟩
  · cases neg
    · go_enter Tryd.func35, Tryd.ntmps35
      go_wp2
      go_ret
      exact ⟨by simp [h], (Below.refl _ _).alloc (Nat.le_refl _) _⟩
    · go_enter Tryd.func35, Tryd.ntmps35
      go_wp2
      go_ret
      exact ⟨by simp [h], (Below.refl _ _).alloc (Nat.le_refl _) _⟩

theorem sign_any (v : Value) (z : Int) (w : World) (hz : (digs z.natAbs).length ≤ 4000000) (h : IsNum w v z) :
    Calls Tryd.prog 35 #[v] w fun e w' => e = .returned (.int .i64 z.sign) ∧ Below w.heap.size w w' := by
  obtain ⟨d, rfl, hd⟩ := h
  obtain ⟨ao, cap, rfl⟩ := hd.lt
  refine (sign_shape _ ao _ cap w hz).mono ?_
  rintro e w' ⟨rfl, hw⟩
  refine ⟨ret_int ?_, hw⟩
  have := digs_nil_iff z.natAbs
  rw [← List.length_eq_zero_iff] at this
  by_cases h0 : z = 0
  · subst h0; rw [if_pos (this.2 rfl)]; rfl
  · rw [if_neg (by omega)]
    by_cases h1 : z < 0
    · simp [h1, Int.sign_eq_neg_one_of_neg h1]
    · have h2 : 0 < z := by omega
      simp [h1, Int.sign_eq_one_of_pos h2]

set_option maxHeartbeats 400000 in
theorem neg_any (v : Value) (z : Int) (w : World) (hz : (digs z.natAbs).length ≤ 1000000) (h : IsNum w v z) :
    Calls Tryd.prog 52 #[v] w fun e w' => ∃ v', e = .returned v' ∧ IsNum w' v' (-z) ∧ Below w.heap.size w w' := by
  obtain ⟨d, rfl, hd⟩ := h
  obtain ⟨ao, cap, hdv⟩ := hd.lt
  obtain ⟨n, hn⟩ : ∃ n, n = (digs z.natAbs).length := ⟨_, rfl⟩
  rw [← hn] at hdv
  subst hdv
  clear hn
  go_enter Tryd.func52, Tryd.ntmps52
  go_wp2_with fail
  refine (num_any _ _ z.natAbs _ (by omega) (hd.below (((Below.refl _ _).alloc (Nat.le_refl _) _).alloc (by simp) _) (Nat.le_refl _))).mono ?_
  rintro e w1 ⟨rfl, hb⟩
  obtain ⟨hc, hf⟩ := bcell hb
  have hz := hb.size
  simp at hz
  have hB : Below w.heap.size w ((w1.setCell ⟨w.heap.size + 1, 0, none⟩ (.bool (!decide (z < 0) && !decide (z = 0)))).setCell ⟨w.heap.size + 1, 1, none⟩ (.slice ao n cap)) :=
    (((((Below.refl _ _).alloc (Nat.le_refl _) _).alloc (by simp) _).trans (hb.mono (by simp; omega))).setCell (by simp) _).setCell (by simp) _
  go_wp2
  refine bodyPost_ret (v := .agg #[.bool (!decide (z < 0) && !decide (z = 0)), .slice ao n cap]) (by simp [results, Tryd.results52, go_sem, hc, hz]) rfl ⟨_, rfl, ⟨.slice ao n cap, ?_, ?_⟩, hB⟩
  · have e : (!decide (z < 0) && !decide (z = 0)) = decide (-z < 0) := by
      rw [Bool.eq_iff_iff]; simp; omega
    rw [e]
  · rw [Int.natAbs_neg]
    exact hd.below hB (Nat.le_refl _)

attribute [local go_sem ↓] Go.wp_at_zero Go.wp_at_succ

set_option maxHeartbeats 3200000 in
/-- Add, of two numbers with the same sign. -/
theorem add_same (neg : Bool) (ao bo : Option Addr) (n m ca cb x y : Nat) (w : World) (hx : (digs x).length ≤ 1000000) (hy : (digs y).length ≤ 1000000) (ha : Rd w (.slice ao n ca) (digs x)) (hb : Rd w (.slice bo m cb) (digs y)) :
    Calls Tryd.prog 28 #[.agg #[.bool neg, .slice ao n ca], .agg #[.bool neg, .slice bo m cb]] w fun e w' => ∃ d, e = .returned (.agg #[.bool (neg && decide (0 < x + y)), d]) ∧ Rd w' d (digs (x + y)) ∧ Below w.heap.size w w' := by
  have hs4 : (digs (x + y)).length ≤ 4000000 := by
    have := length_add_le x y; omega
  go_enter Tryd.func28, Tryd.ntmps28
  go_wp2
  go_region_held3 (fun w' => w'.cell? ⟨w.heap.size, 0, none⟩ = some (.bool neg) ∧ w'.cell? ⟨w.heap.size, 1, none⟩ = some (.slice ao n ca) ∧ w'.cell? ⟨w.heap.size + 1, 1, none⟩ = some (.slice bo m cb)) (first | exact ⟨keep_set (keep_set (keep_cell hb2 k0) (show w.heap.size ≠ w.heap.size + 1 + 1 by omega) _) (show w.heap.size ≠ w.heap.size + 1 + 1 by omega) _, keep_set (keep_set (keep_cell hb2 k1) (show w.heap.size ≠ w.heap.size + 1 + 1 by omega) _) (show w.heap.size ≠ w.heap.size + 1 + 1 by omega) _, keep_set (keep_set (keep_cell hb2 k2) (show w.heap.size + 1 ≠ w.heap.size + 1 + 1 by omega) _) (show w.heap.size + 1 ≠ w.heap.size + 1 + 1 by omega) _⟩ | exact ⟨keep_cell hb2 k0, keep_cell hb2 k1, keep_cell hb2 k2⟩ | exact ⟨k0, k1, k2⟩ | go_keep)
    (first
      | (go_at_call 42; refine (plus_any _ _ x y _ hx hy (ha.below (below_al (below_al (below_al (Below.refl _ _) _) _) _).drew (Nat.le_refl _)) (hb.below (below_al (below_al (below_al (Below.refl _ _) _) _) _).drew (Nat.le_refl _))).mono ?_; rintro e w1 ⟨v1, rfl, hrd1, hb1⟩; obtain ⟨a1, c1, hv1⟩ := hrd1.lt; subst hv1; have r0 : w1.cell? ⟨w.heap.size + 1 + 1, 0, none⟩ = some (.bool false) := keep_cell hb1 (by go_simp); have r1 : w1.cell? ⟨w.heap.size + 1 + 1, 1, none⟩ = some (.slice none 0 0) := keep_cell hb1 (by go_simp); have g0 : w1.frozen? ⟨w.heap.size + 1 + 1, 0, none⟩ = false := keep_free hb1 (v := .bool false) (by go_simp) (by go_simp); have g1 : w1.frozen? ⟨w.heap.size + 1 + 1, 1, none⟩ = false := keep_free hb1 (v := .slice none 0 0) (by go_simp) (by go_simp); have k0 : w1.cell? ⟨w.heap.size, 0, none⟩ = some (.bool neg) := keep_cell hb1 (by go_simp); have k1 : w1.cell? ⟨w.heap.size, 1, none⟩ = some (.slice ao n ca) := keep_cell hb1 (by go_simp); have k2 : w1.cell? ⟨w.heap.size + 1, 1, none⟩ = some (.slice bo m cb) := keep_cell hb1 (by go_simp))
      | (go_at_call 41; refine (num_any _ _ (x + y) _ hs4 hrd1).mono ?_; rintro e w2 ⟨rfl, hb2⟩; have q0 : w2.cell? ⟨w.heap.size + 1 + 1, 0, none⟩ = some (.bool false) := keep_cell hb2 r0; have q1 : w2.cell? ⟨w.heap.size + 1 + 1, 1, none⟩ = some (.slice none 0 0) := keep_cell hb2 r1; have f0 : w2.frozen? ⟨w.heap.size + 1 + 1, 0, none⟩ = false := keep_free hb2 r0 g0; have f1 : w2.frozen? ⟨w.heap.size + 1 + 1, 1, none⟩ = false := keep_free hb2 r1 g1))
  go_wp2
  have hB := (((below_tr (below_al (below_al (below_al (Below.refl _ _) _) _) _).drew (below_tr hb1 hb2)).setCell (p := ⟨w.heap.size + 1 + 1, 0, none⟩) (show w.heap.size ≤ w.heap.size + 1 + 1 by omega) (.bool (neg && decide (0 < x + y)))).setCell (p := ⟨w.heap.size + 1 + 1, 1, none⟩) (show w.heap.size ≤ w.heap.size + 1 + 1 by omega) (.slice a1 (digs (x + y)).length c1))
  have hR := (hrd1.below hb2 (Nat.le_refl _)).set2 q0 q1 (.bool (neg && decide (0 < x + y))) (.slice a1 (digs (x + y)).length c1)
  exact bodyPost_ret (v := .agg #[.bool (neg && decide (0 < x + y)), .slice a1 (digs (x + y)).length c1]) (by simp [results, Tryd.results28, go_sem, q0, q1]) rfl ⟨_, rfl, hR, hB⟩

set_option maxHeartbeats 3200000 in
/-- Add, of two numbers with different signs. -/
theorem add_diff (neg : Bool) (ao bo : Option Addr) (n m ca cb x y : Nat) (w : World) (hx : (digs x).length ≤ 1000000) (hy : (digs y).length ≤ 1000000) (ha : Rd w (.slice ao n ca) (digs x)) (hb : Rd w (.slice bo m cb) (digs y)) :
    Calls Tryd.prog 28 #[.agg #[.bool neg, .slice ao n ca], .agg #[.bool !neg, .slice bo m cb]] w fun e w' => ∃ d, e = .returned (.agg #[.bool (if x < y then (!neg && decide (0 < y - x)) else (neg && decide (0 < x - y))), d]) ∧ Rd w' d (digs (if x < y then y - x else x - y)) ∧ Below w.heap.size w w' := by
  by_cases hxy : x < y
  · rw [if_pos hxy, if_pos hxy]
    have hs4 : (digs (y - x)).length ≤ 4000000 := by
      have := length_le_of_le (Nat.sub_le y x); omega
    have hle : x ≤ y := by omega
    go_enter Tryd.func28, Tryd.ntmps28
    go_wp2_with fail
    refine (less_any _ _ x y _ hx hy (ha.below (below_al (below_al (below_al (Below.refl _ _) _) _) _) (Nat.le_refl _)) (hb.below (below_al (below_al (below_al (Below.refl _ _) _) _) _) (Nat.le_refl _))).mono ?_
    rintro e w0 ⟨rfl, hb0⟩
    have hd : decide (x < y) = true := decide_eq_true hxy
    have j0 : w0.cell? ⟨w.heap.size, 1, none⟩ = some (.slice ao n ca) := keep_cell hb0 (by go_simp)
    have j1 : w0.cell? ⟨w.heap.size + 1, 0, none⟩ = some (.bool !neg) := keep_cell hb0 (by go_simp)
    have j2 : w0.cell? ⟨w.heap.size + 1, 1, none⟩ = some (.slice bo m cb) := keep_cell hb0 (by go_simp)
    have p0 : w0.cell? ⟨w.heap.size + 1 + 1, 0, none⟩ = some (.bool false) := keep_cell hb0 (by go_simp)
    have p1 : w0.cell? ⟨w.heap.size + 1 + 1, 1, none⟩ = some (.slice none 0 0) := keep_cell hb0 (by go_simp)
    have s0 : w0.frozen? ⟨w.heap.size + 1 + 1, 0, none⟩ = false := keep_free hb0 (v := .bool false) (by go_simp) (by go_simp)
    have s1 : w0.frozen? ⟨w.heap.size + 1 + 1, 1, none⟩ = false := keep_free hb0 (v := .slice none 0 0) (by go_simp) (by go_simp)
    have ha0 := ha.below (below_tr (below_al (below_al (below_al (Below.refl _ _) _) _) _) hb0) (Nat.le_refl _)
    have hb00 := hb.below (below_tr (below_al (below_al (below_al (Below.refl _ _) _) _) _) hb0) (Nat.le_refl _)
    go_wp2
    go_region_held3 (fun w' => w'.cell? ⟨w.heap.size, 1, none⟩ = some (.slice ao n ca) ∧ w'.cell? ⟨w.heap.size + 1, 0, none⟩ = some (.bool !neg) ∧ w'.cell? ⟨w.heap.size + 1, 1, none⟩ = some (.slice bo m cb)) (first | exact ⟨keep_set (keep_set (keep_cell hb2 k0) (show w.heap.size ≠ w.heap.size + 1 + 1 by omega) _) (show w.heap.size ≠ w.heap.size + 1 + 1 by omega) _, keep_set (keep_set (keep_cell hb2 k1) (show w.heap.size + 1 ≠ w.heap.size + 1 + 1 by omega) _) (show w.heap.size + 1 ≠ w.heap.size + 1 + 1 by omega) _, keep_set (keep_set (keep_cell hb2 k2) (show w.heap.size + 1 ≠ w.heap.size + 1 + 1 by omega) _) (show w.heap.size + 1 ≠ w.heap.size + 1 + 1 by omega) _⟩ | exact ⟨keep_cell hb2 k0, keep_cell hb2 k1, keep_cell hb2 k2⟩ | exact ⟨k0, k1, k2⟩ | exact ⟨j0, j1, j2⟩ | go_keep)
      (first
        | (go_at_call 44; refine (minus_any _ _ y x _ hy hle (hb00.below (Below.refl _ _).drew (Nat.le_refl _)) (ha0.below (Below.refl _ _).drew (Nat.le_refl _))).mono ?_; rintro e w1 ⟨v1, rfl, hrd1, hb1⟩; obtain ⟨a1, c1, hv1⟩ := hrd1.lt; subst hv1; have r0 : w1.cell? ⟨w.heap.size + 1 + 1, 0, none⟩ = some (.bool false) := keep_cell hb1 (by go_simp); have r1 : w1.cell? ⟨w.heap.size + 1 + 1, 1, none⟩ = some (.slice none 0 0) := keep_cell hb1 (by go_simp); have g0 : w1.frozen? ⟨w.heap.size + 1 + 1, 0, none⟩ = false := keep_free hb1 (v := .bool false) (by go_simp) (by go_simp); have g1 : w1.frozen? ⟨w.heap.size + 1 + 1, 1, none⟩ = false := keep_free hb1 (v := .slice none 0 0) (by go_simp) (by go_simp); have k0 : w1.cell? ⟨w.heap.size, 1, none⟩ = some (.slice ao n ca) := keep_cell hb1 (by go_simp); have k1 : w1.cell? ⟨w.heap.size + 1, 0, none⟩ = some (.bool !neg) := keep_cell hb1 (by go_simp); have k2 : w1.cell? ⟨w.heap.size + 1, 1, none⟩ = some (.slice bo m cb) := keep_cell hb1 (by go_simp))
        | (go_at_call 41; refine (num_any _ _ (y - x) _ hs4 hrd1).mono ?_; rintro e w2 ⟨rfl, hb2⟩; have q0 : w2.cell? ⟨w.heap.size + 1 + 1, 0, none⟩ = some (.bool false) := keep_cell hb2 r0; have q1 : w2.cell? ⟨w.heap.size + 1 + 1, 1, none⟩ = some (.slice none 0 0) := keep_cell hb2 r1; have f0 : w2.frozen? ⟨w.heap.size + 1 + 1, 0, none⟩ = false := keep_free hb2 r0 g0; have f1 : w2.frozen? ⟨w.heap.size + 1 + 1, 1, none⟩ = false := keep_free hb2 r1 g1))
    go_wp2
    have hB := (((below_tr (below_tr (below_al (below_al (below_al (Below.refl _ _) _) _) _) hb0).drew (below_tr hb1 hb2)).setCell (p := ⟨w.heap.size + 1 + 1, 0, none⟩) (show w.heap.size ≤ w.heap.size + 1 + 1 by omega) (.bool (!neg && decide (0 < y - x)))).setCell (p := ⟨w.heap.size + 1 + 1, 1, none⟩) (show w.heap.size ≤ w.heap.size + 1 + 1 by omega) (.slice a1 (digs (y - x)).length c1))
    have hR := (hrd1.below hb2 (Nat.le_refl _)).set2 q0 q1 (.bool (!neg && decide (0 < y - x))) (.slice a1 (digs (y - x)).length c1)
    exact bodyPost_ret (v := .agg #[.bool (!neg && decide (0 < y - x)), .slice a1 (digs (y - x)).length c1]) (by simp [results, Tryd.results28, go_sem, q0, q1]) rfl ⟨_, rfl, hR, hB⟩
  · rw [if_neg hxy, if_neg hxy]
    have hs4 : (digs (x - y)).length ≤ 4000000 := by
      have := length_le_of_le (Nat.sub_le x y); omega
    have hle : y ≤ x := by omega
    go_enter Tryd.func28, Tryd.ntmps28
    go_wp2_with fail
    refine (less_any _ _ x y _ hx hy (ha.below (below_al (below_al (below_al (Below.refl _ _) _) _) _) (Nat.le_refl _)) (hb.below (below_al (below_al (below_al (Below.refl _ _) _) _) _) (Nat.le_refl _))).mono ?_
    rintro e w0 ⟨rfl, hb0⟩
    have hd : decide (x < y) = false := decide_eq_false hxy
    have j0 : w0.cell? ⟨w.heap.size, 0, none⟩ = some (.bool neg) := keep_cell hb0 (by go_simp)
    have j1 : w0.cell? ⟨w.heap.size, 1, none⟩ = some (.slice ao n ca) := keep_cell hb0 (by go_simp)
    have j2 : w0.cell? ⟨w.heap.size + 1, 1, none⟩ = some (.slice bo m cb) := keep_cell hb0 (by go_simp)
    have p0 : w0.cell? ⟨w.heap.size + 1 + 1, 0, none⟩ = some (.bool false) := keep_cell hb0 (by go_simp)
    have p1 : w0.cell? ⟨w.heap.size + 1 + 1, 1, none⟩ = some (.slice none 0 0) := keep_cell hb0 (by go_simp)
    have s0 : w0.frozen? ⟨w.heap.size + 1 + 1, 0, none⟩ = false := keep_free hb0 (v := .bool false) (by go_simp) (by go_simp)
    have s1 : w0.frozen? ⟨w.heap.size + 1 + 1, 1, none⟩ = false := keep_free hb0 (v := .slice none 0 0) (by go_simp) (by go_simp)
    have ha0 := ha.below (below_tr (below_al (below_al (below_al (Below.refl _ _) _) _) _) hb0) (Nat.le_refl _)
    have hb00 := hb.below (below_tr (below_al (below_al (below_al (Below.refl _ _) _) _) _) hb0) (Nat.le_refl _)
    go_wp2
    go_region_held3 (fun w' => w'.cell? ⟨w.heap.size, 0, none⟩ = some (.bool neg) ∧ w'.cell? ⟨w.heap.size, 1, none⟩ = some (.slice ao n ca) ∧ w'.cell? ⟨w.heap.size + 1, 1, none⟩ = some (.slice bo m cb)) (first | exact ⟨keep_set (keep_set (keep_cell hb2 k0) (show w.heap.size ≠ w.heap.size + 1 + 1 by omega) _) (show w.heap.size ≠ w.heap.size + 1 + 1 by omega) _, keep_set (keep_set (keep_cell hb2 k1) (show w.heap.size ≠ w.heap.size + 1 + 1 by omega) _) (show w.heap.size ≠ w.heap.size + 1 + 1 by omega) _, keep_set (keep_set (keep_cell hb2 k2) (show w.heap.size + 1 ≠ w.heap.size + 1 + 1 by omega) _) (show w.heap.size + 1 ≠ w.heap.size + 1 + 1 by omega) _⟩ | exact ⟨keep_cell hb2 k0, keep_cell hb2 k1, keep_cell hb2 k2⟩ | exact ⟨k0, k1, k2⟩ | exact ⟨j0, j1, j2⟩ | go_keep)
      (first
        | (go_at_call 44; refine (minus_any _ _ x y _ hx hle (ha0.below (Below.refl _ _).drew (Nat.le_refl _)) (hb00.below (Below.refl _ _).drew (Nat.le_refl _))).mono ?_; rintro e w1 ⟨v1, rfl, hrd1, hb1⟩; obtain ⟨a1, c1, hv1⟩ := hrd1.lt; subst hv1; have r0 : w1.cell? ⟨w.heap.size + 1 + 1, 0, none⟩ = some (.bool false) := keep_cell hb1 (by go_simp); have r1 : w1.cell? ⟨w.heap.size + 1 + 1, 1, none⟩ = some (.slice none 0 0) := keep_cell hb1 (by go_simp); have g0 : w1.frozen? ⟨w.heap.size + 1 + 1, 0, none⟩ = false := keep_free hb1 (v := .bool false) (by go_simp) (by go_simp); have g1 : w1.frozen? ⟨w.heap.size + 1 + 1, 1, none⟩ = false := keep_free hb1 (v := .slice none 0 0) (by go_simp) (by go_simp); have k0 : w1.cell? ⟨w.heap.size, 0, none⟩ = some (.bool neg) := keep_cell hb1 (by go_simp); have k1 : w1.cell? ⟨w.heap.size, 1, none⟩ = some (.slice ao n ca) := keep_cell hb1 (by go_simp); have k2 : w1.cell? ⟨w.heap.size + 1, 1, none⟩ = some (.slice bo m cb) := keep_cell hb1 (by go_simp))
        | (go_at_call 41; refine (num_any _ _ (x - y) _ hs4 hrd1).mono ?_; rintro e w2 ⟨rfl, hb2⟩; have q0 : w2.cell? ⟨w.heap.size + 1 + 1, 0, none⟩ = some (.bool false) := keep_cell hb2 r0; have q1 : w2.cell? ⟨w.heap.size + 1 + 1, 1, none⟩ = some (.slice none 0 0) := keep_cell hb2 r1; have f0 : w2.frozen? ⟨w.heap.size + 1 + 1, 0, none⟩ = false := keep_free hb2 r0 g0; have f1 : w2.frozen? ⟨w.heap.size + 1 + 1, 1, none⟩ = false := keep_free hb2 r1 g1))
    go_wp2
    have hB := (((below_tr (below_tr (below_al (below_al (below_al (Below.refl _ _) _) _) _) hb0).drew (below_tr hb1 hb2)).setCell (p := ⟨w.heap.size + 1 + 1, 0, none⟩) (show w.heap.size ≤ w.heap.size + 1 + 1 by omega) (.bool (neg && decide (0 < x - y)))).setCell (p := ⟨w.heap.size + 1 + 1, 1, none⟩) (show w.heap.size ≤ w.heap.size + 1 + 1 by omega) (.slice a1 (digs (x - y)).length c1))
    have hR := (hrd1.below hb2 (Nat.le_refl _)).set2 q0 q1 (.bool (neg && decide (0 < x - y))) (.slice a1 (digs (x - y)).length c1)
    exact bodyPost_ret (v := .agg #[.bool (neg && decide (0 < x - y)), .slice a1 (digs (x - y)).length c1]) (by simp [results, Tryd.results28, go_sem, q0, q1]) rfl ⟨_, rfl, hR, hB⟩

end Go.Proofs.YtlomfjacgomhdaaDoor
