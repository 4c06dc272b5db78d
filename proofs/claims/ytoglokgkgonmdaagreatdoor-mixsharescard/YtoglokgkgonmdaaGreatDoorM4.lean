/-
  Join of the document's answer of layer 3 (radomeref03): the sum of two numbers of eight words; by py/Join.py.
-/
import Derived.Test.YtoglokgkgonmdaaGreatDoorM2
import Derived.Deep.RegionHeld3
import Derived.Deep.DrawnRows
import Derived.Laws.ResultCell
import Derived.Test.YtoglokgkgonmdaaGreatDoorM1
set_option linter.unusedSimpArgs false
set_option linter.unusedVariables false
namespace Go.Proofs.YtoglokgkgonmdaaGreatDoor
open Go.RowKit Lg
attribute [local go_sem ↓] Go.wp_at_zero Go.wp_at_succ

namespace Lg
end Lg

end Go.Proofs.YtoglokgkgonmdaaGreatDoor

/-
  The size of a number of 64 bits, and the product of two as eight words (radomeref03).
-/
set_option linter.unusedSimpArgs false
set_option linter.unusedVariables false
namespace Go.Proofs.YtoglokgkgonmdaaGreatDoor
open Go.RowKit Lg
attribute [local go_sem ↓] Go.wp_at_zero Go.wp_at_succ

namespace Lg
end Lg

end Go.Proofs.YtoglokgkgonmdaaGreatDoor

/-
  An array of eight words as a block of its own; words by division.
-/
set_option linter.unusedSimpArgs false
set_option linter.unusedVariables false
namespace Go.Proofs.YtoglokgkgonmdaaGreatDoor
open Go.RowKit
namespace Lg

end Lg
end Go.Proofs.YtoglokgkgonmdaaGreatDoor

/-
  What the document's answer (radomeref01) does to numbers with a sign: num, Sign, Neg, Add, Sub and Cmp are the sign, the number with the other one, the sum, the difference and how two compare.
-/
set_option linter.unusedSimpArgs false
set_option linter.unusedVariables false
namespace Go.Proofs.YtoglokgkgonmdaaGreatDoor
open Go.RowKit Dec
namespace Dec

/-- The value v is the number z. -/
def IsNum (w : World) (v : Value) (z : Int) : Prop := ∃ d, v = .agg #[.bool (decide (z < 0)), d] ∧ Rd w d (digs z.natAbs)

theorem IsNum.below {w w' : World} {v : Value} {z : Int} (h : IsNum w v z) (hb : Below w.heap.size w w') : IsNum w' v z := by
  obtain ⟨d, rfl, hd⟩ := h
  exact ⟨d, rfl, hd.below hb (Nat.le_refl _)⟩

theorem bcell {W w1 : World} (hb : Below W.heap.size W w1) : (∀ b o, b < W.heap.size → w1.cell? ⟨b, o, none⟩ = W.cell? ⟨b, o, none⟩) ∧ (∀ b o, b < W.heap.size → w1.frozen? ⟨b, o, none⟩ = W.frozen? ⟨b, o, none⟩) :=
  ⟨fun b o h => hb.cell (p := ⟨b, o, none⟩) h, fun b o h => hb.frozen (p := ⟨b, o, none⟩) h⟩

theorem keep_set {w : World} {a p : Addr} {v : Value} (h : w.cell? a = some v) (hne : a.block ≠ p.block) (u : Value) : (w.setCell p u).cell? a = some v :=
  (World.cell?_of_block (Below.heap_setCell w p u a.block hne)).trans h

/-- A store into a cell that is no digit of it (its value is no int). -/
theorem Rd.set {w : World} {v : Value} {l : List Nat} (h : Rd w v l) {p : Addr} (u : Value) (hp : ∀ z, w.cell? p ≠ some (.int .i64 z)) : Rd (w.setCell p u) v l := by
  rcases h with h | ⟨b, off, cap, hv, hc, hlt, hcell⟩
  · exact Or.inl h
  · refine Or.inr ⟨b, off, cap, hv, hc, hlt.set p u, fun t ht => ?_⟩
    rw [World.cell?_setCell_other, hcell t ht]
    intro e
    subst e
    exact hp _ (hcell t ht)

theorem Rd.set2 {w : World} {v : Value} {l : List Nat} (h : Rd w v l) {R : Nat} (q0 : w.cell? ⟨R, 0, none⟩ = some (.bool false)) (q1 : w.cell? ⟨R, 1, none⟩ = some (.slice none 0 0)) (u0 u1 : Value) :
    Rd ((w.setCell ⟨R, 0, none⟩ u0).setCell ⟨R, 1, none⟩ u1) v l := by
  refine (h.set u0 (by intro z; rw [q0]; simp)).set u1 ?_
  intro z
  have e : (⟨R, 0, none⟩ : Addr) ≠ ⟨R, 1, none⟩ := by simp
  rw [World.cell?_setCell_other w _ _ _ e, q1]
  simp

theorem Rd.lt {w : World} {v : Value} {l : List Nat} (h : Rd w v l) : ∃ ao cap, v = .slice ao l.length cap := by
  rcases h with ⟨rfl, rfl⟩ | ⟨b, off, cap, rfl, _⟩
  · exact ⟨_, _, rfl⟩
  · exact ⟨_, _, rfl⟩

end Dec

set_option maxHeartbeats 400000 in
theorem num_shape (neg : Bool) (ao : Option Addr) (n cap : Nat) (w : World) (hn : n ≤ 4000000) :
    Calls Tryz.prog 79 #[.bool neg, .slice ao n cap] w fun e w' => e = .returned (.agg #[.bool (neg && decide (0 < n)), .slice ao n cap]) ∧ Below w.heap.size w w' := by
  cases neg with
  | false =>
    go_enter Tryz.func79, Tryz.ntmps79
    go_wp2
    exact bodyPost_ret (v := .agg #[.bool false, .slice ao n cap]) (by simp [results, Tryz.results79, go_sem]) rfl ⟨rfl, (Below.refl _ _).alloc (Nat.le_refl _) _⟩
  | true =>
    go_enter Tryz.func79, Tryz.ntmps79
    go_wp2
    exact bodyPost_ret (v := .agg #[.bool (decide (0 < n)), .slice ao n cap]) (by simp [results, Tryz.results79, go_sem]) rfl ⟨rfl, (Below.refl _ _).alloc (Nat.le_refl _) _⟩

theorem num_any (neg : Bool) (d : Value) (x : Nat) (w : World) (hx : (digs x).length ≤ 4000000) (hd : Rd w d (digs x)) :
    Calls Tryz.prog 79 #[.bool neg, d] w fun e w' => e = .returned (.agg #[.bool (neg && decide (0 < x)), d]) ∧ Below w.heap.size w w' := by
  obtain ⟨ao, cap, rfl⟩ := hd.lt
  have e : decide (0 < (digs x).length) = decide (0 < x) := by
    rw [decide_eq_decide]
    have := digs_nil_iff x
    rw [← List.length_eq_zero_iff] at this
    omega
  have := num_shape neg ao _ cap w hx
  rw [e] at this
  exact this

set_option maxHeartbeats 400000 in
theorem sign_shape (neg : Bool) (ao : Option Addr) (n cap : Nat) (w : World) (hn : n ≤ 4000000) :
    Calls Tryz.prog 85 #[.agg #[.bool neg, .slice ao n cap]] w fun e w' => e = .returned (.int .i64 (if n = 0 then 0 else if neg then -1 else 1)) ∧ Below w.heap.size w w' := by
  by_cases h : n = 0
  · subst h
    go_enter Tryz.func85, Tryz.ntmps85
    go_wp2
    go_ret
    exact ⟨rfl, (Below.refl _ _).alloc (Nat.le_refl _) _⟩
  · cases neg
    · go_enter Tryz.func85, Tryz.ntmps85
      go_wp2
      go_ret
      exact ⟨by simp [h], (Below.refl _ _).alloc (Nat.le_refl _) _⟩
    · go_enter Tryz.func85, Tryz.ntmps85
      go_wp2
      go_ret
      exact ⟨by simp [h], (Below.refl _ _).alloc (Nat.le_refl _) _⟩

theorem sign_any (v : Value) (z : Int) (w : World) (hz : (digs z.natAbs).length ≤ 4000000) (h : IsNum w v z) :
    Calls Tryz.prog 85 #[v] w fun e w' => e = .returned (.int .i64 z.sign) ∧ Below w.heap.size w w' := by
  obtain ⟨d, rfl, hd⟩ := h
  obtain ⟨ao, cap, rfl⟩ := hd.lt
  refine (sign_shape _ ao _ cap w hz).mono ?_
  rintro e w' ⟨rfl, hw⟩
  refine ⟨ret_int ?_, hw⟩
  have := digs_nil_iff z.natAbs
  rw [← List.length_eq_zero_iff] at this
  by_cases h0 : z = 0
  · subst h0; rw [if_pos (this.2 rfl)]; rfl
  · rw [if_neg (by omega)]
    by_cases h1 : z < 0
    · simp [h1, Int.sign_eq_neg_one_of_neg h1]
    · have h2 : 0 < z := by omega
      simp [h1, Int.sign_eq_one_of_pos h2]

set_option maxHeartbeats 400000 in
theorem neg_any (v : Value) (z : Int) (w : World) (hz : (digs z.natAbs).length ≤ 1000000) (h : IsNum w v z) :
    Calls Tryz.prog 104 #[v] w fun e w' => ∃ v', e = .returned v' ∧ IsNum w' v' (-z) ∧ Below w.heap.size w w' := by
  obtain ⟨d, rfl, hd⟩ := h
  obtain ⟨ao, cap, hdv⟩ := hd.lt
  obtain ⟨n, hn⟩ : ∃ n, n = (digs z.natAbs).length := ⟨_, rfl⟩
  rw [← hn] at hdv
  subst hdv
  clear hn
  go_enter Tryz.func104, Tryz.ntmps104
  go_wp2_with fail
  refine (num_any _ _ z.natAbs _ (by omega) (hd.below (((Below.refl _ _).alloc (Nat.le_refl _) _).alloc (by simp) _) (Nat.le_refl _))).mono ?_
  rintro e w1 ⟨rfl, hb⟩
  obtain ⟨hc, hf⟩ := bcell hb
  have hz := hb.size
  simp at hz
  have hB : Below w.heap.size w ((w1.setCell ⟨w.heap.size + 1, 0, none⟩ (.bool (!decide (z < 0) && !decide (z = 0)))).setCell ⟨w.heap.size + 1, 1, none⟩ (.slice ao n cap)) :=
    (((((Below.refl _ _).alloc (Nat.le_refl _) _).alloc (by simp) _).trans (hb.mono (by simp; omega))).setCell (by simp) _).setCell (by simp) _
  go_wp2
  refine bodyPost_ret (v := .agg #[.bool (!decide (z < 0) && !decide (z = 0)), .slice ao n cap]) (by simp [results, Tryz.results104, go_sem, hc, hz]) rfl ⟨_, rfl, ⟨.slice ao n cap, ?_, ?_⟩, hB⟩
  · have e : (!decide (z < 0) && !decide (z = 0)) = decide (-z < 0) := by
      rw [Bool.eq_iff_iff]; simp; omega
    rw [e]
  · rw [Int.natAbs_neg]
    exact hd.below hB (Nat.le_refl _)

attribute [local go_sem ↓] Go.wp_at_zero Go.wp_at_succ

set_option maxHeartbeats 3200000 in
/-- Add, of two numbers with the same sign. -/
theorem add_same (neg : Bool) (ao bo : Option Addr) (n m ca cb x y : Nat) (w : World) (hx : (digs x).length ≤ 1000000) (hy : (digs y).length ≤ 1000000) (ha : Rd w (.slice ao n ca) (digs x)) (hb : Rd w (.slice bo m cb) (digs y)) :
    Calls Tryz.prog 47 #[.agg #[.bool neg, .slice ao n ca], .agg #[.bool neg, .slice bo m cb]] w fun e w' => ∃ d, e = .returned (.agg #[.bool (neg && decide (0 < x + y)), d]) ∧ Rd w' d (digs (x + y)) ∧ Below w.heap.size w w' := by
  have hs4 : (digs (x + y)).length ≤ 4000000 := by
    have := length_add_le x y; omega
  go_enter Tryz.func47, Tryz.ntmps47
  go_wp2
  go_region_held3 (fun w' => w'.cell? ⟨w.heap.size, 0, none⟩ = some (.bool neg) ∧ w'.cell? ⟨w.heap.size, 1, none⟩ = some (.slice ao n ca) ∧ w'.cell? ⟨w.heap.size + 1, 1, none⟩ = some (.slice bo m cb)) (first | exact ⟨keep_set (keep_set (keep_cell hb2 k0) (show w.heap.size ≠ w.heap.size + 1 + 1 by omega) _) (show w.heap.size ≠ w.heap.size + 1 + 1 by omega) _, keep_set (keep_set (keep_cell hb2 k1) (show w.heap.size ≠ w.heap.size + 1 + 1 by omega) _) (show w.heap.size ≠ w.heap.size + 1 + 1 by omega) _, keep_set (keep_set (keep_cell hb2 k2) (show w.heap.size + 1 ≠ w.heap.size + 1 + 1 by omega) _) (show w.heap.size + 1 ≠ w.heap.size + 1 + 1 by omega) _⟩ | exact ⟨keep_cell hb2 k0, keep_cell hb2 k1, keep_cell hb2 k2⟩ | exact ⟨k0, k1, k2⟩ | go_keep)
    (first
      | (go_at_call 80; refine (plus_any _ _ x y _ hx hy (ha.below (below_al (below_al (below_al (Below.refl _ _) _) _) _).drew (Nat.le_refl _)) (hb.below (below_al (below_al (below_al (Below.refl _ _) _) _) _).drew (Nat.le_refl _))).mono ?_; rintro e w1 ⟨v1, rfl, hrd1, hb1⟩; obtain ⟨a1, c1, hv1⟩ := hrd1.lt; subst hv1; have r0 : w1.cell? ⟨w.heap.size + 1 + 1, 0, none⟩ = some (.bool false) := keep_cell hb1 (by go_simp); have r1 : w1.cell? ⟨w.heap.size + 1 + 1, 1, none⟩ = some (.slice none 0 0) := keep_cell hb1 (by go_simp); have g0 : w1.frozen? ⟨w.heap.size + 1 + 1, 0, none⟩ = false := keep_free hb1 (v := .bool false) (by go_simp) (by go_simp); have g1 : w1.frozen? ⟨w.heap.size + 1 + 1, 1, none⟩ = false := keep_free hb1 (v := .slice none 0 0) (by go_simp) (by go_simp); have k0 : w1.cell? ⟨w.heap.size, 0, none⟩ = some (.bool neg) := keep_cell hb1 (by go_simp); have k1 : w1.cell? ⟨w.heap.size, 1, none⟩ = some (.slice ao n ca) := keep_cell hb1 (by go_simp); have k2 : w1.cell? ⟨w.heap.size + 1, 1, none⟩ = some (.slice bo m cb) := keep_cell hb1 (by go_simp))
      | (go_at_call 79; refine (num_any _ _ (x + y) _ hs4 hrd1).mono ?_; rintro e w2 ⟨rfl, hb2⟩; have q0 : w2.cell? ⟨w.heap.size + 1 + 1, 0, none⟩ = some (.bool false) := keep_cell hb2 r0; have q1 : w2.cell? ⟨w.heap.size + 1 + 1, 1, none⟩ = some (.slice none 0 0) := keep_cell hb2 r1; have f0 : w2.frozen? ⟨w.heap.size + 1 + 1, 0, none⟩ = false := keep_free hb2 r0 g0; have f1 : w2.frozen? ⟨w.heap.size + 1 + 1, 1, none⟩ = false := keep_free hb2 r1 g1))
  go_wp2
  have hB := (((below_tr (below_al (below_al (below_al (Below.refl _ _) _) _) _).drew (below_tr hb1 hb2)).setCell (p := ⟨w.heap.size + 1 + 1, 0, none⟩) (show w.heap.size ≤ w.heap.size + 1 + 1 by omega) (.bool (neg && decide (0 < x + y)))).setCell (p := ⟨w.heap.size + 1 + 1, 1, none⟩) (show w.heap.size ≤ w.heap.size + 1 + 1 by omega) (.slice a1 (digs (x + y)).length c1))
  have hR := (hrd1.below hb2 (Nat.le_refl _)).set2 q0 q1 (.bool (neg && decide (0 < x + y))) (.slice a1 (digs (x + y)).length c1)
  exact bodyPost_ret (v := .agg #[.bool (neg && decide (0 < x + y)), .slice a1 (digs (x + y)).length c1]) (by simp [results, Tryz.results47, go_sem, q0, q1]) rfl ⟨_, rfl, hR, hB⟩

set_option maxHeartbeats 3200000 in
/-- Add, of two numbers with different signs. -/
theorem add_diff (neg : Bool) (ao bo : Option Addr) (n m ca cb x y : Nat) (w : World) (hx : (digs x).length ≤ 1000000) (hy : (digs y).length ≤ 1000000) (ha : Rd w (.slice ao n ca) (digs x)) (hb : Rd w (.slice bo m cb) (digs y)) :
    Calls Tryz.prog 47 #[.agg #[.bool neg, .slice ao n ca], .agg #[.bool !neg, .slice bo m cb]] w fun e w' => ∃ d, e = .returned (.agg #[.bool (if x < y then (!neg && decide (0 < y - x)) else (neg && decide (0 < x - y))), d]) ∧ Rd w' d (digs (if x < y then y - x else x - y)) ∧ Below w.heap.size w w' := by
  by_cases hxy : x < y
  · rw [if_pos hxy, if_pos hxy]
    have hs4 : (digs (y - x)).length ≤ 4000000 := by
      have := length_le_of_le (Nat.sub_le y x); omega
    have hle : x ≤ y := by omega
    go_enter Tryz.func47, Tryz.ntmps47
    go_wp2_with fail
    refine (less_any _ _ x y _ hx hy (ha.below (below_al (below_al (below_al (Below.refl _ _) _) _) _) (Nat.le_refl _)) (hb.below (below_al (below_al (below_al (Below.refl _ _) _) _) _) (Nat.le_refl _))).mono ?_
    rintro e w0 ⟨rfl, hb0⟩
    have hd : decide (x < y) = true := decide_eq_true hxy
    have j0 : w0.cell? ⟨w.heap.size, 1, none⟩ = some (.slice ao n ca) := keep_cell hb0 (by go_simp)
    have j1 : w0.cell? ⟨w.heap.size + 1, 0, none⟩ = some (.bool !neg) := keep_cell hb0 (by go_simp)
    have j2 : w0.cell? ⟨w.heap.size + 1, 1, none⟩ = some (.slice bo m cb) := keep_cell hb0 (by go_simp)
    have p0 : w0.cell? ⟨w.heap.size + 1 + 1, 0, none⟩ = some (.bool false) := keep_cell hb0 (by go_simp)
    have p1 : w0.cell? ⟨w.heap.size + 1 + 1, 1, none⟩ = some (.slice none 0 0) := keep_cell hb0 (by go_simp)
    have s0 : w0.frozen? ⟨w.heap.size + 1 + 1, 0, none⟩ = false := keep_free hb0 (v := .bool false) (by go_simp) (by go_simp)
    have s1 : w0.frozen? ⟨w.heap.size + 1 + 1, 1, none⟩ = false := keep_free hb0 (v := .slice none 0 0) (by go_simp) (by go_simp)
    have ha0 := ha.below (below_tr (below_al (below_al (below_al (Below.refl _ _) _) _) _) hb0) (Nat.le_refl _)
    have hb00 := hb.below (below_tr (below_al (below_al (below_al (Below.refl _ _) _) _) _) hb0) (Nat.le_refl _)
    go_wp2
    go_region_held3 (fun w' => w'.cell? ⟨w.heap.size, 1, none⟩ = some (.slice ao n ca) ∧ w'.cell? ⟨w.heap.size + 1, 0, none⟩ = some (.bool !neg) ∧ w'.cell? ⟨w.heap.size + 1, 1, none⟩ = some (.slice bo m cb)) (first | exact ⟨keep_set (keep_set (keep_cell hb2 k0) (show w.heap.size ≠ w.heap.size + 1 + 1 by omega) _) (show w.heap.size ≠ w.heap.size + 1 + 1 by omega) _, keep_set (keep_set (keep_cell hb2 k1) (show w.heap.size + 1 ≠ w.heap.size + 1 + 1 by omega) _) (show w.heap.size + 1 ≠ w.heap.size + 1 + 1 by omega) _, keep_set (keep_set (keep_cell hb2 k2) (show w.heap.size + 1 ≠ w.heap.size + 1 + 1 by omega) _) (show w.heap.size + 1 ≠ w.heap.size + 1 + 1 by omega) _⟩ | exact ⟨keep_cell hb2 k0, keep_cell hb2 k1, keep_cell hb2 k2⟩ | exact ⟨k0, k1, k2⟩ | exact ⟨j0, j1, j2⟩ | go_keep)
      (first
        | (go_at_call 82; refine (minus_any _ _ y x _ hy hle (hb00.below (Below.refl _ _).drew (Nat.le_refl _)) (ha0.below (Below.refl _ _).drew (Nat.le_refl _))).mono ?_; rintro e w1 ⟨v1, rfl, hrd1, hb1⟩; obtain ⟨a1, c1, hv1⟩ := hrd1.lt; subst hv1; have r0 : w1.cell? ⟨w.heap.size + 1 + 1, 0, none⟩ = some (.bool false) := keep_cell hb1 (by go_simp); have r1 : w1.cell? ⟨w.heap.size + 1 + 1, 1, none⟩ = some (.slice none 0 0) := keep_cell hb1 (by go_simp); have g0 : w1.frozen? ⟨w.heap.size + 1 + 1, 0, none⟩ = false := keep_free hb1 (v := .bool false) (by go_simp) (by go_simp); have g1 : w1.frozen? ⟨w.heap.size + 1 + 1, 1, none⟩ = false := keep_free hb1 (v := .slice none 0 0) (by go_simp) (by go_simp); have k0 : w1.cell? ⟨w.heap.size, 1, none⟩ = some (.slice ao n ca) := keep_cell hb1 (by go_simp); have k1 : w1.cell? ⟨w.heap.size + 1, 0, none⟩ = some (.bool !neg) := keep_cell hb1 (by go_simp); have k2 : w1.cell? ⟨w.heap.size + 1, 1, none⟩ = some (.slice bo m cb) := keep_cell hb1 (by go_simp))
        | (go_at_call 79; refine (num_any _ _ (y - x) _ hs4 hrd1).mono ?_; rintro e w2 ⟨rfl, hb2⟩; have q0 : w2.cell? ⟨w.heap.size + 1 + 1, 0, none⟩ = some (.bool false) := keep_cell hb2 r0; have q1 : w2.cell? ⟨w.heap.size + 1 + 1, 1, none⟩ = some (.slice none 0 0) := keep_cell hb2 r1; have f0 : w2.frozen? ⟨w.heap.size + 1 + 1, 0, none⟩ = false := keep_free hb2 r0 g0; have f1 : w2.frozen? ⟨w.heap.size + 1 + 1, 1, none⟩ = false := keep_free hb2 r1 g1))
    go_wp2
    have hB := (((below_tr (below_tr (below_al (below_al (below_al (Below.refl _ _) _) _) _) hb0).drew (below_tr hb1 hb2)).setCell (p := ⟨w.heap.size + 1 + 1, 0, none⟩) (show w.heap.size ≤ w.heap.size + 1 + 1 by omega) (.bool (!neg && decide (0 < y - x)))).setCell (p := ⟨w.heap.size + 1 + 1, 1, none⟩) (show w.heap.size ≤ w.heap.size + 1 + 1 by omega) (.slice a1 (digs (y - x)).length c1))
    have hR := (hrd1.below hb2 (Nat.le_refl _)).set2 q0 q1 (.bool (!neg && decide (0 < y - x))) (.slice a1 (digs (y - x)).length c1)
    exact bodyPost_ret (v := .agg #[.bool (!neg && decide (0 < y - x)), .slice a1 (digs (y - x)).length c1]) (by simp [results, Tryz.results47, go_sem, q0, q1]) rfl ⟨_, rfl, hR, hB⟩
  · rw [if_neg hxy, if_neg hxy]
    have hs4 : (digs (x - y)).length ≤ 4000000 := by
      have := length_le_of_le (Nat.sub_le x y); omega
    have hle : y ≤ x := by omega
    go_enter Tryz.func47, Tryz.ntmps47
    go_wp2_with fail
    refine (less_any _ _ x y _ hx hy (ha.below (below_al (below_al (below_al (Below.refl _ _) _) _) _) (Nat.le_refl _)) (hb.below (below_al (below_al (below_al (Below.refl _ _) _) _) _) (Nat.le_refl _))).mono ?_
    rintro e w0 ⟨rfl, hb0⟩
    have hd : decide (x < y) = false := decide_eq_false hxy
    have j0 : w0.cell? ⟨w.heap.size, 0, none⟩ = some (.bool neg) := keep_cell hb0 (by go_simp)
    have j1 : w0.cell? ⟨w.heap.size, 1, none⟩ = some (.slice ao n ca) := keep_cell hb0 (by go_simp)
    have j2 : w0.cell? ⟨w.heap.size + 1, 1, none⟩ = some (.slice bo m cb) := keep_cell hb0 (by go_simp)
    have p0 : w0.cell? ⟨w.heap.size + 1 + 1, 0, none⟩ = some (.bool false) := keep_cell hb0 (by go_simp)
    have p1 : w0.cell? ⟨w.heap.size + 1 + 1, 1, none⟩ = some (.slice none 0 0) := keep_cell hb0 (by go_simp)
    have s0 : w0.frozen? ⟨w.heap.size + 1 + 1, 0, none⟩ = false := keep_free hb0 (v := .bool false) (by go_simp) (by go_simp)
    have s1 : w0.frozen? ⟨w.heap.size + 1 + 1, 1, none⟩ = false := keep_free hb0 (v := .slice none 0 0) (by go_simp) (by go_simp)
    have ha0 := ha.below (below_tr (below_al (below_al (below_al (Below.refl _ _) _) _) _) hb0) (Nat.le_refl _)
    have hb00 := hb.below (below_tr (below_al (below_al (below_al (Below.refl _ _) _) _) _) hb0) (Nat.le_refl _)
    go_wp2
    go_region_held3 (fun w' => w'.cell? ⟨w.heap.size, 0, none⟩ = some (.bool neg) ∧ w'.cell? ⟨w.heap.size, 1, none⟩ = some (.slice ao n ca) ∧ w'.cell? ⟨w.heap.size + 1, 1, none⟩ = some (.slice bo m cb)) (first | exact ⟨keep_set (keep_set (keep_cell hb2 k0) (show w.heap.size ≠ w.heap.size + 1 + 1 by omega) _) (show w.heap.size ≠ w.heap.size + 1 + 1 by omega) _, keep_set (keep_set (keep_cell hb2 k1) (show w.heap.size ≠ w.heap.size + 1 + 1 by omega) _) (show w.heap.size ≠ w.heap.size + 1 + 1 by omega) _, keep_set (keep_set (keep_cell hb2 k2) (show w.heap.size + 1 ≠ w.heap.size + 1 + 1 by omega) _) (show w.heap.size + 1 ≠ w.heap.size + 1 + 1 by omega) _⟩ | exact ⟨keep_cell hb2 k0, keep_cell hb2 k1, keep_cell hb2 k2⟩ | exact ⟨k0, k1, k2⟩ | exact ⟨j0, j1, j2⟩ | go_keep)
      (first
        | (go_at_call 82; refine (minus_any _ _ x y _ hx hle (ha0.below (Below.refl _ _).drew (Nat.le_refl _)) (hb00.below (Below.refl _ _).drew (Nat.le_refl _))).mono ?_; rintro e w1 ⟨v1, rfl, hrd1, hb1⟩; obtain ⟨a1, c1, hv1⟩ := hrd1.lt; subst hv1; have r0 : w1.cell? ⟨w.heap.size + 1 + 1, 0, none⟩ = some (.bool false) := keep_cell hb1 (by go_simp); have r1 : w1.cell? ⟨w.heap.size + 1 + 1, 1, none⟩ = some (.slice none 0 0) := keep_cell hb1 (by go_simp); have g0 : w1.frozen? ⟨w.heap.size + 1 + 1, 0, none⟩ = false := keep_free hb1 (v := .bool false) (by go_simp) (by go_simp); have g1 : w1.frozen? ⟨w.heap.size + 1 + 1, 1, none⟩ = false := keep_free hb1 (v := .slice none 0 0) (by go_simp) (by go_simp); have k0 : w1.cell? ⟨w.heap.size, 0, none⟩ = some (.bool neg) := keep_cell hb1 (by go_simp); have k1 : w1.cell? ⟨w.heap.size, 1, none⟩ = some (.slice ao n ca) := keep_cell hb1 (by go_simp); have k2 : w1.cell? ⟨w.heap.size + 1, 1, none⟩ = some (.slice bo m cb) := keep_cell hb1 (by go_simp))
        | (go_at_call 79; refine (num_any _ _ (x - y) _ hs4 hrd1).mono ?_; rintro e w2 ⟨rfl, hb2⟩; have q0 : w2.cell? ⟨w.heap.size + 1 + 1, 0, none⟩ = some (.bool false) := keep_cell hb2 r0; have q1 : w2.cell? ⟨w.heap.size + 1 + 1, 1, none⟩ = some (.slice none 0 0) := keep_cell hb2 r1; have f0 : w2.frozen? ⟨w.heap.size + 1 + 1, 0, none⟩ = false := keep_free hb2 r0 g0; have f1 : w2.frozen? ⟨w.heap.size + 1 + 1, 1, none⟩ = false := keep_free hb2 r1 g1))
    go_wp2
    have hB := (((below_tr (below_tr (below_al (below_al (below_al (Below.refl _ _) _) _) _) hb0).drew (below_tr hb1 hb2)).setCell (p := ⟨w.heap.size + 1 + 1, 0, none⟩) (show w.heap.size ≤ w.heap.size + 1 + 1 by omega) (.bool (neg && decide (0 < x - y)))).setCell (p := ⟨w.heap.size + 1 + 1, 1, none⟩) (show w.heap.size ≤ w.heap.size + 1 + 1 by omega) (.slice a1 (digs (x - y)).length c1))
    have hR := (hrd1.below hb2 (Nat.le_refl _)).set2 q0 q1 (.bool (neg && decide (0 < x - y))) (.slice a1 (digs (x - y)).length c1)
    exact bodyPost_ret (v := .agg #[.bool (neg && decide (0 < x - y)), .slice a1 (digs (x - y)).length c1]) (by simp [results, Tryz.results47, go_sem, q0, q1]) rfl ⟨_, rfl, hR, hB⟩

end Go.Proofs.YtoglokgkgonmdaaGreatDoor

/-
  A number of the document's (radomeref01) as a block of two cells.
-/
set_option linter.unusedSimpArgs false
set_option linter.unusedVariables false
namespace Go.Proofs.YtoglokgkgonmdaaGreatDoor
open Go.RowKit Dec
namespace Dec

/-- Block g holds a number's two cells. -/
def Row2 (w : World) (g : Nat) (x y : Value) : Prop := w.heap[g]? = some (.cells #[x, y] 94 (0, 0))
theorem Row2.lt {w : World} {g : Nat} {x y : Value} (h : Row2 w g x y) : g < w.heap.size := by
  rcases Nat.lt_or_ge g w.heap.size with k | k
  · exact k
  · unfold Row2 at h; rw [Array.getElem?_eq_none k] at h; cases h
theorem row2_new (w : World) (x y : Value) : Row2 (w.alloc (.cells #[x, y] 94)) w.heap.size x y := heap_alloc_new w _
theorem row2_at (w : World) {g : Nat} (hg : g = w.heap.size) (x y : Value) : Row2 (w.alloc (.cells #[x, y] 94)) g x y := by rw [hg]; exact row2_new w x y
theorem Row2.alloc {w : World} {g : Nat} {x y : Value} (h : Row2 w g x y) (o : Obj) : Row2 (w.alloc o) g x y := by
  unfold Row2; rw [Below.heap_alloc w o g h.lt]; exact h
theorem Row2.keep {w w' : World} {g : Nat} {x y : Value} (h : Row2 w g x y) (hb : Below w.heap.size w w') : Row2 w' g x y := by
  unfold Row2; rw [hb.block g h.lt]; exact h
theorem Row2.drew {w : World} {g : Nat} {x y : Value} (h : Row2 w g x y) : Row2 w.drew g x y := h
theorem Row2.set2 {w : World} {g : Nat} {x y : Value} (h : Row2 w g x y) (u v : Value) : Row2 ((w.setCell ⟨g, 0, none⟩ u).setCell ⟨g, 1, none⟩ v) g u v := by
  have h1 : (w.setCell ⟨g, 0, none⟩ u).heap[g]? = some (.cells #[u, y] 94 (0, 0)) := heap_setCell_same w g 0 _ _ _ h
  exact heap_setCell_same _ g 1 _ _ _ h1
theorem Row2.other {w : World} {g : Nat} {x y : Value} (h : Row2 w g x y) {p : Addr} (u : Value) (hne : g ≠ p.block) : Row2 (w.setCell p u) g x y := by
  unfold Row2; rw [heap_setCell_other w p g u hne]; exact h
theorem Row2.other2 {w : World} {g g0 : Nat} {x y : Value} (h : Row2 w g x y) (hne : g ≠ g0) (u0 u1 : Value) : Row2 ((w.setCell ⟨g0, 0, none⟩ u0).setCell ⟨g0, 1, none⟩ u1) g x y := (h.other u0 hne).other u1 hne
theorem Row2.c0 {w : World} {g : Nat} {x y : Value} (h : Row2 w g x y) : w.cell? ⟨g, 0, none⟩ = some x := by rw [cell_of_row w g 0 _ _ (0, 0) h]; rfl
theorem Row2.c1 {w : World} {g : Nat} {x y : Value} (h : Row2 w g x y) : w.cell? ⟨g, 1, none⟩ = some y := by rw [cell_of_row w g 1 _ _ (0, 0) h]; rfl
theorem Row2.free {w : World} {g : Nat} {x y : Value} (h : Row2 w g x y) (j : Nat) : w.frozen? ⟨g, j, none⟩ = false := frozen_of_row w g j _ _ h

/-- Stores into a number's block leave all digits as they are. -/
theorem Rd.row2 {w : World} {v : Value} {l : List Nat} (h : Rd w v l) {g : Nat} {p : Bool} {ao : Option Addr} {n c : Nat} (hr : Row2 w g (.bool p) (.slice ao n c)) (u0 u1 : Value) :
    Rd ((w.setCell ⟨g, 0, none⟩ u0).setCell ⟨g, 1, none⟩ u1) v l := by
  refine (h.set u0 (by intro z; rw [hr.c0]; simp)).set u1 ?_
  intro z
  have e : (⟨g, 0, none⟩ : Addr) ≠ ⟨g, 1, none⟩ := by simp
  rw [World.cell?_setCell_other w _ _ _ e, hr.c1]
  simp

theorem IsNum.row2 {w : World} {v : Value} {z : Int} (h : IsNum w v z) {g : Nat} {p : Bool} {ao : Option Addr} {n c : Nat} (hr : Row2 w g (.bool p) (.slice ao n c)) (u0 u1 : Value) :
    IsNum ((w.setCell ⟨g, 0, none⟩ u0).setCell ⟨g, 1, none⟩ u1) v z := by
  obtain ⟨d, hv, hd⟩ := h
  exact ⟨d, hv, hd.row2 hr u0 u1⟩
theorem IsNum.form {w : World} {v : Value} {z : Int} (h : IsNum w v z) : ∃ a L c, v = .agg #[.bool (decide (z < 0)), .slice a L c] := by
  obtain ⟨d, hv, hd⟩ := h
  obtain ⟨a, c, rfl⟩ := hd.lt
  exact ⟨a, _, c, hv⟩
theorem len_nat (n : Nat) : (digs (n : Int).natAbs).length = (digs n).length := by rw [Int.natAbs_natCast]

theorem below_set2 {B g : Nat} {w0 w : World} (h : Below B w0 w) (hg : B ≤ g) (u0 u1 : Value) : Below B w0 ((w.setCell ⟨g, 0, none⟩ u0).setCell ⟨g, 1, none⟩ u1) :=
  (h.setCell (p := ⟨g, 0, none⟩) hg u0).setCell (p := ⟨g, 1, none⟩) hg u1

theorem IsNum.drew {w : World} {v : Value} {z : Int} (h : IsNum w v z) : IsNum w.drew v z := h.below (Below.refl _ _).drew
end Dec
end Go.Proofs.YtoglokgkgonmdaaGreatDoor

/-
  Add, Sub and Cmp of the document's answer (radomeref01), for whatever two numbers: the sum, the difference, and how they compare.
-/
set_option linter.unusedSimpArgs false
set_option linter.unusedVariables false
namespace Go.Proofs.YtoglokgkgonmdaaGreatDoor
open Go.RowKit Dec

/-- Add: the sum. -/
theorem add_any (va vb : Value) (x y : Int) (w : World) (hx : (digs x.natAbs).length ≤ 1000000) (hy : (digs y.natAbs).length ≤ 1000000) (ha : IsNum w va x) (hb : IsNum w vb y) :
    Calls Tryz.prog 47 #[va, vb] w fun e w' => ∃ v, e = .returned v ∧ IsNum w' v (x + y) ∧ Below w.heap.size w w' := by
  obtain ⟨da, rfl, hda⟩ := ha
  obtain ⟨db, rfl, hdb⟩ := hb
  obtain ⟨ao, ca, rfl⟩ := hda.lt
  obtain ⟨bo, cb, rfl⟩ := hdb.lt
  by_cases h : decide (x < 0) = decide (y < 0)
  · have := add_same (decide (x < 0)) ao bo _ _ ca cb x.natAbs y.natAbs w hx hy hda hdb
    rw [← h]
    refine this.mono ?_
    rintro e w' ⟨d, rfl, hd, hw⟩
    have h2 : x < 0 ↔ y < 0 := by simpa using h
    refine ⟨_, rfl, ⟨d, ?_, ?_⟩, hw⟩
    · have e : (decide (x < 0) && decide (0 < x.natAbs + y.natAbs)) = decide (x + y < 0) := by
        rw [Bool.eq_iff_iff]; simp; omega
      rw [e]
    · rw [show (x + y).natAbs = x.natAbs + y.natAbs by omega]; exact hd
  · have h2 : ¬ (x < 0 ↔ y < 0) := by simpa using h
    have e : decide (y < 0) = !decide (x < 0) := by
      rw [Bool.eq_iff_iff]; simp; omega
    rw [e]
    refine (add_diff (decide (x < 0)) ao bo _ _ ca cb x.natAbs y.natAbs w hx hy hda hdb).mono ?_
    rintro e1 w' ⟨d, rfl, hd, hw⟩
    refine ⟨_, rfl, ⟨d, ?_, ?_⟩, hw⟩
    · have e : (if x.natAbs < y.natAbs then (!decide (x < 0) && decide (0 < y.natAbs - x.natAbs)) else (decide (x < 0) && decide (0 < x.natAbs - y.natAbs))) = decide (x + y < 0) := by
        split
        · rw [Bool.eq_iff_iff]; simp; omega
        · rw [Bool.eq_iff_iff]; simp; omega
      rw [e]
    · rw [show (x + y).natAbs = if x.natAbs < y.natAbs then y.natAbs - x.natAbs else x.natAbs - y.natAbs by split <;> omega]; exact hd

attribute [local go_sem ↓] Go.wp_at_zero Go.wp_at_succ

set_option maxHeartbeats 3200000 in
/-- Sub: the difference. -/
theorem sub_any (va vb : Value) (x y : Int) (w : World) (hx : (digs x.natAbs).length ≤ 1000000) (hy : (digs y.natAbs).length ≤ 1000000) (ha : IsNum w va x) (hb : IsNum w vb y) :
    Calls Tryz.prog 66 #[va, vb] w fun e w' => ∃ v, e = .returned v ∧ IsNum w' v (x - y) ∧ Below w.heap.size w w' := by
  have hx' := ha
  have hy' := hb
  obtain ⟨da, rfl, hda⟩ := ha
  obtain ⟨db, rfl, hdb⟩ := hb
  obtain ⟨ao, ca, hda2⟩ := hda.lt
  obtain ⟨bo, cb, hdb2⟩ := hdb.lt
  obtain ⟨n, hn⟩ : ∃ n, n = (digs x.natAbs).length := ⟨_, rfl⟩
  obtain ⟨m, hm⟩ : ∃ n, n = (digs y.natAbs).length := ⟨_, rfl⟩
  rw [← hn] at hda2
  rw [← hm] at hdb2
  subst hda2 hdb2
  clear hn hm
  have hyn : (digs (-y).natAbs).length ≤ 1000000 := by rw [Int.natAbs_neg]; exact hy
  obtain ⟨p, hp⟩ : ∃ p, p = decide (x < 0) := ⟨_, rfl⟩
  obtain ⟨q, hq⟩ : ∃ p, p = decide (y < 0) := ⟨_, rfl⟩
  rw [← hp] at hx'
  rw [← hq] at hy'
  rw [← hp, ← hq]
  clear hp hq
  go_enter Tryz.func66, Tryz.ntmps66
  go_wp2
  go_region_held3 (fun w' => w'.cell? ⟨w.heap.size, 0, none⟩ = some (.bool p) ∧ w'.cell? ⟨w.heap.size, 1, none⟩ = some (.slice ao n ca) ∧ w'.cell? ⟨w.heap.size + 1, 0, none⟩ = some (.bool q) ∧ w'.cell? ⟨w.heap.size + 1, 1, none⟩ = some (.slice bo m cb))
    (first | exact ⟨keep_set (keep_set (keep_cell hb2 k0) (show w.heap.size ≠ w.heap.size + 1 + 1 by omega) _) (show w.heap.size ≠ w.heap.size + 1 + 1 by omega) _, keep_set (keep_set (keep_cell hb2 k1) (show w.heap.size ≠ w.heap.size + 1 + 1 by omega) _) (show w.heap.size ≠ w.heap.size + 1 + 1 by omega) _, keep_set (keep_set (keep_cell hb2 k2) (show w.heap.size + 1 ≠ w.heap.size + 1 + 1 by omega) _) (show w.heap.size + 1 ≠ w.heap.size + 1 + 1 by omega) _, keep_set (keep_set (keep_cell hb2 k3) (show w.heap.size + 1 ≠ w.heap.size + 1 + 1 by omega) _) (show w.heap.size + 1 ≠ w.heap.size + 1 + 1 by omega) _⟩ | exact ⟨keep_cell hb2 k0, keep_cell hb2 k1, keep_cell hb2 k2, keep_cell hb2 k3⟩ | exact ⟨k0, k1, k2, k3⟩ | go_keep)
    (first
      | (go_at_call 104; refine (neg_any _ y _ hy (hy'.below (below_al (below_al (below_al (Below.refl _ _) _) _) _).drew)).mono ?_; rintro e w1 ⟨v1, rfl, hn1, hb1⟩; have r0 : w1.cell? ⟨w.heap.size + 1 + 1, 0, none⟩ = some (.bool false) := keep_cell hb1 (by go_simp); have r1 : w1.cell? ⟨w.heap.size + 1 + 1, 1, none⟩ = some (.slice none 0 0) := keep_cell hb1 (by go_simp); have g0 : w1.frozen? ⟨w.heap.size + 1 + 1, 0, none⟩ = false := keep_free hb1 (v := .bool false) (by go_simp) (by go_simp); have g1 : w1.frozen? ⟨w.heap.size + 1 + 1, 1, none⟩ = false := keep_free hb1 (v := .slice none 0 0) (by go_simp) (by go_simp); have k0 : w1.cell? ⟨w.heap.size, 0, none⟩ = some (.bool p) := keep_cell hb1 (by go_simp); have k1 : w1.cell? ⟨w.heap.size, 1, none⟩ = some (.slice ao n ca) := keep_cell hb1 (by go_simp); have k2 : w1.cell? ⟨w.heap.size + 1, 0, none⟩ = some (.bool q) := keep_cell hb1 (by go_simp); have k3 : w1.cell? ⟨w.heap.size + 1, 1, none⟩ = some (.slice bo m cb) := keep_cell hb1 (by go_simp))
      | (go_at_call 47; refine (add_any _ _ x (-y) _ hx hyn (hx'.below (below_tr (below_al (below_al (below_al (Below.refl _ _) _) _) _).drew hb1)) hn1).mono ?_; rintro e w2 ⟨v2, rfl, ⟨d2, rfl, hd2⟩, hb2⟩; obtain ⟨a2, c2, hv2⟩ := hd2.lt; subst hv2; have q0 : w2.cell? ⟨w.heap.size + 1 + 1, 0, none⟩ = some (.bool false) := keep_cell hb2 r0; have q1 : w2.cell? ⟨w.heap.size + 1 + 1, 1, none⟩ = some (.slice none 0 0) := keep_cell hb2 r1; have f0 : w2.frozen? ⟨w.heap.size + 1 + 1, 0, none⟩ = false := keep_free hb2 r0 g0; have f1 : w2.frozen? ⟨w.heap.size + 1 + 1, 1, none⟩ = false := keep_free hb2 r1 g1))
  go_wp2
  have hB := (((below_tr (below_al (below_al (below_al (Below.refl _ w) _) _) _).drew (below_tr hb1 hb2)).setCell (p := ⟨w.heap.size + 1 + 1, 0, none⟩) (show w.heap.size ≤ w.heap.size + 1 + 1 by omega) (.bool (decide (x + -y < 0)))).setCell (p := ⟨w.heap.size + 1 + 1, 1, none⟩) (show w.heap.size ≤ w.heap.size + 1 + 1 by omega) (.slice a2 (digs (x + -y).natAbs).length c2))
  have hR := hd2.set2 q0 q1 (.bool (decide (x + -y < 0))) (.slice a2 (digs (x + -y).natAbs).length c2)
  refine bodyPost_ret (v := .agg #[.bool (decide (x + -y < 0)), .slice a2 (digs (x + -y).natAbs).length c2]) (by simp [results, Tryz.results66, go_sem, q0, q1]) rfl ⟨_, rfl, ?_, hB⟩
  rw [Int.sub_eq_add_neg]
  exact ⟨_, rfl, hR⟩

set_option maxHeartbeats 800000 in
/-- Cmp: how two compare. -/
theorem cmp_any (va vb : Value) (x y : Int) (w : World) (hx : (digs x.natAbs).length ≤ 1000000) (hy : (digs y.natAbs).length ≤ 1000000) (ha : IsNum w va x) (hb : IsNum w vb y) :
    Calls Tryz.prog 86 #[va, vb] w fun e w' => e = .returned (.int .i64 (x - y).sign) ∧ Below w.heap.size w w' := by
  have hx' := ha
  have hy' := hb
  have hl : (digs (x - y).natAbs).length ≤ 4000000 := by
    have h1 := length_add_le x.natAbs y.natAbs
    have h2 := length_le_of_le (show (x - y).natAbs ≤ x.natAbs + y.natAbs by omega)
    omega
  obtain ⟨da, rfl, hda⟩ := ha
  obtain ⟨db, rfl, hdb⟩ := hb
  obtain ⟨ao, ca, hda2⟩ := hda.lt
  obtain ⟨bo, cb, hdb2⟩ := hdb.lt
  obtain ⟨n, hn⟩ : ∃ n, n = (digs x.natAbs).length := ⟨_, rfl⟩
  obtain ⟨m, hm⟩ : ∃ n, n = (digs y.natAbs).length := ⟨_, rfl⟩
  rw [← hn] at hda2
  rw [← hm] at hdb2
  subst hda2 hdb2
  clear hn hm
  obtain ⟨p, hp⟩ : ∃ p, p = decide (x < 0) := ⟨_, rfl⟩
  obtain ⟨q, hq⟩ : ∃ p, p = decide (y < 0) := ⟨_, rfl⟩
  rw [← hp] at hx'
  rw [← hq] at hy'
  rw [← hp, ← hq]
  clear hp hq
  go_enter Tryz.func86, Tryz.ntmps86
  go_wp2_with fail
  refine (sub_any _ _ x y _ hx hy (hx'.below (below_al (below_al (Below.refl _ _) _) _)) (hy'.below (below_al (below_al (Below.refl _ _) _) _))).mono ?_
  rintro e w1 ⟨v1, rfl, hn1, hb1⟩
  go_wp2_with fail
  refine (sign_any _ (x - y) _ hl hn1).mono ?_
  rintro e w2 ⟨rfl, hb2⟩
  go_wp2
  go_ret
  exact ⟨rfl, below_tr (below_al (below_al (Below.refl _ _) _) _) (below_tr hb1 hb2)⟩

end Go.Proofs.YtoglokgkgonmdaaGreatDoor

/-
  Of and Mul of the document's answer (radomeref01): a number of 64 bits as digits, and the product of two numbers.
-/
set_option linter.unusedSimpArgs false
set_option linter.unusedVariables false
namespace Go.Proofs.YtoglokgkgonmdaaGreatDoor
open Go.RowKit Dec

theorem Hid.mk' {p : Prop} (h : p) : Hid p := h

set_option maxHeartbeats 1600000 in
theorem of_pos (n : Int) (w : World) (h0 : 0 ≤ n) (h1 : n ≤ 9223372036854775807) :
    Calls Tryz.prog 49 #[.int .i64 n] w fun e w' => ∃ v, e = .returned v ∧ IsNum w' v n ∧ Below w.heap.size w w' := by
  have hlen : (digs n.natAbs).length ≤ 19 := length_digs_le (by omega)
  have hw : n = ((n.natAbs : Nat) : Int) := by omega
  have Hw := Hid.mk' hw
  clear hw
  go_enter Tryz.func49, Tryz.ntmps49
  go_wp2
  go_loopw [3, 4] (fun v d wr => ∃ (x : Nat) (o : List Nat), v = .int .u64 x ∧ x ≤ 9223372036854775808 ∧ OfAt x o n.natAbs ∧ Own (w.heap.size + 1) (w.alloc (.cells #[.bool false, .slice none 0 0] 94)) wr d o) (fun v _ _ => (intOf v).toNat)
  case atStart => exact ⟨n.natAbs, [], congrArg (Value.int IntKind.u64) Hw.out, by omega, rfl, Own.nil (Below.refl _ _) (by simp)⟩
  case round =>
    obtain ⟨x, o, rfl, hx, hof, hown⟩ := hrel
    have hol := ofAt_length hof
    by_cases hx0 : 0 < x
    · go_wp2_with (at_builtin; refine wpList_push (by rfl) (.tmp 13) (.tmp 17) (by rfl) (w.heap.size + 1) _ _ o (by rfl) hown ?_ _ (x % 10) (by rfl) ?_ ?_)
      · omega
      · omega
      · intro v' w' hown'
        go_wp2
        go_roundw
        case rel => exact ⟨x / 10, _, by go_num, by omega, ofAt_step hof hx0, hown'⟩
        case measure => simp [intOf]; omega
    · have hx1 : x = 0 := by omega
      subst hx1
      have ho := ofAt_end hof
      have q0 : wr.cell? ⟨w.heap.size, 0, none⟩ = some (.bool false) := (hown.below.cell (p := ⟨w.heap.size, 0, none⟩) (show w.heap.size < w.heap.size + 1 by omega)).trans (by go_simp)
      have q1 : wr.cell? ⟨w.heap.size, 1, none⟩ = some (.slice none 0 0) := (hown.below.cell (p := ⟨w.heap.size, 1, none⟩) (show w.heap.size < w.heap.size + 1 by omega)).trans (by go_simp)
      have f0 : wr.frozen? ⟨w.heap.size, 0, none⟩ = false := (hown.below.frozen (p := ⟨w.heap.size, 0, none⟩) (show w.heap.size < w.heap.size + 1 by omega)).trans (by go_simp)
      have f1 : wr.frozen? ⟨w.heap.size, 1, none⟩ = false := (hown.below.frozen (p := ⟨w.heap.size, 1, none⟩) (show w.heap.size < w.heap.size + 1 by omega)).trans (by go_simp)
      have hrd := hown.rd
      have hbel := hown.below
      rw [ho] at hrd
      clear hown hof hol ho
      obtain ⟨a1, c1, hv1⟩ := hrd.lt
      subst hv1
      go_wp2
      have hB := (((below_tr (below_al (Below.refl _ w) _) (hbel.mono (by simp))).setCell (p := ⟨w.heap.size, 0, none⟩) (Nat.le_refl _) (.bool (decide (n < 0)))).setCell (p := ⟨w.heap.size, 1, none⟩) (Nat.le_refl _) (.slice a1 (digs n.natAbs).length c1))
      have hR := hrd.set2 q0 q1 (.bool (decide (n < 0))) (.slice a1 (digs n.natAbs).length c1)
      exact bodyPost_ret (v := .agg #[.bool (decide (n < 0)), .slice a1 (digs n.natAbs).length c1]) (by simp [results, Tryz.results49, go_sem, q0, q1]) rfl ⟨_, rfl, ⟨_, rfl, hR⟩, hB⟩

set_option maxHeartbeats 1600000 in
theorem of_neg (n : Int) (w : World) (h0 : n < 0) (h1 : -9223372036854775808 ≤ n) :
    Calls Tryz.prog 49 #[.int .i64 n] w fun e w' => ∃ v, e = .returned v ∧ IsNum w' v n ∧ Below w.heap.size w w' := by
  have hlen : (digs n.natAbs).length ≤ 19 := length_digs_le (by omega)
  have hw : IntKind.u64.wrap (-IntKind.u64.wrap n) = ((n.natAbs : Nat) : Int) := by rw [IntKind.wrap_u64, IntKind.wrap_u64]; omega
  have Hw := Hid.mk' hw
  clear hw
  go_enter Tryz.func49, Tryz.ntmps49
  go_wp2
  go_loopw [3, 4] (fun v d wr => ∃ (x : Nat) (o : List Nat), v = .int .u64 x ∧ x ≤ 9223372036854775808 ∧ OfAt x o n.natAbs ∧ Own (w.heap.size + 1) (w.alloc (.cells #[.bool false, .slice none 0 0] 94)) wr d o) (fun v _ _ => (intOf v).toNat)
  case atStart => exact ⟨n.natAbs, [], congrArg (Value.int IntKind.u64) Hw.out, by omega, rfl, Own.nil (Below.refl _ _) (by simp)⟩
  case round =>
    obtain ⟨x, o, rfl, hx, hof, hown⟩ := hrel
    have hol := ofAt_length hof
    by_cases hx0 : 0 < x
    · go_wp2_with (at_builtin; refine wpList_push (by rfl) (.tmp 13) (.tmp 17) (by rfl) (w.heap.size + 1) _ _ o (by rfl) hown ?_ _ (x % 10) (by rfl) ?_ ?_)
      · omega
      · omega
      · intro v' w' hown'
        go_wp2
        go_roundw
        case rel => exact ⟨x / 10, _, by go_num, by omega, ofAt_step hof hx0, hown'⟩
        case measure => simp [intOf]; omega
    · have hx1 : x = 0 := by omega
      subst hx1
      have ho := ofAt_end hof
      have q0 : wr.cell? ⟨w.heap.size, 0, none⟩ = some (.bool false) := (hown.below.cell (p := ⟨w.heap.size, 0, none⟩) (show w.heap.size < w.heap.size + 1 by omega)).trans (by go_simp)
      have q1 : wr.cell? ⟨w.heap.size, 1, none⟩ = some (.slice none 0 0) := (hown.below.cell (p := ⟨w.heap.size, 1, none⟩) (show w.heap.size < w.heap.size + 1 by omega)).trans (by go_simp)
      have f0 : wr.frozen? ⟨w.heap.size, 0, none⟩ = false := (hown.below.frozen (p := ⟨w.heap.size, 0, none⟩) (show w.heap.size < w.heap.size + 1 by omega)).trans (by go_simp)
      have f1 : wr.frozen? ⟨w.heap.size, 1, none⟩ = false := (hown.below.frozen (p := ⟨w.heap.size, 1, none⟩) (show w.heap.size < w.heap.size + 1 by omega)).trans (by go_simp)
      have hrd := hown.rd
      have hbel := hown.below
      rw [ho] at hrd
      clear hown hof hol ho
      obtain ⟨a1, c1, hv1⟩ := hrd.lt
      subst hv1
      go_wp2
      have hB := (((below_tr (below_al (Below.refl _ w) _) (hbel.mono (by simp))).setCell (p := ⟨w.heap.size, 0, none⟩) (Nat.le_refl _) (.bool true)).setCell (p := ⟨w.heap.size, 1, none⟩) (Nat.le_refl _) (.slice a1 (digs n.natAbs).length c1))
      have hR := hrd.set2 q0 q1 (.bool true) (.slice a1 (digs n.natAbs).length c1)
      exact bodyPost_ret (v := .agg #[.bool true, .slice a1 (digs n.natAbs).length c1]) (by simp [results, Tryz.results49, go_sem, q0, q1]) rfl ⟨_, rfl, ⟨_, by rw [decide_eq_true h0], hR⟩, hB⟩

/-- Of: a number of 64 bits. -/
theorem of_any (n : Int) (w : World) (h0 : -9223372036854775808 ≤ n) (h1 : n ≤ 9223372036854775807) :
    Calls Tryz.prog 49 #[.int .i64 n] w fun e w' => ∃ v, e = .returned v ∧ IsNum w' v n ∧ Below w.heap.size w w' := by
  by_cases h : 0 ≤ n
  · exact of_pos n w h h1
  · exact of_neg n w (by omega) h0

end Go.Proofs.YtoglokgkgonmdaaGreatDoor

/-
  Small and Bound of the document's answer of layer 3 (radomeref03): a number of its digits, no greater than may be.
-/
set_option linter.unusedSimpArgs false
set_option linter.unusedVariables false
namespace Go.Proofs.YtoglokgkgonmdaaGreatDoor
open Go.RowKit Dec
attribute [local go_sem ↓] Go.wp_at_zero Go.wp_at_succ

namespace Dec
theorem val_drop (l : List Nat) (k : Nat) (h : k < l.length) : val (l.drop k) = l.getD k 0 + 10 * val (l.drop (k + 1)) := by
  rw [List.drop_eq_getElem_cons h, val_cons]
  simp [List.getD, List.getElem?_eq_getElem h]
theorem val_drop_le (l : List Nat) (k : Nat) : val (l.drop k) ≤ val l := by
  induction k with
  | zero => simp
  | succ k ih =>
    by_cases h : k < l.length
    · have := val_drop l k h; omega
    · rw [List.drop_eq_nil_of_le (by omega)]; simp [val]
end Dec

end Go.Proofs.YtoglokgkgonmdaaGreatDoor

/-
  A number of any size in a variable's block.
-/
set_option linter.unusedSimpArgs false
set_option linter.unusedVariables false
namespace Go.Proofs.YtoglokgkgonmdaaGreatDoor
open Go.RowKit Dec
namespace Nv
theorem len100 {n : Int} (h : n.natAbs < 10 ^ 100) : (digs n.natAbs).length ≤ 1000000 := by
  have := length_digs_le h
  omega
end Nv
end Go.Proofs.YtoglokgkgonmdaaGreatDoor

/-
  Mul of the document's answer (radomeref01): the product of two numbers.
-/
set_option linter.unusedSimpArgs false
set_option linter.unusedVariables false
namespace Go.Proofs.YtoglokgkgonmdaaGreatDoor
open Go.RowKit Dec
namespace Dec

theorem mul_sign (x y : Int) : ((decide (x < 0) != decide (y < 0)) && decide (0 < x.natAbs * y.natAbs)) = decide (x * y < 0) := by
  have hp : 0 < x.natAbs * y.natAbs ↔ x ≠ 0 ∧ y ≠ 0 := by
    rw [Nat.pos_iff_ne_zero, Ne, Nat.mul_eq_zero, Int.natAbs_eq_zero, Int.natAbs_eq_zero]; omega
  rw [Bool.eq_iff_iff, Bool.and_eq_true, decide_eq_true_iff, decide_eq_true_iff, bne_iff_ne, hp]
  rcases Int.lt_trichotomy x 0 with hx | hx | hx
  · rcases Int.lt_trichotomy y 0 with hy | hy | hy
    · have := Int.mul_pos_of_neg_of_neg hx hy
      simp [hx, hy]; omega
    · subst hy; simp
    · have := Int.mul_neg_of_neg_of_pos hx hy
      simp [hx, this, show ¬ y < 0 by omega]; omega
  · subst hx; simp
  · rcases Int.lt_trichotomy y 0 with hy | hy | hy
    · have := Int.mul_neg_of_pos_of_neg hx hy
      simp [hy, this, show ¬ x < 0 by omega]; omega
    · subst hy; simp
    · have := Int.mul_pos hx hy
      simp [show ¬ x < 0 by omega, show ¬ y < 0 by omega]; omega

theorem mul_81 {a b : Nat} (ha : a < 10) (hb : b < 10) : ((a : Nat) : Int) * ((b : Nat) : Int) ≤ 81 := by
  have : a * b ≤ 9 * 9 := Nat.mul_le_mul (by omega) (by omega)
  have e : ((a : Nat) : Int) * ((b : Nat) : Int) = ((a * b : Nat) : Int) := (Int.natCast_mul a b).symm
  omega

theorem Own.drewN {B : Nat} {w0 w : World} {v : Value} {l : List Nat} (h : Own B w0 w v l) (n : Nat) : Own B w0 (w.drewN n) v l := ⟨h.row, below_drewN h.below n, h.base⟩

theorem Own.store {B : Nat} {w0 w : World} {g N c : Nat} {l : List Nat} (h : Own B w0 w (.slice (some ⟨g, 0, none⟩) N c) l) (hN : l.length = N) (hg : B ≤ g) (j : Nat) (z : Int) (d : Nat) (hz : z = (d : Int)) :
    Own B w0 (w.setCell ⟨g, j, none⟩ (.int .i64 z)) (.slice (some ⟨g, 0, none⟩) N c) (l.set j d) := by
  subst hz
  subst hN
  obtain ⟨h1, h2⟩ := h.row.stored j (.int .i64 (d : Int))
  refine ⟨?_, h.below.grown h2 h.base ?_, Nat.le_trans h.base h2.size⟩
  · rw [List.length_set]
    have e : vals (l.set j d) = (vals l).set j (.int .i64 (d : Int)) := by unfold vals; rw [List.map_set]
    rw [e]; exact h1
  · intro k hk
    cases hk; exact hg

theorem Own.at {B : Nat} {w0 w : World} {g N c : Nat} {l : List Nat} (h : Own B w0 w (.slice (some ⟨g, 0, none⟩) N c) l) (hN : l.length = N) {j : Nat} (hj : j < N) :
    w.cell? ⟨g, j, none⟩ = some (.int .i64 ((l.getD j 0 : Nat) : Int)) := by
  subst hN
  rw [h.row.cellAt j (by omega)]
  simp [vals, List.getD, List.getElem?_eq_getElem hj]

theorem Own.free {B : Nat} {w0 w : World} {g N c : Nat} {l : List Nat} (h : Own B w0 w (.slice (some ⟨g, 0, none⟩) N c) l) (hN : l.length = N) (j : Nat) : w.frozen? ⟨g, j, none⟩ = false := by
  subst hN
  exact h.row.frozenAt j

/-- What 'make' lays. -/
theorem own_made {B : Nat} {w0 w : World} {g N : Nat} (h : w.ownsRow B 3 1 (.slice (some ⟨g, 0, none⟩) N N) N (madeCells #[Value.int .i64 0] N).toList) (hg : w0.grownBy w none) (hB : B = w0.heap.size) :
    Own B w0 w (.slice (some ⟨g, 0, none⟩) N N) (List.replicate N 0) := by
  refine ⟨?_, (Below.refl _ _).grown hg (by omega) (by intro k hk; cases hk), by have := hg.size; omega⟩
  have e : (madeCells #[Value.int .i64 0] N).toList = vals (List.replicate N 0) := by
    rw [toList_madeCells_one]
    simp [vals]
  rw [e] at h
  simpa using h

end Dec

attribute [local go_sem ↓] Go.wp_at_zero Go.wp_at_succ

set_option maxRecDepth 100000 in
set_option maxHeartbeats 6400000 in
theorem mul_shape (p q : Bool) (ao bo : Option Addr) (ba oa ca bb ob cb n m N : Nat) (x y : List Nat) (w : World) (hn : n ≤ 1000000) (hm : m ≤ 1000000) (hx : x.length = n) (hy : y.length = m) (hN : N = n + m + 1) (hsx : Small x) (hsy : Small y)
    (hao : ao = some ⟨ba, oa, none⟩ ∨ (ao = none ∧ n = 0)) (hbo : bo = some ⟨bb, ob, none⟩ ∨ (bo = none ∧ m = 0))
    (hca : ∀ t, t < n → ba < w.heap.size ∧ w.cell? ⟨ba, oa + t, none⟩ = some (.int .i64 ((x.getD t 0 : Nat) : Int))) (hcb : ∀ t, t < m → bb < w.heap.size ∧ w.cell? ⟨bb, ob + t, none⟩ = some (.int .i64 ((y.getD t 0 : Nat) : Int))) :
    Calls Tryz.prog 48 #[.agg #[.bool p, .slice ao n ca], .agg #[.bool q, .slice bo m cb]] w fun e w' => ∃ d, e = .returned (.agg #[.bool ((p != q) && decide (0 < val x * val y)), d]) ∧ Rd w' d (digs (val x * val y)) ∧ Below w.heap.size w w' := by
  have Hx : Hid (x.length = n) := hx
  have Hy : Hid (y.length = m) := hy
  have HN : Hid (N = n + m + 1) := hN
  have hN1 : N ≤ n + m + 1 := by omega
  have hN2 : n + m + 1 ≤ N := by omega
  have hst : MulAt x y 0 0 (List.replicate N 0) 0 := by
    rw [hN, ← hx, ← hy]; exact mulAt_start x y
  have hs4 : (digs (val x * val y)).length ≤ 4000000 := by
    refine Nat.le_trans (length_digs_le (k := n + m) ?_) (by omega)
    have a1 := val_lt hsx
    have a2 := val_lt hsy
    rw [hx] at a1
    rw [hy] at a2
    rw [Nat.pow_add]
    rcases Nat.eq_zero_or_pos (val y) with h | h
    · rw [h, Nat.mul_zero]; exact Nat.mul_pos (Nat.pow_pos (by omega)) (Nat.pow_pos (by omega))
    · exact Nat.lt_of_lt_of_le (Nat.mul_lt_mul_of_pos_right a1 h) (Nat.mul_le_mul_left _ (by omega))
  clear hx hy hN
  obtain ⟨i0, hi, hz0, hz1, hz2⟩ := info_parts Tryz.infoInt
  rcases hao with rfl | ⟨rfl, rfl⟩
  · rcases hbo with rfl | ⟨rfl, rfl⟩
    · go_enter Tryz.func48, Tryz.ntmps48
      go_wp2_with (at_make; refine wpList_make_full _ rfl _ _ 92 rfl (w.heap.size + 1 + 1 + 1) 3 i0 (.int .i64 0) 1 Tryz.underlying92 hi hz0 hz1 _ _ _ _ N rfl rfl (by omega) (by omega) (by rw [hz2]; omega) (by unfold maxLen; omega) (by simp) ?_)
      intro w0 hown0 hgrow0
      have hO0 : Own (w.heap.size + 1 + 1 + 1) (((w.alloc (.cells #[.bool p, .slice (some ⟨ba, oa, none⟩) n ca] 94)).alloc (.cells #[.bool q, .slice (some ⟨bb, ob, none⟩) m cb] 94)).alloc (.cells #[.bool false, .slice none 0 0] 94)) w0 (.slice (some ⟨w.heap.size + 1 + 1 + 1, 0, none⟩) N N) (List.replicate N 0) := own_made hown0 hgrow0 (by simp)
      clear hown0 hgrow0
      go_wp2
      go_loopw [6] (fun i wr => ∃ (k : Nat) (l : List Nat), i = .int .i64 k ∧ k ≤ n ∧ MulAt x y k 0 l 0 ∧ Own (w.heap.size + 1 + 1 + 1) (((w.alloc (.cells #[.bool p, .slice (some ⟨ba, oa, none⟩) n ca] 94)).alloc (.cells #[.bool q, .slice (some ⟨bb, ob, none⟩) m cb] 94)).alloc (.cells #[.bool false, .slice none 0 0] 94)) wr (.slice (some ⟨w.heap.size + 1 + 1 + 1, 0, none⟩) N N) l) (fun i _ => n - (intOf i).toNat)
      case atStart => exact ⟨0, _, rfl, Nat.zero_le _, hst, hO0⟩
      case round =>
        obtain ⟨k, l, rfl, hk, hmu, hown⟩ := hrel
        have kA : wr.cell? ⟨w.heap.size, 1, none⟩ = some (.slice (some ⟨ba, oa, none⟩) n ca) := (hown.below.cell (p := ⟨w.heap.size, 1, none⟩) (show w.heap.size < w.heap.size + 1 + 1 + 1 by omega)).trans (by go_simp)
        have kB : wr.cell? ⟨w.heap.size + 1, 1, none⟩ = some (.slice (some ⟨bb, ob, none⟩) m cb) := (hown.below.cell (p := ⟨w.heap.size + 1, 1, none⟩) (show w.heap.size + 1 < w.heap.size + 1 + 1 + 1 by omega)).trans (by go_simp)
        by_cases h1 : k < n
        · go_wp2
          go_loopw [7, 8] (fun c j ws => ∃ (t cc : Nat) (l : List Nat), j = .int .i64 t ∧ c = .int .i64 cc ∧ cc ≤ 9 ∧ t ≤ m + 1 ∧ MulAt x y k t l cc ∧ Own (w.heap.size + 1 + 1 + 1) (((w.alloc (.cells #[.bool p, .slice (some ⟨ba, oa, none⟩) n ca] 94)).alloc (.cells #[.bool q, .slice (some ⟨bb, ob, none⟩) m cb] 94)).alloc (.cells #[.bool false, .slice none 0 0] 94)) ws (.slice (some ⟨w.heap.size + 1 + 1 + 1, 0, none⟩) N N) l) (fun _ j _ => m + 1 - (intOf j).toNat)
          case atStart => exact ⟨0, 0, l, rfl, rfl, by omega, by omega, hmu, hown⟩
          case round =>
            obtain ⟨t, cc, l1, rfl, rfl, hcc, ht, hmu1, hown1⟩ := hrel
            clear kA kB hmu hown
            have hl1 : Hid (l1.length = N) := by have := hmu1.1; rw [Hx.out, Hy.out] at this; rw [HN.out]; exact this
            have kA : wr.cell? ⟨w.heap.size, 1, none⟩ = some (.slice (some ⟨ba, oa, none⟩) n ca) := (hown1.below.cell (p := ⟨w.heap.size, 1, none⟩) (show w.heap.size < w.heap.size + 1 + 1 + 1 by omega)).trans (by go_simp)
            have kB : wr.cell? ⟨w.heap.size + 1, 1, none⟩ = some (.slice (some ⟨bb, ob, none⟩) m cb) := (hown1.below.cell (p := ⟨w.heap.size + 1, 1, none⟩) (show w.heap.size + 1 < w.heap.size + 1 + 1 + 1 by omega)).trans (by go_simp)
            by_cases ht1 : t ≤ m
            · have kO : wr.cell? ⟨w.heap.size + 1 + 1 + 1, k + t, none⟩ = some (.int .i64 ((l1.getD (k + t) 0 : Nat) : Int)) := hown1.at hl1.out (by omega)
              have fO : wr.frozen? ⟨w.heap.size + 1 + 1 + 1, k + t, none⟩ = false := hown1.free hl1.out _
              have dl := hmu1.2.1 (k + t)
              simp only [List.getD] at dl
              by_cases ht2 : t < m
              · have ga : wr.cell? ⟨ba, oa + k, none⟩ = some (.int .i64 ((x.getD k 0 : Nat) : Int)) := ((hown1.below.cell (p := ⟨ba, oa + k, none⟩) (by have := (hca k (by omega)).1; show ba < _; omega)).trans ((below_al (below_al (below_al (Below.refl _ w) _) _) _).cell (p := ⟨ba, oa + k, none⟩) (hca k (by omega)).1)).trans (hca k (by omega)).2
                have gb : wr.cell? ⟨bb, ob + t, none⟩ = some (.int .i64 ((y.getD t 0 : Nat) : Int)) := ((hown1.below.cell (p := ⟨bb, ob + t, none⟩) (by have := (hcb t ht2).1; show bb < _; omega)).trans ((below_al (below_al (below_al (Below.refl _ w) _) _) _).cell (p := ⟨bb, ob + t, none⟩) (hcb t ht2).1)).trans (hcb t ht2).2
                have dx := hsx k
                have dy := hsy t
                simp only [List.getD] at dx dy
                have pr0 : (0 : Int) ≤ ((x[k]?.getD 0 : Nat) : Int) * ((y[t]?.getD 0 : Nat) : Int) := Int.mul_nonneg (by omega) (by omega)
                have pr1 : ((x[k]?.getD 0 : Nat) : Int) * ((y[t]?.getD 0 : Nat) : Int) ≤ 81 := mul_81 dx dy
                go_wp2
                go_quiet (fail)
                go_wp2
                go_roundw
                case rel =>
                  have hs := mulAt_step hmu1 hsx hsy (by rw [hl1.out]; omega) (rfl : (l1.getD (k + t) 0 + cc + x.getD k 0 * y.getD t 0) = _)
                  refine ⟨t + 1, (l1.getD (k + t) 0 + cc + x.getD k 0 * y.getD t 0) / 10, _, by go_num, ?_, hs.2.2.1, by omega, hs, (hown1.drewN _).store hl1.out (Nat.le_refl _) _ _ _ ?_⟩
                  · refine congrArg (Value.int .i64) ?_; simp only [List.getD]; omega
                  · simp only [List.getD]; omega
                case measure => simp [intOf]; omega
              · go_wp2
                go_roundw
                case rel =>
                  have hy0 : y[t]?.getD 0 = 0 := by simp [List.getElem?_eq_none (show y.length ≤ t by rw [Hy.out]; omega)]
                  have hs := mulAt_step hmu1 hsx hsy (by rw [hl1.out]; omega) (rfl : (l1.getD (k + t) 0 + cc + x.getD k 0 * y.getD t 0) = _)
                  refine ⟨t + 1, (l1.getD (k + t) 0 + cc + x.getD k 0 * y.getD t 0) / 10, _, by go_num, ?_, hs.2.2.1, by omega, hs, hown1.store hl1.out (Nat.le_refl _) _ _ _ ?_⟩
                  · refine congrArg (Value.int .i64) ?_; simp only [List.getD]; rw [hy0, Nat.mul_zero]; omega
                  · simp only [List.getD]; rw [hy0, Nat.mul_zero]; omega
                case measure => simp [intOf]; omega
            · go_wp2
              go_roundw
              case rel =>
                have e : t = y.length + 1 := by rw [Hy.out]; omega
                rw [e] at hmu1
                exact ⟨k + 1, l1, by go_num, by omega, mulAt_next hmu1 hsx hsy, hown1⟩
              case measure => simp [intOf]; omega
        · have hend := mulAt_end hmu (by rw [Hx.out]; omega)
          have Hend := Hid.mk' hend
          clear hend
          have hrd0 := hown.rd
          have hbel := hown.below
          have j0 : wr.cell? ⟨w.heap.size, 0, none⟩ = some (.bool p) := (hown.below.cell (p := ⟨w.heap.size, 0, none⟩) (show w.heap.size < w.heap.size + 1 + 1 + 1 by omega)).trans (by go_simp)
          have j1 : wr.cell? ⟨w.heap.size + 1, 0, none⟩ = some (.bool q) := (hown.below.cell (p := ⟨w.heap.size + 1, 0, none⟩) (show w.heap.size + 1 < w.heap.size + 1 + 1 + 1 by omega)).trans (by go_simp)
          have r0 : wr.cell? ⟨w.heap.size + 1 + 1, 0, none⟩ = some (.bool false) := (hown.below.cell (p := ⟨w.heap.size + 1 + 1, 0, none⟩) (show w.heap.size + 1 + 1 < w.heap.size + 1 + 1 + 1 by omega)).trans (by go_simp)
          have r1 : wr.cell? ⟨w.heap.size + 1 + 1, 1, none⟩ = some (.slice none 0 0) := (hown.below.cell (p := ⟨w.heap.size + 1 + 1, 1, none⟩) (show w.heap.size + 1 + 1 < w.heap.size + 1 + 1 + 1 by omega)).trans (by go_simp)
          have g0 : wr.frozen? ⟨w.heap.size + 1 + 1, 0, none⟩ = false := (hown.below.frozen (p := ⟨w.heap.size + 1 + 1, 0, none⟩) (show w.heap.size + 1 + 1 < w.heap.size + 1 + 1 + 1 by omega)).trans (by go_simp)
          have g1 : wr.frozen? ⟨w.heap.size + 1 + 1, 1, none⟩ = false := (hown.below.frozen (p := ⟨w.heap.size + 1 + 1, 1, none⟩) (show w.heap.size + 1 + 1 < w.heap.size + 1 + 1 + 1 by omega)).trans (by go_simp)
          clear hown
          go_wp2
          go_region_held3 (fun w' => w'.cell? ⟨w.heap.size, 0, none⟩ = some (.bool p) ∧ w'.cell? ⟨w.heap.size + 1, 0, none⟩ = some (.bool q)) (first | exact ⟨keep_set (keep_set (keep_cell hb2 j0) (show w.heap.size ≠ w.heap.size + 1 + 1 by omega) _) (show w.heap.size ≠ w.heap.size + 1 + 1 by omega) _, keep_set (keep_set (keep_cell hb2 j1) (show w.heap.size + 1 ≠ w.heap.size + 1 + 1 by omega) _) (show w.heap.size + 1 ≠ w.heap.size + 1 + 1 by omega) _⟩ | exact ⟨keep_cell hb2 j0, keep_cell hb2 j1⟩ | exact ⟨j0, j1⟩ | go_keep)
            (first
              | (go_at_call 83; refine (trim_any _ _ _ Hend.out.1 (by rw [Hend.out.2.2, Hx.out, Hy.out]; omega) (hrd0.below (Below.refl _ _).drew (Nat.le_refl _))).mono ?_; rintro e w1 ⟨v1, rfl, hrd1, rfl⟩; rw [Hend.out.2.1] at hrd1; obtain ⟨a1, c1, hv1⟩ := hrd1.lt; subst hv1)
              | (go_at_call 79; refine (num_any _ _ (val x * val y) _ hs4 hrd1).mono ?_; rintro e w2 ⟨rfl, hb2⟩; have q0 : w2.cell? ⟨w.heap.size + 1 + 1, 0, none⟩ = some (.bool false) := keep_cell hb2 r0; have q1 : w2.cell? ⟨w.heap.size + 1 + 1, 1, none⟩ = some (.slice none 0 0) := keep_cell hb2 r1; have f0 : w2.frozen? ⟨w.heap.size + 1 + 1, 0, none⟩ = false := keep_free hb2 r0 g0; have f1 : w2.frozen? ⟨w.heap.size + 1 + 1, 1, none⟩ = false := keep_free hb2 r1 g1))
          go_wp2
          have hB := (((below_tr (below_tr (below_al (below_al (below_al (Below.refl _ w) _) _) _) (hbel.mono (by simp))).drew hb2).setCell (p := ⟨w.heap.size + 1 + 1, 0, none⟩) (show w.heap.size ≤ w.heap.size + 1 + 1 by omega) (.bool ((p != q) && decide (0 < val x * val y)))).setCell (p := ⟨w.heap.size + 1 + 1, 1, none⟩) (show w.heap.size ≤ w.heap.size + 1 + 1 by omega) (.slice a1 (digs (val x * val y)).length c1))
          have hR := (hrd1.below hb2 (Nat.le_refl _)).set2 q0 q1 (.bool ((p != q) && decide (0 < val x * val y))) (.slice a1 (digs (val x * val y)).length c1)
          exact bodyPost_ret (v := .agg #[.bool ((p != q) && decide (0 < val x * val y)), .slice a1 (digs (val x * val y)).length c1]) (by simp [results, Tryz.results48, go_sem, q0, q1]; cases p <;> cases q <;> rfl) rfl ⟨_, rfl, hR, hB⟩
    · go_enter Tryz.func48, Tryz.ntmps48
      go_wp2_with (at_make; refine wpList_make_full _ rfl _ _ 92 rfl (w.heap.size + 1 + 1 + 1) 3 i0 (.int .i64 0) 1 Tryz.underlying92 hi hz0 hz1 _ _ _ _ N rfl rfl (by omega) (by omega) (by rw [hz2]; omega) (by unfold maxLen; omega) (by simp) ?_)
      intro w0 hown0 hgrow0
      have hO0 : Own (w.heap.size + 1 + 1 + 1) (((w.alloc (.cells #[.bool p, .slice (some ⟨ba, oa, none⟩) n ca] 94)).alloc (.cells #[.bool q, .slice none 0 cb] 94)).alloc (.cells #[.bool false, .slice none 0 0] 94)) w0 (.slice (some ⟨w.heap.size + 1 + 1 + 1, 0, none⟩) N N) (List.replicate N 0) := own_made hown0 hgrow0 (by simp)
      clear hown0 hgrow0
      go_wp2
      go_loopw [6] (fun i wr => ∃ (k : Nat) (l : List Nat), i = .int .i64 k ∧ k ≤ n ∧ MulAt x y k 0 l 0 ∧ Own (w.heap.size + 1 + 1 + 1) (((w.alloc (.cells #[.bool p, .slice (some ⟨ba, oa, none⟩) n ca] 94)).alloc (.cells #[.bool q, .slice none 0 cb] 94)).alloc (.cells #[.bool false, .slice none 0 0] 94)) wr (.slice (some ⟨w.heap.size + 1 + 1 + 1, 0, none⟩) N N) l) (fun i _ => n - (intOf i).toNat)
      case atStart => exact ⟨0, _, rfl, Nat.zero_le _, hst, hO0⟩
      case round =>
        obtain ⟨k, l, rfl, hk, hmu, hown⟩ := hrel
        have kA : wr.cell? ⟨w.heap.size, 1, none⟩ = some (.slice (some ⟨ba, oa, none⟩) n ca) := (hown.below.cell (p := ⟨w.heap.size, 1, none⟩) (show w.heap.size < w.heap.size + 1 + 1 + 1 by omega)).trans (by go_simp)
        have kB : wr.cell? ⟨w.heap.size + 1, 1, none⟩ = some (.slice none 0 cb) := (hown.below.cell (p := ⟨w.heap.size + 1, 1, none⟩) (show w.heap.size + 1 < w.heap.size + 1 + 1 + 1 by omega)).trans (by go_simp)
        by_cases h1 : k < n
        · go_wp2
          go_loopw [7, 8] (fun c j ws => ∃ (t cc : Nat) (l : List Nat), j = .int .i64 t ∧ c = .int .i64 cc ∧ cc ≤ 9 ∧ t ≤ 0 + 1 ∧ MulAt x y k t l cc ∧ Own (w.heap.size + 1 + 1 + 1) (((w.alloc (.cells #[.bool p, .slice (some ⟨ba, oa, none⟩) n ca] 94)).alloc (.cells #[.bool q, .slice none 0 cb] 94)).alloc (.cells #[.bool false, .slice none 0 0] 94)) ws (.slice (some ⟨w.heap.size + 1 + 1 + 1, 0, none⟩) N N) l) (fun _ j _ => 0 + 1 - (intOf j).toNat)
          case atStart => exact ⟨0, 0, l, rfl, rfl, by omega, by omega, hmu, hown⟩
          case round =>
            obtain ⟨t, cc, l1, rfl, rfl, hcc, ht, hmu1, hown1⟩ := hrel
            clear kA kB hmu hown
            have hl1 : Hid (l1.length = N) := by have := hmu1.1; rw [Hx.out, Hy.out] at this; rw [HN.out]; exact this
            have kA : wr.cell? ⟨w.heap.size, 1, none⟩ = some (.slice (some ⟨ba, oa, none⟩) n ca) := (hown1.below.cell (p := ⟨w.heap.size, 1, none⟩) (show w.heap.size < w.heap.size + 1 + 1 + 1 by omega)).trans (by go_simp)
            have kB : wr.cell? ⟨w.heap.size + 1, 1, none⟩ = some (.slice none 0 cb) := (hown1.below.cell (p := ⟨w.heap.size + 1, 1, none⟩) (show w.heap.size + 1 < w.heap.size + 1 + 1 + 1 by omega)).trans (by go_simp)
            by_cases ht1 : t ≤ 0
            · have ht0 : t = 0 := by omega
              subst ht0
              have kO : wr.cell? ⟨w.heap.size + 1 + 1 + 1, k, none⟩ = some (.int .i64 ((l1.getD k 0 : Nat) : Int)) := hown1.at hl1.out (by omega)
              have fO : wr.frozen? ⟨w.heap.size + 1 + 1 + 1, k, none⟩ = false := hown1.free hl1.out _
              have dl := hmu1.2.1 k
              simp only [List.getD] at dl
              go_wp2
              go_roundw
              case rel =>
                have hy0 : y[0]?.getD 0 = 0 := by simp [List.getElem?_eq_none (show y.length ≤ 0 by rw [Hy.out]; omega)]
                have hs := mulAt_step hmu1 hsx hsy (by rw [hl1.out]; omega) (rfl : (l1.getD (k + 0) 0 + cc + x.getD k 0 * y.getD 0 0) = _)
                simp only [Nat.add_zero, Nat.zero_add] at hs
                refine ⟨1, (l1.getD k 0 + cc + x.getD k 0 * y.getD 0 0) / 10, _, by go_num, ?_, hs.2.2.1, by omega, hs, hown1.store hl1.out (Nat.le_refl _) _ _ _ ?_⟩
                · refine congrArg (Value.int .i64) ?_; simp only [List.getD]; rw [hy0, Nat.mul_zero]; omega
                · simp only [List.getD]; rw [hy0, Nat.mul_zero]; omega
              case measure => simp [intOf]
            · go_wp2
              go_roundw
              case rel =>
                have e : t = y.length + 1 := by rw [Hy.out]; omega
                rw [e] at hmu1
                exact ⟨k + 1, l1, by go_num, by omega, mulAt_next hmu1 hsx hsy, hown1⟩
              case measure => simp [intOf]; omega
        · have hend := mulAt_end hmu (by rw [Hx.out]; omega)
          have Hend := Hid.mk' hend
          clear hend
          have hrd0 := hown.rd
          have hbel := hown.below
          have j0 : wr.cell? ⟨w.heap.size, 0, none⟩ = some (.bool p) := (hown.below.cell (p := ⟨w.heap.size, 0, none⟩) (show w.heap.size < w.heap.size + 1 + 1 + 1 by omega)).trans (by go_simp)
          have j1 : wr.cell? ⟨w.heap.size + 1, 0, none⟩ = some (.bool q) := (hown.below.cell (p := ⟨w.heap.size + 1, 0, none⟩) (show w.heap.size + 1 < w.heap.size + 1 + 1 + 1 by omega)).trans (by go_simp)
          have r0 : wr.cell? ⟨w.heap.size + 1 + 1, 0, none⟩ = some (.bool false) := (hown.below.cell (p := ⟨w.heap.size + 1 + 1, 0, none⟩) (show w.heap.size + 1 + 1 < w.heap.size + 1 + 1 + 1 by omega)).trans (by go_simp)
          have r1 : wr.cell? ⟨w.heap.size + 1 + 1, 1, none⟩ = some (.slice none 0 0) := (hown.below.cell (p := ⟨w.heap.size + 1 + 1, 1, none⟩) (show w.heap.size + 1 + 1 < w.heap.size + 1 + 1 + 1 by omega)).trans (by go_simp)
          have g0 : wr.frozen? ⟨w.heap.size + 1 + 1, 0, none⟩ = false := (hown.below.frozen (p := ⟨w.heap.size + 1 + 1, 0, none⟩) (show w.heap.size + 1 + 1 < w.heap.size + 1 + 1 + 1 by omega)).trans (by go_simp)
          have g1 : wr.frozen? ⟨w.heap.size + 1 + 1, 1, none⟩ = false := (hown.below.frozen (p := ⟨w.heap.size + 1 + 1, 1, none⟩) (show w.heap.size + 1 + 1 < w.heap.size + 1 + 1 + 1 by omega)).trans (by go_simp)
          clear hown
          go_wp2
          go_region_held3 (fun w' => w'.cell? ⟨w.heap.size, 0, none⟩ = some (.bool p) ∧ w'.cell? ⟨w.heap.size + 1, 0, none⟩ = some (.bool q)) (first | exact ⟨keep_set (keep_set (keep_cell hb2 j0) (show w.heap.size ≠ w.heap.size + 1 + 1 by omega) _) (show w.heap.size ≠ w.heap.size + 1 + 1 by omega) _, keep_set (keep_set (keep_cell hb2 j1) (show w.heap.size + 1 ≠ w.heap.size + 1 + 1 by omega) _) (show w.heap.size + 1 ≠ w.heap.size + 1 + 1 by omega) _⟩ | exact ⟨keep_cell hb2 j0, keep_cell hb2 j1⟩ | exact ⟨j0, j1⟩ | go_keep)
            (first
              | (go_at_call 83; refine (trim_any _ _ _ Hend.out.1 (by rw [Hend.out.2.2, Hx.out, Hy.out]; omega) (hrd0.below (Below.refl _ _).drew (Nat.le_refl _))).mono ?_; rintro e w1 ⟨v1, rfl, hrd1, rfl⟩; rw [Hend.out.2.1] at hrd1; obtain ⟨a1, c1, hv1⟩ := hrd1.lt; subst hv1)
              | (go_at_call 79; refine (num_any _ _ (val x * val y) _ hs4 hrd1).mono ?_; rintro e w2 ⟨rfl, hb2⟩; have q0 : w2.cell? ⟨w.heap.size + 1 + 1, 0, none⟩ = some (.bool false) := keep_cell hb2 r0; have q1 : w2.cell? ⟨w.heap.size + 1 + 1, 1, none⟩ = some (.slice none 0 0) := keep_cell hb2 r1; have f0 : w2.frozen? ⟨w.heap.size + 1 + 1, 0, none⟩ = false := keep_free hb2 r0 g0; have f1 : w2.frozen? ⟨w.heap.size + 1 + 1, 1, none⟩ = false := keep_free hb2 r1 g1))
          go_wp2
          have hB := (((below_tr (below_tr (below_al (below_al (below_al (Below.refl _ w) _) _) _) (hbel.mono (by simp))).drew hb2).setCell (p := ⟨w.heap.size + 1 + 1, 0, none⟩) (show w.heap.size ≤ w.heap.size + 1 + 1 by omega) (.bool ((p != q) && decide (0 < val x * val y)))).setCell (p := ⟨w.heap.size + 1 + 1, 1, none⟩) (show w.heap.size ≤ w.heap.size + 1 + 1 by omega) (.slice a1 (digs (val x * val y)).length c1))
          have hR := (hrd1.below hb2 (Nat.le_refl _)).set2 q0 q1 (.bool ((p != q) && decide (0 < val x * val y))) (.slice a1 (digs (val x * val y)).length c1)
          exact bodyPost_ret (v := .agg #[.bool ((p != q) && decide (0 < val x * val y)), .slice a1 (digs (val x * val y)).length c1]) (by simp [results, Tryz.results48, go_sem, q0, q1]; cases p <;> cases q <;> rfl) rfl ⟨_, rfl, hR, hB⟩
  · rcases hbo with rfl | ⟨rfl, rfl⟩
    · go_enter Tryz.func48, Tryz.ntmps48
      go_wp2_with (at_make; refine wpList_make_full _ rfl _ _ 92 rfl (w.heap.size + 1 + 1 + 1) 3 i0 (.int .i64 0) 1 Tryz.underlying92 hi hz0 hz1 _ _ _ _ N rfl rfl (by omega) (by omega) (by rw [hz2]; omega) (by unfold maxLen; omega) (by simp) ?_)
      intro w0 hown0 hgrow0
      have hO0 : Own (w.heap.size + 1 + 1 + 1) (((w.alloc (.cells #[.bool p, .slice none 0 ca] 94)).alloc (.cells #[.bool q, .slice (some ⟨bb, ob, none⟩) m cb] 94)).alloc (.cells #[.bool false, .slice none 0 0] 94)) w0 (.slice (some ⟨w.heap.size + 1 + 1 + 1, 0, none⟩) N N) (List.replicate N 0) := own_made hown0 hgrow0 (by simp)
      clear hown0 hgrow0
      go_wp2
      go_loopw [6] (fun i wr => ∃ (k : Nat) (l : List Nat), i = .int .i64 k ∧ k ≤ 0 ∧ MulAt x y k 0 l 0 ∧ Own (w.heap.size + 1 + 1 + 1) (((w.alloc (.cells #[.bool p, .slice none 0 ca] 94)).alloc (.cells #[.bool q, .slice (some ⟨bb, ob, none⟩) m cb] 94)).alloc (.cells #[.bool false, .slice none 0 0] 94)) wr (.slice (some ⟨w.heap.size + 1 + 1 + 1, 0, none⟩) N N) l) (fun i _ => 0 - (intOf i).toNat)
      case atStart => exact ⟨0, _, rfl, Nat.zero_le _, hst, hO0⟩
      case round =>
        obtain ⟨k, l, rfl, hk, hmu, hown⟩ := hrel
        have kA : wr.cell? ⟨w.heap.size, 1, none⟩ = some (.slice none 0 ca) := (hown.below.cell (p := ⟨w.heap.size, 1, none⟩) (show w.heap.size < w.heap.size + 1 + 1 + 1 by omega)).trans (by go_simp)
        have kB : wr.cell? ⟨w.heap.size + 1, 1, none⟩ = some (.slice (some ⟨bb, ob, none⟩) m cb) := (hown.below.cell (p := ⟨w.heap.size + 1, 1, none⟩) (show w.heap.size + 1 < w.heap.size + 1 + 1 + 1 by omega)).trans (by go_simp)
        have hend := mulAt_end hmu (by rw [Hx.out]; omega)
        have Hend := Hid.mk' hend
        clear hend
        have hrd0 := hown.rd
        have hbel := hown.below
        have j0 : wr.cell? ⟨w.heap.size, 0, none⟩ = some (.bool p) := (hown.below.cell (p := ⟨w.heap.size, 0, none⟩) (show w.heap.size < w.heap.size + 1 + 1 + 1 by omega)).trans (by go_simp)
        have j1 : wr.cell? ⟨w.heap.size + 1, 0, none⟩ = some (.bool q) := (hown.below.cell (p := ⟨w.heap.size + 1, 0, none⟩) (show w.heap.size + 1 < w.heap.size + 1 + 1 + 1 by omega)).trans (by go_simp)
        have r0 : wr.cell? ⟨w.heap.size + 1 + 1, 0, none⟩ = some (.bool false) := (hown.below.cell (p := ⟨w.heap.size + 1 + 1, 0, none⟩) (show w.heap.size + 1 + 1 < w.heap.size + 1 + 1 + 1 by omega)).trans (by go_simp)
        have r1 : wr.cell? ⟨w.heap.size + 1 + 1, 1, none⟩ = some (.slice none 0 0) := (hown.below.cell (p := ⟨w.heap.size + 1 + 1, 1, none⟩) (show w.heap.size + 1 + 1 < w.heap.size + 1 + 1 + 1 by omega)).trans (by go_simp)
        have g0 : wr.frozen? ⟨w.heap.size + 1 + 1, 0, none⟩ = false := (hown.below.frozen (p := ⟨w.heap.size + 1 + 1, 0, none⟩) (show w.heap.size + 1 + 1 < w.heap.size + 1 + 1 + 1 by omega)).trans (by go_simp)
        have g1 : wr.frozen? ⟨w.heap.size + 1 + 1, 1, none⟩ = false := (hown.below.frozen (p := ⟨w.heap.size + 1 + 1, 1, none⟩) (show w.heap.size + 1 + 1 < w.heap.size + 1 + 1 + 1 by omega)).trans (by go_simp)
        clear hown
        go_wp2
        go_region_held3 (fun w' => w'.cell? ⟨w.heap.size, 0, none⟩ = some (.bool p) ∧ w'.cell? ⟨w.heap.size + 1, 0, none⟩ = some (.bool q)) (first | exact ⟨keep_set (keep_set (keep_cell hb2 j0) (show w.heap.size ≠ w.heap.size + 1 + 1 by omega) _) (show w.heap.size ≠ w.heap.size + 1 + 1 by omega) _, keep_set (keep_set (keep_cell hb2 j1) (show w.heap.size + 1 ≠ w.heap.size + 1 + 1 by omega) _) (show w.heap.size + 1 ≠ w.heap.size + 1 + 1 by omega) _⟩ | exact ⟨keep_cell hb2 j0, keep_cell hb2 j1⟩ | exact ⟨j0, j1⟩ | go_keep)
          (first
            | (go_at_call 83; refine (trim_any _ _ _ Hend.out.1 (by rw [Hend.out.2.2, Hx.out, Hy.out]; omega) (hrd0.below (Below.refl _ _).drew (Nat.le_refl _))).mono ?_; rintro e w1 ⟨v1, rfl, hrd1, rfl⟩; rw [Hend.out.2.1] at hrd1; obtain ⟨a1, c1, hv1⟩ := hrd1.lt; subst hv1)
            | (go_at_call 79; refine (num_any _ _ (val x * val y) _ hs4 hrd1).mono ?_; rintro e w2 ⟨rfl, hb2⟩; have q0 : w2.cell? ⟨w.heap.size + 1 + 1, 0, none⟩ = some (.bool false) := keep_cell hb2 r0; have q1 : w2.cell? ⟨w.heap.size + 1 + 1, 1, none⟩ = some (.slice none 0 0) := keep_cell hb2 r1; have f0 : w2.frozen? ⟨w.heap.size + 1 + 1, 0, none⟩ = false := keep_free hb2 r0 g0; have f1 : w2.frozen? ⟨w.heap.size + 1 + 1, 1, none⟩ = false := keep_free hb2 r1 g1))
        go_wp2
        have hB := (((below_tr (below_tr (below_al (below_al (below_al (Below.refl _ w) _) _) _) (hbel.mono (by simp))).drew hb2).setCell (p := ⟨w.heap.size + 1 + 1, 0, none⟩) (show w.heap.size ≤ w.heap.size + 1 + 1 by omega) (.bool ((p != q) && decide (0 < val x * val y)))).setCell (p := ⟨w.heap.size + 1 + 1, 1, none⟩) (show w.heap.size ≤ w.heap.size + 1 + 1 by omega) (.slice a1 (digs (val x * val y)).length c1))
        have hR := (hrd1.below hb2 (Nat.le_refl _)).set2 q0 q1 (.bool ((p != q) && decide (0 < val x * val y))) (.slice a1 (digs (val x * val y)).length c1)
        exact bodyPost_ret (v := .agg #[.bool ((p != q) && decide (0 < val x * val y)), .slice a1 (digs (val x * val y)).length c1]) (by simp [results, Tryz.results48, go_sem, q0, q1]; cases p <;> cases q <;> rfl) rfl ⟨_, rfl, hR, hB⟩
    · go_enter Tryz.func48, Tryz.ntmps48
      go_wp2_with (at_make; refine wpList_make_full _ rfl _ _ 92 rfl (w.heap.size + 1 + 1 + 1) 3 i0 (.int .i64 0) 1 Tryz.underlying92 hi hz0 hz1 _ _ _ _ N rfl rfl (by omega) (by omega) (by rw [hz2]; omega) (by unfold maxLen; omega) (by simp) ?_)
      intro w0 hown0 hgrow0
      have hO0 : Own (w.heap.size + 1 + 1 + 1) (((w.alloc (.cells #[.bool p, .slice none 0 ca] 94)).alloc (.cells #[.bool q, .slice none 0 cb] 94)).alloc (.cells #[.bool false, .slice none 0 0] 94)) w0 (.slice (some ⟨w.heap.size + 1 + 1 + 1, 0, none⟩) N N) (List.replicate N 0) := own_made hown0 hgrow0 (by simp)
      clear hown0 hgrow0
      go_wp2
      go_loopw [6] (fun i wr => ∃ (k : Nat) (l : List Nat), i = .int .i64 k ∧ k ≤ 0 ∧ MulAt x y k 0 l 0 ∧ Own (w.heap.size + 1 + 1 + 1) (((w.alloc (.cells #[.bool p, .slice none 0 ca] 94)).alloc (.cells #[.bool q, .slice none 0 cb] 94)).alloc (.cells #[.bool false, .slice none 0 0] 94)) wr (.slice (some ⟨w.heap.size + 1 + 1 + 1, 0, none⟩) N N) l) (fun i _ => 0 - (intOf i).toNat)
      case atStart => exact ⟨0, _, rfl, Nat.zero_le _, hst, hO0⟩
      case round =>
        obtain ⟨k, l, rfl, hk, hmu, hown⟩ := hrel
        have kA : wr.cell? ⟨w.heap.size, 1, none⟩ = some (.slice none 0 ca) := (hown.below.cell (p := ⟨w.heap.size, 1, none⟩) (show w.heap.size < w.heap.size + 1 + 1 + 1 by omega)).trans (by go_simp)
        have kB : wr.cell? ⟨w.heap.size + 1, 1, none⟩ = some (.slice none 0 cb) := (hown.below.cell (p := ⟨w.heap.size + 1, 1, none⟩) (show w.heap.size + 1 < w.heap.size + 1 + 1 + 1 by omega)).trans (by go_simp)
        have hend := mulAt_end hmu (by rw [Hx.out]; omega)
        have Hend := Hid.mk' hend
        clear hend
        have hrd0 := hown.rd
        have hbel := hown.below
        have j0 : wr.cell? ⟨w.heap.size, 0, none⟩ = some (.bool p) := (hown.below.cell (p := ⟨w.heap.size, 0, none⟩) (show w.heap.size < w.heap.size + 1 + 1 + 1 by omega)).trans (by go_simp)
        have j1 : wr.cell? ⟨w.heap.size + 1, 0, none⟩ = some (.bool q) := (hown.below.cell (p := ⟨w.heap.size + 1, 0, none⟩) (show w.heap.size + 1 < w.heap.size + 1 + 1 + 1 by omega)).trans (by go_simp)
        have r0 : wr.cell? ⟨w.heap.size + 1 + 1, 0, none⟩ = some (.bool false) := (hown.below.cell (p := ⟨w.heap.size + 1 + 1, 0, none⟩) (show w.heap.size + 1 + 1 < w.heap.size + 1 + 1 + 1 by omega)).trans (by go_simp)
        have r1 : wr.cell? ⟨w.heap.size + 1 + 1, 1, none⟩ = some (.slice none 0 0) := (hown.below.cell (p := ⟨w.heap.size + 1 + 1, 1, none⟩) (show w.heap.size + 1 + 1 < w.heap.size + 1 + 1 + 1 by omega)).trans (by go_simp)
        have g0 : wr.frozen? ⟨w.heap.size + 1 + 1, 0, none⟩ = false := (hown.below.frozen (p := ⟨w.heap.size + 1 + 1, 0, none⟩) (show w.heap.size + 1 + 1 < w.heap.size + 1 + 1 + 1 by omega)).trans (by go_simp)
        have g1 : wr.frozen? ⟨w.heap.size + 1 + 1, 1, none⟩ = false := (hown.below.frozen (p := ⟨w.heap.size + 1 + 1, 1, none⟩) (show w.heap.size + 1 + 1 < w.heap.size + 1 + 1 + 1 by omega)).trans (by go_simp)
        clear hown
        go_wp2
        go_region_held3 (fun w' => w'.cell? ⟨w.heap.size, 0, none⟩ = some (.bool p) ∧ w'.cell? ⟨w.heap.size + 1, 0, none⟩ = some (.bool q)) (first | exact ⟨keep_set (keep_set (keep_cell hb2 j0) (show w.heap.size ≠ w.heap.size + 1 + 1 by omega) _) (show w.heap.size ≠ w.heap.size + 1 + 1 by omega) _, keep_set (keep_set (keep_cell hb2 j1) (show w.heap.size + 1 ≠ w.heap.size + 1 + 1 by omega) _) (show w.heap.size + 1 ≠ w.heap.size + 1 + 1 by omega) _⟩ | exact ⟨keep_cell hb2 j0, keep_cell hb2 j1⟩ | exact ⟨j0, j1⟩ | go_keep)
          (first
            | (go_at_call 83; refine (trim_any _ _ _ Hend.out.1 (by rw [Hend.out.2.2, Hx.out, Hy.out]; omega) (hrd0.below (Below.refl _ _).drew (Nat.le_refl _))).mono ?_; rintro e w1 ⟨v1, rfl, hrd1, rfl⟩; rw [Hend.out.2.1] at hrd1; obtain ⟨a1, c1, hv1⟩ := hrd1.lt; subst hv1)
            | (go_at_call 79; refine (num_any _ _ (val x * val y) _ hs4 hrd1).mono ?_; rintro e w2 ⟨rfl, hb2⟩; have q0 : w2.cell? ⟨w.heap.size + 1 + 1, 0, none⟩ = some (.bool false) := keep_cell hb2 r0; have q1 : w2.cell? ⟨w.heap.size + 1 + 1, 1, none⟩ = some (.slice none 0 0) := keep_cell hb2 r1; have f0 : w2.frozen? ⟨w.heap.size + 1 + 1, 0, none⟩ = false := keep_free hb2 r0 g0; have f1 : w2.frozen? ⟨w.heap.size + 1 + 1, 1, none⟩ = false := keep_free hb2 r1 g1))
        go_wp2
        have hB := (((below_tr (below_tr (below_al (below_al (below_al (Below.refl _ w) _) _) _) (hbel.mono (by simp))).drew hb2).setCell (p := ⟨w.heap.size + 1 + 1, 0, none⟩) (show w.heap.size ≤ w.heap.size + 1 + 1 by omega) (.bool ((p != q) && decide (0 < val x * val y)))).setCell (p := ⟨w.heap.size + 1 + 1, 1, none⟩) (show w.heap.size ≤ w.heap.size + 1 + 1 by omega) (.slice a1 (digs (val x * val y)).length c1))
        have hR := (hrd1.below hb2 (Nat.le_refl _)).set2 q0 q1 (.bool ((p != q) && decide (0 < val x * val y))) (.slice a1 (digs (val x * val y)).length c1)
        exact bodyPost_ret (v := .agg #[.bool ((p != q) && decide (0 < val x * val y)), .slice a1 (digs (val x * val y)).length c1]) (by simp [results, Tryz.results48, go_sem, q0, q1]; cases p <;> cases q <;> rfl) rfl ⟨_, rfl, hR, hB⟩

/-- Mul: the product. -/
theorem mul_any (va vb : Value) (x y : Int) (w : World) (hx : (digs x.natAbs).length ≤ 1000000) (hy : (digs y.natAbs).length ≤ 1000000) (ha : IsNum w va x) (hb : IsNum w vb y) :
    Calls Tryz.prog 48 #[va, vb] w fun e w' => ∃ v, e = .returned v ∧ IsNum w' v (x * y) ∧ Below w.heap.size w w' := by
  obtain ⟨da, rfl, hda⟩ := ha
  obtain ⟨db, rfl, hdb⟩ := hb
  obtain ⟨ao, ba, oa, ca, rfl, _, hao, hca⟩ := hda.shape
  obtain ⟨bo, bb, ob, cb, rfl, _, hbo, hcb⟩ := hdb.shape
  refine (mul_shape (decide (x < 0)) (decide (y < 0)) ao bo ba oa ca bb ob cb _ _ _ (digs x.natAbs) (digs y.natAbs) w hx hy rfl rfl rfl (small_digs _) (small_digs _) hao hbo hca hcb).mono ?_
  rintro e w' ⟨d, rfl, hd, hw⟩
  rw [val_digs, val_digs] at hd
  rw [val_digs, val_digs]
  refine ⟨_, rfl, ⟨d, ?_, by rw [Int.natAbs_mul]; exact hd⟩, hw⟩
  rw [mul_sign x y]

end Go.Proofs.YtoglokgkgonmdaaGreatDoor
