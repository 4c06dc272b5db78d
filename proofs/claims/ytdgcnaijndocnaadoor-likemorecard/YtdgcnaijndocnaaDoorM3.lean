/-
  What the document's answer (radomeref01) does to numbers with a sign: num, Sign, Neg, Add, Sub and Cmp are the sign, the number with the other one, the sum, the difference and how two compare.
-/
import Derived.Test.YtdgcnaijndocnaaDoorM2
import Derived.Deep.RegionHeld3
import Derived.Laws.ResultCell
import Derived.Deep.DrawnRows
import Derived.Test.YtdgcnaijndocnaaDoorM1
set_option linter.unusedSimpArgs false
set_option linter.unusedVariables false
namespace Go.Proofs.YtdgcnaijndocnaaDoor
open Go.RowKit Dec
namespace Dec

/-- The value v is the number z. -/
def IsNum (w : World) (v : Value) (z : Int) : Prop := ∃ d, v = .agg #[.bool (decide (z < 0)), d] ∧ Rd w d (digs z.natAbs)

theorem IsNum.below {w w' : World} {v : Value} {z : Int} (h : IsNum w v z) (hb : Below w.heap.size w w') : IsNum w' v z := by
  obtain ⟨d, rfl, hd⟩ := h
  exact ⟨d, rfl, hd.below hb (Nat.le_refl _)⟩

theorem bcell {W w1 : World} (hb : Below W.heap.size W w1) : (∀ b o, b < W.heap.size → w1.cell? ⟨b, o, none⟩ = W.cell? ⟨b, o, none⟩) ∧ (∀ b o, b < W.heap.size → w1.frozen? ⟨b, o, none⟩ = W.frozen? ⟨b, o, none⟩) :=
  ⟨fun b o h => hb.cell (p := ⟨b, o, none⟩) h, fun b o h => hb.frozen (p := ⟨b, o, none⟩) h⟩

theorem keep_set {w : World} {a p : Addr} {v : Value} (h : w.cell? a = some v) (hne : a.block ≠ p.block) (u : Value) : (w.setCell p u).cell? a = some v :=
  (World.cell?_of_block (Below.heap_setCell w p u a.block hne)).trans h

/-- A store into a cell that is no digit of it (its value is no int). -/
theorem Rd.set {w : World} {v : Value} {l : List Nat} (h : Rd w v l) {p : Addr} (u : Value) (hp : ∀ z, w.cell? p ≠ some (.int .i64 z)) : Rd (w.setCell p u) v l := by
  rcases h with h | ⟨b, off, cap, hv, hc, hlt, hcell⟩
  · exact Or.inl h
  · refine Or.inr ⟨b, off, cap, hv, hc, hlt.set p u, fun t ht => ?_⟩
    rw [World.cell?_setCell_other, hcell t ht]
    intro e
    subst e
    exact hp _ (hcell t ht)

theorem Rd.set2 {w : World} {v : Value} {l : List Nat} (h : Rd w v l) {R : Nat} (q0 : w.cell? ⟨R, 0, none⟩ = some (.bool false)) (q1 : w.cell? ⟨R, 1, none⟩ = some (.slice none 0 0)) (u0 u1 : Value) :
    Rd ((w.setCell ⟨R, 0, none⟩ u0).setCell ⟨R, 1, none⟩ u1) v l := by
  refine (h.set u0 (by intro z; rw [q0]; simp)).set u1 ?_
  intro z
  have e : (⟨R, 0, none⟩ : Addr) ≠ ⟨R, 1, none⟩ := by simp
  rw [World.cell?_setCell_other w _ _ _ e, q1]
  simp

theorem Rd.lt {w : World} {v : Value} {l : List Nat} (h : Rd w v l) : ∃ ao cap, v = .slice ao l.length cap := by
  rcases h with ⟨rfl, rfl⟩ | ⟨b, off, cap, rfl, _⟩
  · exact ⟨_, _, rfl⟩
  · exact ⟨_, _, rfl⟩

end Dec

attribute [local go_sem ↓] Go.wp_at_zero Go.wp_at_succ

end Go.Proofs.YtdgcnaijndocnaaDoor

/-
  A number of the document's (radomeref01) as a block of two cells.
-/
set_option linter.unusedSimpArgs false
set_option linter.unusedVariables false
namespace Go.Proofs.YtdgcnaijndocnaaDoor
open Go.RowKit Dec
namespace Dec

theorem IsNum.form {w : World} {v : Value} {z : Int} (h : IsNum w v z) : ∃ a L c, v = .agg #[.bool (decide (z < 0)), .slice a L c] := by
  obtain ⟨d, hv, hd⟩ := h
  obtain ⟨a, c, rfl⟩ := hd.lt
  exact ⟨a, _, c, hv⟩
theorem IsNum.form0 {w : World} {v : Value} {n : Nat} (h : IsNum w v (n : Int)) : ∃ a L c, v = .agg #[.bool false, .slice a L c] := by
  obtain ⟨a, L, c, hv⟩ := h.form
  rw [decide_eq_false (Int.not_lt.2 (Int.natCast_nonneg n))] at hv
  exact ⟨a, L, c, hv⟩
theorem len_nat (n : Nat) : (digs (n : Int).natAbs).length = (digs n).length := by rw [Int.natAbs_natCast]

theorem below_set2 {B g : Nat} {w0 w : World} (h : Below B w0 w) (hg : B ≤ g) (u0 u1 : Value) : Below B w0 ((w.setCell ⟨g, 0, none⟩ u0).setCell ⟨g, 1, none⟩ u1) :=
  (h.setCell (p := ⟨g, 0, none⟩) hg u0).setCell (p := ⟨g, 1, none⟩) hg u1

theorem keep_drew {w : World} {a : Addr} {v : Value} (h : w.cell? a = some v) : w.drew.cell? a = some v := h
theorem keep_alloc {w : World} {a : Addr} {v : Value} (o : Obj) (h : w.cell? a = some v) : (w.alloc o).cell? a = some v := keep_cell (below_al (Below.refl _ _) o) h
theorem IsNum.drew {w : World} {v : Value} {z : Int} (h : IsNum w v z) : IsNum w.drew v z := h.below (Below.refl _ _).drew
theorem IsNum.alloc {w : World} {v : Value} {z : Int} (h : IsNum w v z) (o : Obj) : IsNum (w.alloc o) v z := h.below (below_al (Below.refl _ _) o)
end Dec
end Go.Proofs.YtdgcnaijndocnaaDoor

/-
  A number of any size in a variable's block.
-/
set_option linter.unusedSimpArgs false
set_option linter.unusedVariables false
namespace Go.Proofs.YtdgcnaijndocnaaDoor
open Go.RowKit Dec
namespace Nv
theorem num_zero (w : World) : IsNum w (.agg #[.bool (decide ((0 : Int) < 0)), .slice none 0 0]) 0 := ⟨.slice none 0 0, rfl, Or.inl ⟨rfl, rfl⟩⟩
theorem len100 {n : Int} (h : n.natAbs < 10 ^ 100) : (digs n.natAbs).length ≤ 1000000 := by
  have := length_digs_le h
  omega
end Nv
end Go.Proofs.YtdgcnaijndocnaaDoor

/-
  Add, Sub and Cmp of the document's answer (radomeref01), for whatever two numbers: the sum, the difference, and how they compare.
-/
set_option linter.unusedSimpArgs false
set_option linter.unusedVariables false
namespace Go.Proofs.YtdgcnaijndocnaaDoor
open Go.RowKit Dec

attribute [local go_sem ↓] Go.wp_at_zero Go.wp_at_succ

end Go.Proofs.YtdgcnaijndocnaaDoor

/-
  Of and Mul of the document's answer (radomeref01): a number of 64 bits as digits, and the product of two numbers.
-/
set_option linter.unusedSimpArgs false
set_option linter.unusedVariables false
namespace Go.Proofs.YtdgcnaijndocnaaDoor
open Go.RowKit Dec

theorem Hid.mk' {p : Prop} (h : p) : Hid p := h

end Go.Proofs.YtdgcnaijndocnaaDoor

/-
  Mul of the document's answer (radomeref01): the product of two numbers.
-/
set_option linter.unusedSimpArgs false
set_option linter.unusedVariables false
namespace Go.Proofs.YtdgcnaijndocnaaDoor
open Go.RowKit Dec
namespace Dec

theorem mul_sign (x y : Int) : ((decide (x < 0) != decide (y < 0)) && decide (0 < x.natAbs * y.natAbs)) = decide (x * y < 0) := by
  have hp : 0 < x.natAbs * y.natAbs ↔ x ≠ 0 ∧ y ≠ 0 := by
    rw [Nat.pos_iff_ne_zero, Ne, Nat.mul_eq_zero, Int.natAbs_eq_zero, Int.natAbs_eq_zero]; omega
  rw [Bool.eq_iff_iff, Bool.and_eq_true, decide_eq_true_iff, decide_eq_true_iff, bne_iff_ne, hp]
  rcases Int.lt_trichotomy x 0 with hx | hx | hx
  · rcases Int.lt_trichotomy y 0 with hy | hy | hy
    · have := Int.mul_pos_of_neg_of_neg hx hy
      simp [hx, hy]; omega
    · subst hy; simp
    · have := Int.mul_neg_of_neg_of_pos hx hy
      simp [hx, this, show ¬ y < 0 by omega]; omega
  · subst hx; simp
  · rcases Int.lt_trichotomy y 0 with hy | hy | hy
    · have := Int.mul_neg_of_pos_of_neg hx hy
      simp [hy, this, show ¬ x < 0 by omega]; omega
    · subst hy; simp
    · have := Int.mul_pos hx hy
      simp [show ¬ x < 0 by omega, show ¬ y < 0 by omega]; omega

theorem mul_81 {a b : Nat} (ha : a < 10) (hb : b < 10) : ((a : Nat) : Int) * ((b : Nat) : Int) ≤ 81 := by
  have : a * b ≤ 9 * 9 := Nat.mul_le_mul (by omega) (by omega)
  have e : ((a : Nat) : Int) * ((b : Nat) : Int) = ((a * b : Nat) : Int) := (Int.natCast_mul a b).symm
  omega

theorem Own.drewN {B : Nat} {w0 w : World} {v : Value} {l : List Nat} (h : Own B w0 w v l) (n : Nat) : Own B w0 (w.drewN n) v l := ⟨h.row, below_drewN h.below n, h.base⟩

theorem Own.store {B : Nat} {w0 w : World} {g N c : Nat} {l : List Nat} (h : Own B w0 w (.slice (some ⟨g, 0, none⟩) N c) l) (hN : l.length = N) (hg : B ≤ g) (j : Nat) (z : Int) (d : Nat) (hz : z = (d : Int)) :
    Own B w0 (w.setCell ⟨g, j, none⟩ (.int .i64 z)) (.slice (some ⟨g, 0, none⟩) N c) (l.set j d) := by
  subst hz
  subst hN
  obtain ⟨h1, h2⟩ := h.row.stored j (.int .i64 (d : Int))
  refine ⟨?_, h.below.grown h2 h.base ?_, Nat.le_trans h.base h2.size⟩
  · rw [List.length_set]
    have e : vals (l.set j d) = (vals l).set j (.int .i64 (d : Int)) := by unfold vals; rw [List.map_set]
    rw [e]; exact h1
  · intro k hk
    cases hk; exact hg

theorem Own.at {B : Nat} {w0 w : World} {g N c : Nat} {l : List Nat} (h : Own B w0 w (.slice (some ⟨g, 0, none⟩) N c) l) (hN : l.length = N) {j : Nat} (hj : j < N) :
    w.cell? ⟨g, j, none⟩ = some (.int .i64 ((l.getD j 0 : Nat) : Int)) := by
  subst hN
  rw [h.row.cellAt j (by omega)]
  simp [vals, List.getD, List.getElem?_eq_getElem hj]

theorem Own.free {B : Nat} {w0 w : World} {g N c : Nat} {l : List Nat} (h : Own B w0 w (.slice (some ⟨g, 0, none⟩) N c) l) (hN : l.length = N) (j : Nat) : w.frozen? ⟨g, j, none⟩ = false := by
  subst hN
  exact h.row.frozenAt j

/-- What 'make' lays. -/
theorem own_made {B : Nat} {w0 w : World} {g N : Nat} (h : w.ownsRow B 3 1 (.slice (some ⟨g, 0, none⟩) N N) N (madeCells #[Value.int .i64 0] N).toList) (hg : w0.grownBy w none) (hB : B = w0.heap.size) :
    Own B w0 w (.slice (some ⟨g, 0, none⟩) N N) (List.replicate N 0) := by
  refine ⟨?_, (Below.refl _ _).grown hg (by omega) (by intro k hk; cases hk), by have := hg.size; omega⟩
  have e : (madeCells #[Value.int .i64 0] N).toList = vals (List.replicate N 0) := by
    rw [toList_madeCells_one]
    simp [vals]
  rw [e] at h
  simpa using h

end Dec

attribute [local go_sem ↓] Go.wp_at_zero Go.wp_at_succ

end Go.Proofs.YtdgcnaijndocnaaDoor

/-
  Small and Bound of the document's answer of layer 3 (radomeref03): a number of its digits, no greater than may be.
-/
set_option linter.unusedSimpArgs false
set_option linter.unusedVariables false
namespace Go.Proofs.YtdgcnaijndocnaaDoor
open Go.RowKit Dec
attribute [local go_sem ↓] Go.wp_at_zero Go.wp_at_succ

namespace Dec
theorem val_drop (l : List Nat) (k : Nat) (h : k < l.length) : val (l.drop k) = l.getD k 0 + 10 * val (l.drop (k + 1)) := by
  rw [List.drop_eq_getElem_cons h, val_cons]
  simp [List.getD, List.getElem?_eq_getElem h]
theorem val_drop_le (l : List Nat) (k : Nat) : val (l.drop k) ≤ val l := by
  induction k with
  | zero => simp
  | succ k ih =>
    by_cases h : k < l.length
    · have := val_drop l k h; omega
    · rw [List.drop_eq_nil_of_le (by omega)]; simp [val]
end Dec

theorem Dec.sign_pos {z : Int} : decide (0 < z.sign) = decide (0 < z) := by
  rw [decide_eq_decide]; exact Int.sign_pos_iff
theorem Dec.sign_neg {z : Int} : decide (z.sign < 0) = decide (z < 0) := by
  rw [decide_eq_decide]; exact Int.sign_neg_iff

end Go.Proofs.YtdgcnaijndocnaaDoor

/-
  Join of the document's answer of layer 3 (radomeref03): the sum of two numbers of eight words; by py/Join.py.
-/
set_option linter.unusedSimpArgs false
set_option linter.unusedVariables false
namespace Go.Proofs.YtdgcnaijndocnaaDoor
open Go.RowKit Lg
attribute [local go_sem ↓] Go.wp_at_zero Go.wp_at_succ

theorem Hid.mk'' {p : Prop} (h : p) : Hid p := h

namespace Lg
/-- A number with its sign. -/
def sgz (s : Bool) (A : Int) : Int := if s then -A else A
end Lg

end Go.Proofs.YtdgcnaijndocnaaDoor

/-
  The size of a number of 64 bits, and the product of two as eight words (radomeref03).
-/
set_option linter.unusedSimpArgs false
set_option linter.unusedVariables false
namespace Go.Proofs.YtdgcnaijndocnaaDoor
open Go.RowKit Lg
attribute [local go_sem ↓] Go.wp_at_zero Go.wp_at_succ

namespace Lg
theorem half_mul {x y : Int} (hx : 0 ≤ x ∧ x ≤ 4294967295) (hy : 0 ≤ y ∧ y ≤ 4294967295) : 0 ≤ x * y ∧ x * y ≤ 18446744065119617025 :=
  ⟨Int.mul_nonneg hx.1 hy.1, Int.mul_le_mul hx.2 hy.2 hy.1 (by omega)⟩
theorem prod_words (a b x0 x1 y0 y1 d0 c0 d1 d2 e1 f0 e2 e3 : Int) (b0 : 0 ≤ x0 ∧ x0 ≤ 4294967295) (b1 : 0 ≤ x1 ∧ x1 ≤ 4294967295) (b2 : 0 ≤ y0 ∧ y0 ≤ 4294967295) (b3 : 0 ≤ y1 ∧ y1 ≤ 4294967295) (ea : a = x0 + 4294967296 * x1) (eb : b = y0 + 4294967296 * y1)
    (h_d0 : d0 = x0 * y0 % 4294967296) (h_c0 : c0 = x0 * y0 / 4294967296) (h_d1 : d1 = (x0 * y1 + c0) % 4294967296) (h_d2 : d2 = (x0 * y1 + c0) / 4294967296) (h_e1 : e1 = (d1 + x1 * y0) % 4294967296) (h_f0 : f0 = (d1 + x1 * y0) / 4294967296) (h_e2 : e2 = (d2 + x1 * y1 + f0) % 4294967296) (h_e3 : e3 = (d2 + x1 * y1 + f0) / 4294967296) : (0 ≤ c0 ∧ c0 ≤ 4294967295) ∧ (0 ≤ d2 ∧ d2 ≤ 4294967295) ∧ (0 ≤ f0 ∧ f0 ≤ 4294967295) ∧ (0 ≤ e3 ∧ e3 ≤ 4294967295) ∧ wd 0 (a * b) = d0 ∧ wd 1 (a * b) = e1 ∧ wd 2 (a * b) = e2 ∧ wd 3 (a * b) = e3 ∧ wd 4 (a * b) = 0 ∧ wd 5 (a * b) = 0 ∧ wd 6 (a * b) = 0 ∧ wd 7 (a * b) = 0 := by
  have p0 := half_mul b0 b2
  have p1 := half_mul b0 b3
  have p2 := half_mul b1 b2
  have p3 := half_mul b1 b3
  have e : a * b = x0 * y0 + 4294967296 * (x0 * y1) + 4294967296 * (x1 * y0) + 18446744073709551616 * (x1 * y1) := by
    rw [ea, eb, Int.add_mul, Int.mul_add, Int.mul_add, Int.mul_left_comm x0, Int.mul_assoc 4294967296 x1 y0, Int.mul_assoc 4294967296 x1, Int.mul_left_comm x1]
    omega
  rw [e]
  generalize x0 * y0 = p00 at *
  generalize x0 * y1 = p01 at *
  generalize x1 * y0 = p10 at *
  generalize x1 * y1 = p11 at *
  clear e ea eb b0 b1 b2 b3
  simp only [wd]
  refine ⟨?_, ?_, ?_, ?_, ?_, ?_, ?_, ?_, ?_, ?_, ?_, ?_⟩
  all_goals omega
end Lg

end Go.Proofs.YtdgcnaijndocnaaDoor

/-
  An array of eight words as a block of its own; words by division.
-/
set_option linter.unusedSimpArgs false
set_option linter.unusedVariables false
namespace Go.Proofs.YtdgcnaijndocnaaDoor
open Go.RowKit
namespace Lg

theorem wd_div : ∀ (k : Nat) (n : Int), wd k n = n / 4294967296 ^ k % 4294967296
  | 0, n => by show n % 4294967296 = _; simp
  | k + 1, n => by
    show wd k (n / 4294967296) = _
    have hp : (0 : Int) < 4294967296 ^ k := Int.pow_pos (by omega)
    rw [wd_div k, Int.ediv_ediv, if_neg (fun h => absurd h.1 (by omega)), Int.sub_zero, Int.pow_succ, Int.mul_comm]

/-- One word of what is shifted down. -/
theorem shift32 (X D E : Int) (hD : 0 < D) (hE : 0 < E) (hDE : D * E = 4294967296) : X / D % 4294967296 = X % 4294967296 / D + X / 4294967296 % 4294967296 * E % 4294967296 := by
  have hX : X = D * (E * (X / 4294967296)) + X % 4294967296 := by
    rw [← Int.mul_assoc, hDE]; omega
  generalize hY : X / 4294967296 = Y at *
  generalize hr : X % 4294967296 = r at *
  have hr0 : 0 ≤ r := by omega
  have hr1 : r < 4294967296 := by omega
  have e1 : X / D = E * Y + r / D := by
    rw [hX, Int.add_comm, Int.add_mul_ediv_left _ _ (by omega), Int.add_comm]
  have hlt : r / D < E := Int.ediv_lt_of_lt_mul hD (by rw [Int.mul_comm, hDE]; exact hr1)
  have h0 : 0 ≤ r / D := Int.ediv_nonneg hr0 (by omega)
  have e2 : Y % 4294967296 * E % 4294967296 = E * (Y % D) := by
    have : Y % 4294967296 * E % 4294967296 = Y * E % 4294967296 := by
      rw [Int.mul_emod, Int.emod_emod_of_dvd _ (Int.dvd_refl _), ← Int.mul_emod]
    rw [this, ← hDE, Int.mul_comm D E, Int.mul_comm Y E, Int.mul_emod_mul_of_pos _ _ hE]
  have hm0 : 0 ≤ Y % D := Int.emod_nonneg _ (by omega)
  have hm1 : Y % D < D := Int.emod_lt_of_pos _ hD
  rw [e2, e1]
  have hb : E * (Y % D) + r / D < 4294967296 := by
    have : E * (Y % D + 1) ≤ E * D := Int.mul_le_mul_of_nonneg_left (by omega) (by omega)
    rw [Int.mul_add, Int.mul_comm E D, hDE] at this
    omega
  have hb0 : 0 ≤ E * (Y % D) := Int.mul_nonneg (by omega) hm0
  have : E * Y + r / D = E * (Y % D) + r / D + 4294967296 * (Y / D) := by
    have := Int.emod_add_mul_ediv Y D
    have h2 : E * Y = E * (Y % D) + E * (D * (Y / D)) := by rw [← Int.mul_add, this]
    rw [h2, ← Int.mul_assoc E D, Int.mul_comm E D, hDE]
    omega
  rw [this, Int.add_mul_emod_self_left, Int.emod_eq_of_lt (by omega) hb]
  omega

/-- The words of what is shifted down by M words and sh bits. -/
theorem shift_words (A D E : Int) (M k : Nat) (hD : 0 < D) (hE : 0 < E) (hDE : D * E = 4294967296) : wd k (A / (4294967296 ^ M * D)) = wd (k + M) A / D + wd (k + M + 1) A * E % 4294967296 := by
  have hp : (0 : Int) < 4294967296 ^ k := Int.pow_pos (by omega)
  have hq : (0 : Int) < 4294967296 ^ M := Int.pow_pos (by omega)
  have hpm : (0 : Int) < 4294967296 ^ (k + M) := Int.pow_pos (by omega)
  have e1 : A / (4294967296 ^ M * D) / 4294967296 ^ k = A / 4294967296 ^ (k + M) / D := by
    rw [Int.ediv_ediv, if_neg (fun h => absurd h.1 (Int.not_lt.2 (Int.le_of_lt (Int.mul_pos hq hD)))), Int.sub_zero, Int.ediv_ediv, if_neg (fun h => absurd h.1 (by omega)), Int.sub_zero, Int.pow_add, Int.mul_comm (4294967296 ^ k) (4294967296 ^ M), Int.mul_right_comm]
  have e2 : A / 4294967296 ^ (k + M + 1) = A / 4294967296 ^ (k + M) / 4294967296 := by
    rw [Int.ediv_ediv, if_neg (fun h => absurd h.1 (by omega)), Int.sub_zero, Int.pow_succ]
  rw [wd_div, wd_div, wd_div, e1, e2]
  exact shift32 _ D E hD hE hDE

theorem wd_top {A : Int} (h : In8 A) : ∀ k, 8 ≤ k → wd k A = 0 := by
  intro k hk
  rw [wd_div]
  have hp : (0 : Int) < 4294967296 ^ k := Int.pow_pos (by omega)
  have h1 : (4294967296 : Int) ^ 8 ≤ 4294967296 ^ k := by
    obtain ⟨j, rfl⟩ : ∃ j, k = 8 + j := ⟨k - 8, by omega⟩
    rw [Int.pow_add]
    have : (1 : Int) ≤ 4294967296 ^ j := Int.pow_pos (show (0 : Int) < 4294967296 by omega)
    have := Int.mul_le_mul_of_nonneg_left this (show (0 : Int) ≤ 4294967296 ^ 8 by decide)
    simpa using this
  have h2 : (4294967296 : Int) ^ 8 = 115792089237316195423570985008687907853269984665640564039457584007913129639936 := by decide
  unfold In8 at h
  rw [Int.ediv_eq_zero_of_lt h.1 (by omega)]
  rfl

end Lg
end Go.Proofs.YtdgcnaijndocnaaDoor
