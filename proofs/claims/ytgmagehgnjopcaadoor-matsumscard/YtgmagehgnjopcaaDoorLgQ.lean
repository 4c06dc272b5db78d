/-
  An array of eight words as a block of its own; words by division.
-/
import Derived.Test.YtgmagehgnjopcaaDoorLgP
set_option linter.unusedSimpArgs false
set_option linter.unusedVariables false
namespace Go.Proofs.YtgmagehgnjopcaaDoor
open Go.RowKit
namespace Lg

/-- Block b holds eight words. -/
def Row8 (w : World) (b : Nat) (x0 x1 x2 x3 x4 x5 x6 x7 : Int) : Prop := w.heap[b]? = some (.cells #[.int .u64 x0, .int .u64 x1, .int .u64 x2, .int .u64 x3, .int .u64 x4, .int .u64 x5, .int .u64 x6, .int .u64 x7] 99 (0, 0))
theorem Row8.lt {w : World} {b : Nat} {x0 x1 x2 x3 x4 x5 x6 x7 : Int} (h : Row8 w b x0 x1 x2 x3 x4 x5 x6 x7) : b < w.heap.size := by
  rcases Nat.lt_or_ge b w.heap.size with k | k
  · exact k
  · unfold Row8 at h; rw [Array.getElem?_eq_none k] at h; cases h
theorem row8_at (w : World) {g : Nat} (hg : g = w.heap.size) (x0 x1 x2 x3 x4 x5 x6 x7 : Int) : Row8 (w.alloc (.cells #[.int .u64 x0, .int .u64 x1, .int .u64 x2, .int .u64 x3, .int .u64 x4, .int .u64 x5, .int .u64 x6, .int .u64 x7] 99)) g x0 x1 x2 x3 x4 x5 x6 x7 := by rw [hg]; exact heap_alloc_new w _
theorem Row8.alloc {w : World} {b : Nat} {x0 x1 x2 x3 x4 x5 x6 x7 : Int} (h : Row8 w b x0 x1 x2 x3 x4 x5 x6 x7) (o : Obj) : Row8 (w.alloc o) b x0 x1 x2 x3 x4 x5 x6 x7 := by
  unfold Row8; rw [Below.heap_alloc w o b h.lt]; exact h
theorem Row8.keep {w w' : World} {b : Nat} {x0 x1 x2 x3 x4 x5 x6 x7 : Int} (h : Row8 w b x0 x1 x2 x3 x4 x5 x6 x7) (hb : Below w.heap.size w w') : Row8 w' b x0 x1 x2 x3 x4 x5 x6 x7 := by
  unfold Row8; rw [hb.block b h.lt]; exact h
theorem Row8.drewN {w : World} {b : Nat} {x0 x1 x2 x3 x4 x5 x6 x7 : Int} (h : Row8 w b x0 x1 x2 x3 x4 x5 x6 x7) (n : Nat) : Row8 (w.drewN n) b x0 x1 x2 x3 x4 x5 x6 x7 := h
theorem Row8.drew {w : World} {b : Nat} {x0 x1 x2 x3 x4 x5 x6 x7 : Int} (h : Row8 w b x0 x1 x2 x3 x4 x5 x6 x7) : Row8 w.drew b x0 x1 x2 x3 x4 x5 x6 x7 := h
theorem Row8.free {w : World} {b : Nat} {x0 x1 x2 x3 x4 x5 x6 x7 : Int} (h : Row8 w b x0 x1 x2 x3 x4 x5 x6 x7) (j : Nat) : w.frozen? ⟨b, j, none⟩ = false := frozen_of_row w b j _ _ h
theorem Row8.other {w : World} {b : Nat} {x0 x1 x2 x3 x4 x5 x6 x7 : Int} (h : Row8 w b x0 x1 x2 x3 x4 x5 x6 x7) {p : Addr} (u : Value) (hne : b ≠ p.block) : Row8 (w.setCell p u) b x0 x1 x2 x3 x4 x5 x6 x7 := by
  unfold Row8; rw [heap_setCell_other w p b u hne]; exact h
theorem Row8.set0 {w : World} {b : Nat} {x0 x1 x2 x3 x4 x5 x6 x7 : Int} (h : Row8 w b x0 x1 x2 x3 x4 x5 x6 x7) (v : Int) : Row8 (w.setCell ⟨b, 0, none⟩ (.int .u64 v)) b v x1 x2 x3 x4 x5 x6 x7 := heap_setCell_same w b 0 _ _ _ h
theorem Row8.c0 {w : World} {b : Nat} {x0 x1 x2 x3 x4 x5 x6 x7 : Int} (h : Row8 w b x0 x1 x2 x3 x4 x5 x6 x7) : w.cell? ⟨b, 0, none⟩ = some (.int .u64 x0) := by rw [cell_of_row w b 0 _ _ (0, 0) h]; rfl
theorem Row8.set1 {w : World} {b : Nat} {x0 x1 x2 x3 x4 x5 x6 x7 : Int} (h : Row8 w b x0 x1 x2 x3 x4 x5 x6 x7) (v : Int) : Row8 (w.setCell ⟨b, 1, none⟩ (.int .u64 v)) b x0 v x2 x3 x4 x5 x6 x7 := heap_setCell_same w b 1 _ _ _ h
theorem Row8.c1 {w : World} {b : Nat} {x0 x1 x2 x3 x4 x5 x6 x7 : Int} (h : Row8 w b x0 x1 x2 x3 x4 x5 x6 x7) : w.cell? ⟨b, 1, none⟩ = some (.int .u64 x1) := by rw [cell_of_row w b 1 _ _ (0, 0) h]; rfl
theorem Row8.set2 {w : World} {b : Nat} {x0 x1 x2 x3 x4 x5 x6 x7 : Int} (h : Row8 w b x0 x1 x2 x3 x4 x5 x6 x7) (v : Int) : Row8 (w.setCell ⟨b, 2, none⟩ (.int .u64 v)) b x0 x1 v x3 x4 x5 x6 x7 := heap_setCell_same w b 2 _ _ _ h
theorem Row8.c2 {w : World} {b : Nat} {x0 x1 x2 x3 x4 x5 x6 x7 : Int} (h : Row8 w b x0 x1 x2 x3 x4 x5 x6 x7) : w.cell? ⟨b, 2, none⟩ = some (.int .u64 x2) := by rw [cell_of_row w b 2 _ _ (0, 0) h]; rfl
theorem Row8.set3 {w : World} {b : Nat} {x0 x1 x2 x3 x4 x5 x6 x7 : Int} (h : Row8 w b x0 x1 x2 x3 x4 x5 x6 x7) (v : Int) : Row8 (w.setCell ⟨b, 3, none⟩ (.int .u64 v)) b x0 x1 x2 v x4 x5 x6 x7 := heap_setCell_same w b 3 _ _ _ h
theorem Row8.c3 {w : World} {b : Nat} {x0 x1 x2 x3 x4 x5 x6 x7 : Int} (h : Row8 w b x0 x1 x2 x3 x4 x5 x6 x7) : w.cell? ⟨b, 3, none⟩ = some (.int .u64 x3) := by rw [cell_of_row w b 3 _ _ (0, 0) h]; rfl
theorem Row8.set4 {w : World} {b : Nat} {x0 x1 x2 x3 x4 x5 x6 x7 : Int} (h : Row8 w b x0 x1 x2 x3 x4 x5 x6 x7) (v : Int) : Row8 (w.setCell ⟨b, 4, none⟩ (.int .u64 v)) b x0 x1 x2 x3 v x5 x6 x7 := heap_setCell_same w b 4 _ _ _ h
theorem Row8.c4 {w : World} {b : Nat} {x0 x1 x2 x3 x4 x5 x6 x7 : Int} (h : Row8 w b x0 x1 x2 x3 x4 x5 x6 x7) : w.cell? ⟨b, 4, none⟩ = some (.int .u64 x4) := by rw [cell_of_row w b 4 _ _ (0, 0) h]; rfl
theorem Row8.set5 {w : World} {b : Nat} {x0 x1 x2 x3 x4 x5 x6 x7 : Int} (h : Row8 w b x0 x1 x2 x3 x4 x5 x6 x7) (v : Int) : Row8 (w.setCell ⟨b, 5, none⟩ (.int .u64 v)) b x0 x1 x2 x3 x4 v x6 x7 := heap_setCell_same w b 5 _ _ _ h
theorem Row8.c5 {w : World} {b : Nat} {x0 x1 x2 x3 x4 x5 x6 x7 : Int} (h : Row8 w b x0 x1 x2 x3 x4 x5 x6 x7) : w.cell? ⟨b, 5, none⟩ = some (.int .u64 x5) := by rw [cell_of_row w b 5 _ _ (0, 0) h]; rfl
theorem Row8.set6 {w : World} {b : Nat} {x0 x1 x2 x3 x4 x5 x6 x7 : Int} (h : Row8 w b x0 x1 x2 x3 x4 x5 x6 x7) (v : Int) : Row8 (w.setCell ⟨b, 6, none⟩ (.int .u64 v)) b x0 x1 x2 x3 x4 x5 v x7 := heap_setCell_same w b 6 _ _ _ h
theorem Row8.c6 {w : World} {b : Nat} {x0 x1 x2 x3 x4 x5 x6 x7 : Int} (h : Row8 w b x0 x1 x2 x3 x4 x5 x6 x7) : w.cell? ⟨b, 6, none⟩ = some (.int .u64 x6) := by rw [cell_of_row w b 6 _ _ (0, 0) h]; rfl
theorem Row8.set7 {w : World} {b : Nat} {x0 x1 x2 x3 x4 x5 x6 x7 : Int} (h : Row8 w b x0 x1 x2 x3 x4 x5 x6 x7) (v : Int) : Row8 (w.setCell ⟨b, 7, none⟩ (.int .u64 v)) b x0 x1 x2 x3 x4 x5 x6 v := heap_setCell_same w b 7 _ _ _ h
theorem Row8.c7 {w : World} {b : Nat} {x0 x1 x2 x3 x4 x5 x6 x7 : Int} (h : Row8 w b x0 x1 x2 x3 x4 x5 x6 x7) : w.cell? ⟨b, 7, none⟩ = some (.int .u64 x7) := by rw [cell_of_row w b 7 _ _ (0, 0) h]; rfl

/-- The same, as a function of the places. -/
def RowQ (w : World) (b : Nat) (d : Nat → Int) : Prop := Row8 w b (d 0) (d 1) (d 2) (d 3) (d 4) (d 5) (d 6) (d 7)
theorem RowQ.cell {w : World} {b : Nat} {d : Nat → Int} (h : RowQ w b d) : ∀ {k : Nat}, k < 8 → w.cell? ⟨b, k, none⟩ = some (.int .u64 (d k))
  | 0, _ => h.c0 | 1, _ => h.c1 | 2, _ => h.c2 | 3, _ => h.c3 | 4, _ => h.c4 | 5, _ => h.c5 | 6, _ => h.c6 | 7, _ => h.c7
  | n + 8, hk => absurd hk (by omega)
theorem RowQ.set {w : World} {b : Nat} {d : Nat → Int} (h : RowQ w b d) (v : Int) : ∀ {k : Nat}, k < 8 → RowQ (w.setCell ⟨b, k, none⟩ (.int .u64 v)) b (fun j => if j = k then v else d j)
  | 0, _ => h.set0 v | 1, _ => h.set1 v | 2, _ => h.set2 v | 3, _ => h.set3 v | 4, _ => h.set4 v | 5, _ => h.set5 v | 6, _ => h.set6 v | 7, _ => h.set7 v
  | n + 8, hk => absurd hk (by omega)
theorem RowQ.congr {w : World} {b : Nat} {d e : Nat → Int} (h : RowQ w b d) (he : ∀ j, j < 8 → d j = e j) : RowQ w b e := by
  unfold RowQ at *
  rw [← he 0 (by omega), ← he 1 (by omega), ← he 2 (by omega), ← he 3 (by omega), ← he 4 (by omega), ← he 5 (by omega), ← he 6 (by omega), ← he 7 (by omega)]
  exact h
theorem RowQ.free {w : World} {b : Nat} {d : Nat → Int} (h : RowQ w b d) (j : Nat) : w.frozen? ⟨b, j, none⟩ = false := Row8.free h j
theorem RowQ.drewN {w : World} {b : Nat} {d : Nat → Int} (h : RowQ w b d) (n : Nat) : RowQ (w.drewN n) b d := h
theorem RowQ.drew {w : World} {b : Nat} {d : Nat → Int} (h : RowQ w b d) : RowQ w.drew b d := h

theorem wd_div : ∀ (k : Nat) (n : Int), wd k n = n / 4294967296 ^ k % 4294967296
  | 0, n => by show n % 4294967296 = _; simp
  | k + 1, n => by
    show wd k (n / 4294967296) = _
    have hp : (0 : Int) < 4294967296 ^ k := Int.pow_pos (by omega)
    rw [wd_div k, Int.ediv_ediv, if_neg (fun h => absurd h.1 (by omega)), Int.sub_zero, Int.pow_succ, Int.mul_comm]

/-- One word of what is shifted down. -/
theorem shift32 (X D E : Int) (hD : 0 < D) (hE : 0 < E) (hDE : D * E = 4294967296) : X / D % 4294967296 = X % 4294967296 / D + X / 4294967296 % 4294967296 * E % 4294967296 := by
  have hX : X = D * (E * (X / 4294967296)) + X % 4294967296 := by
    rw [← Int.mul_assoc, hDE]; omega
  generalize hY : X / 4294967296 = Y at *
  generalize hr : X % 4294967296 = r at *
  have hr0 : 0 ≤ r := by omega
  have hr1 : r < 4294967296 := by omega
  have e1 : X / D = E * Y + r / D := by
    rw [hX, Int.add_comm, Int.add_mul_ediv_left _ _ (by omega), Int.add_comm]
  have hlt : r / D < E := Int.ediv_lt_of_lt_mul hD (by rw [Int.mul_comm, hDE]; exact hr1)
  have h0 : 0 ≤ r / D := Int.ediv_nonneg hr0 (by omega)
  have e2 : Y % 4294967296 * E % 4294967296 = E * (Y % D) := by
    have : Y % 4294967296 * E % 4294967296 = Y * E % 4294967296 := by
      rw [Int.mul_emod, Int.emod_emod_of_dvd _ (Int.dvd_refl _), ← Int.mul_emod]
    rw [this, ← hDE, Int.mul_comm D E, Int.mul_comm Y E, Int.mul_emod_mul_of_pos _ _ hE]
  have hm0 : 0 ≤ Y % D := Int.emod_nonneg _ (by omega)
  have hm1 : Y % D < D := Int.emod_lt_of_pos _ hD
  rw [e2, e1]
  have hb : E * (Y % D) + r / D < 4294967296 := by
    have : E * (Y % D + 1) ≤ E * D := Int.mul_le_mul_of_nonneg_left (by omega) (by omega)
    rw [Int.mul_add, Int.mul_comm E D, hDE] at this
    omega
  have hb0 : 0 ≤ E * (Y % D) := Int.mul_nonneg (by omega) hm0
  have : E * Y + r / D = E * (Y % D) + r / D + 4294967296 * (Y / D) := by
    have := Int.emod_add_mul_ediv Y D
    have h2 : E * Y = E * (Y % D) + E * (D * (Y / D)) := by rw [← Int.mul_add, this]
    rw [h2, ← Int.mul_assoc E D, Int.mul_comm E D, hDE]
    omega
  rw [this, Int.add_mul_emod_self_left, Int.emod_eq_of_lt (by omega) hb]
  omega

/-- The words of what is shifted down by M words and sh bits. -/
theorem shift_words (A D E : Int) (M k : Nat) (hD : 0 < D) (hE : 0 < E) (hDE : D * E = 4294967296) : wd k (A / (4294967296 ^ M * D)) = wd (k + M) A / D + wd (k + M + 1) A * E % 4294967296 := by
  have hp : (0 : Int) < 4294967296 ^ k := Int.pow_pos (by omega)
  have hq : (0 : Int) < 4294967296 ^ M := Int.pow_pos (by omega)
  have hpm : (0 : Int) < 4294967296 ^ (k + M) := Int.pow_pos (by omega)
  have e1 : A / (4294967296 ^ M * D) / 4294967296 ^ k = A / 4294967296 ^ (k + M) / D := by
    rw [Int.ediv_ediv, if_neg (fun h => absurd h.1 (Int.not_lt.2 (Int.le_of_lt (Int.mul_pos hq hD)))), Int.sub_zero, Int.ediv_ediv, if_neg (fun h => absurd h.1 (by omega)), Int.sub_zero, Int.pow_add, Int.mul_comm (4294967296 ^ k) (4294967296 ^ M), Int.mul_right_comm]
  have e2 : A / 4294967296 ^ (k + M + 1) = A / 4294967296 ^ (k + M) / 4294967296 := by
    rw [Int.ediv_ediv, if_neg (fun h => absurd h.1 (by omega)), Int.sub_zero, Int.pow_succ]
  rw [wd_div, wd_div, wd_div, e1, e2]
  exact shift32 _ D E hD hE hDE

theorem wd_top {A : Int} (h : In8 A) : ∀ k, 8 ≤ k → wd k A = 0 := by
  intro k hk
  rw [wd_div]
  have hp : (0 : Int) < 4294967296 ^ k := Int.pow_pos (by omega)
  have h1 : (4294967296 : Int) ^ 8 ≤ 4294967296 ^ k := by
    obtain ⟨j, rfl⟩ : ∃ j, k = 8 + j := ⟨k - 8, by omega⟩
    rw [Int.pow_add]
    have : (1 : Int) ≤ 4294967296 ^ j := Int.pow_pos (show (0 : Int) < 4294967296 by omega)
    have := Int.mul_le_mul_of_nonneg_left this (show (0 : Int) ≤ 4294967296 ^ 8 by decide)
    simpa using this
  have h2 : (4294967296 : Int) ^ 8 = 115792089237316195423570985008687907853269984665640564039457584007913129639936 := by decide
  unfold In8 at h
  rw [Int.ediv_eq_zero_of_lt h.1 (by omega)]
  rfl

end Lg
end Go.Proofs.YtgmagehgnjopcaaDoor
