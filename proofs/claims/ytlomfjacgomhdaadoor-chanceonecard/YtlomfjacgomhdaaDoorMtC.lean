/-
  Matrices (mat): a copy of numbers, Check.
-/
import Derived.Test.YtlomfjacgomhdaaDoorMtB
import Derived.Deep.DeepMust
set_option linter.unusedSimpArgs false
set_option linter.unusedVariables false
namespace Go.Proofs.YtlomfjacgomhdaaDoor
open Go.RowKit Vc Mt

namespace Mt
/-- It lies from block B on. -/
def Fresh (B : Nat) (ao : Option Addr) : Prop := ∀ x, ao = some x → B ≤ x.block

theorem own_fresh {B : Nat} {w0 w : World} {v : Value} {n : Nat} {z : Nat → Int} (h : Own B w0 w v n z) : ∃ ao ca, v = .slice ao n ca ∧ Sl w ao n ca z ∧ Fresh B ao := by
  obtain ⟨ao, ca, rfl, hs⟩ := h.sl
  refine ⟨ao, ca, rfl, hs, fun x hx => ?_⟩
  subst hx
  exact (h.row.lt _ rfl).1

theorem own_whole {B : Nat} {w0 w : World} {g n : Nat} {z : Nat → Int} (h : Own B w0 w (.slice (some ⟨g, 0, none⟩) n n) n z) : w.heap[g]? = some (.cells (vals n z).toArray 2 (0, 0)) := by
  obtain ⟨h1, h2⟩ := h.row
  rcases h2 with ⟨e, _⟩ | ⟨g', cap, cur, e, hb, hg, hn, hc, hs, ht⟩
  · cases e
  · injection e with e1 e2 e3
    injection e1 with e1
    injection e1 with e1
    subst e1 e3
    have e4 : cur.toList = vals n z := by
      rw [← ht, List.take_of_length_le (by simp; omega)]
    rw [hg, ← e4]

theorem own_of_whole {B : Nat} {w0 w : World} {g n : Nat} {z : Nat → Int} (h : w.heap[g]? = some (.cells (vals n z).toArray 2 (0, 0))) (hb : Below B w0 w) (hg : B ≤ g) (hn : n ≤ maxLen) : Own B w0 w (.slice (some ⟨g, 0, none⟩) n n) n z := by
  have hlt : g < w.heap.size := by
    rcases Nat.lt_or_ge g w.heap.size with k | k
    · exact k
    · rw [Array.getElem?_eq_none k] at h; cases h
  refine ⟨⟨by simp [vals_len], Or.inr ⟨g, n, _, rfl, hg, h, Nat.le_refl _, hn, by simp [vals_len], ?_⟩⟩, hb, by omega⟩
  exact List.take_of_length_le (by simp [vals_len])

theorem splice_all (n : Nat) (z y : Nat → Int) : splice (vals n z) 0 (vals n y) = vals n y := by
  unfold splice
  rw [List.take_zero, List.nil_append, Nat.zero_add, vals_len, List.drop_eq_nil_of_le (by rw [vals_len]; exact Nat.le_refl _), List.append_nil]
theorem one_vals (n : Nat) (z : Nat → Int) : ∀ v ∈ vals n z, v.oneCell' = true := by
  intro v hv
  simp only [vals, List.mem_map] at hv
  obtain ⟨d, _, rfl⟩ := hv
  rfl
theorem Sl.src {w : World} {ao : Option Addr} {n ca : Nat} {z : Nat → Int} (h : Sl w ao n ca z) (h0 : 0 < n) : ∃ ad, ao = some ad ∧ ∀ j v, (vals n z)[j]? = some v → w.cell? (ad.add j) = some v := by
  obtain ⟨x, hx, hc⟩ := h.get
  refine ⟨x, hx h0, fun j v hv => ?_⟩
  have hj : j < n := by
    rcases Nat.lt_or_ge j n with k | k
    · exact k
    · rw [List.getElem?_eq_none (by rw [vals_len]; exact k)] at hv; cases hv
  rw [vals_at hj] at hv
  rw [hc j hj]
  exact hv
theorem sizeI64 : (Tryd.prog.info? 2).map (·.size) = some 1 := by kernel_rfl
end Mt

namespace Mt
end Mt

namespace Mt
theorem first_nz (z : Nat → Int) (p : Nat) : ∀ t, (∀ k, p ≤ k → k < t → z k = 0) ∨ ∃ q, p ≤ q ∧ q < t ∧ z q ≠ 0 ∧ ∀ k, p ≤ k → k < q → z k = 0
  | 0 => Or.inl fun k _ hk => by omega
  | t + 1 => by
    rcases first_nz z p t with h | ⟨q, h1, h2, h3, h4⟩
    · by_cases c : p ≤ t ∧ z t ≠ 0
      · exact Or.inr ⟨t, c.1, by omega, c.2, h⟩
      · refine Or.inl fun k hp hk => ?_
        rcases Nat.lt_or_ge k t with d | d
        · exact h k hp d
        · obtain rfl : k = t := by omega
          exact Classical.byContradiction fun e => c ⟨hp, e⟩
    · exact Or.inr ⟨q, h1, by omega, h3, h4⟩
end Mt

end Go.Proofs.YtlomfjacgomhdaaDoor
