/-
  Where the digits lie: trim leaves them in their block, minus lays them in a new one; a digit laid ahead of others. (radomeref01)
-/
import Derived.Test.YtdgcnaijndocnaaDoorM2
import Derived.Laws.AppendOwnNone
set_option linter.unusedSimpArgs false
set_option linter.unusedVariables false
namespace Go.Proofs.YtdgcnaijndocnaaDoor
open Go.RowKit
namespace Dec

/-- The slice lies in a block from B on (or nowhere). -/
def From (B : Nat) (v : Value) : Prop := ∀ p n c, v = .slice (some p) n c → B ≤ p.block

theorem From.mono {B C : Nat} {v : Value} (h : From B v) (hC : C ≤ B) : From C v := fun p n c e => Nat.le_trans hC (h p n c e)
theorem from_nil (B : Nat) : From B (.slice none 0 0) := fun p n c e => by cases e

theorem Own.from {B : Nat} {w0 w : World} {v : Value} {l : List Nat} (h : Own B w0 w v l) : From B v := by
  obtain ⟨⟨h1, h2⟩, _, _⟩ := h
  rcases h2 with ⟨rfl, h0⟩ | ⟨g, cap, cur, rfl, hb, hg, hn, hc, hs, ht⟩
  · exact from_nil _
  · intro p n c e
    cases e
    exact hb

/-- What is owned stays owned where older blocks stay. -/
theorem Own.keep {B : Nat} {w0 w w' : World} {v : Value} {l : List Nat} (h : Own B w0 w v l) (hb : Below w.heap.size w w') : Own B w0 w' v l := by
  obtain ⟨⟨h1, h2⟩, h3, h4⟩ := h
  refine ⟨⟨h1, ?_⟩, h3.trans (hb.mono h4), Nat.le_trans h4 hb.size⟩
  rcases h2 with h2 | ⟨g, cap, cur, hv, hbs, hg, hr⟩
  · exact Or.inl h2
  · have hlt : g < w.heap.size := by
      rcases Nat.lt_or_ge g w.heap.size with k | k
      · exact k
      · rw [Array.getElem?_eq_none k] at hg; cases hg
    exact Or.inr ⟨g, cap, cur, hv, hbs, (hb.block g hlt).trans hg, hr⟩

/-- A store into another block. -/
theorem Rd.setOther {w : World} {v : Value} {l : List Nat} {B : Nat} (h : Rd w v l) (hf : From B v) {p : Addr} (u : Value) (hp : p.block < B) : Rd (w.setCell p u) v l := by
  rcases h with h | ⟨b, off, cap, hv, hc, hlt, hcell⟩
  · exact Or.inl h
  · have hb := hf _ _ _ hv
    refine Or.inr ⟨b, off, cap, hv, hc, hlt.set p u, fun t ht => ?_⟩
    rw [World.cell?_setCell_other, hcell t ht]
    intro e
    rw [e] at hp
    simp at hp hb
    omega

end Dec
open Dec

end Go.Proofs.YtdgcnaijndocnaaDoor
