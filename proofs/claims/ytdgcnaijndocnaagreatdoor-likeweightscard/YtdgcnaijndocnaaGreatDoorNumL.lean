/-
  Lists of numbers of any size: read, and of the call's own, appended to.
-/
import Derived.Test.YtdgcnaijndocnaaGreatDoorM3
import Derived.Test.YtdgcnaijndocnaaGreatDoorM2
import Derived.Test.YtdgcnaijndocnaaGreatDoorM5
import Derived.Test.YtdgcnaijndocnaaGreatDoorRegU
import Derived.Deep.AppendLies
set_option linter.unusedSimpArgs false
set_option linter.unusedVariables false
namespace Go.Proofs.YtdgcnaijndocnaaGreatDoor
open Go.RowKit Dec Nv Vc St Ld
namespace Nu

/-- The cells of n numbers: each its sign and its digits. -/
def ncells (a : Nat → Int) (S : Nat → Value) : Nat → List Value
  | 0 => []
  | k + 1 => ncells a S k ++ [.bool (decide (a k < 0)), S k]
theorem ncells_len (a : Nat → Int) (S : Nat → Value) : ∀ n, (ncells a S n).length = n * 2
  | 0 => rfl
  | n + 1 => by show (ncells a S n ++ [_, _]).length = _; rw [List.length_append, ncells_len a S n]; show n * 2 + 2 = (n + 1) * 2; omega
theorem ncells_0 {a : Nat → Int} {S : Nat → Value} : ∀ {n k : Nat}, k < n → (ncells a S n)[k * 2]? = some (.bool (decide (a k < 0)))
  | n + 1, k, h => by
    show (ncells a S n ++ [_, _])[k * 2]? = _
    by_cases e : k = n
    · subst e
      rw [List.getElem?_append_right (by rw [ncells_len]; omega), ncells_len, Nat.sub_self]; rfl
    · rw [List.getElem?_append_left (by rw [ncells_len]; omega)]; exact ncells_0 (by omega)
theorem ncells_1 {a : Nat → Int} {S : Nat → Value} : ∀ {n k : Nat}, k < n → (ncells a S n)[k * 2 + 1]? = some (S k)
  | n + 1, k, h => by
    show (ncells a S n ++ [_, _])[k * 2 + 1]? = _
    by_cases e : k = n
    · subst e
      rw [List.getElem?_append_right (by rw [ncells_len]; omega), ncells_len, Nat.add_sub_cancel_left]; rfl
    · rw [List.getElem?_append_left (by rw [ncells_len]; omega)]; exact ncells_1 (by omega)
theorem ncells_congr {a b : Nat → Int} {S T : Nat → Value} : ∀ {n : Nat}, (∀ k, k < n → a k = b k) → (∀ k, k < n → S k = T k) → ncells a S n = ncells b T n
  | 0, _, _ => rfl
  | n + 1, h, h' => by
    show ncells a S n ++ [.bool (decide (a n < 0)), S n] = ncells b T n ++ [.bool (decide (b n < 0)), T n]
    rw [ncells_congr (fun k hk => h k (by omega)) (fun k hk => h' k (by omega)), h n (by omega), h' n (by omega)]
theorem infoNum : (Tryz.prog.info? 93).map (fun i => (i.zero, i.size, i.bytes)) = some (some (.agg #[.bool false, .slice none 0 0]), 2, 32) := by kernel_rfl
theorem isNum : Is 93 2 := ⟨by kernel_rfl, ⟨_, Tryz.underlying93, rfl⟩⟩

/-- Where blocks that are no blocks of integers turn, numbers stay. -/
theorem num_but {Q : Nat → Prop} {w w' : World} {v : Value} {z : Int} (h : IsNum w v z) (k : But Q w w') (hQ : ∀ b, Q b → ¬ Tg w b) : IsNum w' v z := by
  obtain ⟨d, hv, hd⟩ := h
  refine ⟨d, hv, ?_⟩
  rcases hd with hd | ⟨b, off, cap, e1, e2, e3, e4⟩
  · exact Or.inl hd
  · have hb : ¬ Q b := fun q => hQ b q e3
    obtain ⟨cs, fz, e5⟩ := e3
    refine Or.inr ⟨b, off, cap, e1, e2, ⟨cs, fz, (k.block b (Tg.lt ⟨cs, fz, e5⟩) hb).trans e5⟩, fun t ht => k.cell (e4 t ht) hb⟩
theorem tg_not {w : World} {b : Nat} {cs : Array Value} {t : TypeId} {fz : Nat × Nat} (h : w.heap[b]? = some (.cells cs t fz)) (ht : t ≠ 3) : ¬ Tg w b := fun ⟨cs', fz', e⟩ => by
  rw [h] at e
  injection e with e
  injection e with _ e _
  exact ht e

/-- A list that is read: n numbers from the head of block g on. -/
structure At (w : World) (g n cap : Nat) (a : Nat → Int) : Prop where
  le : n ≤ cap
  cap : cap ≤ 9223372036854775807
  num : ∀ k, k < n → ∃ p l c, w.cell? ⟨g, k * 2, none⟩ = some (.bool (decide (a k < 0))) ∧ w.cell? ⟨g, k * 2 + 1, none⟩ = some (.slice p l c) ∧ IsNum w (.agg #[.bool (decide (a k < 0)), .slice p l c]) (a k)
theorem At.keep {w w' : World} {g n cap : Nat} {a : Nat → Int} (h : At w g n cap a) (b : Below w.heap.size w w') : At w' g n cap a :=
  ⟨h.le, h.cap, fun k hk => by
    obtain ⟨p, l, c, h1, h2, h3⟩ := h.num k hk
    exact ⟨p, l, c, keep_cell b h1, keep_cell b h2, h3.below b⟩⟩

/-- A list of the call's own. -/
structure Nls (B : Nat) (w0 w : World) (v : Value) (n : Nat) (a : Nat → Int) : Prop where
  row : ∃ S : Nat → Value, w.ownsRow B 93 2 v n (ncells a S n) ∧ ∀ k, k < n → (∃ p l c, S k = .slice p l c) ∧ IsNum w (.agg #[.bool (decide (a k < 0)), S k]) (a k)
  below : Below B w0 w
  base : B ≤ w.heap.size
theorem Nls.nil {B : Nat} {w0 w : World} (h : Below B w0 w) (hB : B ≤ w.heap.size) (a : Nat → Int) : Nls B w0 w (.slice none 0 0) 0 a := ⟨⟨fun _ => undef, World.ownsRow_nil _ _ _ _, fun k hk => by omega⟩, h, hB⟩
theorem Nls.keep {B : Nat} {w0 w w' : World} {v : Value} {n : Nat} {a : Nat → Int} (h : Nls B w0 w v n a) (b : Below w.heap.size w w') : Nls B w0 w' v n a := by
  obtain ⟨S, h1, h2⟩ := h.row
  exact ⟨⟨S, row_keep h1 b, fun k hk => ⟨(h2 k hk).1, (h2 k hk).2.below b⟩⟩, h.below.trans (b.mono h.base), Nat.le_trans h.base b.size⟩
theorem Nls.lt {B : Nat} {w0 w : World} {v : Value} {n : Nat} {a : Nat → Int} (h : Nls B w0 w v n a) {g : Nat} (e : v.ownBlock = some g) : B ≤ g ∧ g < w.heap.size := by
  obtain ⟨S, h1, _⟩ := h.row
  exact h1.lt g e
theorem Nls.not {B : Nat} {w0 w : World} {v : Value} {n : Nat} {a : Nat → Int} (h : Nls B w0 w v n a) {g : Nat} (e : v.ownBlock = some g) : ¬ Tg w g := by
  obtain ⟨S, ⟨_, h1⟩, _⟩ := h.row
  rcases h1 with ⟨rfl, _⟩ | ⟨g', cap, cur, rfl, _, hg, _⟩
  · cases e
  · have : g' = g := by simpa [Value.ownBlock] using e
    subst this
    exact tg_not hg (by decide)
/-- It is read. -/
theorem Nls.at {B : Nat} {w0 w : World} {v : Value} {n : Nat} {a : Nat → Int} (h : Nls B w0 w v n a) (hn : 0 < n) : ∃ g cap, v = .slice (some ⟨g, 0, none⟩) n cap ∧ At w g n cap a ∧ w.frozen? ⟨g, 0, none⟩ = false := by
  obtain ⟨S, ⟨h1, h2⟩, h3⟩ := h.row
  rcases h2 with ⟨_, e⟩ | ⟨g, cap, cur, rfl, hb, hg, hc1, hc2, hs, ht⟩
  · omega
  · have cell : ∀ j v, (ncells a S n)[j]? = some v → w.cell? ⟨g, j, none⟩ = some v := fun j v hj => by
      rw [← ht, List.getElem?_take] at hj
      split at hj
      · rw [cell_of_row w g j _ _ (0, 0) hg]; simpa using hj
      · cases hj
    refine ⟨g, cap, rfl, ⟨hc1, by unfold maxLen at hc2; omega, fun k hk => ?_⟩, frozen_of_row w g 0 _ _ hg⟩
    obtain ⟨⟨p, l, c, e⟩, h4⟩ := h3 k hk
    rw [e] at h4
    exact ⟨p, l, c, cell _ _ (ncells_0 hk), cell _ _ ((ncells_1 hk).trans (by rw [e])), h4⟩
end Nu
end Go.Proofs.YtdgcnaijndocnaaGreatDoor
