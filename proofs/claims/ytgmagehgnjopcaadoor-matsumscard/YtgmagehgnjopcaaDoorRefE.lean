/-
  Of and Mul of the document's answer (radomeref01): a number of 64 bits as digits, and the product of two numbers.
-/
import Derived.Test.YtgmagehgnjopcaaDoorRefD
set_option linter.unusedSimpArgs false
set_option linter.unusedVariables false
namespace Go.Proofs.YtgmagehgnjopcaaDoor
open Go.RowKit Dec

theorem Hid.mk' {p : Prop} (h : p) : Hid p := h

set_option maxHeartbeats 1600000 in
theorem of_pos (n : Int) (w : World) (h0 : 0 ≤ n) (h1 : n ≤ 9223372036854775807) :
    Calls Tryd.prog 66 #[.int .i64 n] w fun e w' => ∃ v, e = .returned v ∧ IsNum w' v n ∧ Below w.heap.size w w' := by
  have hlen : (digs n.natAbs).length ≤ 19 := length_digs_le (by omega)
  have hw : n = ((n.natAbs : Nat) : Int) := by omega
  have Hw := Hid.mk' hw
  clear hw
  go_enter Tryd.func66, Tryd.ntmps66
  go_wp2
  go_loopw [3, 4] (fun v d wr => ∃ (x : Nat) (o : List Nat), v = .int .u64 x ∧ x ≤ 9223372036854775808 ∧ OfAt x o n.natAbs ∧ Own (w.heap.size + 1) (w.alloc (.cells #[.bool false, .slice none 0 0] 108)) wr d o) (fun v _ _ => (intOf v).toNat)
  case atStart => exact ⟨n.natAbs, [], congrArg (Value.int IntKind.u64) Hw.out, by omega, rfl, Own.nil (Below.refl _ _) (by simp)⟩
  case round =>
    obtain ⟨x, o, rfl, hx, hof, hown⟩ := hrel
    have hol := ofAt_length hof
    by_cases hx0 : 0 < x
    · go_wp2_with (at_builtin; refine wpList_push (by rfl) (.tmp 13) (.tmp 17) (by rfl) (w.heap.size + 1) _ _ o (by rfl) hown ?_ _ (x % 10) (by rfl) ?_ ?_)
      · omega
      · omega
      · intro v' w' hown'
        go_wp2
        go_roundw
        case rel => exact ⟨x / 10, _, by go_num, by omega, ofAt_step hof hx0, hown'⟩
        case measure => simp [intOf]; omega
    · have hx1 : x = 0 := by omega
      subst hx1
      have ho := ofAt_end hof
      have q0 : wr.cell? ⟨w.heap.size, 0, none⟩ = some (.bool false) := (hown.below.cell (p := ⟨w.heap.size, 0, none⟩) (show w.heap.size < w.heap.size + 1 by omega)).trans (by go_simp)
      have q1 : wr.cell? ⟨w.heap.size, 1, none⟩ = some (.slice none 0 0) := (hown.below.cell (p := ⟨w.heap.size, 1, none⟩) (show w.heap.size < w.heap.size + 1 by omega)).trans (by go_simp)
      have f0 : wr.frozen? ⟨w.heap.size, 0, none⟩ = false := (hown.below.frozen (p := ⟨w.heap.size, 0, none⟩) (show w.heap.size < w.heap.size + 1 by omega)).trans (by go_simp)
      have f1 : wr.frozen? ⟨w.heap.size, 1, none⟩ = false := (hown.below.frozen (p := ⟨w.heap.size, 1, none⟩) (show w.heap.size < w.heap.size + 1 by omega)).trans (by go_simp)
      have hrd := hown.rd
      have hbel := hown.below
      rw [ho] at hrd
      clear hown hof hol ho
      obtain ⟨a1, c1, hv1⟩ := hrd.lt
      subst hv1
      go_wp2
      have hB := (((below_tr (below_al (Below.refl _ w) _) (hbel.mono (by simp))).setCell (p := ⟨w.heap.size, 0, none⟩) (Nat.le_refl _) (.bool (decide (n < 0)))).setCell (p := ⟨w.heap.size, 1, none⟩) (Nat.le_refl _) (.slice a1 (digs n.natAbs).length c1))
      have hR := hrd.set2 q0 q1 (.bool (decide (n < 0))) (.slice a1 (digs n.natAbs).length c1)
      exact bodyPost_ret (v := .agg #[.bool (decide (n < 0)), .slice a1 (digs n.natAbs).length c1]) (by simp [results, Tryd.results66, go_sem, q0, q1]) rfl ⟨_, rfl, ⟨_, rfl, hR⟩, hB⟩

set_option maxHeartbeats 1600000 in
theorem of_neg (n : Int) (w : World) (h0 : n < 0) (h1 : -9223372036854775808 ≤ n) :
    Calls Tryd.prog 66 #[.int .i64 n] w fun e w' => ∃ v, e = .returned v ∧ IsNum w' v n ∧ Below w.heap.size w w' := by
  have hlen : (digs n.natAbs).length ≤ 19 := length_digs_le (by omega)
  have hw : IntKind.u64.wrap (-IntKind.u64.wrap n) = ((n.natAbs : Nat) : Int) := by rw [IntKind.wrap_u64, IntKind.wrap_u64]; omega
  have Hw := Hid.mk' hw
  clear hw
  go_enter Tryd.func66, Tryd.ntmps66
  go_wp2
  go_loopw [3, 4] (fun v d wr => ∃ (x : Nat) (o : List Nat), v = .int .u64 x ∧ x ≤ 9223372036854775808 ∧ OfAt x o n.natAbs ∧ Own (w.heap.size + 1) (w.alloc (.cells #[.bool false, .slice none 0 0] 108)) wr d o) (fun v _ _ => (intOf v).toNat)
  case atStart => exact ⟨n.natAbs, [], congrArg (Value.int IntKind.u64) Hw.out, by omega, rfl, Own.nil (Below.refl _ _) (by simp)⟩
  case round =>
    obtain ⟨x, o, rfl, hx, hof, hown⟩ := hrel
    have hol := ofAt_length hof
    by_cases hx0 : 0 < x
    · go_wp2_with (at_builtin; refine wpList_push (by rfl) (.tmp 13) (.tmp 17) (by rfl) (w.heap.size + 1) _ _ o (by rfl) hown ?_ _ (x % 10) (by rfl) ?_ ?_)
      · omega
      · omega
      · intro v' w' hown'
        go_wp2
        go_roundw
        case rel => exact ⟨x / 10, _, by go_num, by omega, ofAt_step hof hx0, hown'⟩
        case measure => simp [intOf]; omega
    · have hx1 : x = 0 := by omega
      subst hx1
      have ho := ofAt_end hof
      have q0 : wr.cell? ⟨w.heap.size, 0, none⟩ = some (.bool false) := (hown.below.cell (p := ⟨w.heap.size, 0, none⟩) (show w.heap.size < w.heap.size + 1 by omega)).trans (by go_simp)
      have q1 : wr.cell? ⟨w.heap.size, 1, none⟩ = some (.slice none 0 0) := (hown.below.cell (p := ⟨w.heap.size, 1, none⟩) (show w.heap.size < w.heap.size + 1 by omega)).trans (by go_simp)
      have f0 : wr.frozen? ⟨w.heap.size, 0, none⟩ = false := (hown.below.frozen (p := ⟨w.heap.size, 0, none⟩) (show w.heap.size < w.heap.size + 1 by omega)).trans (by go_simp)
      have f1 : wr.frozen? ⟨w.heap.size, 1, none⟩ = false := (hown.below.frozen (p := ⟨w.heap.size, 1, none⟩) (show w.heap.size < w.heap.size + 1 by omega)).trans (by go_simp)
      have hrd := hown.rd
      have hbel := hown.below
      rw [ho] at hrd
      clear hown hof hol ho
      obtain ⟨a1, c1, hv1⟩ := hrd.lt
      subst hv1
      go_wp2
      have hB := (((below_tr (below_al (Below.refl _ w) _) (hbel.mono (by simp))).setCell (p := ⟨w.heap.size, 0, none⟩) (Nat.le_refl _) (.bool true)).setCell (p := ⟨w.heap.size, 1, none⟩) (Nat.le_refl _) (.slice a1 (digs n.natAbs).length c1))
      have hR := hrd.set2 q0 q1 (.bool true) (.slice a1 (digs n.natAbs).length c1)
      exact bodyPost_ret (v := .agg #[.bool true, .slice a1 (digs n.natAbs).length c1]) (by simp [results, Tryd.results66, go_sem, q0, q1]) rfl ⟨_, rfl, ⟨_, by rw [decide_eq_true h0], hR⟩, hB⟩

/-- Of: a number of 64 bits. -/
theorem of_any (n : Int) (w : World) (h0 : -9223372036854775808 ≤ n) (h1 : n ≤ 9223372036854775807) :
    Calls Tryd.prog 66 #[.int .i64 n] w fun e w' => ∃ v, e = .returned v ∧ IsNum w' v n ∧ Below w.heap.size w w' := by
  by_cases h : 0 ≤ n
  · exact of_pos n w h h1
  · exact of_neg n w (by omega) h0

end Go.Proofs.YtgmagehgnjopcaaDoor
