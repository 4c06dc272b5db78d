/-
  The document's answer of layer 6 (radomeref06): times, Exp.
-/
import Derived.Test.YtlomfjacgomhdaaGreatDoorM4
import Derived.Test.YtlomfjacgomhdaaGreatDoorM7
import Derived.Test.YtlomfjacgomhdaaGreatDoorLgV
import Derived.Test.YtlomfjacgomhdaaGreatDoorM26
import Derived.Test.YtlomfjacgomhdaaGreatDoorM6
import Derived.Deep.DeepCutAuto
import Derived.Deep.RegionHeld3
import Derived.Deep.CutRange
import Derived.Deep.RegionWith
import Derived.Test.YtlomfjacgomhdaaGreatDoorM13
set_option linter.unusedSimpArgs false
set_option linter.unusedVariables false
namespace Go.Proofs.YtlomfjacgomhdaaGreatDoor
open Go.RowKit Dec
attribute [local go_sem ↓] Go.wp_at_zero Go.wp_at_succ

theorem Hid.mkR {p : Prop} (h : p) : Hid p := h

/-- The document's product of two numbers: Dot of one by one. -/
theorem ldot_one (a b : Int) (p : Nat) (w : World) (ha0 : -9223372036854775808 ≤ a) (ha1 : a ≤ 9223372036854775807) (hb0 : -9223372036854775808 ≤ b) (hb1 : b ≤ 9223372036854775807) (hp : p ≤ 62) :
    Calls Tryz.prog 99 #[.slice (some ⟨w.heap.size, 0, none⟩) 1 1, .slice (some ⟨w.heap.size + 1, 0, none⟩) 1 1, .int .i64 p] ((w.alloc (.cells #[.int .i64 a] 2)).alloc (.cells #[.int .i64 b] 2)) fun e w' =>
      e = .returned (.tuple #[.int .i64 (Qn.clamp (Qn.rne (a * b) (2 ^ p))), .bool (Qn.great (Qn.rne (a * b) (2 ^ p)))]) ∧ Below w.heap.size w w' := by
  have hA : ((w.alloc (.cells #[.int .i64 a] 2)).alloc (.cells #[.int .i64 b] 2)).heap[w.heap.size]? = some (.cells #[.int .i64 a] 2 (0, 0)) := by
    rw [Below.heap_alloc _ _ _ (by simp)]; exact heap_alloc_new w _
  have hB : ((w.alloc (.cells #[.int .i64 a] 2)).alloc (.cells #[.int .i64 b] 2)).heap[w.heap.size + 1]? = some (.cells #[.int .i64 b] 2 (0, 0)) := by
    have h := heap_alloc_new (w.alloc (.cells #[.int .i64 a] 2)) (.cells #[.int .i64 b] 2)
    rwa [show (w.alloc (.cells #[.int .i64 a] 2)).heap.size = w.heap.size + 1 by simp] at h
  have h := ldot_any (some ⟨w.heap.size, 0, none⟩) (some ⟨w.heap.size + 1, 0, none⟩) ⟨w.heap.size, 0, none⟩ ⟨w.heap.size + 1, 0, none⟩ 1 1 1 (fun _ => a) (fun _ => b) p
    ((w.alloc (.cells #[.int .i64 a] 2)).alloc (.cells #[.int .i64 b] 2)) (by omega) (fun _ => rfl) (fun _ => rfl)
    (fun k hk => by obtain rfl : k = 0 := by omega
                    exact (cell_of_row _ _ 0 _ _ (0, 0) hA).trans rfl)
    (fun k hk => by obtain rfl : k = 0 := by omega
                    exact (cell_of_row _ _ 0 _ _ (0, 0) hB).trans rfl)
    (fun _ => ⟨ha0, ha1⟩) (fun _ => ⟨hb0, hb1⟩) hp
  have e1 : Dt.dk (fun _ => a) (fun _ => b) 1 = a * b := by show 0 + a * b = _; omega
  rw [e1] at h
  refine h.mono ?_
  rintro e w1 ⟨rfl, k1⟩
  exact ⟨rfl, below_tr (below_al (below_al (Below.refl _ _) _) _) k1⟩

namespace Gw
/-- A number in a variable's block. -/
def NumAt (w : World) (g : Nat) (z : Int) : Prop := ∃ a L c, Row2 w g (.bool (decide (z < 0))) (.slice a L c) ∧ IsNum w (.agg #[.bool (decide (z < 0)), .slice a L c]) z
theorem NumAt.keep {w w' : World} {g : Nat} {z : Int} (h : NumAt w g z) (hb : Below w.heap.size w w') : NumAt w' g z := by
  obtain ⟨a, L, c, h1, h2⟩ := h
  exact ⟨a, L, c, h1.keep hb, h2.below hb⟩
theorem numAt_new {w : World} {v : Value} {z : Int} (h : IsNum w v z) : ∃ a L c, v = .agg #[.bool (decide (z < 0)), .slice a L c] ∧ NumAt (w.alloc (.cells #[.bool (decide (z < 0)), .slice a L c] 126)) w.heap.size z := by
  obtain ⟨a, L, c, rfl⟩ := h.form
  exact ⟨a, L, c, rfl, a, L, c, row2_new w _ _, h.below (below_al (Below.refl _ _) _)⟩
theorem NumAt.lt {w : World} {g : Nat} {z : Int} (h : NumAt w g z) : g < w.heap.size := by
  obtain ⟨a, L, c, h1, h2⟩ := h
  exact h1.lt
theorem NumAt.other {w : World} {g g' : Nat} {z : Int} (h : NumAt w g z) (hne : g ≠ g') {p : Bool} {ao : Option Addr} {n c : Nat} (hr : Row2 w g' (.bool p) (.slice ao n c)) (u0 u1 : Value) : NumAt ((w.setCell ⟨g', 0, none⟩ u0).setCell ⟨g', 1, none⟩ u1) g z := by
  obtain ⟨a, L, c, h1, h2⟩ := h
  exact ⟨a, L, c, h1.other2 hne u0 u1, h2.row2 hr u0 u1⟩
theorem NumAt.set {w : World} {g : Nat} {z' : Int} {a : Option Addr} {L c : Nat} (h : IsNum w (.agg #[.bool (decide (z' < 0)), .slice a L c]) z') {p : Bool} {ao : Option Addr} {n cc : Nat} (hr : Row2 w g (.bool p) (.slice ao n cc)) :
    NumAt ((w.setCell ⟨g, 0, none⟩ (.bool (decide (z' < 0)))).setCell ⟨g, 1, none⟩ (.slice a L c)) g z' := ⟨a, L, c, hr.set2 _ _, h.row2 hr _ _⟩
theorem NumAt.row {w : World} {g : Nat} {z : Int} (h : NumAt w g z) : ∃ a L c, w.cell? ⟨g, 0, none⟩ = some (.bool (decide (z < 0))) ∧ w.cell? ⟨g, 1, none⟩ = some (.slice a L c) ∧ w.frozen? ⟨g, 0, none⟩ = false ∧ w.frozen? ⟨g, 1, none⟩ = false ∧ IsNum w (.agg #[.bool (decide (z < 0)), .slice a L c]) z ∧ Row2 w g (.bool (decide (z < 0))) (.slice a L c) := by
  obtain ⟨a, L, c, h1, h2⟩ := h
  exact ⟨a, L, c, h1.c0, h1.c1, h1.free 0, h1.free 1, h2, h1⟩
theorem len18 {n : Int} (h0 : -1000000000000000000000000000000 ≤ n) (h1 : n ≤ 1000000000000000000000000000000) : (digs n.natAbs).length ≤ 800000 := by
  have := length_digs_le (show n.natAbs < 10 ^ 31 by omega)
  omega
end Gw
end Go.Proofs.YtlomfjacgomhdaaGreatDoor

/-
  The document's answer of layer 6 (radomeref06): Exp.
-/
set_option linter.unusedSimpArgs false
set_option linter.unusedVariables false
namespace Go.Proofs.YtlomfjacgomhdaaGreatDoor
open Go.RowKit Dec Gw
attribute [local go_sem ↓] Go.wp_at_zero Go.wp_at_succ

namespace Gw
theorem num_zero (w : World) : IsNum w (.agg #[.bool (decide ((0 : Int) < 0)), .slice none 0 0]) 0 := ⟨.slice none 0 0, rfl, Or.inl ⟨rfl, rfl⟩⟩
theorem cell_set2 {w : World} {g g' j : Nat} {v : Value} (h : w.cell? ⟨g, j, none⟩ = some v) (hne : ¬ g = g') (u0 u1 : Value) : ((w.setCell ⟨g', 0, none⟩ u0).setCell ⟨g', 1, none⟩ u1).cell? ⟨g, j, none⟩ = some v := by
  have hn : ∀ i j : Nat, (⟨g', i, none⟩ : Addr) ≠ ⟨g, j, none⟩ := fun i j e => hne (Addr.mk.inj e).1.symm
  rw [World.cell?_setCell_other _ _ _ _ (hn 1 j), World.cell?_setCell_other _ _ _ _ (hn 0 j)]
  exact h
/-- Two numbers into two variables, wherever their blocks were made: both new; one elder; both elder. -/
theorem end2 {B : Nat} {w w5 : World} {z1 z2 : Int} {a1 a2 : Option Addr} {L1 c1 L2 c2 : Nat} (hB : Below B w w5)
    (i1 : IsNum w5 (.agg #[.bool (decide (z1 < 0)), .slice a1 L1 c1]) z1) (i2 : IsNum w5 (.agg #[.bool (decide (z2 < 0)), .slice a2 L2 c2]) z2) (hs : B ≤ w5.heap.size) :
    NumAt ((w5.alloc (.cells #[.bool (decide (z1 < 0)), .slice a1 L1 c1] 126)).alloc (.cells #[.bool (decide (z2 < 0)), .slice a2 L2 c2] 126)) w5.heap.size z1 ∧
    NumAt ((w5.alloc (.cells #[.bool (decide (z1 < 0)), .slice a1 L1 c1] 126)).alloc (.cells #[.bool (decide (z2 < 0)), .slice a2 L2 c2] 126)) (w5.heap.size + 1) z2 ∧
    Below B w ((w5.alloc (.cells #[.bool (decide (z1 < 0)), .slice a1 L1 c1] 126)).alloc (.cells #[.bool (decide (z2 < 0)), .slice a2 L2 c2] 126)) :=
  ⟨⟨a1, L1, c1, (row2_new w5 _ _).alloc _, (i1.alloc _).alloc _⟩, ⟨a2, L2, c2, row2_at (w5.alloc _) (by simp) _ _, (i2.alloc _).alloc _⟩, hB.trans ((below_al (below_al (Below.refl _ _) _) _).mono hs)⟩
theorem end1 {B g : Nat} {w w5 : World} {z1 z2 : Int} {a1 a2 : Option Addr} {L1 c1 L2 c2 : Nat} (hB : Below B w w5) {p : Bool} {ao : Option Addr} {n cc : Nat} (r : Row2 w5 g (.bool p) (.slice ao n cc)) (hg : B ≤ g)
    (i1 : IsNum w5 (.agg #[.bool (decide (z1 < 0)), .slice a1 L1 c1]) z1) (i2 : IsNum w5 (.agg #[.bool (decide (z2 < 0)), .slice a2 L2 c2]) z2) (hs : B ≤ w5.heap.size) :
    NumAt (((w5.setCell ⟨g, 0, none⟩ (.bool (decide (z1 < 0)))).setCell ⟨g, 1, none⟩ (.slice a1 L1 c1)).alloc (.cells #[.bool (decide (z2 < 0)), .slice a2 L2 c2] 126)) g z1 ∧
    NumAt (((w5.setCell ⟨g, 0, none⟩ (.bool (decide (z1 < 0)))).setCell ⟨g, 1, none⟩ (.slice a1 L1 c1)).alloc (.cells #[.bool (decide (z2 < 0)), .slice a2 L2 c2] 126)) w5.heap.size z2 ∧
    Below B w (((w5.setCell ⟨g, 0, none⟩ (.bool (decide (z1 < 0)))).setCell ⟨g, 1, none⟩ (.slice a1 L1 c1)).alloc (.cells #[.bool (decide (z2 < 0)), .slice a2 L2 c2] 126)) :=
  ⟨⟨a1, L1, c1, (r.set2 _ _).alloc _, (i1.row2 r _ _).alloc _⟩, ⟨a2, L2, c2, row2_after2 w5 g _ _ _ _, (i2.row2 r _ _).alloc _⟩, (below_set2 hB hg _ _).trans ((below_al (Below.refl _ _) _).mono (by simpa using hs))⟩
theorem end0 {B g g' : Nat} {w w5 : World} {z1 z2 : Int} {a1 a2 : Option Addr} {L1 c1 L2 c2 : Nat} (hB : Below B w w5) {p p' : Bool} {ao ao' : Option Addr} {n cc n' cc' : Nat} (r : Row2 w5 g (.bool p) (.slice ao n cc)) (r' : Row2 w5 g' (.bool p') (.slice ao' n' cc')) (hg : B ≤ g) (hg' : B ≤ g') (hne : g ≠ g')
    (i1 : IsNum w5 (.agg #[.bool (decide (z1 < 0)), .slice a1 L1 c1]) z1) (i2 : IsNum w5 (.agg #[.bool (decide (z2 < 0)), .slice a2 L2 c2]) z2) :
    NumAt ((((w5.setCell ⟨g, 0, none⟩ (.bool (decide (z1 < 0)))).setCell ⟨g, 1, none⟩ (.slice a1 L1 c1)).setCell ⟨g', 0, none⟩ (.bool (decide (z2 < 0)))).setCell ⟨g', 1, none⟩ (.slice a2 L2 c2)) g z1 ∧
    NumAt ((((w5.setCell ⟨g, 0, none⟩ (.bool (decide (z1 < 0)))).setCell ⟨g, 1, none⟩ (.slice a1 L1 c1)).setCell ⟨g', 0, none⟩ (.bool (decide (z2 < 0)))).setCell ⟨g', 1, none⟩ (.slice a2 L2 c2)) g' z2 ∧
    Below B w ((((w5.setCell ⟨g, 0, none⟩ (.bool (decide (z1 < 0)))).setCell ⟨g, 1, none⟩ (.slice a1 L1 c1)).setCell ⟨g', 0, none⟩ (.bool (decide (z2 < 0)))).setCell ⟨g', 1, none⟩ (.slice a2 L2 c2)) :=
  have r2 := r'.other2 (Ne.symm hne) (.bool (decide (z1 < 0))) (.slice a1 L1 c1)
  ⟨NumAt.other ⟨a1, L1, c1, r.set2 _ _, i1.row2 r _ _⟩ hne r2 _ _, ⟨a2, L2, c2, r2.set2 _ _, (i2.row2 r _ _).row2 r2 _ _⟩, below_set2 (below_set2 hB hg _ _) hg' _ _⟩
end Gw

end Go.Proofs.YtlomfjacgomhdaaGreatDoor

/-
  The document's answer of layer 6 (radomeref06): Log.
-/
set_option linter.unusedSimpArgs false
set_option linter.unusedVariables false
namespace Go.Proofs.YtlomfjacgomhdaaGreatDoor
open Go.RowKit Dec Gw
attribute [local go_sem ↓] Go.wp_at_zero Go.wp_at_succ

namespace Gw
/-- The two loops that move a number: how often each goes, and what it has. -/
theorem loops {x d : Int} (h0 : 1 ≤ x) (h : Dn x d) : ∃ J I : Nat, J ≤ 11 ∧ I ≤ 50 ∧ d = (J : Int) - (I : Int) ∧
    (∀ j, j ≤ J → (2251799813685248 ≤ x / 2 ^ j ↔ j < J)) ∧ (∀ i, i ≤ I → (x / 2 ^ J * 2 ^ i < 1125899906842624 ↔ i < I)) ∧ x / 2 ^ J * 2 ^ I = mo x d ∧ (∀ j, 0 ≤ x / 2 ^ j ∧ x / 2 ^ j ≤ x) ∧ (∀ i, 0 ≤ x / 2 ^ J * 2 ^ i) := by
  have hd := h
  obtain ⟨d0, d1, _, _⟩ := hd
  have hx : ∀ j : Nat, 0 ≤ x / 2 ^ j ∧ x / 2 ^ j ≤ x := fun j => ⟨Int.ediv_nonneg (by omega) (Int.pow_nonneg (by omega)), Int.ediv_le_self _ (by omega)⟩
  rcases Int.lt_or_le d 0 with k | k
  · refine ⟨0, (-d).toNat, by omega, by omega, by omega, ?_, ?_, ?_, hx, ?_⟩
    · intro j hj
      obtain rfl : j = 0 := by omega
      have := (mo_less h 0 (by omega)).2 (by omega)
      rw [Int.pow_zero, Int.mul_one] at this
      rw [Int.pow_zero, Int.ediv_one]
      omega
    · intro i hi
      rw [Int.pow_zero, Int.ediv_one, mo_less h i (by omega)]
      omega
    · rw [Int.pow_zero, Int.ediv_one]
      unfold mo
      rw [if_pos k]
    · intro i
      exact Int.mul_nonneg (hx 0).1 (Int.pow_nonneg (by omega))
  · refine ⟨d.toNat, 0, by omega, by omega, by omega, ?_, ?_, ?_, hx, ?_⟩
    · intro j hj
      rw [mo_more h j (by omega)]
      omega
    · intro i hi
      obtain rfl : i = 0 := by omega
      have := (mo_bd h).1
      unfold mo at this
      rw [if_neg (by omega)] at this
      rw [Int.pow_zero, Int.mul_one]
      omega
    · rw [Int.pow_zero, Int.mul_one]
      unfold mo
      rw [if_neg (by omega)]
    · intro i
      exact Int.mul_nonneg (hx d.toNat).1 (Int.pow_nonneg (by omega))
end Gw

end Go.Proofs.YtlomfjacgomhdaaGreatDoor
