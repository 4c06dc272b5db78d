/-
  The document's answer of layer 6 (radomeref06): times, Exp.
-/
import Derived.Test.YtiahijcdfeimgaaDoorGwMath
import Derived.Test.YtiahijcdfeimgaaDoorLgE
import Derived.Test.YtiahijcdfeimgaaDoorLgV
import Derived.Test.YtiahijcdfeimgaaDoorRefO
import Derived.Test.YtiahijcdfeimgaaDoorRefS
import Derived.Test.YtiahijcdfeimgaaDoorRefI
set_option linter.unusedSimpArgs false
set_option linter.unusedVariables false
namespace Go.Proofs.YtiahijcdfeimgaaDoor
open Go.RowKit Dec
attribute [local go_sem ↓] Go.wp_at_zero Go.wp_at_succ

theorem Hid.mkR {p : Prop} (h : p) : Hid p := h

/-- The document's product of two numbers: Dot of one by one. -/
theorem ldot_one (a b : Int) (p : Nat) (w : World) (ha0 : -9223372036854775808 ≤ a) (ha1 : a ≤ 9223372036854775807) (hb0 : -9223372036854775808 ≤ b) (hb1 : b ≤ 9223372036854775807) (hp : p ≤ 62) :
    Calls Tryd.prog 9 #[.slice (some ⟨w.heap.size, 0, none⟩) 1 1, .slice (some ⟨w.heap.size + 1, 0, none⟩) 1 1, .int .i64 p] ((w.alloc (.cells #[.int .i64 a] 2)).alloc (.cells #[.int .i64 b] 2)) fun e w' =>
      e = .returned (.tuple #[.int .i64 (Qn.clamp (Qn.rne (a * b) (2 ^ p))), .bool (Qn.great (Qn.rne (a * b) (2 ^ p)))]) ∧ Below w.heap.size w w' := by
  have hA : ((w.alloc (.cells #[.int .i64 a] 2)).alloc (.cells #[.int .i64 b] 2)).heap[w.heap.size]? = some (.cells #[.int .i64 a] 2 (0, 0)) := by
    rw [Below.heap_alloc _ _ _ (by simp)]; exact heap_alloc_new w _
  have hB : ((w.alloc (.cells #[.int .i64 a] 2)).alloc (.cells #[.int .i64 b] 2)).heap[w.heap.size + 1]? = some (.cells #[.int .i64 b] 2 (0, 0)) := by
    have h := heap_alloc_new (w.alloc (.cells #[.int .i64 a] 2)) (.cells #[.int .i64 b] 2)
    rwa [show (w.alloc (.cells #[.int .i64 a] 2)).heap.size = w.heap.size + 1 by simp] at h
  have h := ldot_any (some ⟨w.heap.size, 0, none⟩) (some ⟨w.heap.size + 1, 0, none⟩) ⟨w.heap.size, 0, none⟩ ⟨w.heap.size + 1, 0, none⟩ 1 1 1 (fun _ => a) (fun _ => b) p
    ((w.alloc (.cells #[.int .i64 a] 2)).alloc (.cells #[.int .i64 b] 2)) (by omega) (fun _ => rfl) (fun _ => rfl)
    (fun k hk => by obtain rfl : k = 0 := by omega
                    exact (cell_of_row _ _ 0 _ _ (0, 0) hA).trans rfl)
    (fun k hk => by obtain rfl : k = 0 := by omega
                    exact (cell_of_row _ _ 0 _ _ (0, 0) hB).trans rfl)
    (fun _ => ⟨ha0, ha1⟩) (fun _ => ⟨hb0, hb1⟩) hp
  have e1 : Dt.dk (fun _ => a) (fun _ => b) 1 = a * b := by show 0 + a * b = _; omega
  rw [e1] at h
  refine h.mono ?_
  rintro e w1 ⟨rfl, k1⟩
  exact ⟨rfl, below_tr (below_al (below_al (Below.refl _ _) _) _) k1⟩

set_option maxHeartbeats 400000 in
theorem rtimes_any (a b : Int) (w : World) (ha0 : -9223372036854775808 ≤ a) (ha1 : a ≤ 9223372036854775807) (hb0 : -9223372036854775808 ≤ b) (hb1 : b ≤ 9223372036854775807) :
    Calls Tryd.prog 27 #[.int .i64 a, .int .i64 b] w fun e w' => e = .returned (.int .i64 (Gw.tim a b)) ∧ Below w.heap.size w w' := by
  go_enter Tryd.func27, Tryd.ntmps27
  go_wp2_with fail
  refine (ldot_one a b 50 w ha0 ha1 hb0 hb1 (by omega)).mono ?_
  rintro e w1 ⟨rfl, k1⟩
  go_wp2
  go_ret
  exact ⟨rfl, k1⟩

namespace Gw
/-- A number in a variable's block. -/
def NumAt (w : World) (g : Nat) (z : Int) : Prop := ∃ a L c, Row2 w g (.bool (decide (z < 0))) (.slice a L c) ∧ IsNum w (.agg #[.bool (decide (z < 0)), .slice a L c]) z
theorem NumAt.keep {w w' : World} {g : Nat} {z : Int} (h : NumAt w g z) (hb : Below w.heap.size w w') : NumAt w' g z := by
  obtain ⟨a, L, c, h1, h2⟩ := h
  exact ⟨a, L, c, h1.keep hb, h2.below hb⟩
theorem numAt_new {w : World} {v : Value} {z : Int} (h : IsNum w v z) : ∃ a L c, v = .agg #[.bool (decide (z < 0)), .slice a L c] ∧ NumAt (w.alloc (.cells #[.bool (decide (z < 0)), .slice a L c] 48)) w.heap.size z := by
  obtain ⟨a, L, c, rfl⟩ := h.form
  exact ⟨a, L, c, rfl, a, L, c, row2_new w _ _, h.below (below_al (Below.refl _ _) _)⟩
theorem NumAt.lt {w : World} {g : Nat} {z : Int} (h : NumAt w g z) : g < w.heap.size := by
  obtain ⟨a, L, c, h1, h2⟩ := h
  exact h1.lt
theorem NumAt.other {w : World} {g g' : Nat} {z : Int} (h : NumAt w g z) (hne : g ≠ g') {p : Bool} {ao : Option Addr} {n c : Nat} (hr : Row2 w g' (.bool p) (.slice ao n c)) (u0 u1 : Value) : NumAt ((w.setCell ⟨g', 0, none⟩ u0).setCell ⟨g', 1, none⟩ u1) g z := by
  obtain ⟨a, L, c, h1, h2⟩ := h
  exact ⟨a, L, c, h1.other2 hne u0 u1, h2.row2 hr u0 u1⟩
theorem NumAt.set {w : World} {g : Nat} {z' : Int} {a : Option Addr} {L c : Nat} (h : IsNum w (.agg #[.bool (decide (z' < 0)), .slice a L c]) z') {p : Bool} {ao : Option Addr} {n cc : Nat} (hr : Row2 w g (.bool p) (.slice ao n cc)) :
    NumAt ((w.setCell ⟨g, 0, none⟩ (.bool (decide (z' < 0)))).setCell ⟨g, 1, none⟩ (.slice a L c)) g z' := ⟨a, L, c, hr.set2 _ _, h.row2 hr _ _⟩
theorem NumAt.row {w : World} {g : Nat} {z : Int} (h : NumAt w g z) : ∃ a L c, w.cell? ⟨g, 0, none⟩ = some (.bool (decide (z < 0))) ∧ w.cell? ⟨g, 1, none⟩ = some (.slice a L c) ∧ w.frozen? ⟨g, 0, none⟩ = false ∧ w.frozen? ⟨g, 1, none⟩ = false ∧ IsNum w (.agg #[.bool (decide (z < 0)), .slice a L c]) z ∧ Row2 w g (.bool (decide (z < 0))) (.slice a L c) := by
  obtain ⟨a, L, c, h1, h2⟩ := h
  exact ⟨a, L, c, h1.c0, h1.c1, h1.free 0, h1.free 1, h2, h1⟩
theorem len18 {n : Int} (h0 : -1000000000000000000000000000000 ≤ n) (h1 : n ≤ 1000000000000000000000000000000) : (digs n.natAbs).length ≤ 800000 := by
  have := length_digs_le (show n.natAbs < 10 ^ 31 by omega)
  omega
end Gw
end Go.Proofs.YtiahijcdfeimgaaDoor
