/-
  The angles of package trig as they lie in their variable.
-/
import Derived.Test.YtefgkeeeanakeaaDoorTgMath
import Derived.Laws.Rows
import Derived.KernelRfl
set_option linter.unusedSimpArgs false
set_option linter.unusedVariables false
namespace Go.Proofs.YtefgkeeeanakeaaDoor
open Go.RowKit Tg
namespace Tg
/-- The variable's cells. -/
def tabV : Array Value := #[.int .i64 576460752303423488, .int .i64 340304653033718298, .int .i64 179807632645220259, .int .i64 91273161881380487, .int .i64 45813697873323707, .int .i64 22929182573009054, .int .i64 11467389120678282, .int .i64 5734044481687724, .int .i64 2867065987018958, .int .i64 1433538461969102, .int .i64 716769914547871, .int .i64 358385042719534, .int .i64 179192532040472, .int .i64 89596267355325, .int .i64 44798133844548, .int .i64 22399066943135, .int .i64 11199533474175, .int .i64 5599766737413, .int .i64 2799883368747, .int .i64 1399941684379, .int .i64 699970842190, .int .i64 349985421095, .int .i64 174992710548, .int .i64 87496355274, .int .i64 43748177637, .int .i64 21874088818, .int .i64 10937044409, .int .i64 5468522205, .int .i64 2734261102, .int .i64 1367130551, .int .i64 683565276, .int .i64 341782638, .int .i64 170891319, .int .i64 85445659, .int .i64 42722830, .int .i64 21361415, .int .i64 10680707, .int .i64 5340354, .int .i64 2670177, .int .i64 1335088]
theorem tabV_eq : tabV.toList = angs.map (Value.int .i64) := by rfl
theorem tab_get {k : Nat} (h : k < 40) : tabV[k]? = some (.int .i64 (ang k)) := by
  have hl : k < angs.length := h
  rw [← Array.getElem?_toList, tabV_eq, List.getElem?_map]
  simp [ang, List.getD, List.getElem?_eq_getElem hl]
theorem run_angle (w : World) : ∀ {k : Nat}, k < 40 → (Instr.index 128 (.agg tabV) (.int .i64 (k : Int))).run Tryd.prog w = .ok (.int .i64 (ang k)) w
  | 0, _ => by kernel_rfl
  | 1, _ => by kernel_rfl
  | 2, _ => by kernel_rfl
  | 3, _ => by kernel_rfl
  | 4, _ => by kernel_rfl
  | 5, _ => by kernel_rfl
  | 6, _ => by kernel_rfl
  | 7, _ => by kernel_rfl
  | 8, _ => by kernel_rfl
  | 9, _ => by kernel_rfl
  | 10, _ => by kernel_rfl
  | 11, _ => by kernel_rfl
  | 12, _ => by kernel_rfl
  | 13, _ => by kernel_rfl
  | 14, _ => by kernel_rfl
  | 15, _ => by kernel_rfl
  | 16, _ => by kernel_rfl
  | 17, _ => by kernel_rfl
  | 18, _ => by kernel_rfl
  | 19, _ => by kernel_rfl
  | 20, _ => by kernel_rfl
  | 21, _ => by kernel_rfl
  | 22, _ => by kernel_rfl
  | 23, _ => by kernel_rfl
  | 24, _ => by kernel_rfl
  | 25, _ => by kernel_rfl
  | 26, _ => by kernel_rfl
  | 27, _ => by kernel_rfl
  | 28, _ => by kernel_rfl
  | 29, _ => by kernel_rfl
  | 30, _ => by kernel_rfl
  | 31, _ => by kernel_rfl
  | 32, _ => by kernel_rfl
  | 33, _ => by kernel_rfl
  | 34, _ => by kernel_rfl
  | 35, _ => by kernel_rfl
  | 36, _ => by kernel_rfl
  | 37, _ => by kernel_rfl
  | 38, _ => by kernel_rfl
  | 39, _ => by kernel_rfl
  | n + 40, h => absurd h (by omega)
end Tg
/-- The variable holds them. -/
def AngTab (w : World) : Prop := ∃ t, w.heap[1]? = some (.cells tabV t (0, 0))
theorem AngTab.lt {w : World} (h : AngTab w) : 1 < w.heap.size := by
  obtain ⟨t, h⟩ := h
  rcases Nat.lt_or_ge 1 w.heap.size with k | k
  · exact k
  · rw [Array.getElem?_eq_none k] at h; cases h
theorem AngTab.below {w w' : World} (h : AngTab w) (hb : Below w.heap.size w w') : AngTab w' := by
  have hl := h.lt
  obtain ⟨t, h⟩ := h
  exact ⟨t, (hb.block _ hl).trans h⟩
theorem size_tab : (Tryd.prog.info? 128).map (·.size) = some tabV.size := by kernel_rfl
theorem wpList_loadTab {ops : Array Oper} {rest : List Oper} {o : Oper} {a : Act} {w : World} {Q : Exit → Act → World → Prop} (hgd : o.guard = none) (x : Operand) (ho : o.op = .load 128 x)
    (hx : a.eval x = .pointer (some ⟨1, 0, none⟩)) (hr : AngTab w)
    (h : wpList Tryd.prog ops Q rest (a.put o.dst (.agg tabV)) w) : wpList Tryd.prog ops Q (o :: rest) a w := by
  obtain ⟨t, hr⟩ := hr
  exact wpList_load_row hgd _ x ho 1 hx _ _ _ _ hr Tryd.underlying128 rfl size_tab h
end Go.Proofs.YtefgkeeeanakeaaDoor
