/-
  Factors of package ldl as a value (how many, 36 numbers of L, 6 of D), the steps' bool, and worlds that are the same but for some blocks.
-/
import Derived.Test.YtfgjigkgfflofaaDoorRStA
import Derived.Test.YtfgjigkgfflofaaDoorRMtC
set_option linter.unusedSimpArgs false
set_option linter.unusedVariables false
namespace Go.Proofs.YtfgjigkgfflofaaDoorR
open Go.RowKit Vc Mt St
namespace Ld

/-- Nothing has turned but blocks that are P. -/
structure But (P : Nat → Prop) (w w' : World) : Prop where
  os : w'.os = w.os
  tape : w'.tape = w.tape
  output : w'.output = w.output
  size : w.heap.size ≤ w'.heap.size
  block : ∀ k, k < w.heap.size → ¬ P k → w'.heap[k]? = w.heap[k]?

theorem But.refl (P : Nat → Prop) (w : World) : But P w w := ⟨rfl, rfl, rfl, Nat.le_refl _, fun _ _ _ => rfl⟩
theorem But.trans {P : Nat → Prop} {a b c : World} (h : But P a b) (k : But P b c) : But P a c :=
  ⟨k.os.trans h.os, k.tape.trans h.tape, k.output.trans h.output, Nat.le_trans h.size k.size, fun i hi hp => (k.block i (Nat.lt_of_lt_of_le hi h.size) hp).trans (h.block i hi hp)⟩
theorem but_of {P : Nat → Prop} {a b : World} (h : Below a.heap.size a b) : But P a b := ⟨h.os, h.tape, h.output, h.size, fun i hi _ => h.block i hi⟩
theorem But.then {P : Nat → Prop} {a b c : World} (h : But P a b) (k : Below b.heap.size b c) : But P a c := h.trans (but_of k)
theorem But.mono {P Q : Nat → Prop} {a b : World} (h : But P a b) (e : ∀ k, P k → Q k) : But Q a b := ⟨h.os, h.tape, h.output, h.size, fun i hi hp => h.block i hi fun q => hp (e i q)⟩
theorem But.al {P : Nat → Prop} {a b : World} (h : But P a b) (o : Obj) : But P a (b.alloc o) := h.then (below_al (Below.refl _ _) o)
theorem But.drew {P : Nat → Prop} {a b : World} (h : But P a b) : But P a b.drew := ⟨h.os, h.tape, h.output, h.size, h.block⟩
theorem But.drewN {P : Nat → Prop} {a b : World} (h : But P a b) (n : Nat) : But P a (b.drewN n) := ⟨h.os, h.tape, h.output, h.size, h.block⟩
theorem But.set {P : Nat → Prop} {a b : World} (h : But P a b) {p : Addr} (v : Value) (hp : P p.block) : But P a (b.setCell p v) :=
  h.trans ⟨rfl, rfl, rfl, by simp, fun k hk hn => heap_setCell_other b p k v (fun e => hn (e ▸ hp))⟩
/-- A cell of a block that is new. -/
theorem But.setNew {P : Nat → Prop} {a b : World} (h : But P a b) {p : Addr} (v : Value) (hp : a.heap.size ≤ p.block) : But P a (b.setCell p v) :=
  ⟨h.os, h.tape, h.output, by simp [h.size], fun k hk hn => (heap_setCell_other b p k v (by omega)).trans (h.block k hk hn)⟩
theorem But.rowNew {P : Nat → Prop} {a b : World} (h : But P a b) {g : Nat} (cs : Array Value) (hp : a.heap.size ≤ g) : But P a (b.setRow g cs) :=
  ⟨h.os, h.tape, h.output, by simp [h.size], fun k hk hn => (setRow_other b g k cs (by omega)).trans (h.block k hk hn)⟩
/-- All that turned lies from B on. -/
theorem But.below {P : Nat → Prop} {B : Nat} {w0 a b : World} (h : But P a b) (h0 : Below B w0 a) (hB : B ≤ a.heap.size) (hP : ∀ k, P k → B ≤ k) : Below B w0 b :=
  h0.trans ⟨h.os, h.tape, h.output, h.size, fun k hk => h.block k (by omega) (fun q => by have := hP k q; omega)⟩
theorem But.cell {P : Nat → Prop} {a b : World} (h : But P a b) {x : Addr} {v : Value} (hc : a.cell? x = some v) (hx : ¬ P x.block) : b.cell? x = some v := by
  have hlt := World.block_lt_of_cell? a _ hc
  rw [World.cell?_of_block (h.block x.block hlt hx)]
  exact hc
theorem addr_block (x : Addr) (k : Nat) : (x.add k).block = x.block := by unfold Addr.add; split <;> rfl
theorem slBut {P : Nat → Prop} {a b : World} {ao : Option Addr} {n ca : Nat} {z : Nat → Int} (h : Sl a ao n ca z) (k : But P a b) (hx : ∀ x, ao = some x → ¬ P x.block) : Sl b ao n ca z :=
  ⟨h.le, h.cap, fun j hj => by
    obtain ⟨x, e, hc⟩ := h.at' j hj
    exact ⟨x, e, k.cell hc (by rw [addr_block]; exact hx x e)⟩⟩
theorem crowBut {P : Nat → Prop} {a b : World} {g : Nat} {t : TypeId} {cs : List Value} (h : CRow a g t cs) (k : But P a b) (hx : ¬ P g) : CRow b g t cs := by
  unfold CRow; rw [k.block g h.lt hx]; exact h
theorem ownBut {P : Nat → Prop} {B : Nat} {w0 a b : World} {v : Value} {n : Nat} {z : Nat → Int} (h : Own B w0 a v n z) (k : But P a b) (hB : ∀ q, P q → B ≤ q) (hx : ∀ g, v.ownBlock = some g → ¬ P g) : Own B w0 b v n z := by
  refine ⟨?_, k.below h.below h.base hB, Nat.le_trans h.base k.size⟩
  obtain ⟨h1, h2⟩ := h.row
  refine ⟨h1, ?_⟩
  rcases h2 with h2 | ⟨g, cap, cur, rfl, hb, hg, hn, hc, hs, ht⟩
  · exact Or.inl h2
  · refine Or.inr ⟨g, cap, cur, rfl, hb, ?_, hn, hc, hs, ht⟩
    have hlt : g < a.heap.size := by
      rcases Nat.lt_or_ge g a.heap.size with q | q
      · exact q
      · rw [Array.getElem?_eq_none q] at hg; cases hg
    exact (k.block g hlt (hx g rfl)).trans hg

/-- How many, L and D as values. -/
def fvals (n : Int) (z d : Nat → Int) : List Value := .int .i64 n :: (vals 36 z ++ vals 6 d)
theorem fvals_len (n : Int) (z d : Nat → Int) : (fvals n z d).length = 43 := by simp [fvals, vals_len]
theorem fvals_n (n : Int) (z d : Nat → Int) : (fvals n z d)[0]? = some (.int .i64 n) := rfl
theorem fvals_z {n : Int} {z d : Nat → Int} {k : Nat} (h : k < 36) : (fvals n z d)[k + 1]? = some (.int .i64 (z k)) := by
  show (vals 36 z ++ vals 6 d)[k]? = _
  rw [List.getElem?_append_left (by rw [vals_len]; exact h)]
  exact vals_at h
theorem fvals_d {n : Int} {z d : Nat → Int} {k : Nat} (h : k < 6) : (fvals n z d)[k + 37]? = some (.int .i64 (d k)) := by
  show (vals 36 z ++ vals 6 d)[k + 36]? = _
  rw [List.getElem?_append_right (by rw [vals_len]; omega), vals_len, Nat.add_sub_cancel]
  exact vals_at h
theorem fvals_setz {n : Int} {z d : Nat → Int} {j : Nat} (h : j < 36) (x : Int) : (fvals n z d).set (j + 1) (.int .i64 x) = fvals n (fun k => if k = j then x else z k) d := by
  show Value.int .i64 n :: (vals 36 z ++ vals 6 d).set j (.int .i64 x) = _
  rw [List.set_append_left _ _ (by rw [vals_len]; exact h), vals_set]; rfl
theorem fvals_setd {n : Int} {z d : Nat → Int} (j : Nat) (x : Int) : (fvals n z d).set (j + 37) (.int .i64 x) = fvals n z (fun k => if k = j then x else d k) := by
  show Value.int .i64 n :: (vals 36 z ++ vals 6 d).set (j + 36) (.int .i64 x) = _
  rw [List.set_append_right _ _ (by rw [vals_len]; omega), vals_len, Nat.add_sub_cancel, vals_set]; rfl
theorem fvals_congr {n : Int} {z d z' d' : Nat → Int} (h : ∀ k, k < 36 → z k = z' k) (h' : ∀ k, k < 6 → d k = d' k) : fvals n z d = fvals n z' d' := by
  unfold fvals; rw [vals_congr h, vals_congr h']
theorem one_fvals (n : Int) (z d : Nat → Int) : ∀ v ∈ fvals n z d, v.oneCell' = true := by
  intro v hv
  rcases List.mem_cons.1 hv with rfl | hv
  · rfl
  rcases List.mem_append.1 hv with hv | hv
  · exact one_vals _ _ v hv
  · exact one_vals _ _ v hv
theorem isF : Is 26 43 := ⟨by kernel_rfl, ⟨_, Tryd.underlying26, rfl⟩⟩

/-- They are all that block g holds. -/
abbrev FRow (w : World) (g : Nat) (n : Int) (z d : Nat → Int) : Prop := CRow w g 26 (fvals n z d)
theorem FRow.n {w : World} {g : Nat} {n : Int} {z d : Nat → Int} (h : FRow w g n z d) : w.cell? ⟨g, 0, none⟩ = some (.int .i64 n) := h.cell (fvals_n n z d) rfl
theorem FRow.z {w : World} {g : Nat} {n : Int} {z d : Nat → Int} (h : FRow w g n z d) {k o : Nat} (hk : k < 36) (ho : o = k + 1) : w.cell? ⟨g, o, none⟩ = some (.int .i64 (z k)) := h.cell (fvals_z hk) ho
theorem FRow.d {w : World} {g : Nat} {n : Int} {z d : Nat → Int} (h : FRow w g n z d) {k o : Nat} (hk : k < 6) (ho : o = k + 37) : w.cell? ⟨g, o, none⟩ = some (.int .i64 (d k)) := h.cell (fvals_d hk) ho
theorem FRow.setz {w : World} {g : Nat} {n : Int} {z d : Nat → Int} (h : FRow w g n z d) {k o : Nat} (hk : k < 36) (ho : o = k + 1) (x : Int) : FRow (w.setCell ⟨g, o, none⟩ (.int .i64 x)) g n (fun i => if i = k then x else z i) d := by
  subst ho
  have h' := CRow.set h (k + 1) (.int .i64 x)
  rwa [fvals_setz hk] at h'
theorem FRow.setd {w : World} {g : Nat} {n : Int} {z d : Nat → Int} (h : FRow w g n z d) {k o : Nat} (ho : o = k + 37) (x : Int) : FRow (w.setCell ⟨g, o, none⟩ (.int .i64 x)) g n z (fun i => if i = k then x else d i) := by
  subst ho
  have h' := CRow.set h (k + 37) (.int .i64 x)
  rwa [fvals_setd] at h'
theorem FRow.congr {w : World} {g : Nat} {n : Int} {z d z' d' : Nat → Int} (h : FRow w g n z d) (e : ∀ k, k < 36 → z k = z' k) (e' : ∀ k, k < 6 → d k = d' k) : FRow w g n z' d' := by
  unfold FRow; rw [← fvals_congr e e']; exact h
/-- A piece of L. -/
theorem FRow.sl {w : World} {g : Nat} {n : Int} {z d : Nat → Int} (h : FRow w g n z d) {p m ca o : Nat} (hp : p + m ≤ 36) (hc : m ≤ ca) (hc2 : ca ≤ 9223372036854775807) (ho : o = p + 1) : Sl w (some ⟨g, o, none⟩) m ca (fun j => z (p + j)) :=
  ⟨hc, hc2, fun k hk => ⟨_, rfl, by rw [Addr.add_lit]; exact h.z (by omega) (by omega)⟩⟩

theorem zeroF : (#[.int .i64 0, .int .i64 0, .int .i64 0, .int .i64 0, .int .i64 0, .int .i64 0, .int .i64 0, .int .i64 0, .int .i64 0, .int .i64 0, .int .i64 0, .int .i64 0, .int .i64 0, .int .i64 0, .int .i64 0, .int .i64 0, .int .i64 0, .int .i64 0, .int .i64 0, .int .i64 0, .int .i64 0, .int .i64 0, .int .i64 0, .int .i64 0, .int .i64 0, .int .i64 0, .int .i64 0, .int .i64 0, .int .i64 0, .int .i64 0, .int .i64 0, .int .i64 0, .int .i64 0, .int .i64 0, .int .i64 0, .int .i64 0, .int .i64 0, .int .i64 0, .int .i64 0, .int .i64 0, .int .i64 0, .int .i64 0, .int .i64 0] : Array Value) = (fvals 0 (fun _ => 0) (fun _ => 0)).toArray := by kernel_rfl
theorem builtF0 : Tryd.prog.built 26 [] = some (fvals 0 (fun _ => 0) (fun _ => 0)).toArray := by kernel_rfl
theorem builtF1 (n : Int) : Tryd.prog.built 26 [(0, .int .i64 n)] = some (fvals n (fun _ => 0) (fun _ => 0)).toArray := by kernel_rfl
theorem wpList_buildF0 {ops : Array Oper} {rest : List Oper} {o : Oper} {a : Act} {w : World} {Q : Exit → Act → World → Prop} (hw : Region.wanted o (yielded ops a.tmps) = true) (ho : o.op = .build 26 #[])
    (h : wpList Tryd.prog ops Q rest (a.put o.dst (.agg (fvals 0 (fun _ => 0) (fun _ => 0)).toArray)) w) : wpList Tryd.prog ops Q (o :: rest) a w :=
  wpList_want hw fun _ hK => by
    unfold Oper.wp execOp
    have em : ((#[] : Array (Nat × Operand)).map fun (i, x) => (i, a.eval x)).toList = [] := by simp
    simp only [ho, Sem.run_bind, run_build w 26 _ _ (by rw [em]; exact builtF0), Result.andThen_ok]
    exact hK _ _ h
theorem wpList_buildF1 {ops : Array Oper} {rest : List Oper} {o : Oper} {a : Act} {w : World} {Q : Exit → Act → World → Prop} (hw : Region.wanted o (yielded ops a.tmps) = true) (x : Operand) (ho : o.op = .build 26 #[(0, x)]) (n : Int) (hx : a.eval x = .int .i64 n)
    (h : wpList Tryd.prog ops Q rest (a.put o.dst (.agg (fvals n (fun _ => 0) (fun _ => 0)).toArray)) w) : wpList Tryd.prog ops Q (o :: rest) a w :=
  wpList_want hw fun _ hK => by
    unfold Oper.wp execOp
    have em : ((#[(0, x)] : Array (Nat × Operand)).map fun (i, x) => (i, a.eval x)).toList = [(0, .int .i64 n)] := by simp [hx]
    simp only [ho, Sem.run_bind, run_build w 26 _ _ (by rw [em]; exact builtF1 n), Result.andThen_ok]
    exact hK _ _ h

/-- The steps' bool is all that block s holds. -/
abbrev SRow (w : World) (s : Nat) (o : Bool) : Prop := CRow w s 45 [.bool o]
theorem SRow.o {w : World} {s : Nat} {o : Bool} (h : SRow w s o) : w.cell? ⟨s, 0, none⟩ = some (.bool o) := h.cell (k := 0) rfl rfl
theorem SRow.set {w : World} {s : Nat} {o : Bool} (h : SRow w s o) (v : Bool) : SRow (w.setCell ⟨s, 0, none⟩ (.bool v)) s v := CRow.set h 0 (.bool v)

end Ld
end Go.Proofs.YtfgjigkgfflofaaDoorR
