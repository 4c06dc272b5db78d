/-
  Lists of rows: appended to, handed on, held against each other (rowsOf, sameRows, matOf of the laws of layer 8).
-/
import Derived.Test.YtoglokgkgonmdaaM3
import Derived.Test.YtoglokgkgonmdaaM6
import Derived.Deep.AppendLies
import Derived.Deep.RegionHeld3
import Derived.Test.YtoglokgkgonmdaaM2
set_option linter.unusedSimpArgs false
set_option linter.unusedVariables false
namespace Go.Proofs.Ytoglokgkgonmdaa
open Go.RowKit Vc Mt

namespace Mt
theorem infoSl : (Try.prog.info? 22).map (fun i => (i.zero, i.size, i.bytes)) = some (some (.slice none 0 0), 1, 24) := by kernel_rfl

def svals (n : Nat) (S : Nat → Value) : List Value := (List.range n).map S
theorem svals_len (n : Nat) (S : Nat → Value) : (svals n S).length = n := by simp [svals]
theorem svals_at {n k : Nat} {S : Nat → Value} (h : k < n) : (svals n S)[k]? = some (S k) := by simp [svals, h]
theorem svals_push (n : Nat) (S : Nat → Value) (v : Value) : svals n S ++ [v] = svals (n + 1) (fun k => if k < n then S k else v) := by
  unfold svals
  rw [List.range_succ, List.map_append]
  congr 1
  · exact List.map_congr_left fun k hk => by rw [if_pos (List.mem_range.1 hk)]
  · simp

/-- n rows of m numbers each, F. -/
def Grid (w : World) (lo : Option Addr) (n cm m : Nat) (F : Nat → Nat → Int) : Prop := ∃ A C, Sls w lo n cm A (fun _ => m) C ∧ ∀ k, k < n → Sl w (A k) m (C k) (F k)
theorem Grid.keep {w w' : World} {lo : Option Addr} {n cm m : Nat} {F : Nat → Nat → Int} (h : Grid w lo n cm m F) (b : Below w.heap.size w w') : Grid w' lo n cm m F := by
  obtain ⟨A, C, h1, h2⟩ := h
  exact ⟨A, C, h1.keep b, fun k hk => (h2 k hk).keep b⟩
theorem Grid.congr {w : World} {lo : Option Addr} {n cm m : Nat} {F G : Nat → Nat → Int} (h : Grid w lo n cm m F) (e : ∀ i j, i < n → j < m → F i j = G i j) : Grid w lo n cm m G := by
  obtain ⟨A, C, h1, h2⟩ := h
  exact ⟨A, C, h1, fun k hk => (h2 k hk).congr fun j hj => e k j hk hj⟩

/-- v is a list of the call's own that holds n rows of m numbers each, F; below B nothing has turned since w0. -/
structure Lst (B : Nat) (w0 w : World) (v : Value) (n m : Nat) (F : Nat → Nat → Int) : Prop where
  row : ∃ S, w.ownsRow B 22 1 v n (svals n S) ∧ ∀ j, j < n → ∃ a c, S j = .slice a m c ∧ Sl w a m c (F j) ∧ ∀ x, a = some x → v.ownBlock ≠ some x.block
  below : Below B w0 w
  base : B ≤ w.heap.size

theorem Lst.nil {B : Nat} {w0 w : World} (h : Below B w0 w) (hB : B ≤ w.heap.size) (m : Nat) (F : Nat → Nat → Int) : Lst B w0 w (.slice none 0 0) 0 m F := ⟨⟨fun _ => undef, World.ownsRow_nil _ _ _ _, fun j hj => by omega⟩, h, hB⟩
theorem Lst.keep {B : Nat} {w0 w w' : World} {v : Value} {n m : Nat} {F : Nat → Nat → Int} (h : Lst B w0 w v n m F) (b : Below w.heap.size w w') : Lst B w0 w' v n m F := by
  obtain ⟨S, h1, h2⟩ := h.row
  refine ⟨⟨S, row_keep h1 b, fun j hj => ?_⟩, h.below.trans (b.mono h.base), Nat.le_trans h.base b.size⟩
  obtain ⟨a, c, e1, e2, e3⟩ := h2 j hj
  exact ⟨a, c, e1, e2.keep b, e3⟩
theorem Lst.apart {B : Nat} {w0 w : World} {v : Value} {n m : Nat} {F : Nat → Nat → Int} (h : Lst B w0 w v n m F) {B' : Nat} (hB : w.heap.size ≤ B') {ao : Option Addr} (hf : Fresh B' ao) : ∀ x, ao = some x → v.ownBlock ≠ some x.block := by
  intro x hx e
  obtain ⟨S, h1, _⟩ := h.row
  have h3 := (h1.lt _ e).2
  have h4 := hf x hx
  omega
theorem Lst.grid {B : Nat} {w0 w : World} {v : Value} {n m : Nat} {F : Nat → Nat → Int} (h : Lst B w0 w v n m F) : ∃ lo cm, v = .slice lo n cm ∧ Grid w lo n cm m F := by
  obtain ⟨S, ⟨h1, h2⟩, h3⟩ := h.row
  rcases h2 with ⟨rfl, rfl⟩ | ⟨g, cap, cur, rfl, hb, hg, hn, hc, hs, ht⟩
  · exact ⟨none, 0, rfl, fun _ => none, fun _ => 0, ⟨Nat.le_refl _, by omega, fun j hj => by omega⟩, fun k hk => by omega⟩
  · refine ⟨_, _, rfl, fun k => match S k with | .slice a _ _ => a | _ => none, fun k => match S k with | .slice _ _ c => c | _ => 0, ⟨hn, hc, fun k hk => ⟨_, rfl, ?_⟩⟩, fun k hk => ?_⟩
    · obtain ⟨a, c, e1, e2, e3⟩ := h3 k hk
      have e := svals_at (S := S) hk
      rw [← ht] at e
      have e4 : cur[k]? = some (S k) := by
        rw [List.getElem?_take] at e
        split at e
        · simpa using e
        · cases e
      rw [Addr.add_lit, Nat.zero_add]
      simp only [e1] at e4 ⊢
      simp [World.cell?, hg, e4]
    · obtain ⟨a, c, e1, e2, e3⟩ := h3 k hk
      simp only [e1]
      exact e2

theorem Sl.grown {w w' : World} {ao : Option Addr} {n ca : Nat} {z : Nat → Int} {row : Option Nat} (h : Sl w ao n ca z) (g : w.grownBy w' row) (hne : ∀ x, ao = some x → row ≠ some x.block) : Sl w' ao n ca z :=
  ⟨h.le, h.cap, fun k hk => by
    obtain ⟨x, hx, hc⟩ := h.at' k hk
    refine ⟨x, hx, ?_⟩
    have hlt := World.block_lt_of_cell? w _ hc
    have hb : (x.add k).block = x.block := by unfold Addr.add; split <;> rfl
    have e := g.block (x.add k).block hlt (by rw [hb]; exact fun e => hne x hx e.symm)
    rw [World.cell?_of_block e]
    exact hc⟩

/-- A row is appended. -/
theorem wpList_pushS {ops : Array Oper} {rest : List Oper} {o : Oper} {a : Act} {Q : Exit → Act → World → Prop} {wr : World} (hgd : o.guard = none) (s x : Operand)
    (ho : o.op = .call { callee := .builtin .append, args := #[s, x], argTypes := #[23, 23] }) (B : Nat) (w0 : World) (v : Value) (n m : Nat) (F : Nat → Nat → Int) (hs : a.eval s = v) (hL : Lst B w0 wr v n m F) (hm : 0 < m) (hl : n ≤ 2000000)
    (ra : Option Addr) (rc : Nat) (hr : Sl wr ra m rc (F n)) (hap : ∀ x, ra = some x → v.ownBlock ≠ some x.block)
    (hx : a.eval x = .slice (some ⟨wr.heap.size, 0, none⟩) 1 1)
    (h : ∀ v' w', Lst B w0 w' v' (n + 1) m F → wpList Try.prog ops Q rest (a.put o.dst v') w') : wpList Try.prog ops Q (o :: rest) a (wr.alloc (.cells #[.slice ra m rc] 22)) := by
  obtain ⟨i0, hi, hz0, hz1, hz2⟩ := info_parts infoSl
  obtain ⟨S, h1, h2⟩ := hL.row
  refine wpList_append_lies _ hgd s x 23 ho B 22 i0 (.slice none 0 0) 1 24 Try.underlying23 hi hz0 hz1 hz2 rfl (by decide) v n (svals n S) hs (h1.alloc _) ⟨wr.heap.size, 0, none⟩ 1 1 [.slice ra m rc] hx rfl (cell_one_new _ _ _) (by intro u hu; simp at hu; subst hu; rfl) (by omega) (by unfold maxLen; omega) (by omega) (by have := hL.base; simp; omega) _ rfl ?_
  intro g cap w' o1 o2 o3 o4
  rw [svals_push] at o1
  refine h _ w' ⟨⟨_, o1, fun j hj => ?_⟩, ?_, Nat.le_trans (by have := hL.base; simp; omega) o2.size⟩
  · have hg : ∀ b, b < wr.heap.size → v.ownBlock ≠ some b → g ≠ b := fun b hb e1 e2 => by
      rcases o3 with o3 | o3
      · exact e1 (by rw [o3, e2])
      · simp at o3; omega
    have hblk : ∀ {ao : Option Addr} {ca : Nat} {z : Nat → Int}, Sl wr ao m ca z → (∀ x, ao = some x → v.ownBlock ≠ some x.block) → ∃ co, ∃ cc, Value.slice ao m ca = .slice co m cc ∧ Sl w' co m cc z ∧ ∀ x, co = some x → Value.ownBlock (.slice (some ⟨g, 0, none⟩) (n + 1) cap) ≠ some x.block := by
      intro ao ca z hsl hne
      refine ⟨ao, ca, rfl, Sl.grown (hsl.keep (below_al (Below.refl _ _) _)) o2 hne, fun x hx e => ?_⟩
      have e3 : g = x.block := by simpa [Value.ownBlock] using e
      obtain ⟨y, hy, hc⟩ := hsl.at' 0 hm
      rw [hx] at hy
      cases hy
      have hlt := World.block_lt_of_cell? wr _ hc
      have hb : (x.add 0).block = x.block := by unfold Addr.add; split <;> rfl
      exact hg x.block (by omega) (hne x hx) e3
    by_cases hjn : j < n
    · obtain ⟨ao, ca, e1, e2, e3⟩ := h2 j hjn
      simp only [if_pos hjn, e1]
      exact hblk e2 e3
    · obtain rfl : j = n := by omega
      simp only [if_neg hjn]
      exact hblk hr hap
  · refine (hL.below.alloc hL.base _).grown o2 (by have := hL.base; simp; omega) ?_
    intro k hk
    exact (h1.lt k hk).1
end Mt



set_option maxRecDepth 10000 in
set_option maxHeartbeats 1000000 in
theorem matOf_by (v : Value) (r c : Int) (z : Nat → Int) (w : World) (h : ∀ W, Below w.heap.size w W → Calls Try.prog 19 #[v] W fun e w' => e = .returned (.tuple #[.agg (mvals r c z).toArray, .nilIface]) ∧ Below W.heap.size W w') :
    Calls Try.prog 12 #[v] w fun e w' => e = .returned (.agg (mvals r c z).toArray) ∧ Below w.heap.size w w' := by
  have rA := mrow_new w 0 0 (fun _ => 0)
  have hB := below_al (Below.refl _ w) (.cells (mvals 0 0 (fun _ => 0)).toArray 27)
  obtain ⟨W, hW⟩ : ∃ W, W = w.alloc (.cells (mvals 0 0 (fun _ => 0)).toArray 27) := ⟨_, rfl⟩
  rw [← hW] at rA hB
  have HW := Hid.mkV hW
  have HN := Hid.mkV (h W hB)
  clear hW h
  go_enter Try.func12, Try.ntmps12
  go_wp2_with fail
  rw [zeroM, ← HW.out]
  refine HN.out.mono ?_
  rintro e w1 ⟨rfl, k1⟩
  have r1 := rA.keep k1
  have rR := r1.alloc (.cells (mvals 0 0 (fun _ => 0)).toArray 27)
  have rN := mrow_new w1 0 0 (fun _ => 0)
  have B1 := below_tr hB k1
  have B2 := below_al B1 (.cells (mvals 0 0 (fun _ => 0)).toArray 27)
  have hne : w.heap.size ≠ w1.heap.size := by have := r1.lt; omega
  go_wp2_with (first
    | (rw [zeroM]; refine wpList_storeM rfl _ _ (by rfl) _ _ _ _ _ _ _ (by rfl) (by rfl) (by with_reducible exact rN) ?_)
    | (refine wpList_loadM (by rfl) _ (by rfl) _ _ _ _ (by rfl) (by with_reducible exact rN.row _ _ _) ?_)
    | (refine wpList_storeM rfl _ _ (by rfl) _ _ _ _ _ _ _ (by rfl) (by rfl) (by with_reducible exact rR.rowOther hne _) ?_)
    | fail)
  exact bodyPost_ret (results_M1 Try.results12 _ _ w.heap.size _ _ _ rfl ((rR.rowOther hne _).row _ _ _)) rfl ⟨rfl, below_row (below_row B2 B1.size _) (Nat.le_refl _) _⟩

set_option maxRecDepth 10000 in
set_option maxHeartbeats 1000000 in
theorem matOf_no (v : Value) (w : World) (h : ∀ W, Below w.heap.size w W → Calls Try.prog 19 #[v] W fun e w' => e = .returned (.tuple #[.agg (mvals 0 0 (fun _ => 0)).toArray, .iface 52 (.int .i64 1)]) ∧ Below W.heap.size W w') :
    Calls Try.prog 12 #[v] w fun e w' => e = .returned (.agg (mvals 0 0 (fun _ => 0)).toArray) ∧ Below w.heap.size w w' := by
  have rA := mrow_new w 0 0 (fun _ => 0)
  have hB := below_al (Below.refl _ w) (.cells (mvals 0 0 (fun _ => 0)).toArray 27)
  obtain ⟨W, hW⟩ : ∃ W, W = w.alloc (.cells (mvals 0 0 (fun _ => 0)).toArray 27) := ⟨_, rfl⟩
  rw [← hW] at rA hB
  have HW := Hid.mkV hW
  have HN := Hid.mkV (h W hB)
  clear hW h
  go_enter Try.func12, Try.ntmps12
  go_wp2_with fail
  rw [zeroM, ← HW.out]
  refine HN.out.mono ?_
  rintro e w1 ⟨rfl, k1⟩
  have r1 := rA.keep k1
  have rR := r1.alloc (.cells (mvals 0 0 (fun _ => 0)).toArray 27)
  have rN := mrow_new w1 0 0 (fun _ => 0)
  have B1 := below_tr hB k1
  have B2 := below_al B1 (.cells (mvals 0 0 (fun _ => 0)).toArray 27)
  have hne : w.heap.size ≠ w1.heap.size := by have := r1.lt; omega
  go_wp2_with (first
    | (rw [zeroM]; refine wpList_storeM rfl _ _ (by rfl) _ _ _ _ _ _ _ (by rfl) (by rfl) (by with_reducible exact rN) ?_)
    | (refine wpList_build0 rfl (by rfl) ?_)
    | (refine wpList_storeM rfl _ _ (by rfl) _ _ _ _ _ _ _ (by rfl) (by rfl) (by with_reducible exact rR.rowOther hne _) ?_)
    | fail)
  exact bodyPost_ret (results_M1 Try.results12 _ _ w.heap.size _ _ _ rfl ((rR.rowOther hne _).row _ _ _)) rfl ⟨rfl, below_row (below_row B2 B1.size _) (Nat.le_refl _) _⟩

end Go.Proofs.Ytoglokgkgonmdaa

/-
  Lists of rows of the call's own, each row apart from all others: appended to, stored into, rows put in place of others.
-/
set_option linter.unusedSimpArgs false
set_option linter.unusedVariables false
namespace Go.Proofs.Ytoglokgkgonmdaa
open Go.RowKit Vc Mt

namespace Mt
/-- v is a list of the call's own that holds n rows of m numbers each, F, each row a block of its own; below B nothing has turned since w0. -/
structure Rws (B : Nat) (w0 w : World) (v : Value) (n m : Nat) (F : Nat → Nat → Int) : Prop where
  row : ∃ (S : Nat → Value) (G : Nat → Nat), w.ownsRow B 22 1 v n (svals n S) ∧ (∀ j, j < n → S j = .slice (some ⟨G j, 0, none⟩) m m ∧ w.heap[G j]? = some (.cells (vals m (F j)).toArray 2 (0, 0)) ∧ v.ownBlock ≠ some (G j) ∧ B ≤ G j) ∧ ∀ i j, i < n → j < n → i ≠ j → G i ≠ G j
  below : Below B w0 w
  base : B ≤ w.heap.size

theorem heap_lt {w : World} {g : Nat} {o : Obj} (h : w.heap[g]? = some o) : g < w.heap.size := by
  rcases Nat.lt_or_ge g w.heap.size with k | k
  · exact k
  · rw [Array.getElem?_eq_none k] at h; cases h
theorem Rws.nil {B : Nat} {w0 w : World} (h : Below B w0 w) (hB : B ≤ w.heap.size) (m : Nat) (F : Nat → Nat → Int) : Rws B w0 w (.slice none 0 0) 0 m F := ⟨⟨fun _ => undef, fun _ => 0, World.ownsRow_nil _ _ _ _, fun j hj => by omega, fun i j hi => by omega⟩, h, hB⟩
theorem Rws.keep {B : Nat} {w0 w w' : World} {v : Value} {n m : Nat} {F : Nat → Nat → Int} (h : Rws B w0 w v n m F) (b : Below w.heap.size w w') : Rws B w0 w' v n m F := by
  obtain ⟨S, G, h1, h2, h3⟩ := h.row
  refine ⟨⟨S, G, row_keep h1 b, fun j hj => ?_, h3⟩, h.below.trans (b.mono h.base), Nat.le_trans h.base b.size⟩
  obtain ⟨e1, e2, e3, e4⟩ := h2 j hj
  exact ⟨e1, (b.block _ (heap_lt e2)).trans e2, e3, e4⟩

/-- A row that was just made is appended. -/
theorem wpList_pushR {ops : Array Oper} {rest : List Oper} {o : Oper} {a : Act} {Q : Exit → Act → World → Prop} {wp wr : World} (hgd : o.guard = none) (s x : Operand)
    (ho : o.op = .call { callee := .builtin .append, args := #[s, x], argTypes := #[23, 23] }) (B : Nat) (w0 : World) (v : Value) (n m : Nat) (F : Nat → Nat → Int) (hs : a.eval s = v) (hL0 : Rws B w0 wp v n m F) (hk : Below wp.heap.size wp wr) (hl : n ≤ 2000000)
    (g0 : Nat) (hr : wr.heap[g0]? = some (.cells (vals m (F n)).toArray 2 (0, 0))) (hsz : wp.heap.size ≤ g0)
    (hx : a.eval x = .slice (some ⟨wr.heap.size, 0, none⟩) 1 1)
    (h : ∀ v' w', Rws B w0 w' v' (n + 1) m F → wpList Try.prog ops Q rest (a.put o.dst v') w') : wpList Try.prog ops Q (o :: rest) a (wr.alloc (.cells #[.slice (some ⟨g0, 0, none⟩) m m] 22)) := by
  obtain ⟨i0, hi, hz0, hz1, hz2⟩ := info_parts infoSl
  have hL := hL0.keep hk
  obtain ⟨S, G, h1', h2', h3⟩ := hL0.row
  have h1 := row_keep h1' hk
  have hG0 : ∀ j, j < n → G j ≠ g0 := fun j hj e => by have := heap_lt (h2' j hj).2.1; omega
  have hap : v.ownBlock ≠ some g0 := fun e => by have := (h1'.lt _ e).2; omega
  have hB0 : B ≤ g0 := Nat.le_trans hL0.base hsz
  have h2 : ∀ j, j < n → S j = .slice (some ⟨G j, 0, none⟩) m m ∧ wr.heap[G j]? = some (.cells (vals m (F j)).toArray 2 (0, 0)) ∧ v.ownBlock ≠ some (G j) ∧ B ≤ G j := fun j hj => by
    obtain ⟨e1, e2, e3, e4⟩ := h2' j hj
    exact ⟨e1, (hk.block _ (heap_lt e2)).trans e2, e3, e4⟩
  refine wpList_append_lies _ hgd s x 23 ho B 22 i0 (.slice none 0 0) 1 24 Try.underlying23 hi hz0 hz1 hz2 rfl (by decide) v n (svals n S) hs (h1.alloc _) ⟨wr.heap.size, 0, none⟩ 1 1 [.slice (some ⟨g0, 0, none⟩) m m] hx rfl (cell_one_new _ _ _) (by intro u hu; simp at hu; subst hu; rfl) (by omega) (by unfold maxLen; omega) (by omega) (by have := hL.base; simp; omega) _ rfl ?_
  intro g cap w' o1 o2 o3 o4
  rw [svals_push] at o1
  have hblk : ∀ {q : Nat} {f : Nat → Int}, wr.heap[q]? = some (.cells (vals m f).toArray 2 (0, 0)) → v.ownBlock ≠ some q → w'.heap[q]? = some (.cells (vals m f).toArray 2 (0, 0)) ∧ Value.ownBlock (.slice (some ⟨g, 0, none⟩) (n + 1) cap) ≠ some q := by
    intro q f hq hv
    have hlt := heap_lt hq
    refine ⟨?_, fun e => ?_⟩
    · rw [o2.block q (by simp; omega) (fun e => hv e.symm)]
      exact (Below.heap_alloc _ _ _ hlt).trans hq
    · have e3 : g = q := by simpa [Value.ownBlock] using e
      rcases o3 with o3 | o3
      · exact hv (by rw [o3, e3])
      · simp at o3; omega
  refine h _ w' ⟨⟨_, fun k => if k < n then G k else g0, o1, fun j hj => ?_, fun i j hi hj hij => ?_⟩, ?_, Nat.le_trans (by have := hL.base; simp; omega) o2.size⟩
  · by_cases hjn : j < n
    · obtain ⟨e1, e2, e3, e4⟩ := h2 j hjn
      simp only [if_pos hjn]
      exact ⟨e1, (hblk e2 e3).1, (hblk e2 e3).2, e4⟩
    · obtain rfl : j = n := by omega
      simp only [if_neg hjn]
      exact ⟨trivial, (hblk hr hap).1, (hblk hr hap).2, hB0⟩
  · by_cases hin : i < n
    · by_cases hjn : j < n
      · simp only [if_pos hin, if_pos hjn]; exact h3 i j hin hjn hij
      · simp only [if_pos hin, if_neg hjn]; exact hG0 i hin
    · have hjn : j < n := by omega
      simp only [if_neg hin, if_pos hjn]
      exact fun e => hG0 j hjn e.symm
  · refine (hL.below.alloc hL.base _).grown o2 (by have := hL.base; simp; omega) ?_
    intro k hk
    exact (h1.lt k hk).1

/-- The list and its rows, by their blocks. -/
structure RwsAt (B : Nat) (w0 w : World) (L cm : Nat) (G : Nat → Nat) (n m : Nat) (F : Nat → Nat → Int) : Prop where
  list : ∃ cur : Array Value, w.heap[L]? = some (.cells cur 22 (0, 0)) ∧ ∀ k, k < n → cur[k]? = some (.slice (some ⟨G k, 0, none⟩) m m)
  row : ∀ k, k < n → w.heap[G k]? = some (.cells (vals m (F k)).toArray 2 (0, 0))
  far : ∀ i j, i < n → j < n → i ≠ j → G i ≠ G j
  off : ∀ k, k < n → G k ≠ L
  own : ∀ k, k < n → B ≤ G k
  ownL : B ≤ L
  below : Below B w0 w
  base : B ≤ w.heap.size
  cap : n ≤ cm
  cap2 : cm ≤ 9223372036854775807

theorem Rws.open {B : Nat} {w0 w : World} {v : Value} {n m : Nat} {F : Nat → Nat → Int} (h : Rws B w0 w v n m F) (h0 : 0 < n) : ∃ L cm G, v = .slice (some ⟨L, 0, none⟩) n cm ∧ RwsAt B w0 w L cm G n m F := by
  obtain ⟨S, G, ⟨h1, h2⟩, h3, h4⟩ := h.row
  rcases h2 with ⟨rfl, rfl⟩ | ⟨g, cap, cur, rfl, hb, hg, hn, hc, hs, ht⟩
  · omega
  · refine ⟨g, cap, G, rfl, ⟨⟨cur, hg, fun k hk => ?_⟩, fun k hk => (h3 k hk).2.1, h4, fun k hk e => ?_, fun k hk => (h3 k hk).2.2.2, hb, h.below, h.base, hn, hc⟩⟩
    · have e := svals_at (S := S) hk
      rw [← ht] at e
      have e4 : cur[k]? = some (S k) := by
        rw [List.getElem?_take] at e
        split at e
        · simpa using e
        · cases e
      rw [e4, (h3 k hk).1]
    · exact (h3 k hk).2.2.1 (by simp [Value.ownBlock, e])

variable {B : Nat} {w0 w w' : World} {L cm n m : Nat} {G : Nat → Nat} {F : Nat → Nat → Int}
theorem RwsAt.cellL (h : RwsAt B w0 w L cm G n m F) {k : Nat} (hk : k < n) : w.cell? ⟨L, k, none⟩ = some (.slice (some ⟨G k, 0, none⟩) m m) := by
  obtain ⟨cur, h1, h2⟩ := h.list
  simp [World.cell?, h1, h2 k hk]
theorem RwsAt.freeL (h : RwsAt B w0 w L cm G n m F) (j : Nat) : w.frozen? ⟨L, j, none⟩ = false := by
  obtain ⟨cur, h1, h2⟩ := h.list
  exact frozen_of_row w L j _ _ h1
theorem RwsAt.cell (h : RwsAt B w0 w L cm G n m F) {i j : Nat} (hi : i < n) (hj : j < m) : w.cell? ⟨G i, j, none⟩ = some (.int .i64 (F i j)) := by
  simp [World.cell?, h.row i hi, vals_at hj]
theorem RwsAt.free (h : RwsAt B w0 w L cm G n m F) {i : Nat} (hi : i < n) (j : Nat) : w.frozen? ⟨G i, j, none⟩ = false := frozen_of_row w (G i) j _ _ (h.row i hi)
theorem RwsAt.keep (h : RwsAt B w0 w L cm G n m F) (b : Below w.heap.size w w') : RwsAt B w0 w' L cm G n m F := by
  obtain ⟨cur, h1, h2⟩ := h.list
  exact ⟨⟨cur, (b.block _ (heap_lt h1)).trans h1, h2⟩, fun k hk => (b.block _ (heap_lt (h.row k hk))).trans (h.row k hk), h.far, h.off, h.own, h.ownL, h.below.trans (b.mono h.base), Nat.le_trans h.base b.size, h.cap, h.cap2⟩
theorem RwsAt.drewN (h : RwsAt B w0 w L cm G n m F) (q : Nat) : RwsAt B w0 (w.drewN q) L cm G n m F := h.keep (Vc.below_drewN (Below.refl _ _) q)
theorem RwsAt.congr {F' : Nat → Nat → Int} (h : RwsAt B w0 w L cm G n m F) (e : ∀ i j, i < n → j < m → F i j = F' i j) : RwsAt B w0 w L cm G n m F' :=
  ⟨h.list, fun k hk => by rw [h.row k hk, vals_congr (fun j hj => e k j hk hj)], h.far, h.off, h.own, h.ownL, h.below, h.base, h.cap, h.cap2⟩
/-- F, but x at i, j. -/
def put2 (F : Nat → Nat → Int) (i j : Nat) (x : Int) : Nat → Nat → Int := fun a b => if a = i ∧ b = j then x else F a b
theorem RwsAt.set (h : RwsAt B w0 w L cm G n m F) {i : Nat} (hi : i < n) (j : Nat) (x : Int) : RwsAt B w0 (w.setCell ⟨G i, j, none⟩ (.int .i64 x)) L cm G n m (put2 F i j x) := by
  obtain ⟨cur, h1, h2⟩ := h.list
  refine ⟨⟨cur, (heap_setCell_other w _ L _ (fun e => h.off i hi e.symm)).trans h1, h2⟩, fun k hk => ?_, h.far, h.off, h.own, h.ownL, h.below.setCell (h.own i hi) _, by simp [h.base], h.cap, h.cap2⟩
  by_cases e : k = i
  · subst e
    rw [heap_setCell_same w (G k) j _ _ _ (h.row k hk)]
    have e2 : (vals m (F k)).toArray.setIfInBounds j (.int .i64 x) = (vals m (put2 F k j x k)).toArray := by
      rw [List.setIfInBounds_toArray, vals_set]
      congr 1
      refine vals_congr fun q _ => ?_
      unfold put2
      by_cases e : q = j
      · rw [if_pos e, if_pos ⟨rfl, e⟩]
      · rw [if_neg e, if_neg (fun h => e h.2)]
    rw [e2]
  · have e2 : vals m (F k) = vals m (put2 F i j x k) := vals_congr fun q _ => by unfold put2; rw [if_neg (fun h => e h.1)]
    rw [heap_setCell_other w _ (G k) _ (h.far k i hk hi e), h.row k hk, e2]
/-- A row in another's place. -/
theorem RwsAt.put (h : RwsAt B w0 w L cm G n m F) {i : Nat} (hi : i < n) {g : Nat} {f : Nat → Int} (hg : w.heap[g]? = some (.cells (vals m f).toArray 2 (0, 0))) (hB : B ≤ g) (hL : g ≠ L) (hG : ∀ k, k < n → G k ≠ g) :
    RwsAt B w0 (w.setCell ⟨L, i, none⟩ (.slice (some ⟨g, 0, none⟩) m m)) L cm (fun k => if k = i then g else G k) n m (fun a => if a = i then f else F a) := by
  obtain ⟨cur, h1, h2⟩ := h.list
  refine ⟨⟨cur.setIfInBounds i (.slice (some ⟨g, 0, none⟩) m m), heap_setCell_same w L i _ _ _ h1, fun k hk => ?_⟩, fun k hk => ?_, fun a b ha hb hab => ?_, fun k hk => ?_, fun k hk => ?_, h.ownL, h.below.setCell h.ownL _, by simp [h.base], h.cap, h.cap2⟩
  · rw [Array.getElem?_setIfInBounds]
    have hlt : i < cur.size := by
      rcases Nat.lt_or_ge i cur.size with q | q
      · exact q
      · have := h2 i hi; rw [Array.getElem?_eq_none q] at this; cases this
    by_cases e : k = i
    · rw [if_pos e.symm, if_pos hlt, if_pos e]
    · rw [if_neg (fun h => e h.symm), if_neg e]; exact h2 k hk
  · by_cases e : k = i
    · simp only [if_pos e]
      rw [heap_setCell_other w _ g _ hL]; exact hg
    · simp only [if_neg e]
      rw [heap_setCell_other w _ (G k) _ (h.off k hk)]; exact h.row k hk
  · by_cases e1 : a = i
    · have e2 : b ≠ i := fun e => hab (e1.trans e.symm)
      simp only [if_pos e1, if_neg e2]
      exact fun e => hG b hb e.symm
    · by_cases e2 : b = i
      · simp only [if_neg e1, if_pos e2]; exact hG a ha
      · simp only [if_neg e1, if_neg e2]; exact h.far a b ha hb hab
  · by_cases e : k = i
    · simp only [if_pos e]; exact hL
    · simp only [if_neg e]; exact h.off k hk
  · by_cases e : k = i
    · simp only [if_pos e]; exact hB
    · simp only [if_neg e]; exact h.own k hk
theorem RwsAt.grid (h : RwsAt B w0 w L cm G n m F) (hm : m ≤ 9223372036854775807) : Grid w (some ⟨L, 0, none⟩) n cm m F := by
  refine ⟨fun k => some ⟨G k, 0, none⟩, fun _ => m, ⟨h.cap, h.cap2, fun j hj => ⟨_, rfl, ?_⟩⟩, fun k hk => ⟨Nat.le_refl _, hm, fun j hj => ⟨_, rfl, ?_⟩⟩⟩
  · rw [Addr.add_lit, Nat.zero_add]; exact h.cellL hj
  · rw [Addr.add_lit, Nat.zero_add]; exact h.cell hk hj
end Mt
end Go.Proofs.Ytoglokgkgonmdaa

/-
  Lists of rows of the call's own that were appended to, number by number: each row apart from all others, with whatever room behind it; stored into.
-/
set_option linter.unusedSimpArgs false
set_option linter.unusedVariables false
namespace Go.Proofs.Ytoglokgkgonmdaa
open Go.RowKit Vc Mt

namespace Mt
/-- A block whose first m cells are the numbers f. -/
def Fst (w : World) (g m : Nat) (f : Nat → Int) : Prop := ∃ cur : Array Value, w.heap[g]? = some (.cells cur 2 (0, 0)) ∧ ∀ q, q < m → cur[q]? = some (.int .i64 (f q))
theorem Fst.lt {w : World} {g m : Nat} {f : Nat → Int} (h : Fst w g m f) : g < w.heap.size := by obtain ⟨c, h1, _⟩ := h; exact heap_lt h1
theorem Fst.of {w w' : World} {g m : Nat} {f : Nat → Int} (h : Fst w g m f) (e : w'.heap[g]? = w.heap[g]?) : Fst w' g m f := by obtain ⟨c, h1, h2⟩ := h; exact ⟨c, e.trans h1, h2⟩
theorem Fst.congr {w : World} {g m : Nat} {f f' : Nat → Int} (h : Fst w g m f) (e : ∀ q, q < m → f q = f' q) : Fst w g m f' := by
  obtain ⟨c, h1, h2⟩ := h
  exact ⟨c, h1, fun q hq => by rw [h2 q hq, e q hq]⟩
theorem Fst.set {w : World} {g m : Nat} {f : Nat → Int} (h : Fst w g m f) {j : Nat} (hj : j < m) (x : Int) : Fst (w.setCell ⟨g, j, none⟩ (.int .i64 x)) g m (fun q => if q = j then x else f q) := by
  obtain ⟨c, h1, h2⟩ := h
  refine ⟨_, heap_setCell_same w g j _ _ _ h1, fun q hq => ?_⟩
  have hlt : j < c.size := by
    rcases Nat.lt_or_ge j c.size with k | k
    · exact k
    · have := h2 j hj; rw [Array.getElem?_eq_none k] at this; cases this
  show _ = some (Value.int .i64 (if q = j then x else f q))
  rw [Array.getElem?_setIfInBounds]
  by_cases e : q = j
  · rw [if_pos e.symm, if_pos hlt, if_pos e]
  · rw [if_neg (fun h => e h.symm), if_neg e]; exact h2 q hq
theorem Fst.cell {w : World} {g m : Nat} {f : Nat → Int} (h : Fst w g m f) {j : Nat} (hj : j < m) : w.cell? ⟨g, j, none⟩ = some (.int .i64 (f j)) := by
  obtain ⟨c, h1, h2⟩ := h
  simp [World.cell?, h1, h2 j hj]
theorem Fst.free {w : World} {g m : Nat} {f : Nat → Int} (h : Fst w g m f) (j : Nat) : w.frozen? ⟨g, j, none⟩ = false := by
  obtain ⟨c, h1, h2⟩ := h
  exact frozen_of_row w g j _ _ h1
theorem own_open {B : Nat} {w0 w : World} {v : Value} {m : Nat} {z : Nat → Int} (h : Own B w0 w v m z) (hm : 0 < m) : ∃ g cap, v = .slice (some ⟨g, 0, none⟩) m cap ∧ B ≤ g ∧ m ≤ cap ∧ cap ≤ 9223372036854775807 ∧ Fst w g m z := by
  obtain ⟨h1, h2⟩ := h.row
  rcases h2 with ⟨rfl, rfl⟩ | ⟨g, cap, cur, rfl, hb, hg, hn, hc, hs, ht⟩
  · omega
  · refine ⟨g, cap, rfl, hb, hn, hc, cur, hg, fun q hq => ?_⟩
    have e := vals_at (z := z) hq
    rw [← ht] at e
    rw [List.getElem?_take] at e
    split at e
    · simpa using e
    · cases e

/-- v is a list of the call's own that holds n rows of m numbers each, F, each row a block of its own, with whatever room. -/
structure Rwc (B : Nat) (w0 w : World) (v : Value) (n m : Nat) (F : Nat → Nat → Int) : Prop where
  row : ∃ (S : Nat → Value) (G C : Nat → Nat), w.ownsRow B 22 1 v n (svals n S) ∧ (∀ j, j < n → S j = .slice (some ⟨G j, 0, none⟩) m (C j) ∧ Fst w (G j) m (F j) ∧ (m ≤ C j ∧ C j ≤ 9223372036854775807) ∧ v.ownBlock ≠ some (G j) ∧ B ≤ G j) ∧ ∀ i j, i < n → j < n → i ≠ j → G i ≠ G j
  below : Below B w0 w
  base : B ≤ w.heap.size
theorem Rwc.nil {B : Nat} {w0 w : World} (h : Below B w0 w) (hB : B ≤ w.heap.size) (m : Nat) (F : Nat → Nat → Int) : Rwc B w0 w (.slice none 0 0) 0 m F := ⟨⟨fun _ => undef, fun _ => 0, fun _ => 0, World.ownsRow_nil _ _ _ _, fun j hj => by omega, fun i j hi => by omega⟩, h, hB⟩
theorem Rwc.keep {B : Nat} {w0 w w' : World} {v : Value} {n m : Nat} {F : Nat → Nat → Int} (h : Rwc B w0 w v n m F) (b : Below w.heap.size w w') : Rwc B w0 w' v n m F := by
  obtain ⟨S, G, C, h1, h2, h3⟩ := h.row
  refine ⟨⟨S, G, C, row_keep h1 b, fun j hj => ?_, h3⟩, h.below.trans (b.mono h.base), Nat.le_trans h.base b.size⟩
  obtain ⟨e1, e2, e3, e4⟩ := h2 j hj
  exact ⟨e1, e2.of (b.block _ e2.lt), e3, e4⟩

/-- A row of the call's own is appended. -/
theorem wpList_pushC {ops : Array Oper} {rest : List Oper} {o : Oper} {a : Act} {Q : Exit → Act → World → Prop} {wp wr : World} (hgd : o.guard = none) (s x : Operand)
    (ho : o.op = .call { callee := .builtin .append, args := #[s, x], argTypes := #[23, 23] }) (B : Nat) (w0 : World) (v : Value) (n m : Nat) (F : Nat → Nat → Int) (hs : a.eval s = v) (hL0 : Rwc B w0 wp v n m F) (hk : Below wp.heap.size wp wr) (hl : n ≤ 2000000)
    (g0 c0 : Nat) (hr : Fst wr g0 m (F n)) (hc0 : m ≤ c0 ∧ c0 ≤ 9223372036854775807) (hsz : wp.heap.size ≤ g0)
    (hx : a.eval x = .slice (some ⟨wr.heap.size, 0, none⟩) 1 1)
    (h : ∀ v' w', Rwc B w0 w' v' (n + 1) m F → wpList Try.prog ops Q rest (a.put o.dst v') w') : wpList Try.prog ops Q (o :: rest) a (wr.alloc (.cells #[.slice (some ⟨g0, 0, none⟩) m c0] 22)) := by
  obtain ⟨i0, hi, hz0, hz1, hz2⟩ := info_parts infoSl
  have hL := hL0.keep hk
  obtain ⟨S, G, C, h1', h2', h3⟩ := hL0.row
  have h1 := row_keep h1' hk
  have hG0 : ∀ j, j < n → G j ≠ g0 := fun j hj e => by have := (h2' j hj).2.1.lt; omega
  have hap : v.ownBlock ≠ some g0 := fun e => by have := (h1'.lt _ e).2; omega
  have hB0 : B ≤ g0 := Nat.le_trans hL0.base hsz
  refine wpList_append_lies _ hgd s x 23 ho B 22 i0 (.slice none 0 0) 1 24 Try.underlying23 hi hz0 hz1 hz2 rfl (by decide) v n (svals n S) hs (h1.alloc _) ⟨wr.heap.size, 0, none⟩ 1 1 [.slice (some ⟨g0, 0, none⟩) m c0] hx rfl (cell_one_new _ _ _) (by intro u hu; simp at hu; subst hu; rfl) (by omega) (by unfold maxLen; omega) (by omega) (by have := hL.base; simp; omega) _ rfl ?_
  intro g cap w' o1 o2 o3 o4
  rw [svals_push] at o1
  have hblk : ∀ {q : Nat} {f : Nat → Int}, Fst wr q m f → v.ownBlock ≠ some q → Fst w' q m f ∧ Value.ownBlock (.slice (some ⟨g, 0, none⟩) (n + 1) cap) ≠ some q := by
    intro q f hq hv
    have hlt := hq.lt
    refine ⟨hq.of ?_, fun e => ?_⟩
    · rw [o2.block q (by simp; omega) (fun e => hv e.symm)]
      exact Below.heap_alloc _ _ _ hlt
    · have e3 : g = q := by simpa [Value.ownBlock] using e
      rcases o3 with o3 | o3
      · exact hv (by rw [o3, e3])
      · simp at o3; omega
  refine h _ w' ⟨⟨_, fun k => if k < n then G k else g0, fun k => if k < n then C k else c0, o1, fun j hj => ?_, fun i j hi hj hij => ?_⟩, ?_, Nat.le_trans (by have := hL.base; simp; omega) o2.size⟩
  · by_cases hjn : j < n
    · obtain ⟨e1, e2, e3, e4, e5⟩ := h2' j hjn
      have e2' := e2.of (hk.block _ e2.lt)
      simp only [if_pos hjn]
      exact ⟨e1, (hblk e2' e4).1, e3, (hblk e2' e4).2, e5⟩
    · obtain rfl : j = n := by omega
      simp only [if_neg hjn]
      exact ⟨trivial, (hblk hr hap).1, hc0, (hblk hr hap).2, hB0⟩
  · by_cases hin : i < n
    · by_cases hjn : j < n
      · simp only [if_pos hin, if_pos hjn]; exact h3 i j hin hjn hij
      · simp only [if_pos hin, if_neg hjn]; exact hG0 i hin
    · have hjn : j < n := by omega
      simp only [if_neg hin, if_pos hjn]
      exact fun e => hG0 j hjn e.symm
  · refine (hL.below.alloc hL.base _).grown o2 (by have := hL.base; simp; omega) ?_
    intro k hk
    exact (h1.lt k hk).1

/-- The list and its rows, by their blocks. -/
structure RwcAt (B : Nat) (w0 w : World) (L cm : Nat) (G C : Nat → Nat) (n m : Nat) (F : Nat → Nat → Int) : Prop where
  list : ∃ cur : Array Value, w.heap[L]? = some (.cells cur 22 (0, 0)) ∧ ∀ k, k < n → cur[k]? = some (.slice (some ⟨G k, 0, none⟩) m (C k))
  row : ∀ k, k < n → Fst w (G k) m (F k)
  room : ∀ k, k < n → m ≤ C k ∧ C k ≤ 9223372036854775807
  far : ∀ i j, i < n → j < n → i ≠ j → G i ≠ G j
  off : ∀ k, k < n → G k ≠ L
  own : ∀ k, k < n → B ≤ G k
  ownL : B ≤ L
  below : Below B w0 w
  base : B ≤ w.heap.size
  cap : n ≤ cm
  cap2 : cm ≤ 9223372036854775807
theorem Rwc.open {B : Nat} {w0 w : World} {v : Value} {n m : Nat} {F : Nat → Nat → Int} (h : Rwc B w0 w v n m F) (h0 : 0 < n) : ∃ L cm G C, v = .slice (some ⟨L, 0, none⟩) n cm ∧ RwcAt B w0 w L cm G C n m F := by
  obtain ⟨S, G, C, ⟨h1, h2⟩, h3, h4⟩ := h.row
  rcases h2 with ⟨rfl, rfl⟩ | ⟨g, cap, cur, rfl, hb, hg, hn, hc, hs, ht⟩
  · omega
  · refine ⟨g, cap, G, C, rfl, ⟨⟨cur, hg, fun k hk => ?_⟩, fun k hk => (h3 k hk).2.1, fun k hk => (h3 k hk).2.2.1, h4, fun k hk e => ?_, fun k hk => (h3 k hk).2.2.2.2, hb, h.below, h.base, hn, hc⟩⟩
    · have e := svals_at (S := S) hk
      rw [← ht] at e
      have e4 : cur[k]? = some (S k) := by
        rw [List.getElem?_take] at e
        split at e
        · simpa using e
        · cases e
      rw [e4, (h3 k hk).1]
    · exact (h3 k hk).2.2.2.1 (by simp [Value.ownBlock, e])
section
variable {B : Nat} {w0 w w' : World} {L cm n m : Nat} {G C : Nat → Nat} {F : Nat → Nat → Int}
theorem RwcAt.cellL (h : RwcAt B w0 w L cm G C n m F) {k : Nat} (hk : k < n) : w.cell? ⟨L, k, none⟩ = some (.slice (some ⟨G k, 0, none⟩) m (C k)) := by
  obtain ⟨cur, h1, h2⟩ := h.list
  simp [World.cell?, h1, h2 k hk]
theorem RwcAt.cell (h : RwcAt B w0 w L cm G C n m F) {i j : Nat} (hi : i < n) (hj : j < m) : w.cell? ⟨G i, j, none⟩ = some (.int .i64 (F i j)) := (h.row i hi).cell hj
theorem RwcAt.free (h : RwcAt B w0 w L cm G C n m F) {i : Nat} (hi : i < n) (j : Nat) : w.frozen? ⟨G i, j, none⟩ = false := (h.row i hi).free j
theorem RwcAt.keep (h : RwcAt B w0 w L cm G C n m F) (b : Below w.heap.size w w') : RwcAt B w0 w' L cm G C n m F := by
  obtain ⟨cur, h1, h2⟩ := h.list
  exact ⟨⟨cur, (b.block _ (heap_lt h1)).trans h1, h2⟩, fun k hk => (h.row k hk).of (b.block _ (h.row k hk).lt), h.room, h.far, h.off, h.own, h.ownL, h.below.trans (b.mono h.base), Nat.le_trans h.base b.size, h.cap, h.cap2⟩
theorem RwcAt.congr {F' : Nat → Nat → Int} (h : RwcAt B w0 w L cm G C n m F) (e : ∀ i j, i < n → j < m → F i j = F' i j) : RwcAt B w0 w L cm G C n m F' :=
  ⟨h.list, fun k hk => (h.row k hk).congr (fun j hj => e k j hk hj), h.room, h.far, h.off, h.own, h.ownL, h.below, h.base, h.cap, h.cap2⟩
theorem RwcAt.set (h : RwcAt B w0 w L cm G C n m F) {i j : Nat} (hi : i < n) (hj : j < m) (x : Int) : RwcAt B w0 (w.setCell ⟨G i, j, none⟩ (.int .i64 x)) L cm G C n m (put2 F i j x) := by
  obtain ⟨cur, h1, h2⟩ := h.list
  refine ⟨⟨cur, (heap_setCell_other w _ L _ (fun e => h.off i hi e.symm)).trans h1, h2⟩, fun k hk => ?_, h.room, h.far, h.off, h.own, h.ownL, h.below.setCell (h.own i hi) _, by simp [h.base], h.cap, h.cap2⟩
  by_cases e : k = i
  · subst e
    refine ((h.row k hk).set hj x).congr fun q _ => ?_
    unfold put2
    by_cases e : q = j
    · rw [if_pos e, if_pos ⟨rfl, e⟩]
    · rw [if_neg e, if_neg (fun h => e h.2)]
  · refine ((h.row k hk).of (heap_setCell_other w _ (G k) _ (h.far k i hk hi e))).congr fun q _ => ?_
    unfold put2
    rw [if_neg (fun h => e h.1)]
theorem RwcAt.grid (h : RwcAt B w0 w L cm G C n m F) : Grid w (some ⟨L, 0, none⟩) n cm m F := by
  refine ⟨fun k => some ⟨G k, 0, none⟩, C, ⟨h.cap, h.cap2, fun j hj => ⟨_, rfl, ?_⟩⟩, fun k hk => ⟨(h.room k hk).1, (h.room k hk).2, fun j hj => ⟨_, rfl, ?_⟩⟩⟩
  · rw [Addr.add_lit, Nat.zero_add]; exact h.cellL hj
  · rw [Addr.add_lit, Nat.zero_add]; exact h.cell hk hj
theorem Sl.rowOther {ao : Option Addr} {ca q : Nat} {z : Nat → Int} (h : Sl w ao q ca z) {g : Nat} (cs : Array Value) (hne : ∀ x, ao = some x → x.block ≠ g) : Sl (w.setRow g cs) ao q ca z :=
  ⟨h.le, h.cap, fun k hk => by
    obtain ⟨x, hx, hc⟩ := h.at' k hk
    refine ⟨x, hx, ?_⟩
    have hb : (x.add k).block = x.block := by unfold Addr.add; split <;> rfl
    have e : (w.setRow g cs).heap[(x.add k).block]? = w.heap[(x.add k).block]? := setRow_other w g _ cs (by rw [hb]; exact hne x hx)
    rw [World.cell?_of_block e]
    exact hc⟩
/-- Behind a store of a whole row elsewhere. -/
theorem RwcAt.gridOther (h : RwcAt B w0 w L cm G C n m F) {g : Nat} (cs : Array Value) (hL : L ≠ g) (hG : ∀ k, k < n → G k ≠ g) : Grid (w.setRow g cs) (some ⟨L, 0, none⟩) n cm m F := by
  obtain ⟨cur, h1, h2⟩ := h.list
  have hl : (w.setRow g cs).heap[L]? = some (.cells cur 22 (0, 0)) := (setRow_other w g L cs hL).trans h1
  refine ⟨fun k => some ⟨G k, 0, none⟩, C, ⟨h.cap, h.cap2, fun j hj => ⟨_, rfl, ?_⟩⟩, fun k hk => ⟨(h.room k hk).1, (h.room k hk).2, fun j hj => ⟨_, rfl, ?_⟩⟩⟩
  · rw [Addr.add_lit, Nat.zero_add]; simp [World.cell?, hl, h2 j hj]
  · rw [Addr.add_lit, Nat.zero_add]; exact ((h.row k hk).of (setRow_other w g _ cs (hG k hk))).cell hj
end
end Mt
end Go.Proofs.Ytoglokgkgonmdaa

/-
  Lists of the call's own, of whatever elements, so many cells each: appended to, read; what is known of an element stays known, whatever becomes of the list's own block.
-/
set_option linter.unusedSimpArgs false
set_option linter.unusedVariables false
namespace Go.Proofs.Ytoglokgkgonmdaa
open Go.RowKit Vc
namespace El

/-- The cells of n elements, one after another. -/
def ecells (S : Nat → List Value) : Nat → List Value
  | 0 => []
  | k + 1 => ecells S k ++ S k
theorem ecells_len {S : Nat → List Value} {s : Nat} : ∀ {n : Nat}, (∀ k, k < n → (S k).length = s) → (ecells S n).length = n * s
  | 0, _ => by show (0 : Nat) = 0 * s; rw [Nat.zero_mul]
  | n + 1, h => by
    show (ecells S n ++ S n).length = _
    rw [List.length_append, ecells_len (fun k hk => h k (by omega)), h n (by omega), Nat.succ_mul]
theorem ecells_at {S : Nat → List Value} {s : Nat} : ∀ {n : Nat}, (∀ k, k < n → (S k).length = s) → ∀ {k j : Nat}, k < n → j < s → (ecells S n)[k * s + j]? = (S k)[j]?
  | n + 1, h, k, j, hk, hj => by
    show (ecells S n ++ S n)[k * s + j]? = _
    have hl : (ecells S n).length = n * s := ecells_len fun k hk => h k (by omega)
    by_cases e : k = n
    · subst e
      rw [List.getElem?_append_right (by rw [hl]; omega), hl, Nat.add_sub_cancel_left]
    · have h1 : k * s + s ≤ n * s := by rw [← Nat.succ_mul]; exact Nat.mul_le_mul_right s (by omega)
      rw [List.getElem?_append_left (by rw [hl]; omega)]
      exact ecells_at (fun k hk => h k (by omega)) (by omega) hj
theorem ecells_congr {S T : Nat → List Value} : ∀ {n : Nat}, (∀ k, k < n → S k = T k) → ecells S n = ecells T n
  | 0, _ => rfl
  | n + 1, h => by
    show ecells S n ++ S n = ecells T n ++ T n
    rw [ecells_congr (fun k hk => h k (by omega)), h n (by omega)]

/-- All blocks of w lie in w' as they were, but those that are P. -/
def Rest (P : Nat → Prop) (w w' : World) : Prop := ∀ b, b < w.heap.size → ¬ P b → w'.heap[b]? = w.heap[b]?
/-- The list's own block. -/
abbrev own (v : Value) : Nat → Prop := fun q => v.ownBlock = some q
theorem Rest.refl (P : Nat → Prop) (w : World) : Rest P w w := fun _ _ _ => rfl
theorem Rest.mono {P P' : Nat → Prop} {w w' : World} (h : Rest P w w') (e : ∀ q, P q → P' q) : Rest P' w w' := fun b hb hn => h b hb (fun q => hn (e b q))
theorem Rest.cell {P : Nat → Prop} {w w' : World} (h : Rest P w w') {a : Addr} {v : Value} (hc : w.cell? a = some v) (hn : ¬ P a.block) : w'.cell? a = some v := by
  rw [World.cell?_of_block (h _ (World.block_lt_of_cell? w _ hc) hn)]; exact hc
theorem Rest.of {P : Nat → Prop} {w w1 w' : World} (k : Below w.heap.size w w1) (h : Rest P w1 w') : Rest P w w' := fun b hb hn => (h b (Nat.lt_of_lt_of_le hb k.size) hn).trans (k.block b hb)
theorem Rest.sl {P : Nat → Prop} {w w' : World} (h : Rest P w w') {ao : Option Addr} {n ca : Nat} {z : Nat → Int} (hs : Sl w ao n ca z) (hn : ∀ x, ao = some x → ¬ P x.block) : Sl w' ao n ca z :=
  ⟨hs.le, hs.cap, fun k hk => by
    obtain ⟨x, hx, hc⟩ := hs.at' k hk
    have hb : (x.add k).block = x.block := by unfold Addr.add; split <;> rfl
    exact ⟨x, hx, h.cell hc (by rw [hb]; exact hn x hx)⟩⟩
theorem Rest.sls {P : Nat → Prop} {w w' : World} (h : Rest P w w') {lo : Option Addr} {m cm : Nat} {A : Nat → Option Addr} {L C : Nat → Nat} (hs : Sls w lo m cm A L C) (hn : ∀ x, lo = some x → ¬ P x.block) : Sls w' lo m cm A L C :=
  ⟨hs.le, hs.cap, fun k hk => by
    obtain ⟨x, hx, hc⟩ := hs.at' k hk
    have hb : (x.add k).block = x.block := by unfold Addr.add; split <;> rfl
    exact ⟨x, hx, h.cell hc (by rw [hb]; exact hn x hx)⟩⟩

/-- v is a list of the call's own, of n elements of type t, s cells each; R k is known of the k-th one's cells, whatever becomes of the list's own block. -/
structure Els (t : TypeId) (s B : Nat) (w0 w : World) (v : Value) (n : Nat) (R : Nat → List Value → World → Prop) : Prop where
  row : ∃ S : Nat → List Value, w.ownsRow B t s v n (ecells S n) ∧ ∀ k, k < n → (S k).length = s ∧ ∀ w', Rest (own v) w w' → R k (S k) w'
  below : Below B w0 w
  base : B ≤ w.heap.size
section
variable {t : TypeId} {s B : Nat} {w0 w w' : World} {v : Value} {n : Nat} {R : Nat → List Value → World → Prop}
theorem Els.nil (h : Below B w0 w) (hB : B ≤ w.heap.size) (t : TypeId) (s : Nat) (R : Nat → List Value → World → Prop) : Els t s B w0 w (.slice none 0 0) 0 R :=
  ⟨⟨fun _ => [], World.ownsRow_nil _ _ _ _, fun j hj => by omega⟩, h, hB⟩
theorem Els.keep (h : Els t s B w0 w v n R) (b : Below w.heap.size w w') : Els t s B w0 w' v n R := by
  obtain ⟨S, h1, h2⟩ := h.row
  exact ⟨⟨S, row_keep h1 b, fun k hk => ⟨(h2 k hk).1, fun w'' r => (h2 k hk).2 w'' (Rest.of b r)⟩⟩, h.below.trans (b.mono h.base), Nat.le_trans h.base b.size⟩
theorem Els.mono {R' : Nat → List Value → World → Prop} (h : Els t s B w0 w v n R) (e : ∀ k c W, k < n → R k c W → R' k c W) : Els t s B w0 w v n R' := by
  obtain ⟨S, h1, h2⟩ := h.row
  exact ⟨⟨S, h1, fun k hk => ⟨(h2 k hk).1, fun w'' r => e k _ _ hk ((h2 k hk).2 w'' r)⟩⟩, h.below, h.base⟩
theorem Els.drew (h : Els t s B w0 w v n R) : Els t s B w0 w.drew v n R := h.keep (below_drew' _)
/-- Whatever lies from this world's end on is apart from it. -/
theorem Els.lt (h : Els t s B w0 w v n R) {g : Nat} (e : v.ownBlock = some g) : B ≤ g ∧ g < w.heap.size := by
  obtain ⟨S, h1, _⟩ := h.row
  exact h1.lt g e
theorem Els.apart (h : Els t s B w0 w v n R) {g : Nat} (hg : w.heap.size ≤ g) : v.ownBlock ≠ some g := fun e => by have := (h.lt e).2; omega
/-- What lies ahead of it is apart from it. -/
theorem Els.ahead (h : Els t s B w0 w v n R) {g : Nat} (hg : g < B) : v.ownBlock ≠ some g := fun e => by have := (h.lt e).1; omega
theorem Els.form (h : Els t s B w0 w v n R) : ∃ ao ca, v = .slice ao n ca ∧ n ≤ ca ∧ ca ≤ 9223372036854775807 := by
  obtain ⟨S, ⟨_, h1⟩, _⟩ := h.row
  rcases h1 with ⟨rfl, rfl⟩ | ⟨g, cap, cur, rfl, hb, hg, hn, hc, hs, ht⟩
  · exact ⟨_, _, rfl, Nat.le_refl _, by omega⟩
  · exact ⟨_, _, rfl, hn, by unfold maxLen at hc; omega⟩
/-- It is read. -/
theorem Els.at (h : Els t s B w0 w v n R) (h0 : 0 < n) : ∃ g cap, ∃ S : Nat → List Value, v = .slice (some ⟨g, 0, none⟩) n cap ∧ n ≤ cap ∧ cap ≤ 9223372036854775807 ∧ B ≤ g ∧ g < w.heap.size ∧ (∀ k, k < n → (S k).length = s ∧ R k (S k) w ∧ ∀ j u, (S k)[j]? = some u → w.cell? ⟨g, k * s + j, none⟩ = some u) ∧ w.frozen? ⟨g, 0, none⟩ = false := by
  obtain ⟨S, ⟨_, h1⟩, h2⟩ := h.row
  rcases h1 with ⟨_, e⟩ | ⟨g, cap, cur, rfl, hb, hg, hn, hc, hs, ht⟩
  · omega
  · have hlt : g < w.heap.size := by
      rcases Nat.lt_or_ge g w.heap.size with k | k
      · exact k
      · rw [Array.getElem?_eq_none k] at hg; cases hg
    refine ⟨g, cap, S, rfl, hn, by unfold maxLen at hc; omega, hb, hlt, fun k hk => ⟨(h2 k hk).1, (h2 k hk).2 w (Rest.refl _ _), fun j u hj => ?_⟩, frozen_of_row w g 0 _ _ hg⟩
    have hjs : j < s := by
      have := (h2 k hk).1
      rcases Nat.lt_or_ge j (S k).length with q | q
      · omega
      · rw [List.getElem?_eq_none q] at hj; cases hj
    have e := ecells_at (fun k hk => (h2 k hk).1) hk hjs
    rw [hj, ← ht, List.getElem?_take] at e
    split at e
    · rw [cell_of_row w g _ _ _ (0, 0) hg]; simpa using e
    · cases e
end

theorem Els.push_row {t : TypeId} {s B : Nat} {w0 wr : World} {v : Value} {n : Nat} {R : Nat → List Value → World → Prop} {cs : List Value} (hE : Els t s B w0 wr v n R) (hcs : cs.length = s) (hR : ∀ w', Rest (own v) wr w' → R n cs w') {S : Nat → List Value}
    (h2 : ∀ k, k < n → (S k).length = s ∧ ∀ w', Rest (own v) wr w' → R k (S k) w') (hr : wr.ownsRow B t s v n (ecells S n)) {g cap : Nat} {w' : World} (o1 : w'.ownsRow B t s (.slice (some ⟨g, 0, none⟩) (n + 1) cap) (n + 1) (ecells S n ++ cs))
    (o2 : (wr.alloc (.cells cs.toArray t)).grownBy w' v.ownBlock) (o3 : v.ownBlock = some g ∨ g = wr.heap.size + 1) : Els t s B w0 w' (.slice (some ⟨g, 0, none⟩) (n + 1) cap) (n + 1) R := by
  have e0 : ecells S n ++ cs = ecells (fun k => if k < n then S k else cs) (n + 1) := by
    show _ = ecells (fun k => if k < n then S k else cs) n ++ (if n < n then S n else cs)
    rw [if_neg (Nat.lt_irrefl n)]
    have e1 : ecells S n = ecells (fun k => if k < n then S k else cs) n := ecells_congr fun k hk => by show S k = if k < n then S k else cs; rw [if_pos hk]
    rw [← e1]
  rw [e0] at o1
  have hb := hE.base
  have key : ∀ w'', Rest (own (.slice (some ⟨g, 0, none⟩) (n + 1) cap)) w' w'' → Rest (own v) wr w'' := fun w'' r b hbl hne => by
    have hg : g ≠ b := fun e => by
      rcases o3 with o3 | o3
      · exact hne (by show v.ownBlock = some b; rw [o3, e])
      · omega
    have hs2 : b < (wr.alloc (.cells cs.toArray t)).heap.size := by simp; omega
    rw [r b (Nat.lt_of_lt_of_le hs2 o2.size) (fun e => hg (by simpa [own, Value.ownBlock] using e)), o2.block b hs2 (fun e => hne e.symm), Below.heap_alloc _ _ _ hbl]
  refine ⟨⟨_, o1, fun k hk => ?_⟩, ?_, Nat.le_trans (by simp; omega) o2.size⟩
  · by_cases hkn : k < n
    · simp only [if_pos hkn]
      exact ⟨(h2 k hkn).1, fun w'' r => (h2 k hkn).2 w'' (key w'' r)⟩
    · obtain rfl : k = n := by omega
      simp only [if_neg hkn]
      exact ⟨hcs, fun w'' r => hR w'' (key w'' r)⟩
  · refine (hE.below.alloc hb _).grown o2 (by simp; omega) ?_
    intro k hk
    exact (hr.lt k hk).1

/-- An element is appended. -/
theorem push {ops : Array Oper} {rest : List Oper} {o : Oper} {a : Act} {Q : Exit → Act → World → Prop} {wr : World} (hgd : o.guard = none) (x y : Operand) (T t : TypeId) (s by' : Nat) (z : Value)
    (ho : o.op = .call { callee := .builtin .append, args := #[x, y], argTypes := #[T, T] }) (hT : Try.prog.underlying T = some (.slice t)) (hinfo : (Try.prog.info? t).map (fun i => (i.zero, i.size, i.bytes)) = some (some z, s, by')) (hzs : z.cells.size = s) (hs0 : 0 < s) (hby : by' ≤ 1000)
    (B : Nat) (w0 : World) (v : Value) (n : Nat) (R : Nat → List Value → World → Prop) (hs : a.eval x = v) (hE : Els t s B w0 wr v n R) (hl : n ≤ 2000000)
    (cs : List Value) (hcs : cs.length = s) (h1 : ∀ u ∈ cs, u.oneCell' = true) (hR : ∀ w', Rest (own v) wr w' → R n cs w') (hx : a.eval y = .slice (some ⟨wr.heap.size, 0, none⟩) 1 1)
    (h : ∀ v' w', Els t s B w0 w' v' (n + 1) R → wpList Try.prog ops Q rest (a.put o.dst v') w') : wpList Try.prog ops Q (o :: rest) a (wr.alloc (.cells cs.toArray t)) := by
  obtain ⟨i0, hi, hz0, hz1, hz2⟩ := info_parts hinfo
  obtain ⟨S, r1, r2⟩ := hE.row
  have hb := hE.base
  have hp : (wr.alloc (.cells cs.toArray t)).heap[wr.heap.size]? = some (.cells cs.toArray t (0, 0)) := St.crow_new wr t cs
  refine wpList_append_lies _ hgd x y T ho B t i0 z s by' hT hi hz0 hz1 hz2 hzs hs0 v n (ecells S n) hs (r1.alloc _) ⟨wr.heap.size, 0, none⟩ 1 1 cs hx (by rw [hcs, Nat.one_mul]) (World.news_of_block hp) h1 (by omega) (by unfold maxLen; omega) (Nat.le_trans (Nat.mul_le_mul (Nat.le_refl _) hby) (by omega)) (by simp; omega) _ rfl ?_
  intro g cap w' o1 o2 o3 o4
  exact h _ w' (hE.push_row hcs hR r2 r1 o1 o2 (by simpa using o3))
/-- The same at a step of a region that draws its order. -/
theorem step {ops : Array Oper} {o : Oper} {a : Act} {K : Act → World → Prop} {Q : Exit → Act → World → Prop} {E : Prop} {wr : World} (hgd : o.guard = none) (x y : Operand) (T t : TypeId) (s by' : Nat) (z : Value)
    (ho : o.op = .call { callee := .builtin .append, args := #[x, y], argTypes := #[T, T] }) (hT : Try.prog.underlying T = some (.slice t)) (hinfo : (Try.prog.info? t).map (fun i => (i.zero, i.size, i.bytes)) = some (some z, s, by')) (hzs : z.cells.size = s) (hs0 : 0 < s) (hby : by' ≤ 1000)
    (B : Nat) (w0 : World) (v : Value) (n : Nat) (R : Nat → List Value → World → Prop) (hs : a.eval x = v) (hE : Els t s B w0 wr v n R) (hl : n ≤ 2000000)
    (cs : List Value) (hcs : cs.length = s) (h1 : ∀ u ∈ cs, u.oneCell' = true) (hR : ∀ w', Rest (own v) wr w' → R n cs w') (hx : a.eval y = .slice (some ⟨wr.heap.size, 0, none⟩) 1 1)
    (h : ∀ v' w', Els t s B w0 w' v' (n + 1) R → K (a.put o.dst v') w') :
    if Region.wanted o (yielded ops a.tmps) = true then Oper.wp Try.prog o a (wr.alloc (.cells cs.toArray t)) K Q else E := by
  obtain ⟨i0, hi, hz0, hz1, hz2⟩ := info_parts hinfo
  obtain ⟨S, r1, r2⟩ := hE.row
  have hb := hE.base
  have hp : (wr.alloc (.cells cs.toArray t)).heap[wr.heap.size]? = some (.cells cs.toArray t (0, 0)) := St.crow_new wr t cs
  refine step_append_lies _ hgd x y T ho B t i0 z s by' hT hi hz0 hz1 hz2 hzs hs0 v n (ecells S n) hs (r1.alloc _) ⟨wr.heap.size, 0, none⟩ 1 1 cs hx (by rw [hcs, Nat.one_mul]) (World.news_of_block hp) h1 (by omega) (by unfold maxLen; omega) (Nat.le_trans (Nat.mul_le_mul (Nat.le_refl _) hby) (by omega)) (by simp; omega) _ rfl ?_
  intro g cap w' o1 o2 o3 o4
  exact h _ w' (hE.push_row hcs hR r2 r1 o1 o2 (by simpa using o3))
/-- What comes in ahead of the list stays, whatever becomes of the list's own block. -/
theorem Els.elder {t : TypeId} {s : Nat} {w0 w W : World} {v : Value} {n : Nat} {R : Nat → List Value → World → Prop} (h : Els t s w0.heap.size w0 w v n R) (r : Rest (own v) w W) : Rest (fun _ => False) w0 W :=
  fun b hb _ => (r b (Nat.lt_of_lt_of_le hb h.below.size) (h.ahead hb)).trans (h.below.block b hb)
/-- R rests on no block below B. -/
def Free (B : Nat) (w : World) (R : World → Prop) : Prop := ∀ W, Rest (fun q => q < B) w W → R W
theorem Free.self {B : Nat} {w : World} {R : World → Prop} (h : Free B w R) : R w := h w (Rest.refl _ _)
theorem Free.keep {B : Nat} {w w' : World} {R : World → Prop} (h : Free B w R) (k : Below w.heap.size w w') : Free B w' R := fun W r => h W (Rest.of k r)
theorem Free.and {B : Nat} {w : World} {R R' : World → Prop} (h : Free B w R) (h' : Free B w R') : Free B w (fun W => R W ∧ R' W) := fun W r => ⟨h W r, h' W r⟩
theorem Free.mono {B : Nat} {w : World} {R R' : World → Prop} (h : Free B w R) (e : ∀ W, R W → R' W) : Free B w R' := fun W r => e W (h W r)
theorem Free.less {B B' : Nat} {w : World} {R : World → Prop} (h : Free B w R) (hB : B' ≤ B) : Free B' w R := fun W r => h W (r.mono fun q e => Nat.lt_of_lt_of_le e hB)
theorem Free.row {B g : Nat} {w : World} {R : World → Prop} (h : Free B w R) (hg : g < B) (cs : Array Value) : Free B (w.setRow g cs) R := fun W r => h W fun b hb hn => (r b (by simpa using hb) hn).trans (setRow_other w g b cs (by omega))
/-- What lies from the list's world's end on is apart from the list. -/
theorem Els.free {t : TypeId} {s B : Nat} {w0 w w' : World} {v : Value} {n : Nat} {R : Nat → List Value → World → Prop} (h : Els t s B w0 w v n R) {K : World → Prop} (f : Free w.heap.size w' K) {W : World} (r : Rest (own v) w' W) : K W :=
  f W (r.mono fun q e => (h.lt e).2)
theorem Own.free' {B : Nat} {w0 w : World} {ao : Option Addr} {ca n : Nat} {z : Nat → Int} (h : Own B w0 w (.slice ao n ca) n z) : Free B w (fun W => Sl W ao n ca z) := by
  obtain ⟨⟨h1, h2⟩, _, _⟩ := h
  intro W r
  rcases h2 with ⟨e, rfl⟩ | ⟨g, cap, cur, e, hb, hg, hn, hc, hs, ht⟩
  · injection e with e1 _ e2
    subst e1 e2
    exact Sl.none _ _
  · injection e with e1 _ e2
    subst e1 e2
    have hlt : g < w.heap.size := by
      rcases Nat.lt_or_ge g w.heap.size with k | k
      · exact k
      · rw [Array.getElem?_eq_none k] at hg; cases hg
    have hW := (r g hlt (by omega)).trans hg
    refine ⟨hn, by unfold maxLen at hc; omega, fun k hk => ⟨_, rfl, ?_⟩⟩
    have e := vals_at (z := z) hk
    rw [← ht] at e
    have e2 : cur[k]? = some (.int .i64 (z k)) := by
      rw [List.getElem?_take] at e
      split at e
      · simpa using e
      · cases e
    rw [Addr.add_lit, Nat.zero_add]
    simp [World.cell?, hW, e2]
end El
end Go.Proofs.Ytoglokgkgonmdaa

/-
  Blocks of n elements, so many cells each: read, stored into by whole elements; what is one block's is no other's.
-/
set_option linter.unusedSimpArgs false
set_option linter.unusedVariables false
namespace Go.Proofs.Ytoglokgkgonmdaa
open Go.RowKit Vc Ld
namespace El

theorem addr_at (g o : Nat) (k : Nat) : (⟨g, o, none⟩ : Addr).add k = ⟨g, o + k, none⟩ := Addr.add_mid g o k
/-- A cell of a block that is known lies among its cells. -/
theorem in_row {w : World} {g : Nat} {t : TypeId} {cs : Array Value} (h : w.heap[g]? = some (.cells cs t (0, 0))) {a : Addr} {v : Value} (hc : w.cell? a = some v) (e : a.block = g) : ∃ k : Nat, cs[k]? = some v := by
  subst e
  cases hs : a.spot with
  | none =>
    rw [show a = (⟨a.block, a.off, none⟩ : Addr) from by cases a; simp_all] at hc
    rw [World.cell?] at hc
    simp only [h] at hc
    exact ⟨a.off, hc⟩
  | some q =>
    exfalso
    unfold World.cell? at hc
    simp [h, hs] at hc
/-- Numbers lie in no block that holds none. -/
theorem sl_off {w : World} {g : Nat} {t : TypeId} {cs : Array Value} (h : w.heap[g]? = some (.cells cs t (0, 0))) (hn : ∀ (k : Nat) (z : Int), cs[k]? ≠ some (.int .i64 z)) {ao : Option Addr} {n ca : Nat} {z : Nat → Int} (s : Sl w ao n ca z) (h0 : 0 < n) : ∀ x, ao = some x → x.block ≠ g := by
  intro x hx e
  obtain ⟨y, hy, hc⟩ := s.at' 0 h0
  rw [hx] at hy
  cases hy
  obtain ⟨k, hk⟩ := in_row h hc (by rw [addr_block]; exact e)
  exact hn k _ hk

/-- Block g holds n elements of type t, s cells each: S. -/
structure ERow (w : World) (g : Nat) (t : TypeId) (s n : Nat) (S : Nat → List Value) : Prop where
  ex : ∃ cs : Array Value, w.heap[g]? = some (.cells cs t (0, 0)) ∧ cs.size = n * s
  at' : ∀ k, k < n → (S k).length = s ∧ w.rangeAt g (k * s) (S k)
section
variable {w w' : World} {g : Nat} {t : TypeId} {s n : Nat} {S : Nat → List Value}
theorem ERow.lt (h : ERow w g t s n S) : g < w.heap.size := by
  obtain ⟨cs, h1, _⟩ := h.ex
  rcases Nat.lt_or_ge g w.heap.size with k | k
  · exact k
  · rw [Array.getElem?_eq_none k] at h1; cases h1
theorem ERow.of (h : ERow w g t s n S) (e : w'.heap[g]? = w.heap[g]?) : ERow w' g t s n S := by
  obtain ⟨cs, h1, h2⟩ := h.ex
  refine ⟨⟨cs, e.trans h1, h2⟩, fun k hk => ⟨(h.at' k hk).1, fun j v hv => ?_⟩⟩
  have hc := (h.at' k hk).2 j v hv
  rw [World.cell?_of_block (show w'.heap[(⟨g, k * s + j, none⟩ : Addr).block]? = _ from e)]
  exact hc
theorem ERow.keep (h : ERow w g t s n S) (b : Below w.heap.size w w') : ERow w' g t s n S := h.of (b.block g h.lt)
theorem ERow.but {P : Nat → Prop} (h : ERow w g t s n S) (b : But P w w') (hn : ¬ P g) : ERow w' g t s n S := h.of (b.block g h.lt hn)
theorem ERow.alloc (h : ERow w g t s n S) (o : Obj) : ERow (w.alloc o) g t s n S := h.keep (below_al (Below.refl _ _) o)
theorem ERow.drew (h : ERow w g t s n S) : ERow w.drew g t s n S := h.of rfl
theorem ERow.drewN (h : ERow w g t s n S) (q : Nat) : ERow (w.drewN q) g t s n S := h.of rfl
theorem ERow.congr {S' : Nat → List Value} (h : ERow w g t s n S) (e : ∀ k, k < n → S k = S' k) : ERow w g t s n S' := ⟨h.ex, fun k hk => by rw [← e k hk]; exact h.at' k hk⟩
theorem ERow.there (h : ERow w g t s n S) {k : Nat} (hk : k < n) : w.there g (k * s) s := by
  obtain ⟨cs, h1, h2⟩ := h.ex
  intro j hj
  have hlt : k * s + j < cs.size := by
    rw [h2]
    have h3 : k * s + s ≤ n * s := by rw [← Nat.succ_mul]; exact Nat.mul_le_mul_right s hk
    omega
  refine ⟨?_, frozen_of_row w g _ _ _ h1⟩
  rw [World.cell?]
  simp [h1, Array.getElem?_eq_getElem hlt]
theorem erow_new (w : World) (t : TypeId) (s n : Nat) (S : Nat → List Value) (h : ∀ k, k < n → (S k).length = s) : ERow (w.alloc (.cells (ecells S n).toArray t)) w.heap.size t s n S := by
  have hc := St.crow_new w t (ecells S n)
  refine ⟨⟨_, hc, by rw [List.size_toArray, ecells_len h]⟩, fun k hk => ⟨h k hk, fun j v hv => ?_⟩⟩
  have hj : j < s := by
    rcases Nat.lt_or_ge j s with q | q
    · exact q
    · rw [List.getElem?_eq_none (by rw [h k hk]; exact q)] at hv; cases hv
  exact hc.cell (k := k * s + j) (by rw [ecells_at h hk hj]; exact hv) rfl
theorem heap_setCells (g : Nat) (t : TypeId) : ∀ (vs : List Value) (o : Nat) (w : World) (cs : Array Value), w.heap[g]? = some (.cells cs t (0, 0)) → ∃ cs' : Array Value, (w.setCells g o vs).heap[g]? = some (.cells cs' t (0, 0)) ∧ cs'.size = cs.size
  | [], _, _, cs, h => ⟨cs, h, rfl⟩
  | v :: vs, o, w, cs, h => by
    obtain ⟨cs', h1, h2⟩ := heap_setCells g t vs (o + 1) (w.setCell ⟨g, o, none⟩ v) _ (heap_setCell_same w g o _ _ _ h)
    exact ⟨cs', h1, by rw [h2]; simp⟩
theorem but_setCells (g : Nat) : ∀ (vs : List Value) (o : Nat) (w : World), But (· = g) w (w.setCells g o vs)
  | [], _, w => But.refl _ _
  | v :: vs, o, w => ((But.refl (· = g) w).set (p := ⟨g, o, none⟩) v rfl).trans (but_setCells g vs (o + 1) _)
theorem ERow.set (h : ERow w g t s n S) {k : Nat} (hk : k < n) {vs : List Value} (hl : vs.length = s) : ERow (w.setCells g (k * s) vs) g t s n (fun j => if j = k then vs else S j) := by
  obtain ⟨cs, h1, h2⟩ := h.ex
  obtain ⟨cs', h3, h4⟩ := heap_setCells g t vs (k * s) w cs h1
  refine ⟨⟨cs', h3, h4.trans h2⟩, fun j hj => ?_⟩
  by_cases e : j = k
  · subst e
    simp only [if_pos]
    exact ⟨hl, World.rangeAt_setCells_same w g (j * s) vs (by rw [hl]; exact h.there hj)⟩
  · simp only [if_neg e]
    refine ⟨(h.at' j hj).1, World.rangeAt_setCells_apart (h.at' j hj).2 g (k * s) vs (Or.inr ?_)⟩
    rw [(h.at' j hj).1, hl]
    rcases Nat.lt_or_ge j k with c | c
    · left; rw [← Nat.succ_mul]; exact Nat.mul_le_mul_right s c
    · right; rw [← Nat.succ_mul]; exact Nat.mul_le_mul_right s (by omega)
end

/-- An element is stored: the world behind it is a letter. -/
theorem wpList_storeE {ops : Array Oper} {rest : List Oper} {o : Oper} {a : Act} {w : World} {Q : Exit → Act → World → Prop} {g s n k : Nat} {S : Nat → List Value} (t : TypeId) (hgd : o.guard = none) (x y : Operand) (ho : o.op = .store t x y) (vs : List Value)
    (hx : a.eval x = .pointer (some ⟨g, k * s, none⟩)) (hy : a.eval y = .agg vs.toArray) (hr : ERow w g t s n S) (hk : k < n) (hl : vs.length = s) (hi : (Try.prog.info? t).map (·.size) = some s) (h1 : ∀ v ∈ vs, v.oneCell' = true)
    (h : ∀ w', ERow w' g t s n (fun j => if j = k then vs else S j) → But (· = g) w w' → wpList Try.prog ops Q rest (a.put o.dst undef) w') : wpList Try.prog ops Q (o :: rest) a w :=
  wpList_store_mid hgd t x y ho g (k * s) vs.toArray hx hy (by rw [List.size_toArray, hl]; exact hr.there hk) (by rw [List.size_toArray, hl]; exact hi) (all_oneCell_toArray h1) (h _ (hr.set hk hl) (but_setCells g _ _ _))
/-- The same as a step of a region that draws its order. -/
theorem step_storeE {ops : Array Oper} {o : Oper} {a : Act} {w : World} {K : Act → World → Prop} {Q : Exit → Act → World → Prop} {E : Prop} {g s n k : Nat} {S : Nat → List Value} (t : TypeId) (hw : Region.wanted o (yielded ops a.tmps) = true) (x y : Operand) (ho : o.op = .store t x y) (vs : List Value)
    (hx : a.eval x = .pointer (some ⟨g, k * s, none⟩)) (hy : a.eval y = .agg vs.toArray) (hr : ERow w g t s n S) (hk : k < n) (hl : vs.length = s) (hi : (Try.prog.info? t).map (·.size) = some s) (h1 : ∀ v ∈ vs, v.oneCell' = true)
    (h : ∀ w', ERow w' g t s n (fun j => if j = k then vs else S j) → But (· = g) w w' → K (a.put o.dst undef) w') : if Region.wanted o (yielded ops a.tmps) = true then Oper.wp Try.prog o a w K Q else E := by
  rw [if_pos hw]
  exact wp_store_mid t x y ho g (k * s) vs.toArray hx hy (by rw [List.size_toArray, hl]; exact hr.there hk) (by rw [List.size_toArray, hl]; exact hi) (all_oneCell_toArray h1) (h _ (hr.set hk hl) (but_setCells g _ _ _))
end El
end Go.Proofs.Ytoglokgkgonmdaa

/-
  Two lists of the call's own, appended to one after the other, their elements known whatever the world is.
-/
set_option linter.unusedSimpArgs false
set_option linter.unusedVariables false
namespace Go.Proofs.Ytoglokgkgonmdaa
open Go.RowKit Vc
namespace El
/-- The k-th one's cells are S k. -/
abbrev Cs (S : Nat → List Value) : Nat → List Value → World → Prop := fun k cs _ => cs = S k
/-- Where another list's block turns, this one stays. -/
theorem Els.other {t : TypeId} {s B : Nat} {w0 w w' : World} {v : Value} {n : Nat} {S : Nat → List Value} {P : Nat → Prop} (h : Els t s B w0 w v n (Cs S)) (r : Rest P w w') (hsz : w.heap.size ≤ w'.heap.size) (hb : Below B w0 w') (hne : ∀ q, own v q → ¬ P q) : Els t s B w0 w' v n (Cs S) := by
  obtain ⟨S', h1, h2⟩ := h.row
  refine ⟨⟨S', ?_, fun k hk => ⟨(h2 k hk).1, fun W _ => (h2 k hk).2 w (Rest.refl _ _)⟩⟩, hb, Nat.le_trans h.base hsz⟩
  obtain ⟨a1, a2⟩ := h1
  refine ⟨a1, ?_⟩
  rcases a2 with a2 | ⟨g, cap, cur, rfl, hb', hg, rest⟩
  · exact Or.inl a2
  · have hlt : g < w.heap.size := by
      rcases Nat.lt_or_ge g w.heap.size with k | k
      · exact k
      · rw [Array.getElem?_eq_none k] at hg; cases hg
    exact Or.inr ⟨g, cap, cur, rfl, hb', (r g hlt (hne g rfl)).trans hg, rest⟩
/-- An element is appended; what else there is stays but for the list's own block. -/
theorem push2 {ops : Array Oper} {rest : List Oper} {o : Oper} {a : Act} {Q : Exit → Act → World → Prop} {wr : World} (hgd : o.guard = none) (x y : Operand) (T t : TypeId) (s by' : Nat) (z : Value)
    (ho : o.op = .call { callee := .builtin .append, args := #[x, y], argTypes := #[T, T] }) (hT : Try.prog.underlying T = some (.slice t)) (hinfo : (Try.prog.info? t).map (fun i => (i.zero, i.size, i.bytes)) = some (some z, s, by')) (hzs : z.cells.size = s) (hs0 : 0 < s) (hby : by' ≤ 1000)
    (B : Nat) (w0 : World) (v : Value) (n : Nat) (S : Nat → List Value) (hs : a.eval x = v) (hE : Els t s B w0 wr v n (Cs S)) (hl : n ≤ 2000000)
    (cs : List Value) (hcs : cs.length = s) (h1 : ∀ u ∈ cs, u.oneCell' = true) (hR : cs = S n) (hx : a.eval y = .slice (some ⟨wr.heap.size, 0, none⟩) 1 1)
    (h : ∀ v' w', Els t s B w0 w' v' (n + 1) (Cs S) → Rest (own v) wr w' → wr.heap.size ≤ w'.heap.size → (∀ q, q < wr.heap.size → ¬ own v q → ¬ own v' q) → wpList Try.prog ops Q rest (a.put o.dst v') w') : wpList Try.prog ops Q (o :: rest) a (wr.alloc (.cells cs.toArray t)) := by
  obtain ⟨i0, hi, hz0, hz1, hz2⟩ := info_parts hinfo
  obtain ⟨S', r1, r2⟩ := hE.row
  have hb := hE.base
  have hp : (wr.alloc (.cells cs.toArray t)).heap[wr.heap.size]? = some (.cells cs.toArray t (0, 0)) := St.crow_new wr t cs
  refine wpList_append_lies _ hgd x y T ho B t i0 z s by' hT hi hz0 hz1 hz2 hzs hs0 v n (ecells S' n) hs (r1.alloc _) ⟨wr.heap.size, 0, none⟩ 1 1 cs hx (by rw [hcs, Nat.one_mul]) (World.news_of_block hp) h1 (by omega) (by unfold maxLen; omega) (Nat.le_trans (Nat.mul_le_mul (Nat.le_refl _) hby) (by omega)) (by simp; omega) _ rfl ?_
  intro g cap w' o1 o2 o3 o4
  have hsz : (wr.alloc (.cells cs.toArray t)).heap.size = wr.heap.size + 1 := by simp
  refine h _ w' (hE.push_row hcs (fun _ _ => hR) r2 r1 o1 o2 (by simpa using o3)) (fun b hb' hn => ?_) (by have := o2.size; omega) (fun q hq hn e => ?_)
  · rw [o2.block b (by omega) (fun e => hn e.symm), Below.heap_alloc _ _ _ hb']
  · have e3 : g = q := by simpa [own, Value.ownBlock] using e
    rcases o3 with o3 | o3
    · exact hn (by show v.ownBlock = some q; rw [o3, e3])
    · rw [hsz] at o3; omega
end El
end Go.Proofs.Ytoglokgkgonmdaa

/-
  A list of numbers and a list of rows that a struct holds, appended to one by one, the struct stored into: they and the rows lie from block o on, the struct ahead of it.
-/
set_option linter.unusedSimpArgs false
set_option linter.unusedVariables false
namespace Go.Proofs.Ytoglokgkgonmdaa
open Go.RowKit Vc Mt St Ld
namespace Ls

theorem rowBut {P : Nat → Prop} {a b : World} {B : Nat} {t : TypeId} {s : Nat} {v : Value} {n : Nat} {xs : List Value} (h : a.ownsRow B t s v n xs) (k : But P a b) (hx : ∀ g, v.ownBlock = some g → ¬ P g) : b.ownsRow B t s v n xs := by
  obtain ⟨h1, h2⟩ := h
  refine ⟨h1, ?_⟩
  rcases h2 with h2 | ⟨g, cap, cur, rfl, hb, hg, hn, hc, hs, ht⟩
  · exact Or.inl h2
  · refine Or.inr ⟨g, cap, cur, rfl, hb, ?_, hn, hc, hs, ht⟩
    have hlt : g < a.heap.size := by
      rcases Nat.lt_or_ge g a.heap.size with q | q
      · exact q
      · rw [Array.getElem?_eq_none q] at hg; cases hg
    exact (k.block g hlt (hx g rfl)).trans hg
theorem but_grown {w w' : World} {row : Option Nat} (g : w.grownBy w' row) : But (fun b => row = some b) w w' :=
  ⟨g.os, g.tape, g.output, g.size, fun k hk hp => g.block k hk (fun e => hp e.symm)⟩

theorem but_row (w : World) (g : Nat) (cs : Array Value) : But (· = g) w (w.setRow g cs) := ⟨rfl, rfl, rfl, by simp, fun k hk hn => setRow_other w g k cs hn⟩

/-- a numbers X in vX, b rows P of m numbers each in vP. -/
structure Sts (o : Nat) (w : World) (vX vP : Value) (a b m : Nat) (X : Nat → Int) (P : Nat → Nat → Int) : Prop where
  x : w.ownsRow o 2 1 vX a (vals a X)
  p : ∃ S, w.ownsRow o 22 1 vP b (svals b S) ∧ ∀ j, j < b → ∃ r c, S j = .slice r m c ∧ Sl w r m c (P j) ∧ ∀ x, r = some x → vP.ownBlock ≠ some x.block ∧ vX.ownBlock ≠ some x.block ∧ o ≤ x.block
  ap : ∀ q, vX.ownBlock = some q → vP.ownBlock ≠ some q
  le : o ≤ w.heap.size

theorem Sts.nil {o : Nat} {w : World} (h : o ≤ w.heap.size) (m : Nat) (X : Nat → Int) (P : Nat → Nat → Int) : Sts o w (.slice none 0 0) (.slice none 0 0) 0 0 m X P :=
  ⟨World.ownsRow_nil _ _ _ _, ⟨fun _ => undef, World.ownsRow_nil _ _ _ _, fun j hj => by omega⟩, fun q e => (by cases e), h⟩
theorem Sts.keep {o : Nat} {w w' : World} {vX vP : Value} {a b m : Nat} {X : Nat → Int} {P : Nat → Nat → Int} (h : Sts o w vX vP a b m X P) (k : Below w.heap.size w w') : Sts o w' vX vP a b m X P := by
  obtain ⟨S, h1, h2⟩ := h.p
  refine ⟨row_keep h.x k, ⟨S, row_keep h1 k, fun j hj => ?_⟩, h.ap, Nat.le_trans h.le k.size⟩
  obtain ⟨r, c, e1, e2, e3⟩ := h2 j hj
  exact ⟨r, c, e1, e2.keep k, e3⟩
/-- A store into a block ahead of theirs. -/
theorem Sts.put {o g : Nat} {w w' : World} {vX vP : Value} {a b m : Nat} {X : Nat → Int} {P : Nat → Nat → Int} (h : Sts o w vX vP a b m X P) (hg : g < o) (k : But (· = g) w w') : Sts o w' vX vP a b m X P := by
  obtain ⟨S, h1, h2⟩ := h.p
  refine ⟨rowBut h.x k (fun q e e2 => by have := (h.x.lt q e).1; omega), ⟨S, rowBut h1 k (fun q e e2 => by have := (h1.lt q e).1; omega), fun j hj => ?_⟩, h.ap, Nat.le_trans h.le k.size⟩
  obtain ⟨r, c, e1, e2, e3⟩ := h2 j hj
  exact ⟨r, c, e1, slBut e2 k (fun x hx e => by have := (e3 x hx).2.2; omega), e3⟩
theorem Sts.grid {o : Nat} {w : World} {vX vP : Value} {a b m : Nat} {X : Nat → Int} {P : Nat → Nat → Int} (h : Sts o w vX vP a b m X P) : ∃ lo cm, vP = .slice lo b cm ∧ Grid w lo b cm m P := by
  obtain ⟨S, h1, h2⟩ := h.p
  have hL : Lst o w w vP b m P := ⟨⟨S, h1, fun k hk => by obtain ⟨r, c, e1, e2, e3⟩ := h2 k hk; exact ⟨r, c, e1, e2, fun x hx => (e3 x hx).1⟩⟩, Below.refl _ _, h.le⟩
  exact hL.grid
theorem Sts.sl {o : Nat} {w : World} {vX vP : Value} {a b m : Nat} {X : Nat → Int} {P : Nat → Nat → Int} (h : Sts o w vX vP a b m X P) : ∃ ao ca, vX = .slice ao a ca ∧ Sl w ao a ca X :=
  Own.sl (B := o) (w0 := w) ⟨h.x, Below.refl _ _, h.le⟩
/-- What is new lies in no block of theirs. -/
theorem Sts.apart {o : Nat} {w : World} {vX vP : Value} {a b m : Nat} {X : Nat → Int} {P : Nat → Nat → Int} (h : Sts o w vX vP a b m X P) {ra : Option Addr} (hf : Fresh w.heap.size ra) : ∀ x, ra = some x → vP.ownBlock ≠ some x.block ∧ vX.ownBlock ≠ some x.block ∧ o ≤ x.block := by
  intro x hx
  have h3 := hf x hx
  have h4 := h.le
  obtain ⟨S, h1, _⟩ := h.p
  exact ⟨fun e => by have := (h1.lt _ e).2; omega, fun e => by have := (h.x.lt _ e).2; omega, by omega⟩
theorem sl_lt {w : World} {ao : Option Addr} {n ca : Nat} {z : Nat → Int} (h : Sl w ao n ca z) (hn : 0 < n) : ∀ x, ao = some x → x.block < w.heap.size := fun x hx => by
  obtain ⟨y, hy, hc⟩ := h.at' 0 hn
  rw [hx] at hy
  cases hy
  have hlt := World.block_lt_of_cell? w _ hc
  rw [addr_block] at hlt
  exact hlt

/-- A number is appended to a slice of the call's own. -/
theorem pushN {ops : Array Oper} {rest : List Oper} {o : Oper} {a : Act} {Q : Exit → Act → World → Prop} {wr : World} (hgd : o.guard = none) (s x : Operand)
    (ho : o.op = .call { callee := .builtin .append, args := #[s, x], argTypes := #[22, 22] }) (B : Nat) (w0 : World) (v : Value) (n : Nat) (z : Nat → Int) (hs : a.eval s = v) (hown : Own B w0 wr v n z) (hl : n ≤ 2000000) (y : Int) (hy : y = z n)
    (hx : a.eval x = .slice (some ⟨wr.heap.size, 0, none⟩) 1 1)
    (h : ∀ v' w', Own B w0 w' v' (n + 1) z → wpList Try.prog ops Q rest (a.put o.dst v') w') : wpList Try.prog ops Q (o :: rest) a (wr.alloc (.cells #[.int .i64 y] 2)) := by
  obtain ⟨i0, hi, hz0, hz1, hz2⟩ := info_parts infoI64
  subst hy
  refine wpList_append_own _ hgd s x 22 ho B 2 i0 (.int .i64 0) 1 8 Try.underlying22 hi hz0 hz1 hz2 rfl (by decide) v n (vals n z) hs (hown.row.alloc _) ⟨wr.heap.size, 0, none⟩ 1 1 [.int .i64 (z n)] hx rfl (cell_one_new _ _ _) (by intro u hu; simp at hu; subst hu; rfl) (by unfold maxLen; omega) (by omega) (by have := hown.base; simp; omega) ?_
  intro v' w' h1 h2 _
  rw [vals_push] at h1
  refine h v' w' ⟨h1, ?_, Nat.le_trans (by have := hown.base; simp; omega) h2.size⟩
  refine (hown.below.alloc hown.base _).grown h2 (by have := hown.base; simp; omega) ?_
  intro k hk
  exact (hown.row.lt k hk).1

section
variable {ops : Array Oper} {rest : List Oper} {op : Oper} {ac : Act} {Q : Exit → Act → World → Prop} {wr : World}
/-- A number is appended. -/
theorem pushX (hgd : op.guard = none) (s x : Operand)
    (ho : op.op = .call { callee := .builtin .append, args := #[s, x], argTypes := #[22, 22] }) (o : Nat) (vX vP : Value) (a b m : Nat) (X : Nat → Int) (P : Nat → Nat → Int) (hs : ac.eval s = vX) (hL : Sts o wr vX vP a b m X P) (hm : 0 < m) (hl : a ≤ 2000000) (y : Int) (hy : y = X a)
    (hx : ac.eval x = .slice (some ⟨wr.heap.size, 0, none⟩) 1 1)
    (h : ∀ v' w', Sts o w' v' vP (a + 1) b m X P → But (fun q => o ≤ q) wr w' → wpList Try.prog ops Q rest (ac.put op.dst v') w') : wpList Try.prog ops Q (op :: rest) ac (wr.alloc (.cells #[.int .i64 y] 2)) := by
  obtain ⟨i0, hi, hz0, hz1, hz2⟩ := info_parts infoI64
  subst hy
  refine wpList_append_lies _ hgd s x 22 ho o 2 i0 (.int .i64 0) 1 8 Try.underlying22 hi hz0 hz1 hz2 rfl (by decide) vX a (vals a X) hs (hL.x.alloc _) ⟨wr.heap.size, 0, none⟩ 1 1 [.int .i64 (X a)] hx rfl (cell_one_new _ _ _) (by intro u hu; simp at hu; subst hu; rfl) (by omega) (by unfold maxLen; omega) (by omega) (by have := hL.le; simp; omega) _ rfl ?_
  intro g cap w' o1 o2 o3 o4
  rw [vals_push] at o1
  have bb : But (fun q => vX.ownBlock = some q) wr w' := (but_of (below_al (Below.refl _ wr) _)).trans (but_grown o2)
  obtain ⟨S, p1, p2⟩ := hL.p
  have hg : ∀ q, q < wr.heap.size → vX.ownBlock ≠ some q → Value.ownBlock (.slice (some ⟨g, 0, none⟩) (a + 1) cap) ≠ some q := fun q hq e1 e2 => by
    have e3 : g = q := by simpa [Value.ownBlock] using e2
    rcases o3 with o3 | o3
    · exact e1 (by rw [o3, e3])
    · simp at o3; omega
  refine h _ w' ⟨o1, ⟨S, rowBut p1 bb (fun q e e2 => hL.ap q e2 e), fun j hj => ?_⟩, fun q e e2 => ?_, Nat.le_trans hL.le bb.size⟩ (bb.mono fun q e => (hL.x.lt q e).1)
  · obtain ⟨r, c, e1, e2, e3⟩ := p2 j hj
    exact ⟨r, c, e1, slBut e2 bb (fun x hx => (e3 x hx).2.1), fun x hx => ⟨(e3 x hx).1, hg _ (sl_lt e2 hm x hx) (e3 x hx).2.1, (e3 x hx).2.2⟩⟩
  · exact hg q (p1.lt q e2).2 (fun e' => hL.ap q e' e2) e
/-- A row is appended. -/
theorem pushP (hgd : op.guard = none) (s x : Operand)
    (ho : op.op = .call { callee := .builtin .append, args := #[s, x], argTypes := #[23, 23] }) (o : Nat) (vX vP : Value) (a b m : Nat) (X : Nat → Int) (P : Nat → Nat → Int) (hs : ac.eval s = vP) (hL : Sts o wr vX vP a b m X P) (hm : 0 < m) (hl : b ≤ 2000000)
    (ra : Option Addr) (rc : Nat) (hr : Sl wr ra m rc (P b)) (hra : ∀ x, ra = some x → vP.ownBlock ≠ some x.block ∧ vX.ownBlock ≠ some x.block ∧ o ≤ x.block)
    (hx : ac.eval x = .slice (some ⟨wr.heap.size, 0, none⟩) 1 1)
    (h : ∀ v' w', Sts o w' vX v' a (b + 1) m X P → But (fun q => o ≤ q) wr w' → wpList Try.prog ops Q rest (ac.put op.dst v') w') : wpList Try.prog ops Q (op :: rest) ac (wr.alloc (.cells #[.slice ra m rc] 22)) := by
  obtain ⟨i0, hi, hz0, hz1, hz2⟩ := info_parts infoSl
  obtain ⟨S, p1, p2⟩ := hL.p
  refine wpList_append_lies _ hgd s x 23 ho o 22 i0 (.slice none 0 0) 1 24 Try.underlying23 hi hz0 hz1 hz2 rfl (by decide) vP b (svals b S) hs (p1.alloc _) ⟨wr.heap.size, 0, none⟩ 1 1 [.slice ra m rc] hx rfl (cell_one_new _ _ _) (by intro u hu; simp at hu; subst hu; rfl) (by omega) (by unfold maxLen; omega) (by omega) (by have := hL.le; simp; omega) _ rfl ?_
  intro g cap w' o1 o2 o3 o4
  rw [svals_push] at o1
  have bb : But (fun q => vP.ownBlock = some q) wr w' := (but_of (below_al (Below.refl _ wr) _)).trans (but_grown o2)
  have hg : ∀ q, q < wr.heap.size → vP.ownBlock ≠ some q → Value.ownBlock (.slice (some ⟨g, 0, none⟩) (b + 1) cap) ≠ some q := fun q hq e1 e2 => by
    have e3 : g = q := by simpa [Value.ownBlock] using e2
    rcases o3 with o3 | o3
    · exact e1 (by rw [o3, e3])
    · simp at o3; omega
  have key : ∀ {r : Option Addr} {c : Nat} {z : Nat → Int}, Sl wr r m c z → (∀ x, r = some x → vP.ownBlock ≠ some x.block ∧ vX.ownBlock ≠ some x.block ∧ o ≤ x.block) → Sl w' r m c z ∧ ∀ x, r = some x → Value.ownBlock (.slice (some ⟨g, 0, none⟩) (b + 1) cap) ≠ some x.block ∧ vX.ownBlock ≠ some x.block ∧ o ≤ x.block := fun hs hx =>
    ⟨slBut hs bb (fun x e => (hx x e).1), fun x e => ⟨hg _ (sl_lt hs hm x e) (hx x e).1, (hx x e).2.1, (hx x e).2.2⟩⟩
  refine h _ w' ⟨rowBut hL.x bb (fun q e e2 => hL.ap q e e2), ⟨_, o1, fun j hj => ?_⟩, fun q e => hg q (hL.x.lt q e).2 (hL.ap q e), Nat.le_trans hL.le bb.size⟩ (bb.mono fun q e => (p1.lt q e).1)
  by_cases hjb : j < b
  · obtain ⟨r, c, e1, e2, e3⟩ := p2 j hjb
    obtain ⟨e4, e5⟩ := key e2 e3
    exact ⟨r, c, by simp only [if_pos hjb]; exact e1, e4, e5⟩
  · obtain rfl : j = b := by omega
    obtain ⟨e4, e5⟩ := key hr hra
    exact ⟨ra, rc, by simp only [if_neg hjb], e4, e5⟩
end
end Ls
end Go.Proofs.Ytoglokgkgonmdaa
