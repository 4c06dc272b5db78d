/-
  Lists of rows: appended to, handed on, held against each other (rowsOf, sameRows, matOf of the laws of layer 8).
-/
import Derived.Test.YtdgcnaijndocnaaGreatDoorM5
import Derived.Test.YtdgcnaijndocnaaGreatDoorM9
import Derived.Deep.AppendLies
import Derived.Deep.RegionHeld3
set_option linter.unusedSimpArgs false
set_option linter.unusedVariables false
namespace Go.Proofs.YtdgcnaijndocnaaGreatDoor
open Go.RowKit Vc Mt
namespace Mt
theorem infoSl : (Tryz.prog.info? 22).map (fun i => (i.zero, i.size, i.bytes)) = some (some (.slice none 0 0), 1, 24) := by kernel_rfl
def svals (n : Nat) (S : Nat → Value) : List Value := (List.range n).map S
theorem svals_len (n : Nat) (S : Nat → Value) : (svals n S).length = n := by simp [svals]
theorem svals_at {n k : Nat} {S : Nat → Value} (h : k < n) : (svals n S)[k]? = some (S k) := by simp [svals, h]
theorem svals_push (n : Nat) (S : Nat → Value) (v : Value) : svals n S ++ [v] = svals (n + 1) (fun k => if k < n then S k else v) := by
  unfold svals
  rw [List.range_succ, List.map_append]
  congr 1
  · exact List.map_congr_left fun k hk => by rw [if_pos (List.mem_range.1 hk)]
  · simp
def Grid (w : World) (lo : Option Addr) (n cm m : Nat) (F : Nat → Nat → Int) : Prop := ∃ A C, Sls w lo n cm A (fun _ => m) C ∧ ∀ k, k < n → Sl w (A k) m (C k) (F k)
theorem Grid.keep {w w' : World} {lo : Option Addr} {n cm m : Nat} {F : Nat → Nat → Int} (h : Grid w lo n cm m F) (b : Below w.heap.size w w') : Grid w' lo n cm m F := by
  obtain ⟨A, C, h1, h2⟩ := h
  exact ⟨A, C, h1.keep b, fun k hk => (h2 k hk).keep b⟩
theorem Grid.congr {w : World} {lo : Option Addr} {n cm m : Nat} {F G : Nat → Nat → Int} (h : Grid w lo n cm m F) (e : ∀ i j, i < n → j < m → F i j = G i j) : Grid w lo n cm m G := by
  obtain ⟨A, C, h1, h2⟩ := h
  exact ⟨A, C, h1, fun k hk => (h2 k hk).congr fun j hj => e k j hk hj⟩
structure Lst (B : Nat) (w0 w : World) (v : Value) (n m : Nat) (F : Nat → Nat → Int) : Prop where
  row : ∃ S, w.ownsRow B 22 1 v n (svals n S) ∧ ∀ j, j < n → ∃ a c, S j = .slice a m c ∧ Sl w a m c (F j) ∧ ∀ x, a = some x → v.ownBlock ≠ some x.block
  below : Below B w0 w
  base : B ≤ w.heap.size
theorem Lst.nil {B : Nat} {w0 w : World} (h : Below B w0 w) (hB : B ≤ w.heap.size) (m : Nat) (F : Nat → Nat → Int) : Lst B w0 w (.slice none 0 0) 0 m F := ⟨⟨fun _ => undef, World.ownsRow_nil _ _ _ _, fun j hj => by omega⟩, h, hB⟩
theorem Lst.keep {B : Nat} {w0 w w' : World} {v : Value} {n m : Nat} {F : Nat → Nat → Int} (h : Lst B w0 w v n m F) (b : Below w.heap.size w w') : Lst B w0 w' v n m F := by
  obtain ⟨S, h1, h2⟩ := h.row
  refine ⟨⟨S, row_keep h1 b, fun j hj => ?_⟩, h.below.trans (b.mono h.base), Nat.le_trans h.base b.size⟩
  obtain ⟨a, c, e1, e2, e3⟩ := h2 j hj
  exact ⟨a, c, e1, e2.keep b, e3⟩
theorem Lst.apart {B : Nat} {w0 w : World} {v : Value} {n m : Nat} {F : Nat → Nat → Int} (h : Lst B w0 w v n m F) {B' : Nat} (hB : w.heap.size ≤ B') {ao : Option Addr} (hf : Fresh B' ao) : ∀ x, ao = some x → v.ownBlock ≠ some x.block := by
  intro x hx e
  obtain ⟨S, h1, _⟩ := h.row
  have h3 := (h1.lt _ e).2
  have h4 := hf x hx
  omega
theorem Lst.grid {B : Nat} {w0 w : World} {v : Value} {n m : Nat} {F : Nat → Nat → Int} (h : Lst B w0 w v n m F) : ∃ lo cm, v = .slice lo n cm ∧ Grid w lo n cm m F := by
  obtain ⟨S, ⟨h1, h2⟩, h3⟩ := h.row
  rcases h2 with ⟨rfl, rfl⟩ | ⟨g, cap, cur, rfl, hb, hg, hn, hc, hs, ht⟩
  · exact ⟨none, 0, rfl, fun _ => none, fun _ => 0, ⟨Nat.le_refl _, by omega, fun j hj => by omega⟩, fun k hk => by omega⟩
  · refine ⟨_, _, rfl, fun k => match S k with | .slice a _ _ => a | _ => none, fun k => match S k with | .slice _ _ c => c | _ => 0, ⟨hn, hc, fun k hk => ⟨_, rfl, ?_⟩⟩, fun k hk => ?_⟩
    · obtain ⟨a, c, e1, e2, e3⟩ := h3 k hk
      have e := svals_at (S := S) hk
      rw [← ht] at e
      have e4 : cur[k]? = some (S k) := by
        rw [List.getElem?_take] at e
        split at e
        · simpa using e
        · cases e
      rw [Addr.add_lit, Nat.zero_add]
      simp only [e1] at e4 ⊢
      simp [World.cell?, hg, e4]
    · obtain ⟨a, c, e1, e2, e3⟩ := h3 k hk
      simp only [e1]
      exact e2
theorem Sl.grown {w w' : World} {ao : Option Addr} {n ca : Nat} {z : Nat → Int} {row : Option Nat} (h : Sl w ao n ca z) (g : w.grownBy w' row) (hne : ∀ x, ao = some x → row ≠ some x.block) : Sl w' ao n ca z :=
  ⟨h.le, h.cap, fun k hk => by
    obtain ⟨x, hx, hc⟩ := h.at' k hk
    refine ⟨x, hx, ?_⟩
    have hlt := World.block_lt_of_cell? w _ hc
    have hb : (x.add k).block = x.block := by unfold Addr.add; split <;> rfl
    have e := g.block (x.add k).block hlt (by rw [hb]; exact fun e => hne x hx e.symm)
    rw [World.cell?_of_block e]
    exact hc⟩
theorem wpList_pushS {ops : Array Oper} {rest : List Oper} {o : Oper} {a : Act} {Q : Exit → Act → World → Prop} {wr : World} (hgd : o.guard = none) (s x : Operand)
  (ho : o.op = .call { callee := .builtin .append, args := #[s, x], argTypes := #[23, 23] }) (B : Nat) (w0 : World) (v : Value) (n m : Nat) (F : Nat → Nat → Int) (hs : a.eval s = v) (hL : Lst B w0 wr v n m F) (hm : 0 < m) (hl : n ≤ 2000000)
  (ra : Option Addr) (rc : Nat) (hr : Sl wr ra m rc (F n)) (hap : ∀ x, ra = some x → v.ownBlock ≠ some x.block)
  (hx : a.eval x = .slice (some ⟨wr.heap.size, 0, none⟩) 1 1)
  (h : ∀ v' w', Lst B w0 w' v' (n + 1) m F → wpList Tryz.prog ops Q rest (a.put o.dst v') w') : wpList Tryz.prog ops Q (o :: rest) a (wr.alloc (.cells #[.slice ra m rc] 22)) := by
 obtain ⟨i0, hi, hz0, hz1, hz2⟩ := info_parts infoSl
 obtain ⟨S, h1, h2⟩ := hL.row
 refine wpList_append_lies _ hgd s x 23 ho B 22 i0 (.slice none 0 0) 1 24 Tryz.underlying23 hi hz0 hz1 hz2 rfl (by decide) v n (svals n S) hs (h1.alloc _) ⟨wr.heap.size, 0, none⟩ 1 1 [.slice ra m rc] hx rfl (cell_one_new _ _ _) (by intro u hu; simp at hu; subst hu; rfl) (by omega) (by unfold maxLen; omega) (by omega) (by have := hL.base; simp; omega) _ rfl ?_
 intro g cap w' o1 o2 o3 o4
 rw [svals_push] at o1
 refine h _ w' ⟨⟨_, o1, fun j hj => ?_⟩, ?_, Nat.le_trans (by have := hL.base; simp; omega) o2.size⟩
 ·have hg : ∀ b, b < wr.heap.size → v.ownBlock ≠ some b → g ≠ b := fun b hb e1 e2 => by
   rcases o3 with o3 | o3
   ·exact e1 (by rw [o3, e2])
   ·simp at o3; omega
  have hblk : ∀ {ao : Option Addr} {ca : Nat} {z : Nat → Int}, Sl wr ao m ca z → (∀ x, ao = some x → v.ownBlock ≠ some x.block) → ∃ co, ∃ cc, Value.slice ao m ca = .slice co m cc ∧ Sl w' co m cc z ∧ ∀ x, co = some x → Value.ownBlock (.slice (some ⟨g, 0, none⟩) (n + 1) cap) ≠ some x.block := by
   intro ao ca z hsl hne
   refine ⟨ao, ca, rfl, Sl.grown (hsl.keep (below_al (Below.refl _ _) _)) o2 hne, fun x hx e => ?_⟩
   have e3 : g = x.block := by simpa [Value.ownBlock] using e
   obtain ⟨y, hy, hc⟩ := hsl.at' 0 hm
   rw [hx] at hy
   cases hy
   have hlt := World.block_lt_of_cell? wr _ hc
   have hb : (x.add 0).block = x.block := by unfold Addr.add; split <;> rfl
   exact hg x.block (by omega) (hne x hx) e3
  by_cases hjn : j < n
  ·obtain ⟨ao, ca, e1, e2, e3⟩ := h2 j hjn
   simp only [if_pos hjn, e1]
   exact hblk e2 e3
  ·obtain rfl : j = n := by omega
   simp only [if_neg hjn]
   exact hblk hr hap
 ·refine (hL.below.alloc hL.base _).grown o2 (by have := hL.base; simp; omega) ?_
  intro k hk
  exact (h1.lt k hk).1
end Mt
set_option maxRecDepth 10000 in
set_option maxHeartbeats 1000000 in
theorem matOf_by (v : Value) (r c : Int) (z : Nat → Int) (w : World) (h : ∀ W, Below w.heap.size w W → Calls Tryz.prog 61 #[v] W fun e w' => e = .returned (.tuple #[.agg (mvals r c z).toArray, .nilIface]) ∧ Below W.heap.size W w') :
  Calls Tryz.prog 22 #[v] w fun e w' => e = .returned (.agg (mvals r c z).toArray) ∧ Below w.heap.size w w' := by
 have rA := mrow_new w 0 0 (fun _ => 0)
 have hB := below_al (Below.refl _ w) (.cells (mvals 0 0 (fun _ => 0)).toArray 41)
 obtain ⟨W, hW⟩ : ∃ W, W = w.alloc (.cells (mvals 0 0 (fun _ => 0)).toArray 41) := ⟨_, rfl⟩
 rw [← hW] at rA hB
 have HW := Hid.mkV hW
 have HN := Hid.mkV (h W hB)
 clear hW h
 go_enter Tryz.func22, Tryz.ntmps22
 go_wp2_with fail
 rw [zeroM, ← HW.out]
 refine HN.out.mono ?_
 rintro e w1 ⟨rfl, k1⟩
 have r1 := rA.keep k1
 have rR := r1.alloc (.cells (mvals 0 0 (fun _ => 0)).toArray 41)
 have rN := mrow_new w1 0 0 (fun _ => 0)
 have B1 := below_tr hB k1
 have B2 := below_al B1 (.cells (mvals 0 0 (fun _ => 0)).toArray 41)
 have hne : w.heap.size ≠ w1.heap.size := by have := r1.lt; omega
 go_wp2_with (first
  | (rw [zeroM]; refine wpList_storeM rfl _ _ (by rfl) _ _ _ _ _ _ _ (by rfl) (by rfl) (by with_reducible exact rN) ?_)
  | (refine wpList_loadM (by rfl) _ (by rfl) _ _ _ _ (by rfl) (by with_reducible exact rN.row _ _ _) ?_)
  | (refine wpList_storeM rfl _ _ (by rfl) _ _ _ _ _ _ _ (by rfl) (by rfl) (by with_reducible exact rR.rowOther hne _) ?_)
  | fail)
 exact bodyPost_ret (results_M1 Tryz.results22 _ _ w.heap.size _ _ _ rfl ((rR.rowOther hne _).row _ _ _)) rfl ⟨rfl, below_row (below_row B2 B1.size _) (Nat.le_refl _) _⟩
set_option maxRecDepth 10000 in
set_option maxHeartbeats 1000000 in
theorem matOf_no (v : Value) (w : World) (h : ∀ W, Below w.heap.size w W → Calls Tryz.prog 61 #[v] W fun e w' => e = .returned (.tuple #[.agg (mvals 0 0 (fun _ => 0)).toArray, .iface 70 (.int .i64 1)]) ∧ Below W.heap.size W w') :
  Calls Tryz.prog 22 #[v] w fun e w' => e = .returned (.agg (mvals 0 0 (fun _ => 0)).toArray) ∧ Below w.heap.size w w' := by
 have rA := mrow_new w 0 0 (fun _ => 0)
 have hB := below_al (Below.refl _ w) (.cells (mvals 0 0 (fun _ => 0)).toArray 41)
 obtain ⟨W, hW⟩ : ∃ W, W = w.alloc (.cells (mvals 0 0 (fun _ => 0)).toArray 41) := ⟨_, rfl⟩
 rw [← hW] at rA hB
 have HW := Hid.mkV hW
 have HN := Hid.mkV (h W hB)
 clear hW h
 go_enter Tryz.func22, Tryz.ntmps22
 go_wp2_with fail
 rw [zeroM, ← HW.out]
 refine HN.out.mono ?_
 rintro e w1 ⟨rfl, k1⟩
 have r1 := rA.keep k1
 have rR := r1.alloc (.cells (mvals 0 0 (fun _ => 0)).toArray 41)
 have rN := mrow_new w1 0 0 (fun _ => 0)
 have B1 := below_tr hB k1
 have B2 := below_al B1 (.cells (mvals 0 0 (fun _ => 0)).toArray 41)
 have hne : w.heap.size ≠ w1.heap.size := by have := r1.lt; omega
 go_wp2_with (first
  | (rw [zeroM]; refine wpList_storeM rfl _ _ (by rfl) _ _ _ _ _ _ _ (by rfl) (by rfl) (by with_reducible exact rN) ?_)
  | (refine wpList_build0 rfl (by rfl) ?_)
  | (refine wpList_storeM rfl _ _ (by rfl) _ _ _ _ _ _ _ (by rfl) (by rfl) (by with_reducible exact rR.rowOther hne _) ?_)
  | fail)
 exact bodyPost_ret (results_M1 Tryz.results22 _ _ w.heap.size _ _ _ rfl ((rR.rowOther hne _).row _ _ _)) rfl ⟨rfl, below_row (below_row B2 B1.size _) (Nat.le_refl _) _⟩
end Go.Proofs.YtdgcnaijndocnaaGreatDoor
namespace Go.Proofs.YtdgcnaijndocnaaGreatDoor
open Go.RowKit Vc Mt St Ld
namespace Ls
section
variable {ops : Array Oper} {rest : List Oper} {op : Oper} {ac : Act} {Q : Exit → Act → World → Prop} {wr : World}
end
end Ls
end Go.Proofs.YtdgcnaijndocnaaGreatDoor
namespace Go.Proofs.YtdgcnaijndocnaaGreatDoor
open Go.RowKit Vc Mt
namespace Mt
variable {B : Nat} {w0 w w' : World} {L cm n m : Nat} {G : Nat → Nat} {F : Nat → Nat → Int}
end Mt
end Go.Proofs.YtdgcnaijndocnaaGreatDoor
namespace Go.Proofs.YtdgcnaijndocnaaGreatDoor
open Go.RowKit Vc Mt
namespace Mt
section
variable {B : Nat} {w0 w w' : World} {L cm n m : Nat} {G C : Nat → Nat} {F : Nat → Nat → Int}
end
end Mt
end Go.Proofs.YtdgcnaijndocnaaGreatDoor
namespace Go.Proofs.YtdgcnaijndocnaaGreatDoor
open Go.RowKit Vc Mt St Ld
namespace Ls
section
variable {ops : Array Oper} {rest : List Oper} {op : Oper} {ac : Act} {Q : Exit → Act → World → Prop} {wr : World}
end
end Ls
end Go.Proofs.YtdgcnaijndocnaaGreatDoor
