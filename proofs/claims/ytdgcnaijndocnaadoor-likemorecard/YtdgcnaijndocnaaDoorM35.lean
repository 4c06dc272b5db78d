/-
  The document's answer of layer 13 (radomeref13): May, add, around.
-/
import Derived.Test.YtdgcnaijndocnaaDoorM33
import Derived.Test.YtdgcnaijndocnaaDoorM4
import Derived.Test.YtdgcnaijndocnaaDoorM5
import Derived.Test.YtdgcnaijndocnaaDoorM34
import Derived.Test.YtdgcnaijndocnaaDoorLdR
import Derived.Test.YtdgcnaijndocnaaDoorM6
import Derived.Deep.RegionWith
import Derived.Test.YtdgcnaijndocnaaDoorM22
import Derived.Test.YtdgcnaijndocnaaDoorRegM
import Derived.Test.YtdgcnaijndocnaaDoorM21
import Derived.Deep.CutRange
set_option linter.unusedSimpArgs false
set_option linter.unusedVariables false
namespace Go.Proofs.YtdgcnaijndocnaaDoor
open Go.RowKit Vc St Mt Dt Pr
attribute [local go_sem ↓] Go.wp_at_zero Go.wp_at_succ

namespace Ud
end Ud
open Ud

end Go.Proofs.YtdgcnaijndocnaaDoor

/-
  The document's factors, row by row: two lists that are appended to; factorsOf of the laws.
-/
set_option linter.unusedSimpArgs false
set_option linter.unusedVariables false
namespace Go.Proofs.YtdgcnaijndocnaaDoor
open Go.RowKit Vc Mt St Qn Dt Ld

namespace Ld
theorem elS : Vg.El 107 22 24 := ⟨Tryd.underlying107, ⟨_, infoSl, rfl⟩⟩
theorem elI : Vg.El 22 2 8 := ⟨Tryd.underlying22, ⟨_, infoI64, rfl⟩⟩
theorem but_grown {P : Nat → Prop} {w w' : World} {row : Option Nat} (g : w.grownBy w' row) (h : ∀ b, row = some b → P b) : But P w w' :=
  ⟨g.os, g.tape, g.output, g.size, fun k hk hp => g.block k hk (fun e => hp (h k e.symm))⟩

/-- A list of i rows of n numbers each, and one of i numbers; they and the rows lie from block c on. -/
structure FTwo (B : Nat) (w0 w : World) (o : Nat) (vL vD : Value) (i n : Nat) (L : Nat → Nat → Int) (d : Nat → Int) : Prop where
  two : ∃ S, Vg.Two B w0 w 22 vL i (svals i S) 2 vD i (vals i d) ∧ ∀ k, k < i → ∃ a c, S k = .slice a n c ∧ Sl w a n c (L k) ∧ ∀ x, a = some x → vL.ownBlock ≠ some x.block ∧ vD.ownBlock ≠ some x.block ∧ o ≤ x.block
  gl : ∀ q, vL.ownBlock = some q → o ≤ q
  gd : ∀ q, vD.ownBlock = some q → o ≤ q
  le : o ≤ w.heap.size

theorem FTwo.nil {B : Nat} {w0 w : World} {o n : Nat} (h : Below B w0 w) (hB : B ≤ w.heap.size) (ho : o ≤ w.heap.size) (L : Nat → Nat → Int) (d : Nat → Int) : FTwo B w0 w o (.slice none 0 0) (.slice none 0 0) 0 n L d :=
  ⟨⟨fun _ => undef, Vg.Two.nil h hB _ _, fun k hk => by omega⟩, fun q e => (by cases e), fun q e => (by cases e), ho⟩
theorem FTwo.keep {B : Nat} {w0 w w' : World} {o i n : Nat} {vL vD : Value} {L : Nat → Nat → Int} {d : Nat → Int} (h : FTwo B w0 w o vL vD i n L d) (b : Below w.heap.size w w') : FTwo B w0 w' o vL vD i n L d := by
  obtain ⟨S, h1, h2⟩ := h.two
  refine ⟨⟨S, h1.keep b, fun k hk => ?_⟩, h.gl, h.gd, Nat.le_trans h.le b.size⟩
  obtain ⟨a, c, e1, e2, e3⟩ := h2 k hk
  exact ⟨a, c, e1, e2.keep b, e3⟩
theorem FTwo.below {B : Nat} {w0 w : World} {o i n : Nat} {vL vD : Value} {L : Nat → Nat → Int} {d : Nat → Int} (h : FTwo B w0 w o vL vD i n L d) : Below B w0 w := by obtain ⟨S, h1, _⟩ := h.two; exact h1.below
theorem FTwo.base {B : Nat} {w0 w : World} {o i n : Nat} {vL vD : Value} {L : Nat → Nat → Int} {d : Nat → Int} (h : FTwo B w0 w o vL vD i n L d) : B ≤ w.heap.size := by obtain ⟨S, h1, _⟩ := h.two; exact h1.base
theorem rowBut {P : Nat → Prop} {a b : World} {B : Nat} {t : TypeId} {s : Nat} {v : Value} {n : Nat} {xs : List Value} (h : a.ownsRow B t s v n xs) (k : But P a b) (hx : ∀ g, v.ownBlock = some g → ¬ P g) : b.ownsRow B t s v n xs := by
  obtain ⟨h1, h2⟩ := h
  refine ⟨h1, ?_⟩
  rcases h2 with h2 | ⟨g, cap, cur, rfl, hb, hg, hn, hc, hs, ht⟩
  · exact Or.inl h2
  · refine Or.inr ⟨g, cap, cur, rfl, hb, ?_, hn, hc, hs, ht⟩
    have hlt : g < a.heap.size := by
      rcases Nat.lt_or_ge g a.heap.size with q | q
      · exact q
      · rw [Array.getElem?_eq_none q] at hg; cases hg
    exact (k.block g hlt (hx g rfl)).trans hg
/-- A store into a block ahead of theirs. -/
theorem FTwo.put {B : Nat} {w0 w w' : World} {o i n g : Nat} {vL vD : Value} {L : Nat → Nat → Int} {d : Nat → Int} (h : FTwo B w0 w o vL vD i n L d) (hg : g < o) (hB : B ≤ g) (b : But (· = g) w w') : FTwo B w0 w' o vL vD i n L d := by
  obtain ⟨S, h1, h2⟩ := h.two
  refine ⟨⟨S, ⟨rowBut h1.x b (fun q e e2 => by have := h.gl q e; omega), rowBut h1.y b (fun q e e2 => by have := h.gd q e; omega), h1.apart, b.below h1.below h1.base (fun k hk => by rw [hk]; exact hB), Nat.le_trans h1.base b.size⟩, fun k hk => ?_⟩, h.gl, h.gd, Nat.le_trans h.le b.size⟩
  obtain ⟨a, c, e1, e2, e3⟩ := h2 k hk
  exact ⟨a, c, e1, slBut e2 b (fun x hx => by have := (e3 x hx).2.2; omega), e3⟩
/-- One more of each. -/
theorem ftwo_push {B : Nat} {w0 wo w2 : World} {o i n : Nat} {vL vD v1 v2 : Value} {L : Nat → Nat → Int} {d : Nat → Int} {S : Nat → Value} (hrows : ∀ k, k < i → ∃ a c, S k = .slice a n c ∧ Sl wo a n c (L k) ∧ ∀ x, a = some x → vL.ownBlock ≠ some x.block ∧ vD.ownBlock ≠ some x.block ∧ o ≤ x.block)
    (b : But (fun q => vL.ownBlock = some q ∨ vD.ownBlock = some q) wo w2) {ra : Option Addr} {rc : Nat} (t2 : Vg.Two B w0 w2 22 v1 (i + 1) (svals i S ++ [.slice ra n rc]) 2 v2 (i + 1) (vals i d ++ [.int .i64 (d i)]))
    (n1 : ∀ q, q < wo.heap.size → vL.ownBlock ≠ some q → v1.ownBlock ≠ some q) (n2 : ∀ q, q < wo.heap.size → vD.ownBlock ≠ some q → v2.ownBlock ≠ some q) (hn : 0 < n) (hr : Sl wo ra n rc (L i)) (hra : ∀ x, ra = some x → vL.ownBlock ≠ some x.block ∧ vD.ownBlock ≠ some x.block ∧ o ≤ x.block)
    (ho : o ≤ wo.heap.size) (gl : ∀ q, vL.ownBlock = some q → o ≤ q) (gd : ∀ q, vD.ownBlock = some q → o ≤ q) : FTwo B w0 w2 o v1 v2 (i + 1) n L d := by
  rw [svals_push, vals_push] at t2
  have key : ∀ {a : Option Addr} {c : Nat} {z : Nat → Int}, Sl wo a n c z → (∀ x, a = some x → vL.ownBlock ≠ some x.block ∧ vD.ownBlock ≠ some x.block ∧ o ≤ x.block) → Sl w2 a n c z ∧ ∀ x, a = some x → v1.ownBlock ≠ some x.block ∧ v2.ownBlock ≠ some x.block ∧ o ≤ x.block := by
    intro a c z hs hx
    refine ⟨slBut hs b (fun x e => by have := hx x e; rintro (q | q); exact this.1 q; exact this.2.1 q), fun x e => ?_⟩
    obtain ⟨y, hy, hc⟩ := hs.at' 0 hn
    rw [e] at hy
    cases hy
    have hlt := World.block_lt_of_cell? wo _ hc
    rw [addr_block] at hlt
    exact ⟨n1 _ hlt (hx x e).1, n2 _ hlt (hx x e).2.1, (hx x e).2.2⟩
  have up : ∀ {v v' : Value}, (∀ q, v.ownBlock = some q → o ≤ q) → (∀ q, q < wo.heap.size → v.ownBlock ≠ some q → v'.ownBlock ≠ some q) → ∀ q, v'.ownBlock = some q → o ≤ q := fun h1 h2 q e => by
    rcases Nat.lt_or_ge q o with c | c
    · exact absurd e (h2 q (by omega) (fun e2 => by have := h1 q e2; omega))
    · exact c
  refine ⟨⟨_, t2, fun k hk => ?_⟩, up gl n1, up gd n2, Nat.le_trans ho b.size⟩
  by_cases hki : k < i
  · obtain ⟨a, c, e1, e2, e3⟩ := hrows k hki
    obtain ⟨e4, e5⟩ := key e2 e3
    exact ⟨a, c, by simp only [if_pos hki]; exact e1, e4, e5⟩
  · obtain rfl : k = i := by omega
    obtain ⟨e4, e5⟩ := key hr hra
    exact ⟨ra, rc, by simp only [if_neg hki], e4, e5⟩
theorem FTwo.grid {B : Nat} {w0 w : World} {o i n : Nat} {vL vD : Value} {L : Nat → Nat → Int} {d : Nat → Int} (h : FTwo B w0 w o vL vD i n L d) : ∃ lo cl do' cd, vL = .slice lo i cl ∧ vD = .slice do' i cd ∧ Grid w lo i cl n L ∧ Sl w do' i cd d := by
  obtain ⟨S, h1, h2⟩ := h.two
  have hL : Lst B w0 w vL i n L := ⟨⟨S, h1.x, fun k hk => by obtain ⟨a, c, e1, e2, e3⟩ := h2 k hk; exact ⟨a, c, e1, e2, fun x hx => (e3 x hx).1⟩⟩, h1.below, h1.base⟩
  have hD : Own B w0 w vD i d := ⟨h1.y, h1.below, h1.base⟩
  obtain ⟨lo, cl, rfl, hg⟩ := hL.grid
  obtain ⟨do', cd, rfl, hs⟩ := hD.sl
  exact ⟨lo, cl, do', cd, rfl, rfl, hg, hs⟩
/-- What is new lies in no block of theirs. -/
theorem FTwo.apart {B : Nat} {w0 w : World} {o i n : Nat} {vL vD : Value} {L : Nat → Nat → Int} {d : Nat → Int} (h : FTwo B w0 w o vL vD i n L d) {ra : Option Addr} (hf : Fresh w.heap.size ra) : ∀ x, ra = some x → vL.ownBlock ≠ some x.block ∧ vD.ownBlock ≠ some x.block ∧ o ≤ x.block := by
  intro x hx
  have h3 := hf x hx
  have h4 := h.le
  obtain ⟨S, h1, _⟩ := h.two
  exact ⟨fun e => by have := (h1.x.lt _ e).2; omega, fun e => by have := (h1.y.lt _ e).2; omega, by omega⟩
theorem own_form {w : World} {B : Nat} {t : TypeId} {s : Nat} {v : Value} {n : Nat} {xs : List Value} (h : w.ownsRow B t s v n xs) : ∃ ao c, v = .slice ao n c := by
  obtain ⟨_, h2⟩ := h
  rcases h2 with ⟨rfl, rfl⟩ | ⟨g, cap, cur, rfl, _⟩
  · exact ⟨_, _, rfl⟩
  · exact ⟨_, _, rfl⟩
theorem but_row (w : World) (g : Nat) (cs : Array Value) : But (· = g) w (w.setRow g cs) := ⟨rfl, rfl, rfl, by simp, fun k hk hn => setRow_other w g k cs hn⟩
theorem zeroG : (#[.slice none 0 0, .slice none 0 0] : Array Value) = ([.slice none 0 0, .slice none 0 0] : List Value).toArray := rfl
end Ld

end Go.Proofs.YtdgcnaijndocnaaDoor

/-
  States of package predict: the steps: matrix, moved, spread.
-/
set_option linter.unusedSimpArgs false
set_option linter.unusedVariables false
namespace Go.Proofs.YtdgcnaijndocnaaDoor
open Go.RowKit Vc St Mt Cm Ld Pd Pr Qn Dt
attribute [local go_sem ↓] Go.wp_at_zero Go.wp_at_succ

namespace Pd
theorem splice6 (X Y : Nat → Int) : splice (vals 6 X) 0 (vals 6 Y) = vals 6 Y := splice_all 6 X Y
end Pd

end Go.Proofs.YtdgcnaijndocnaaDoor

/-
  Package update: what it is made of: bounds, places, closures that tell a matrix's numbers, the steps' bool.
-/
set_option linter.unusedSimpArgs false
set_option linter.unusedVariables false
namespace Go.Proofs.YtdgcnaijndocnaaDoor
open Go.RowKit Vc St Mt Pr Qn Ud
attribute [local go_sem ↓] Go.wp_at_zero Go.wp_at_succ

namespace Up
theorem is2 : Is 43 2 := ⟨by kernel_rfl, ⟨_, Tryd.underlying43, rfl⟩⟩
theorem g2_mz (a b c : Int) : mz 2 2 (fun i => if i = 0 then v2 a b else v2 b c) = mz 2 2 (g2 a b c) := by
  funext k; exact mz_congr (fun i j hi hj => g2_rows a b c i j hi hj) k
end Up
open Up

namespace Up
def five (x y a b c : Int) : Nat → Int
  | 0 => x
  | 1 => y
  | 2 => a
  | 3 => b
  | _ => c
theorem arr_five (x y a b c : Int) : #[.int .i64 x, .int .i64 y, .int .i64 a, .int .i64 b, .int .i64 c] = (vals 5 (five x y a b c)).toArray := rfl
theorem five_in (x y a b c : Int) : (∀ k, k < 5 → InV (five x y a b c k)) ↔ InV x ∧ InV y ∧ InV a ∧ InV b ∧ InV c :=
  ⟨fun h => ⟨h 0 (by omega), h 1 (by omega), h 2 (by omega), h 3 (by omega), h 4 (by omega)⟩, fun h k hk => by
    match k, hk with
    | 0, _ => exact h.1
    | 1, _ => exact h.2.1
    | 2, _ => exact h.2.2.1
    | 3, _ => exact h.2.2.2.1
    | 4, _ => exact h.2.2.2.2⟩
end Up

end Go.Proofs.YtdgcnaijndocnaaDoor

/-
  Package update: the steps: number, numbers, matrix; away, spreadOfBoth, between; a diagonal that may be.
-/
set_option linter.unusedSimpArgs false
set_option linter.unusedVariables false
namespace Go.Proofs.YtdgcnaijndocnaaDoor
open Go.RowKit Vc St Mt Pr Qn Ud Up Ld
attribute [local go_sem ↓] Go.wp_at_zero Go.wp_at_succ

namespace Up
theorem built2 (x y : Int) : Tryd.prog.built 43 [(0, .int .i64 x), (1, .int .i64 y)] = some (vals 2 (v2 x y)).toArray := by kernel_rfl
theorem yields2 {ops : Array Oper} {S : World → Prop} {o : Oper} {a : Act} (hw : Region.wanted o (yielded ops a.tmps) = true) (p q : Operand) (ho : o.op = .build 43 #[(0, p), (1, q)])
    (x y : Int) (hx : a.eval p = .int .i64 x) (hy : a.eval q = .int .i64 y) : YieldsIf Tryd.prog ops S o (.agg (vals 2 (v2 x y)).toArray) a :=
  .inl ⟨hw, fun w _ => by
    unfold execOp
    have em : ((#[(0, p), (1, q)] : Array (Nat × Operand)).map fun (i, x) => (i, a.eval x)).toList = [(0, .int .i64 x), (1, .int .i64 y)] := by simp [hx, hy]
    simp only [ho, Sem.run_bind, run_build w 43 _ _ (by rw [em]; exact built2 x y), Result.andThen_ok, Sem.run_pure]⟩
theorem zero2 : (#[.int .i64 0, .int .i64 0] : Array Value) = (vals 2 (fun _ => 0)).toArray := by kernel_rfl
/-- Whether V is too great. -/
def vo (X : Nat → Int) (x y : Int) : Bool := great (x - X 0) || great (y - X 3)
end Up

namespace Up
/-- Whether the matrix is too great. -/
def mo (P : Nat → Nat → Int) (a b c : Int) : Bool := great (P 0 0 + a) || great (P 0 3 + c) || great (P 3 3 + b)
theorem og_is (X : Nat → Int) (P : Nat → Nat → Int) (x y a b c : Int) : og X P x y a b c = (mo P a b c || vo X x y) := by
  unfold og mo vo
  cases great (P 0 0 + a) <;> cases great (P 0 3 + c) <;> cases great (P 3 3 + b) <;> cases great (x - X 0) <;> rfl
end Up

end Go.Proofs.YtdgcnaijndocnaaDoor

/-
  Package update: between, notBelowNought, gain, kept, moved.
-/
set_option linter.unusedSimpArgs false
set_option linter.unusedVariables false
namespace Go.Proofs.YtdgcnaijndocnaaDoor
open Go.RowKit Vc St Mt Pr Qn Ud Up Ld
attribute [local go_sem ↓] Go.wp_at_zero Go.wp_at_succ

namespace Up
end Up

namespace Up
/-- The first k numbers of the diagonal are not below 0. -/
def nq (z : Nat → Int) (k : Nat) : Nat → Int := fun q => if q % 7 = 0 ∧ q < 7 * k then max (z q) 0 else z q
theorem nq_zero (z : Nat → Int) (q : Nat) : z q = nq z 0 q := by unfold nq; rw [if_neg (by omega)]
theorem nq_at (z : Nat → Int) (k : Nat) : nq z k (7 * k) = z (7 * k) := by unfold nq; rw [if_neg (by omega)]
theorem nq_step (z : Nat → Int) (k q : Nat) : (if q = 7 * k then max (z (7 * k)) 0 else nq z k q) = nq z (k + 1) q := by
  unfold nq
  by_cases e : q = 7 * k
  · subst e; rw [if_pos rfl, if_pos (by omega)]
  · rw [if_neg e]
    by_cases c : q % 7 = 0 ∧ q < 7 * k
    · rw [if_pos c, if_pos (by omega)]
    · rw [if_neg c, if_neg (by omega)]
/-- No number of the diagonal is below 0. -/
def nnF (F : Nat → Nat → Int) : Nat → Nat → Int := fun i j => if i = j ∧ F i j < 0 then 0 else F i j
theorem nq_end (F : Nat → Nat → Int) : mvals 6 6 (nq (mz 6 6 F) 6) = mvals 6 6 (mz 6 6 (nnF F)) := by
  refine mvals_congr fun k hk => ?_
  have e := mz_at (n := 6) (c := 6) (F := F) (i := k / 6) (j := k % 6) (by omega) (by omega)
  have e' := mz_at (n := 6) (c := 6) (F := nnF F) (i := k / 6) (j := k % 6) (by omega) (by omega)
  rw [show k / 6 * 6 + k % 6 = k by omega] at e e'
  unfold nq
  rw [e, e']
  unfold nnF
  by_cases c : k % 7 = 0
  · have h : k / 6 = k % 6 := by omega
    rw [if_pos ⟨c, by omega⟩]
    by_cases d : F (k / 6) (k % 6) < 0
    · rw [if_pos ⟨h, d⟩]; omega
    · rw [if_neg (fun q => d q.2)]; omega
  · have h : ¬ k / 6 = k % 6 := by omega
    rw [if_neg (fun q => c q.1), if_neg (fun q => h q.1)]
end Up

namespace Up
theorem run_tail36 (b p : Nat) (w : World) (h1 : p < 36) :
    (Instr.sliceAt 44 (.pointer (some ⟨b, 2, none⟩)) (some (.int .i64 (p : Int))) none none).run Tryd.prog w = .ok (.slice (some ⟨b, p + 2, none⟩) (36 - p) (36 - p)) w := by
  rw [run_sliceAt_array_l w 44 _ Tryd.arrM .i64 _ (by omega) (by rw [Tryd.lenM]; omega), Tryd.elemM, run_size8, Tryd.lenM]
  simp only [Result.andThen_ok, slicedAt, Int.toNat_natCast, Nat.mul_one]
  rw [if_neg (by omega), Addr.add_lit, Nat.add_comm 2 p]
/-- K's rows, and whether one was too great. -/
def gK (P L : Nat → Nat → Int) (d : Nat → Int) : Nat → Nat → Int := fun i => solV 2 L d (v2 (P i 0) (P i 3))
def gO (P L : Nat → Nat → Int) (d : Nat → Int) : Nat → Bool := fun i => solO 2 L d (v2 (P i 0) (P i 3))
theorem _root_.Go.Proofs.YtdgcnaijndocnaaDoor.Ld.But.low {s go : Nat} {a b c : World} (h : But (· = s) a b) (k : But (fun q => q = s ∨ go ≤ q) b c) (hg : a.heap.size ≤ go) : But (· = s) a c :=
  ⟨k.os.trans h.os, k.tape.trans h.tape, k.output.trans h.output, Nat.le_trans h.size k.size, fun i hi hp => (k.block i (Nat.lt_of_lt_of_le hi h.size) (fun q => by rcases q with q | q; exact hp q; omega)).trans (h.block i hi hp)⟩
theorem anyb_next (o : Bool) (g : Nat → Bool) (k : Nat) : (o || anyb g (k + 1)) = ((o || anyb g k) || g k) := by
  show (o || (anyb g k || g k)) = _
  rw [Bool.or_assoc]
end Up

end Go.Proofs.YtdgcnaijndocnaaDoor

/-
  Package update: kept, moved, spread.
-/
set_option linter.unusedSimpArgs false
set_option linter.unusedVariables false
namespace Go.Proofs.YtdgcnaijndocnaaDoor
open Go.RowKit Vc St Mt Pr Qn Ud Up Ld
attribute [local go_sem ↓] Go.wp_at_zero Go.wp_at_succ

namespace Up
theorem mz_div {F : Nat → Nat → Int} {q : Nat} (h : q < 36) : mz 6 6 F q = F (q / 6) (q % 6) := by
  have e := mz_at (n := 6) (c := 6) (F := F) (i := q / 6) (j := q % 6) (by omega) (by omega)
  rwa [show q / 6 * 6 + q % 6 = q by omega] at e
theorem run_row6 (b p q e : Nat) (w : World) (h1 : p < 36) (h2 : q = p + 6) (h3 : q ≤ 36) (h4 : e = p + 2) :
    (Instr.sliceAt 44 (.pointer (some ⟨b, 2, none⟩)) (some (.int .i64 (p : Int))) (some (.int .i64 (q : Int))) none).run Tryd.prog w = .ok (.slice (some ⟨b, e, none⟩) 6 (36 - p)) w := by
  rw [run_piece b p q w h1 (by omega) h3, h4, show q - p = 6 by omega]
end Up

namespace Up
theorem is6' : Is 45 6 := ⟨by kernel_rfl, ⟨_, Tryd.underlying45, rfl⟩⟩
theorem all2 (g : Nat) (w : World) : (Instr.sliceAt 43 (.pointer (some ⟨g, 0, none⟩)) none none none).run Tryd.prog w = .ok (.slice (some ⟨g, 0, none⟩) 2 2) w := by kernel_rfl
/-- The first k of the numbers X, else those of Y. -/
def pt (X Y : Nat → Int) (k : Nat) : Nat → Int := fun i => if i < k then X i else Y i
theorem pt_zero (X Y : Nat → Int) (i : Nat) : Y i = pt X Y 0 i := rfl
theorem pt_at (X Y : Nat → Int) (k : Nat) : pt X Y k k = Y k := by unfold pt; rw [if_neg (by omega)]
theorem pt_step (X Y : Nat → Int) (k i : Nat) : (if i = k then X k else pt X Y k i) = pt X Y (k + 1) i := by
  unfold pt
  by_cases e : i = k
  · subst e; rw [if_pos rfl, if_pos (by omega)]
  · rw [if_neg e]
    by_cases h : i < k
    · rw [if_pos h, if_pos (by omega)]
    · rw [if_neg h, if_neg (by omega)]
theorem pt_end (X Y : Nat → Int) {n i : Nat} (h : i < n) : pt X Y n i = X i := if_pos h
theorem zero6 : (#[.int .i64 0, .int .i64 0, .int .i64 0, .int .i64 0, .int .i64 0, .int .i64 0] : Array Value) = (vals 6 (fun _ => 0)).toArray := by kernel_rfl
end Up

end Go.Proofs.YtdgcnaijndocnaaDoor

/-
  Package update: spread, Far.
-/
set_option linter.unusedSimpArgs false
set_option linter.unusedVariables false
namespace Go.Proofs.YtdgcnaijndocnaaDoor
open Go.RowKit Vc St Mt Pr Qn Ud Up Ld
attribute [local go_sem ↓] Go.wp_at_zero Go.wp_at_succ

namespace Up
end Up

namespace Up
/-- A gap's numbers: V and the factors. -/
def gvals (V : Nat → Int) (n : Int) (z d : Nat → Int) : List Value := vals 2 V ++ fvals n z d
theorem gvals_len (V : Nat → Int) (n : Int) (z d : Nat → Int) : (gvals V n z d).length = 45 := by simp [gvals, vals_len, fvals_len]
theorem gvals_v {V : Nat → Int} {n : Int} {z d : Nat → Int} {k : Nat} (h : k < 2) : (gvals V n z d)[k]? = some (.int .i64 (V k)) := by
  unfold gvals
  rw [List.getElem?_append_left (by rw [vals_len]; exact h)]
  exact vals_at h
theorem gvals_f (V : Nat → Int) (n : Int) (z d : Nat → Int) (k : Nat) : (gvals V n z d)[k + 2]? = (fvals n z d)[k]? := by
  unfold gvals
  rw [List.getElem?_append_right (by rw [vals_len]; omega), vals_len, Nat.add_sub_cancel]
theorem one_gvals (V : Nat → Int) (n : Int) (z d : Nat → Int) : ∀ v ∈ gvals V n z d, v.oneCell' = true := by
  intro v hv
  rcases List.mem_append.1 hv with hv | hv
  · obtain ⟨k, _, rfl⟩ := List.mem_map.1 hv
    rfl
  · exact one_fvals _ _ _ v hv
theorem isG : Is 49 45 := ⟨by kernel_rfl, ⟨_, Tryd.underlying49, rfl⟩⟩
abbrev GRow (w : World) (g : Nat) (V : Nat → Int) (n : Int) (z d : Nat → Int) : Prop := CRow w g 49 (gvals V n z d)
theorem GRow.v {w : World} {g : Nat} {V : Nat → Int} {n : Int} {z d : Nat → Int} (h : GRow w g V n z d) {k o : Nat} (hk : k < 2) (ho : o = k) : w.cell? ⟨g, o, none⟩ = some (.int .i64 (V k)) := h.cell (gvals_v hk) ho
theorem GRow.sl {w : World} {g : Nat} {V : Nat → Int} {n : Int} {z d : Nat → Int} (h : GRow w g V n z d) : Sl w (some ⟨g, 0, none⟩) 2 2 V :=
  ⟨Nat.le_refl _, by omega, fun k hk => ⟨_, rfl, by rw [Addr.add_lit]; exact GRow.v h hk (by omega)⟩⟩
theorem GRow.rv {w : World} {g : Nat} {V : Nat → Int} {n : Int} {z d : Nat → Int} (h : GRow w g V n z d) : w.rangeAt g 0 (vals 2 V) := CRow.mid h (o := 0) fun j v hv => by
  have hj : j < 2 := by
    rcases Nat.lt_or_ge j 2 with k | k
    · exact k
    · rw [List.getElem?_eq_none (by rw [vals_len]; exact k)] at hv; cases hv
  rw [vals_at hj] at hv
  injection hv with hv
  rw [Nat.zero_add, gvals_v hj, hv]
theorem GRow.rf {w : World} {g : Nat} {V : Nat → Int} {n : Int} {z d : Nat → Int} (h : GRow w g V n z d) : w.rangeAt g 2 (fvals n z d) := CRow.mid h (o := 2) fun j v hv => by
  rw [Nat.add_comm, gvals_f]; exact hv
end Up

set_option maxRecDepth 10000 in
set_option maxHeartbeats 2000000 in
theorem ufar_by (V : Nat → Int) (n : Int) (z d : Nat → Int) (x : Int) (q : Bool) (f : Value) (w : World)
    (hF : ∀ g W, Sl W (some ⟨g, 0, none⟩) 2 2 V → Calls Tryd.prog 49 #[.agg (fvals n z d).toArray, .slice (some ⟨g, 0, none⟩) 2 2] W fun e w' => e = .returned (.tuple #[.int .i64 x, .bool q, f]) ∧ Below W.heap.size W w') :
    Calls Tryd.prog 31 #[.agg (gvals V n z d).toArray] w fun e w' => e = .returned (.tuple #[.int .i64 x, .bool q, f]) ∧ Below w.heap.size w w' := by
  have HF := Ud.hide hF
  have g0 := crow_new w 49 (gvals V n z d)
  have B0 := below_al (Below.refl _ w) (.cells (gvals V n z d).toArray 49)
  obtain ⟨W, hW⟩ : ∃ W, W = w.alloc (.cells (gvals V n z d).toArray 49) := ⟨_, rfl⟩
  rw [← hW] at g0 B0
  have HW := Ud.hide hW
  have al2 := fun W => all2 w.heap.size W
  have HS : Hid (∀ U, Below W.heap.size W U → GRow U w.heap.size V n z d) := fun U k => CRow.keep g0 k
  clear hW hF g0
  go_enter Tryd.func31, Tryd.ntmps31
  go_upto_region 1 with (first | (rw [← HW.out]) | fail)
  try rw [← HW.out]
  refine Ru.wp_region_U [] (fun w' => GRow w' w.heap.size V n z d) (by kernel_rfl) (HS.out _ (Vc.below_drew' _)) (fun hHeld => ?_)
  refine Ru.wpAnyU_take (i := 0) (v := .pointer (some ⟨w.heap.size, 2, none⟩)) rfl (by kernel_rfl) (by kernel_rfl) (by kernel_rfl) (by kernel_rfl) (by kernel_rfl) (by kernel_rfl) (fun _ _ _ h => h) (Or.inl ⟨by kernel_rfl, fun w hS => by have sc0 := hS; go_simp⟩) hHeld ?_
  simp only [Act.put, List.getElem_toArray, List.getElem_cons_zero, List.getElem_cons_succ, List.setIfInBounds_toArray, List.set_cons_zero, List.set_cons_succ]
  refine Ru.wpAnyU_take (i := 1) (v := .agg (fvals n z d).toArray) rfl (by kernel_rfl) (by kernel_rfl) (by kernel_rfl) (by kernel_rfl) (by kernel_rfl) (by kernel_rfl) (fun _ _ _ h => h) (Ud.yieldsPart isF (by kernel_rfl) _ (by rfl) w.heap.size 2 _ (by rfl) (fun w h => GRow.rf h) (fvals_len _ _ _)) hHeld ?_
  simp only [Act.put, List.getElem_toArray, List.getElem_cons_zero, List.getElem_cons_succ, List.setIfInBounds_toArray, List.set_cons_zero, List.set_cons_succ]
  refine Ru.wpAnyU_take (i := 2) (v := .pointer (some ⟨w.heap.size, 0, none⟩)) rfl (by kernel_rfl) (by kernel_rfl) (by kernel_rfl) (by kernel_rfl) (by kernel_rfl) (by kernel_rfl) (fun _ _ _ h => h) (Or.inl ⟨by kernel_rfl, fun w hS => by have sc0 := hS; go_simp⟩) hHeld ?_
  simp only [Act.put, List.getElem_toArray, List.getElem_cons_zero, List.getElem_cons_succ, List.setIfInBounds_toArray, List.set_cons_zero, List.set_cons_succ]
  refine Ru.wpAnyU_take (i := 3) (v := .slice (some ⟨w.heap.size, 0, none⟩) 2 2) rfl (by kernel_rfl) (by kernel_rfl) (by kernel_rfl) (by kernel_rfl) (by kernel_rfl) (by kernel_rfl) (fun _ _ _ h => h) (Or.inl ⟨by kernel_rfl, fun w hS => by have sc0 := hS; go_simp⟩) hHeld ?_
  simp only [Act.put, List.getElem_toArray, List.getElem_cons_zero, List.getElem_cons_succ, List.setIfInBounds_toArray, List.set_cons_zero, List.set_cons_succ]
  refine Ru.wpAnyU_ready (rs := [4]) (by kernel_rfl) (by simp) ?_
  refine Ru.AllReadyU.cons rfl (by kernel_rfl) (fun K hK => ?_) Ru.AllReadyU.nil
  go_simp
  refine (HF.out _ _ (GRow.sl (HS.out _ (Vc.below_drew' _)))).mono ?_
  rintro _ w1 ⟨rfl, k1⟩
  have D1 := below_tr (Vc.below_drew' W) k1
  go_wp2_with fail
  refine hK.out _ _ (HS.out _ D1) (fun hHeld => ?_)
  clear hK K
  try simp only [Act.put, List.getElem_toArray, List.getElem_cons_zero, List.getElem_cons_succ, List.setIfInBounds_toArray, List.set_cons_zero, List.set_cons_succ]
  refine Ru.wpAnyU_take (i := 5) (v := .int .i64 x) rfl (by kernel_rfl) (by kernel_rfl) (by kernel_rfl) (by kernel_rfl) (by kernel_rfl) (by kernel_rfl) (fun _ _ _ h => h) (Or.inl ⟨by kernel_rfl, fun w hS => by have sc0 := hS; go_simp⟩) hHeld ?_
  simp only [Act.put, List.getElem_toArray, List.getElem_cons_zero, List.getElem_cons_succ, List.setIfInBounds_toArray, List.set_cons_zero, List.set_cons_succ]
  refine Ru.wpAnyU_take (i := 6) (v := .bool q) rfl (by kernel_rfl) (by kernel_rfl) (by kernel_rfl) (by kernel_rfl) (by kernel_rfl) (by kernel_rfl) (fun _ _ _ h => h) (Or.inl ⟨by kernel_rfl, fun w hS => by have sc0 := hS; go_simp⟩) hHeld ?_
  simp only [Act.put, List.getElem_toArray, List.getElem_cons_zero, List.getElem_cons_succ, List.setIfInBounds_toArray, List.set_cons_zero, List.set_cons_succ]
  refine Ru.wpAnyU_take (i := 7) (v := f) rfl (by kernel_rfl) (by kernel_rfl) (by kernel_rfl) (by kernel_rfl) (by kernel_rfl) (by kernel_rfl) (fun _ _ _ h => h) (Or.inl ⟨by kernel_rfl, fun w hS => by have sc0 := hS; go_simp⟩) hHeld ?_
  simp only [Act.put, List.getElem_toArray, List.getElem_cons_zero, List.getElem_cons_succ, List.setIfInBounds_toArray, List.set_cons_zero, List.set_cons_succ]
  refine Ru.wpAnyU_take (i := 8) (v := .int .i64 x) rfl (by kernel_rfl) (by kernel_rfl) (by kernel_rfl) (by kernel_rfl) (by kernel_rfl) (by kernel_rfl) (fun _ _ _ h => h) (Or.inl ⟨by kernel_rfl, fun w hS => by have sc0 := hS; go_simp⟩) hHeld ?_
  simp only [Act.put, List.getElem_toArray, List.getElem_cons_zero, List.getElem_cons_succ, List.setIfInBounds_toArray, List.set_cons_zero, List.set_cons_succ]
  refine Ru.wpAnyU_take (i := 9) (v := .bool q) rfl (by kernel_rfl) (by kernel_rfl) (by kernel_rfl) (by kernel_rfl) (by kernel_rfl) (by kernel_rfl) (fun _ _ _ h => h) (Or.inl ⟨by kernel_rfl, fun w hS => by have sc0 := hS; go_simp⟩) hHeld ?_
  simp only [Act.put, List.getElem_toArray, List.getElem_cons_zero, List.getElem_cons_succ, List.setIfInBounds_toArray, List.set_cons_zero, List.set_cons_succ]
  refine Ru.wpAnyU_take (i := 10) (v := f) rfl (by kernel_rfl) (by kernel_rfl) (by kernel_rfl) (by kernel_rfl) (by kernel_rfl) (by kernel_rfl) (fun _ _ _ h => h) (Or.inl ⟨by kernel_rfl, fun w hS => by have sc0 := hS; go_simp⟩) hHeld ?_
  simp only [Act.put, List.getElem_toArray, List.getElem_cons_zero, List.getElem_cons_succ, List.setIfInBounds_toArray, List.set_cons_zero, List.set_cons_succ]
  refine Ru.wpAnyU_done (by kernel_rfl) ?_
  go_wp2
  go_ret3
  exact ⟨rfl, below_tr B0 D1⟩

end Go.Proofs.YtdgcnaijndocnaaDoor

/-
  States of package predict: spread, Next.
-/
set_option linter.unusedSimpArgs false
set_option linter.unusedVariables false
namespace Go.Proofs.YtdgcnaijndocnaaDoor
open Go.RowKit Vc St Mt Cm Ld Pd Pr Qn Dt
attribute [local go_sem ↓] Go.wp_at_zero Go.wp_at_succ

namespace Pd
theorem nought_nP (F P Q : Nat → Nat → Int) : mvals 6 6 (wdk (mz 6 6 (nE F P Q)) (nn (dg (mz 6 6 (nE F P Q)))) 6) = mvals 6 6 (mz 6 6 (nP F P Q)) := by
  refine mvals_congr fun k hk => ?_
  rw [wdk_mz _ _ k hk]
  refine mz_congr (fun i j hi hj => ?_) k
  unfold wd nP nn
  by_cases e : i = j
  · subst e
    rw [if_pos rfl, dg_mz _ hi]
    by_cases h : nE F P Q i i < 0
    · rw [if_pos ⟨rfl, h⟩]; omega
    · rw [if_neg (fun q => h q.2)]; omega
  · rw [if_neg e, if_neg (fun q => e q.1)]
/-- Whether a step of the spread was too great. -/
def oS (F P Q : Nat → Nat → Int) : Bool := oY F P || oZ F P || oW F P Q || oE F P Q
theorem yieldsP {ops : Array Oper} {S : World → Prop} {o : Oper} {a : Act} {t : TypeId} {n : Nat} (I : Is t n) (hw : Region.wanted o (yielded ops a.tmps) = true) (x : Operand) (ho : o.op = .load t x)
    (b p : Nat) (cs : List Value) (hx : a.eval x = .pointer (some ⟨b, p, none⟩)) (hS : ∀ w, S w → w.rangeAt b p cs) (hl : cs.length = n) : YieldsIf Tryd.prog ops S o (.agg cs.toArray) a := by
  obtain ⟨d, hd, hr⟩ := I.row
  exact yieldsIf_load_mid hw _ x ho b p hx cs d hS hd hr (by rw [I.size, hl])
end Pd

end Go.Proofs.YtdgcnaijndocnaaDoor

/-
  Package update: Of's errors; Next, by what Of answers.
-/
set_option linter.unusedSimpArgs false
set_option linter.unusedVariables false
namespace Go.Proofs.YtdgcnaijndocnaaDoor
open Go.RowKit Vc St Mt Pr Qn Ud Up Ld
attribute [local go_sem ↓] Go.wp_at_zero Go.wp_at_succ

namespace Up
theorem zeroG : (#[.int .i64 0, .int .i64 0, .int .i64 0, .int .i64 0, .int .i64 0, .int .i64 0, .int .i64 0, .int .i64 0, .int .i64 0, .int .i64 0, .int .i64 0, .int .i64 0, .int .i64 0, .int .i64 0, .int .i64 0, .int .i64 0, .int .i64 0, .int .i64 0, .int .i64 0, .int .i64 0, .int .i64 0, .int .i64 0, .int .i64 0, .int .i64 0, .int .i64 0, .int .i64 0, .int .i64 0, .int .i64 0, .int .i64 0, .int .i64 0, .int .i64 0, .int .i64 0, .int .i64 0, .int .i64 0, .int .i64 0, .int .i64 0, .int .i64 0, .int .i64 0, .int .i64 0, .int .i64 0, .int .i64 0, .int .i64 0, .int .i64 0, .int .i64 0, .int .i64 0] : Array Value) = (gvals (fun _ => 0) 0 (fun _ => 0) (fun _ => 0)).toArray := by kernel_rfl
theorem builtG0 : Tryd.prog.built 49 [] = some (gvals (fun _ => 0) 0 (fun _ => 0) (fun _ => 0)).toArray := by kernel_rfl
theorem builtG2 (V : Nat → Int) (n : Int) (z d : Nat → Int) : Tryd.prog.built 49 [(0, .agg (vals 2 V).toArray), (1, .agg (fvals n z d).toArray)] = some (gvals V n z d).toArray := by kernel_rfl
/-- 'Gap{}'. -/
theorem buildG0 {ops : Array Oper} {rest : List Oper} {o : Oper} {a : Act} {w : World} {Q : Exit → Act → World → Prop} (ho : o.op = .build 49 #[]) (hw : Region.wanted o (yielded ops a.tmps) = true)
    (h : wpList Tryd.prog ops Q rest (a.put o.dst (.agg (gvals (fun _ => 0) 0 (fun _ => 0) (fun _ => 0)).toArray)) w) : wpList Tryd.prog ops Q (o :: rest) a w :=
  wpList_want hw fun _ hK => by
    unfold Oper.wp execOp
    have em : ((#[] : Array (Nat × Operand)).map fun (i, x) => (i, a.eval x)).toList = [] := by simp
    simp only [ho, Sem.run_bind, run_build w 49 _ _ (by rw [em]; exact builtG0), Result.andThen_ok]
    exact hK _ _ h
theorem yieldsG {ops : Array Oper} {S : World → Prop} {o : Oper} {a : Act} (hw : Region.wanted o (yielded ops a.tmps) = true) (x y : Operand) (ho : o.op = .build 49 #[(0, x), (1, y)])
    (V : Nat → Int) (n : Int) (z d : Nat → Int) (hx : a.eval x = .agg (vals 2 V).toArray) (hy : a.eval y = .agg (fvals n z d).toArray) : YieldsIf Tryd.prog ops S o (.agg (gvals V n z d).toArray) a :=
  .inl ⟨hw, fun w _ => by
    unfold execOp
    have em : ((#[(0, x), (1, y)] : Array (Nat × Operand)).map fun (i, x) => (i, a.eval x)).toList = [(0, .agg (vals 2 V).toArray), (1, .agg (fvals n z d).toArray)] := by simp [hx, hy]
    simp only [ho, Sem.run_bind, run_build w 49 _ _ (by rw [em]; exact builtG2 V n z d), Result.andThen_ok, Sem.run_pure]⟩
end Up

end Go.Proofs.YtdgcnaijndocnaaDoor

/-
  Package update: Next, where Of answers a gap.
-/
set_option linter.unusedSimpArgs false
set_option linter.unusedVariables false
namespace Go.Proofs.YtdgcnaijndocnaaDoor
open Go.RowKit Vc St Mt Pr Qn Ud Up Ld
attribute [local go_sem ↓] Go.wp_at_zero Go.wp_at_succ

namespace Up
theorem gK_b (P L : Nat → Nat → Int) (d : Nat → Int) : B2 (gK P L d) := fun i => Ld.b64_of (Ld.upV_bd _ (Ld.byV_bd _ _) 2 2)
end Up

end Go.Proofs.YtdgcnaijndocnaaDoor

/-
  Package update: Next as the document's numbers, where Of answers a gap.
-/
set_option linter.unusedSimpArgs false
set_option linter.unusedVariables false
namespace Go.Proofs.YtdgcnaijndocnaaDoor
open Go.RowKit Vc St Mt Pr Qn Ud Up Ld

namespace Up
theorem gK_is (P : Nat → Nat → Int) (a b c : Int) : gK P (fL P a b c) (fD P a b c) = kr P a b c := rfl
theorem gO_is (P : Nat → Nat → Int) (a b c : Int) : gO P (fL P a b c) (fD P a b c) = ko P a b c := rfl
theorem may_gap {P : Nat → Nat → Int} {a b c : Int} (hf : ∀ i, i < 2 → fine (oM P a b c) i) : FMay 2 (mz 2 2 (fL P a b c)) (fD P a b c) := may_st (n := 2) (by omega) (by omega) hf
theorem v_b (X : Nat → Int) (x y : Int) : B64 (v2 (ox X x) (oy X y)) := v2_b (cl64 _) (cl64 _)
theorem r_b {x y a b c : Int} (hp : MayN x y a b c) : B2 (g2 a c b) := g2_b (by have := hp.2.2.1; unfold InV at this; omega) (by have := hp.2.2.2.2.1; unfold InV at this; omega) (by have := hp.2.2.2.1; unfold InV at this; omega)
end Up

theorem ufar_ok (X : Nat → Int) (P : Nat → Nat → Int) (x y a b c : Int) (w : World) (hf : ∀ i, i < 2 → fine (oM P a b c) i) :
    Calls Tryd.prog 31 #[.agg (gvals (v2 (ox X x) (oy X y)) 2 (mz 2 2 (fL P a b c)) (fD P a b c)).toArray] w fun e w' => e = .returned (.tuple #[.int .i64 (farV (downV (fL P a b c) (v2 (ox X x) (oy X y)) 2) (fD P a b c) 2), .bool (downO (fL P a b c) (v2 (ox X x) (oy X y)) 2 || farO (downV (fL P a b c) (v2 (ox X x) (oy X y)) 2) (fD P a b c) 2), .nilIface]) ∧ Below w.heap.size w w' :=
  ufar_by _ _ _ _ _ _ _ w fun g W hs => lfar_any 2 (some ⟨g, 0, none⟩) 2 (v2 (ox X x) (oy X y)) (fL P a b c) (fD P a b c) W (may_gap hf) hs (v_b X x y) (fL_b P a b c)
end Go.Proofs.YtdgcnaijndocnaaDoor

/-
  Package update: gaps compared, whatever they are.
-/
set_option linter.unusedSimpArgs false
set_option linter.unusedVariables false
namespace Go.Proofs.YtdgcnaijndocnaaDoor
open Go.RowKit Vc St Mt Ud Up
namespace Up
theorem arr2 : Tryd.prog.underlying 43 = some (.array 2 2) := by kernel_rfl
theorem arr36 : Tryd.prog.underlying 44 = some (.array 36 2) := by kernel_rfl
theorem arr6' : Tryd.prog.underlying 45 = some (.array 6 2) := by kernel_rfl
set_option maxRecDepth 20000 in
theorem run_eqF (n : Int) (z d : Nat → Int) (n' : Int) (z' d' : Nat → Int) (w : World) (q : Nat) : (Op.equalIn (q + 3) 47 (.agg (Ld.fvals n z d).toArray) (.agg (Ld.fvals n' z' d').toArray)).run Tryd.prog w = .ok ((n == n') && (Cm.eqz 36 z z' && (Cm.eqz 6 d d' && true))) w := by
  obtain ⟨f0, f1, f2, hf, h0, h1, h2⟩ := list3 Ld.fieldsF
  injection h0 with n0 h0
  injection h0 with t0 o0
  injection h1 with n1 h1
  injection h1 with t1 o1
  injection h2 with n2 h2
  injection h2 with t2 o2
  rw [run_equalIn_struct w (q + 2) 47 _ _ Ld.structF Ld.stoodF, hf]
  clear hf
  have q0 := run_equalIn_int w (q + 1) 3 .i64 .i64 n n' Tryd.underlying3
  have q1 := Cm.run_eqA arr36 z z' w q
  have q2 := Cm.run_eqA arr6' d d' w q
  exact Cm.eqFields_stepG (q + 2) _ _ f0 _ w _ _ _ _ (by rw [n0]; simp) (by rw [t0, o0]; exact run_part_int w (Ld.fvals n z d).toArray 0 n (by simp [Ld.fvals])) (by rw [t0, o0]; exact run_part_int w (Ld.fvals n' z' d').toArray 0 n' (by simp [Ld.fvals])) (by rw [t0]; exact q0)
    (Cm.eqFields_stepG (q + 2) _ _ f1 _ w _ _ _ _ (by rw [n1]; simp) (by rw [t1, o1]; exact Ld.run_part_FL w n z d) (by rw [t1, o1]; exact Ld.run_part_FL w n' z' d') (by rw [t1]; exact q1)
      (Cm.eqFields_stepG (q + 2) _ _ f2 _ w _ _ _ _ (by rw [n2]; simp) (by rw [t2, o2]; exact Ld.run_part_FD w n z d) (by rw [t2, o2]; exact Ld.run_part_FD w n' z' d') (by rw [t2]; exact q2) (eqFields_nil _ _ _ w)))
theorem fieldsG : (Tryd.prog.fieldsOf 49).toList.map (fun f => (f.name, f.type, f.offset)) = [("V", 43, 0), ("F", 47, 2)] := by kernel_rfl
theorem structG : Tryd.prog.underlying 49 = some (.struct (Tryd.prog.fieldsOf 49)) := by kernel_rfl
theorem stoodG : Tryd.prog.stoodInHeld 49 = false := by kernel_rfl
theorem guardG : Tryd.prog.eqGuardType Tryd.prog.depth 49 = false := by kernel_rfl
theorem take_gv (V : Nat → Int) (n : Int) (z d : Nat → Int) : List.take 2 (gvals V n z d) = vals 2 V := by
  unfold gvals
  rw [List.take_append_of_le_length (by rw [vals_len]; omega)]
  exact List.take_of_length_le (by rw [vals_len]; omega)
theorem take_gf (V : Nat → Int) (n : Int) (z d : Nat → Int) : List.take 43 (List.drop 2 (gvals V n z d)) = Ld.fvals n z d := by
  unfold gvals
  rw [List.drop_append_of_le_length (by rw [vals_len]; omega), List.drop_eq_nil_of_le (by rw [vals_len]; omega), List.nil_append]
  exact List.take_of_length_le (by rw [Ld.fvals_len]; omega)
theorem run_part_GV (w : World) (V : Nat → Int) (n : Int) (z d : Nat → Int) : (Go.part 43 (gvals V n z d).toArray 0).run Tryd.prog w = .ok (.agg (vals 2 V).toArray) w := by
  simp [Go.part, isAgg, run_underlying arr2, Pd.sizeOf_of is2.size]
  exact take_gv V n z d
theorem run_part_GF (w : World) (V : Nat → Int) (n : Int) (z d : Nat → Int) : (Go.part 47 (gvals V n z d).toArray 2).run Tryd.prog w = .ok (.agg (Ld.fvals n z d).toArray) w := by
  simp [Go.part, isAgg, run_underlying Ld.structF, Pd.sizeOf_of Ld.isF.size]
  exact take_gf V n z d
set_option maxRecDepth 20000 in
theorem run_eqG (V : Nat → Int) (n : Int) (z d : Nat → Int) (w : World) (q : Nat) : (Op.equalIn (q + 4) 49 (.agg (gvals V n z d).toArray) (.agg (gvals V n z d).toArray)).run Tryd.prog w = .ok true w := by
  obtain ⟨f0, f1, hf, h0, h1⟩ := Pd.list2 fieldsG
  injection h0 with n0 h0
  injection h0 with t0 o0
  injection h1 with n1 h1
  injection h1 with t1 o1
  rw [run_equalIn_struct w (q + 3) 49 _ _ structG stoodG, hf]
  clear hf
  have q0 := Cm.run_eqA arr2 V V w (q + 1)
  have q1 := run_eqF n z d n z d w q
  have e : (Cm.eqz 2 V V && (((n == n) && (Cm.eqz 36 z z && (Cm.eqz 6 d d && true))) && true)) = true := by simp [Cm.eqz_iff.2]
  rw [← e]
  exact Cm.eqFields_stepG (q + 3) _ _ f0 _ w _ _ _ _ (by rw [n0]; simp) (by rw [t0, o0]; exact run_part_GV w V n z d) (by rw [t0, o0]; exact run_part_GV w V n z d) (by rw [t0]; exact q0)
    (Cm.eqFields_stepG (q + 3) _ _ f1 _ w _ _ _ _ (by rw [n1]; simp) (by rw [t1, o1]; exact run_part_GF w V n z d) (by rw [t1, o1]; exact run_part_GF w V n z d) (by rw [t1]; exact q1) (eqFields_nil _ _ _ w))
/-- 'g == h', of gaps that are the same. -/
theorem eqlG {ops : Array Oper} {rest : List Oper} {o : Oper} {a : Act} {w : World} {Q : Exit → Act → World → Prop} (x y : Operand) (u : TypeId) (ho : o.op = .binOp .eql 49 x y u)
    (V : Nat → Int) (n : Int) (z d : Nat → Int) (hx : a.eval x = .agg (gvals V n z d).toArray) (hy : a.eval y = .agg (gvals V n z d).toArray) (hw : Region.wanted o (yielded ops a.tmps) = true)
    (h : wpList Tryd.prog ops Q rest (a.put o.dst (.bool true)) w) : wpList Tryd.prog ops Q (o :: rest) a w :=
  wpList_want hw fun _ hK => by
    unfold Oper.wp execOp
    simp only [ho, hx, hy, Sem.run_bind, run_eqGuard_agg w _ _ x y _ _ guardG, Result.andThen_ok, run_eql_struct]
    rw [run_eqG V n z d w 9996]
    exact hK _ _ h
end Up

/-- Far of a gap that can't be. -/
theorem ufar_none (w : World) : Calls Tryd.prog 31 #[.agg (gvals (fun _ => 0) 0 (fun _ => 0) (fun _ => 0)).toArray] w fun e w' => e = .returned (.tuple #[.int .i64 0, .bool false, .iface 32 (.int .i64 1)]) ∧ Below w.heap.size w w' :=
  ufar_by _ _ _ _ _ _ _ w fun g W _ => lfar_no 0 (fun _ => 0) (fun _ => 0) (some ⟨g, 0, none⟩) 2 2 W (fun h => by have := h.1; omega)
end Go.Proofs.YtdgcnaijndocnaaDoor
