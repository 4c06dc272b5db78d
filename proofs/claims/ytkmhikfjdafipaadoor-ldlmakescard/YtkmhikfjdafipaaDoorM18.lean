/-
  The document's answer of layer 9 (radomeref09): dot, less, rest.
-/
import Derived.Test.YtkmhikfjdafipaaDoorM13
import Derived.Test.YtkmhikfjdafipaaDoorM2
import Derived.Test.YtkmhikfjdafipaaDoorM7
import Derived.Test.YtkmhikfjdafipaaDoorM3
import Derived.Test.YtkmhikfjdafipaaDoorMtI
import Derived.Deep.RegionHeld3
import Derived.Test.YtkmhikfjdafipaaDoorM17
import Derived.Deep.RegionWith
set_option linter.unusedSimpArgs false
set_option linter.unusedVariables false
namespace Go.Proofs.YtkmhikfjdafipaaDoor
open Go.RowKit Vc Mt St Qn Dt Dec Ld

namespace Ld
theorem isG : Is 40 2 := ⟨by kernel_rfl, ⟨_, Tryd.underlying40, rfl⟩⟩
/-- The document's factors in a block. -/
abbrev GRow (w : World) (g : Nat) (a b : Value) : Prop := CRow w g 40 [a, b]
theorem GRow.l {w : World} {g : Nat} {a b : Value} (h : GRow w g a b) : w.cell? ⟨g, 0, none⟩ = some a := h.cell (k := 0) rfl rfl
theorem GRow.d {w : World} {g : Nat} {a b : Value} (h : GRow w g a b) : w.cell? ⟨g, 1, none⟩ = some b := h.cell (k := 1) rfl rfl
end Ld

end Go.Proofs.YtkmhikfjdafipaaDoor

/-
  The document's factors, row by row: two lists that are appended to; factorsOf of the laws.
-/
set_option linter.unusedSimpArgs false
set_option linter.unusedVariables false
namespace Go.Proofs.YtkmhikfjdafipaaDoor
open Go.RowKit Vc Mt St Qn Dt Ld

namespace Ld
theorem elS : Vg.El 22 23 24 := ⟨Tryd.underlying22, ⟨_, infoSl, rfl⟩⟩
theorem elI : Vg.El 23 2 8 := ⟨Tryd.underlying23, ⟨_, infoI64, rfl⟩⟩
theorem but_grown {P : Nat → Prop} {w w' : World} {row : Option Nat} (g : w.grownBy w' row) (h : ∀ b, row = some b → P b) : But P w w' :=
  ⟨g.os, g.tape, g.output, g.size, fun k hk hp => g.block k hk (fun e => hp (h k e.symm))⟩

/-- A list of i rows of n numbers each, and one of i numbers; they and the rows lie from block c on. -/
structure FTwo (B : Nat) (w0 w : World) (o : Nat) (vL vD : Value) (i n : Nat) (L : Nat → Nat → Int) (d : Nat → Int) : Prop where
  two : ∃ S, Vg.Two B w0 w 23 vL i (svals i S) 2 vD i (vals i d) ∧ ∀ k, k < i → ∃ a c, S k = .slice a n c ∧ Sl w a n c (L k) ∧ ∀ x, a = some x → vL.ownBlock ≠ some x.block ∧ vD.ownBlock ≠ some x.block ∧ o ≤ x.block
  gl : ∀ q, vL.ownBlock = some q → o ≤ q
  gd : ∀ q, vD.ownBlock = some q → o ≤ q
  le : o ≤ w.heap.size

theorem FTwo.nil {B : Nat} {w0 w : World} {o n : Nat} (h : Below B w0 w) (hB : B ≤ w.heap.size) (ho : o ≤ w.heap.size) (L : Nat → Nat → Int) (d : Nat → Int) : FTwo B w0 w o (.slice none 0 0) (.slice none 0 0) 0 n L d :=
  ⟨⟨fun _ => undef, Vg.Two.nil h hB _ _, fun k hk => by omega⟩, fun q e => (by cases e), fun q e => (by cases e), ho⟩
theorem FTwo.keep {B : Nat} {w0 w w' : World} {o i n : Nat} {vL vD : Value} {L : Nat → Nat → Int} {d : Nat → Int} (h : FTwo B w0 w o vL vD i n L d) (b : Below w.heap.size w w') : FTwo B w0 w' o vL vD i n L d := by
  obtain ⟨S, h1, h2⟩ := h.two
  refine ⟨⟨S, h1.keep b, fun k hk => ?_⟩, h.gl, h.gd, Nat.le_trans h.le b.size⟩
  obtain ⟨a, c, e1, e2, e3⟩ := h2 k hk
  exact ⟨a, c, e1, e2.keep b, e3⟩
theorem FTwo.below {B : Nat} {w0 w : World} {o i n : Nat} {vL vD : Value} {L : Nat → Nat → Int} {d : Nat → Int} (h : FTwo B w0 w o vL vD i n L d) : Below B w0 w := by obtain ⟨S, h1, _⟩ := h.two; exact h1.below
theorem FTwo.base {B : Nat} {w0 w : World} {o i n : Nat} {vL vD : Value} {L : Nat → Nat → Int} {d : Nat → Int} (h : FTwo B w0 w o vL vD i n L d) : B ≤ w.heap.size := by obtain ⟨S, h1, _⟩ := h.two; exact h1.base
theorem rowBut {P : Nat → Prop} {a b : World} {B : Nat} {t : TypeId} {s : Nat} {v : Value} {n : Nat} {xs : List Value} (h : a.ownsRow B t s v n xs) (k : But P a b) (hx : ∀ g, v.ownBlock = some g → ¬ P g) : b.ownsRow B t s v n xs := by
  obtain ⟨h1, h2⟩ := h
  refine ⟨h1, ?_⟩
  rcases h2 with h2 | ⟨g, cap, cur, rfl, hb, hg, hn, hc, hs, ht⟩
  · exact Or.inl h2
  · refine Or.inr ⟨g, cap, cur, rfl, hb, ?_, hn, hc, hs, ht⟩
    have hlt : g < a.heap.size := by
      rcases Nat.lt_or_ge g a.heap.size with q | q
      · exact q
      · rw [Array.getElem?_eq_none q] at hg; cases hg
    exact (k.block g hlt (hx g rfl)).trans hg
/-- A store into a block ahead of theirs. -/
theorem FTwo.put {B : Nat} {w0 w w' : World} {o i n g : Nat} {vL vD : Value} {L : Nat → Nat → Int} {d : Nat → Int} (h : FTwo B w0 w o vL vD i n L d) (hg : g < o) (hB : B ≤ g) (b : But (· = g) w w') : FTwo B w0 w' o vL vD i n L d := by
  obtain ⟨S, h1, h2⟩ := h.two
  refine ⟨⟨S, ⟨rowBut h1.x b (fun q e e2 => by have := h.gl q e; omega), rowBut h1.y b (fun q e e2 => by have := h.gd q e; omega), h1.apart, b.below h1.below h1.base (fun k hk => by rw [hk]; exact hB), Nat.le_trans h1.base b.size⟩, fun k hk => ?_⟩, h.gl, h.gd, Nat.le_trans h.le b.size⟩
  obtain ⟨a, c, e1, e2, e3⟩ := h2 k hk
  exact ⟨a, c, e1, slBut e2 b (fun x hx => by have := (e3 x hx).2.2; omega), e3⟩
/-- One more of each. -/
theorem ftwo_push {B : Nat} {w0 wo w2 : World} {o i n : Nat} {vL vD v1 v2 : Value} {L : Nat → Nat → Int} {d : Nat → Int} {S : Nat → Value} (hrows : ∀ k, k < i → ∃ a c, S k = .slice a n c ∧ Sl wo a n c (L k) ∧ ∀ x, a = some x → vL.ownBlock ≠ some x.block ∧ vD.ownBlock ≠ some x.block ∧ o ≤ x.block)
    (b : But (fun q => vL.ownBlock = some q ∨ vD.ownBlock = some q) wo w2) {ra : Option Addr} {rc : Nat} (t2 : Vg.Two B w0 w2 23 v1 (i + 1) (svals i S ++ [.slice ra n rc]) 2 v2 (i + 1) (vals i d ++ [.int .i64 (d i)]))
    (n1 : ∀ q, q < wo.heap.size → vL.ownBlock ≠ some q → v1.ownBlock ≠ some q) (n2 : ∀ q, q < wo.heap.size → vD.ownBlock ≠ some q → v2.ownBlock ≠ some q) (hn : 0 < n) (hr : Sl wo ra n rc (L i)) (hra : ∀ x, ra = some x → vL.ownBlock ≠ some x.block ∧ vD.ownBlock ≠ some x.block ∧ o ≤ x.block)
    (ho : o ≤ wo.heap.size) (gl : ∀ q, vL.ownBlock = some q → o ≤ q) (gd : ∀ q, vD.ownBlock = some q → o ≤ q) : FTwo B w0 w2 o v1 v2 (i + 1) n L d := by
  rw [svals_push, vals_push] at t2
  have key : ∀ {a : Option Addr} {c : Nat} {z : Nat → Int}, Sl wo a n c z → (∀ x, a = some x → vL.ownBlock ≠ some x.block ∧ vD.ownBlock ≠ some x.block ∧ o ≤ x.block) → Sl w2 a n c z ∧ ∀ x, a = some x → v1.ownBlock ≠ some x.block ∧ v2.ownBlock ≠ some x.block ∧ o ≤ x.block := by
    intro a c z hs hx
    refine ⟨slBut hs b (fun x e => by have := hx x e; rintro (q | q); exact this.1 q; exact this.2.1 q), fun x e => ?_⟩
    obtain ⟨y, hy, hc⟩ := hs.at' 0 hn
    rw [e] at hy
    cases hy
    have hlt := World.block_lt_of_cell? wo _ hc
    rw [addr_block] at hlt
    exact ⟨n1 _ hlt (hx x e).1, n2 _ hlt (hx x e).2.1, (hx x e).2.2⟩
  have up : ∀ {v v' : Value}, (∀ q, v.ownBlock = some q → o ≤ q) → (∀ q, q < wo.heap.size → v.ownBlock ≠ some q → v'.ownBlock ≠ some q) → ∀ q, v'.ownBlock = some q → o ≤ q := fun h1 h2 q e => by
    rcases Nat.lt_or_ge q o with c | c
    · exact absurd e (h2 q (by omega) (fun e2 => by have := h1 q e2; omega))
    · exact c
  refine ⟨⟨_, t2, fun k hk => ?_⟩, up gl n1, up gd n2, Nat.le_trans ho b.size⟩
  by_cases hki : k < i
  · obtain ⟨a, c, e1, e2, e3⟩ := hrows k hki
    obtain ⟨e4, e5⟩ := key e2 e3
    exact ⟨a, c, by simp only [if_pos hki]; exact e1, e4, e5⟩
  · obtain rfl : k = i := by omega
    obtain ⟨e4, e5⟩ := key hr hra
    exact ⟨ra, rc, by simp only [if_neg hki], e4, e5⟩
theorem FTwo.grid {B : Nat} {w0 w : World} {o i n : Nat} {vL vD : Value} {L : Nat → Nat → Int} {d : Nat → Int} (h : FTwo B w0 w o vL vD i n L d) : ∃ lo cl do' cd, vL = .slice lo i cl ∧ vD = .slice do' i cd ∧ Grid w lo i cl n L ∧ Sl w do' i cd d := by
  obtain ⟨S, h1, h2⟩ := h.two
  have hL : Lst B w0 w vL i n L := ⟨⟨S, h1.x, fun k hk => by obtain ⟨a, c, e1, e2, e3⟩ := h2 k hk; exact ⟨a, c, e1, e2, fun x hx => (e3 x hx).1⟩⟩, h1.below, h1.base⟩
  have hD : Own B w0 w vD i d := ⟨h1.y, h1.below, h1.base⟩
  obtain ⟨lo, cl, rfl, hg⟩ := hL.grid
  obtain ⟨do', cd, rfl, hs⟩ := hD.sl
  exact ⟨lo, cl, do', cd, rfl, rfl, hg, hs⟩
/-- What is new lies in no block of theirs. -/
theorem FTwo.apart {B : Nat} {w0 w : World} {o i n : Nat} {vL vD : Value} {L : Nat → Nat → Int} {d : Nat → Int} (h : FTwo B w0 w o vL vD i n L d) {ra : Option Addr} (hf : Fresh w.heap.size ra) : ∀ x, ra = some x → vL.ownBlock ≠ some x.block ∧ vD.ownBlock ≠ some x.block ∧ o ≤ x.block := by
  intro x hx
  have h3 := hf x hx
  have h4 := h.le
  obtain ⟨S, h1, _⟩ := h.two
  exact ⟨fun e => by have := (h1.x.lt _ e).2; omega, fun e => by have := (h1.y.lt _ e).2; omega, by omega⟩
theorem own_form {w : World} {B : Nat} {t : TypeId} {s : Nat} {v : Value} {n : Nat} {xs : List Value} (h : w.ownsRow B t s v n xs) : ∃ ao c, v = .slice ao n c := by
  obtain ⟨_, h2⟩ := h
  rcases h2 with ⟨rfl, rfl⟩ | ⟨g, cap, cur, rfl, _⟩
  · exact ⟨_, _, rfl⟩
  · exact ⟨_, _, rfl⟩
theorem but_row (w : World) (g : Nat) (cs : Array Value) : But (· = g) w (w.setRow g cs) := ⟨rfl, rfl, rfl, by simp, fun k hk hn => setRow_other w g k cs hn⟩
theorem zeroG : (#[.slice none 0 0, .slice none 0 0] : Array Value) = ([.slice none 0 0, .slice none 0 0] : List Value).toArray := rfl
end Ld

end Go.Proofs.YtkmhikfjdafipaaDoor
