/-
  The document's answer of layer 16 (radomeref16): in, Weights; by py/LkR.py.
-/
import Derived.Test.YtdgcnaijndocnaaDoorM2
import Derived.Test.YtdgcnaijndocnaaDoorM15
import Derived.Test.YtdgcnaijndocnaaDoorM24
import Derived.Test.YtdgcnaijndocnaaDoorM4
import Derived.Test.YtdgcnaijndocnaaDoorRegU
import Derived.Test.YtdgcnaijndocnaaDoorM6
set_option linter.unusedSimpArgs false
set_option linter.unusedVariables false
namespace Go.Proofs.YtdgcnaijndocnaaDoor
open Go.RowKit Vc Cn Lk
attribute [local go_sem ↓] Go.wp_at_zero Go.wp_at_succ
namespace Lk
theorem hideK {p : Prop} (h : p) : Hid p := h
theorem own_low {w w0 w1 : World} {B B' : Nat} {v : Value} {n : Nat} {z : Nat → Int} (h : Own B w1 w v n z) (b : Below B' w0 w1) (hB : B' ≤ B) : Own B' w0 w v n z := by
  have hb := h.from b hB
  obtain ⟨⟨h1, h2⟩, _, h3⟩ := h
  refine ⟨⟨h1, ?_⟩, hb, by omega⟩
  rcases h2 with h2 | ⟨g, cap, cur, rfl, hb, hg, hn, hc, hs, ht⟩
  · exact Or.inl h2
  · exact Or.inr ⟨g, cap, cur, rfl, by omega, hg, hn, hc, hs, ht⟩
/-- An append of one number to a slice of the call's own, as one step of a region that draws. -/
theorem step_push {ops : Array Oper} {o : Oper} {a : Act} {wr : World} {K : Act → World → Prop} {Q : Exit → Act → World → Prop} {E : Prop} (hgd : o.guard = none) (s x : Operand)
    (ho : o.op = .call { callee := .builtin .append, args := #[s, x], argTypes := #[22, 22] }) (B : Nat) (w0 : World) (v : Value) (n : Nat) (z : Nat → Int) (hs : a.eval s = v) (hown : Own B w0 wr v n z) (hl : n ≤ 2000000) (y : Int) (hy : y = z n)
    (hx : a.eval x = .slice (some ⟨wr.heap.size, 0, none⟩) 1 1)
    (hK : ∀ v' w', Own B w0 w' v' (n + 1) z → K (a.put o.dst v') w') :
    if Region.wanted o (yielded ops a.tmps) = true then Oper.wp Tryd.prog o a (wr.alloc (.cells #[.int .i64 y] 2)) K Q else E := by
  obtain ⟨i0, hi, hz0, hz1, hz2⟩ := info_parts infoI64
  subst hy
  have hb : B ≤ (wr.alloc (.cells #[.int .i64 (z n)] 2)).heap.size := by have := hown.base; simp; omega
  refine step_append_lies _ hgd s x 22 ho B 2 i0 (.int .i64 0) 1 8 Tryd.underlying22 hi hz0 hz1 hz2 rfl (by decide) v n (vals n z) hs (hown.row.alloc _) ⟨wr.heap.size, 0, none⟩ 1 1 [.int .i64 (z n)] hx rfl (World.news_of_block (heap_alloc_new wr _)) (by intro u hu; simp at hu; subst hu; rfl) (by omega) (by unfold maxLen; omega) (by omega) hb _ rfl ?_
  intro g cap w' h1 h2 h3 h4
  rw [vals_push] at h1
  exact hK _ w' ⟨h1, (hown.below.alloc hown.base _).grown h2 hb (fun k hk => (hown.row.lt k hk).1), Nat.le_trans hb h2.size⟩
end Lk
open Lk

namespace Lk
/-- The first place of the greatest. -/
def pl (l : Nat → Int) : Nat → Nat
  | 0 => 0
  | k + 1 => if l (pl l k) < l k then k else pl l k
theorem pl_lt (l : Nat → Int) : ∀ n, pl l n < n ∨ pl l n = 0
  | 0 => Or.inr rfl
  | n + 1 => by
    have := pl_lt l n
    show (if l (pl l n) < l n then n else pl l n) < n + 1 ∨ (if l (pl l n) < l n then n else pl l n) = 0
    split <;> omega
/-- How much greater it is than the others. -/
def lft (l : Nat → Int) (a : Nat) : Nat → Int
  | 0 => 4611686018427387903
  | k + 1 => if k ≠ a ∧ Qn.clamp (l a - l k) < lft l a k then Qn.clamp (l a - l k) else lft l a k
theorem pl_yes {l : Nat → Int} {k : Nat} (h : l (pl l k) < l k) : pl l (k + 1) = k := if_pos h
theorem pl_no {l : Nat → Int} {k : Nat} (h : ¬ l (pl l k) < l k) : pl l (k + 1) = pl l k := if_neg h
theorem lft_yes {l : Nat → Int} {a k : Nat} (h : k ≠ a) (h2 : Qn.clamp (l a - l k) < lft l a k) : lft l a (k + 1) = Qn.clamp (l a - l k) := if_pos ⟨h, h2⟩
theorem lft_no {l : Nat → Int} {a k : Nat} (h : ¬ (k ≠ a ∧ Qn.clamp (l a - l k) < lft l a k)) : lft l a (k + 1) = lft l a k := if_neg h
end Lk

end Go.Proofs.YtdgcnaijndocnaaDoor
