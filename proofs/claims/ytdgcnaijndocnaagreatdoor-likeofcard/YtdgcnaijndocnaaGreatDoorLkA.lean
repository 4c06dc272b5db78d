/-
  A slice of numbers of 64 bits appended to one of the call's own; pieces of a slice from its head and to its end; the greatest logarithm of those that have a chance, as the program goes; the greatest of the others.
-/
import Derived.Test.YtdgcnaijndocnaaGreatDoorM2
import Derived.Test.YtdgcnaijndocnaaGreatDoorLkR
import Derived.Test.YtdgcnaijndocnaaGreatDoorM27
import Derived.Test.YtdgcnaijndocnaaGreatDoorM5
set_option linter.unusedSimpArgs false
set_option linter.unusedVariables false
namespace Go.Proofs.YtdgcnaijndocnaaGreatDoor
open Go.RowKit Mt
namespace Vc
theorem vals_app (n m : Nat) (z y : Nat → Int) : vals n z ++ vals m y = vals (n + m) (fun k => if k < n then z k else y (k - n)) := by
  apply List.ext_getElem?
  intro i
  by_cases h1 : i < n
  · rw [List.getElem?_append_left (by rw [vals_len]; exact h1), vals_at h1, vals_at (by omega), if_pos h1]
  · rw [List.getElem?_append_right (by rw [vals_len]; omega), vals_len]
    by_cases h2 : i < n + m
    · rw [vals_at (by omega), vals_at h2, if_neg h1]
    · rw [List.getElem?_eq_none (by rw [vals_len]; omega), List.getElem?_eq_none (by rw [vals_len]; omega)]
theorem wpList_appendSl {ops : Array Oper} {rest : List Oper} {o : Oper} {a : Act} {Q : Exit → Act → World → Prop} {wr : World} (hgd : o.guard = none) (s x : Operand)
  (ho : o.op = .call { callee := .builtin .append, args := #[s, x], argTypes := #[22, 22] }) (B : Nat) (w0 : World) (v : Value) (n : Nat) (z : Nat → Int) (hs : a.eval s = v) (hown : Own B w0 wr v n z)
  (ad : Addr) (m ca : Nat) (y : Nat → Int) (hx : a.eval x = .slice (some ad) m ca) (hy : ∀ k, k < m → wr.cell? (ad.add k) = some (.int .i64 (y k))) (hl : n + m ≤ 2000000)
  (h : ∀ v' w', Own B w0 w' v' (n + m) (fun k => if k < n then z k else y (k - n)) → Below wr.heap.size wr w' ∨ True → wpList Tryz.prog ops Q rest (a.put o.dst v') w') : wpList Tryz.prog ops Q (o :: rest) a wr := by
 obtain ⟨i0, hi, hz0, hz1, hz2⟩ := info_parts infoI64
 refine wpList_append_own _ hgd s x 22 ho B 2 i0 (.int .i64 0) 1 8 Tryz.underlying22 hi hz0 hz1 hz2 rfl (by decide) v n (vals n z) hs hown.row ad m ca (vals m y) hx (by rw [vals_len, Nat.mul_one]) ?_ ?_ (by unfold maxLen; omega) (by omega) hown.base ?_
 ·intro j u hj
  have hjm : j < m := by
   have := (List.getElem?_eq_some_iff.1 hj).1
   rwa [vals_len] at this
  rw [vals_at hjm] at hj
  rw [hy j hjm, hj]
 ·intro u hu
  simp only [vals, List.mem_map] at hu
  obtain ⟨k, _, rfl⟩ := hu
  rfl
 ·intro v' w' h1 h2 _
  rw [vals_app] at h1
  exact h v' w' ⟨h1, hown.below.grown h2 hown.base (fun k hk => (hown.row.lt k hk).1), Nat.le_trans hown.base h2.size⟩ (Or.inr trivial)
theorem run_headA (x : Addr) (n c i : Nat) (h : i ≤ c) : ∀ w : World, (Instr.slice 22 (.slice (some x) n c) none (some (.int .i64 (i : Int))) none).run Tryz.prog w = .ok (.slice (some x) i c) w := by
  intro w
  have hu : Tryz.prog.underlying 22 = some (.slice (Tryz.prog.elem 22)) := by kernel_rfl
  have he : Tryz.prog.elem 22 = 2 := by kernel_rfl
  rw [run_slice_h w 22 _ _ _ hu .i64 _ (by omega) (by omega), he, run_size8]
  simp only [Result.andThen_ok, sliced, Int.toNat_natCast, Nat.mul_one]
  by_cases e : c = 0
  · rw [if_pos e]; rfl
  · rw [if_neg e, Option.map_some, Nat.sub_zero, Nat.sub_zero]; rfl
theorem run_tailA (x : Addr) (n c l : Nat) (h : l ≤ n) (hc : n ≤ c) : ∃ y : Addr, (l < n → y = x.add l) ∧ ∀ w : World, (Instr.slice 22 (.slice (some x) n c) (some (.int .i64 (l : Int))) none none).run Tryz.prog w = .ok (.slice (some y) (n - l) (c - l)) w := by
  have hu : Tryz.prog.underlying 22 = some (.slice (Tryz.prog.elem 22)) := by kernel_rfl
  have he : Tryz.prog.elem 22 = 2 := by kernel_rfl
  by_cases e : c = l
  · refine ⟨x, fun h => by omega, fun w => ?_⟩
    rw [run_slice_l w 22 _ _ _ hu .i64 _ (by omega) (by omega), he, run_size8]
    simp only [Result.andThen_ok, sliced, Int.toNat_natCast, Nat.mul_one]
    rw [if_pos e]
  · refine ⟨x.add l, fun _ => rfl, fun w => ?_⟩
    rw [run_slice_l w 22 _ _ _ hu .i64 _ (by omega) (by omega), he, run_size8]
    simp only [Result.andThen_ok, sliced, Int.toNat_natCast, Nat.mul_one]
    rw [if_neg e, Option.map_some]
end Vc
namespace Lk
open Cn Qn Gw
def tp (l c : Nat → Int) : Nat → Int
  | 0 => -4611686018427387903
  | k + 1 => if 0 < c k then max (tp l c k) (l k) else tp l c k
theorem tp_yes {l c : Nat → Int} {k : Nat} (h : 0 < c k) : tp l c (k + 1) = max (tp l c k) (l k) := if_pos h
theorem tp_no {l c : Nat → Int} {k : Nat} (h : ¬ 0 < c k) : tp l c (k + 1) = tp l c k := if_neg h
theorem tp_up {l c : Nat → Int} {M : Int} (hM : -4611686018427387903 ≤ M) : ∀ {n : Nat}, (∀ i, i < n → 0 < c i → l i ≤ M) → tp l c n ≤ M
  | 0, _ => hM
  | n + 1, h => by
    have ih := tp_up hM (n := n) (fun i hi => h i (by omega))
    by_cases q : 0 < c n
    · rw [tp_yes q]
      have := h n (by omega) q
      omega
    · rw [tp_no q]; exact ih
theorem tp_low {l c : Nat → Int} : ∀ {n i : Nat}, i < n → 0 < c i → l i ≤ tp l c n
  | n + 1, i, hi, h0 => by
    by_cases e : i = n
    · subst e
      rw [tp_yes h0]; omega
    · have ih := tp_low (n := n) (i := i) (l := l) (c := c) (by omega) h0
      by_cases q : 0 < c n
      · rw [tp_yes q]; omega
      · rw [tp_no q]; exact ih
theorem tp_is {n : Nat} {l c : Nat → Int} {fl : Int} (h : MayL n l c fl) : tp l c n = l (bl l c n).toNat := by
  obtain ⟨_, b1, b2, b3⟩ := bl_in h
  have u := tp_up (l := l) (c := c) (n := n) (M := l (bl l c n).toNat) (h.each _ b1).1 b3
  have d := tp_low (l := l) b1 b2
  omega
theorem pl_mst (l : Nat → Int) : ∀ n, pl l n = mst l n
  | 0 => rfl
  | n + 1 => by show (if l (pl l n) < l n then n else pl l n) = if l (mst l n) < l n then n else mst l n; rw [pl_mst l n]
theorem lft_le {l : Nat → Int} {a : Nat} : ∀ {n k : Nat}, k < n → k ≠ a → lft l a n ≤ clamp (l a - l k)
  | n + 1, k, hk, ha => by
    by_cases e : k = n
    · subst e
      by_cases q : k ≠ a ∧ clamp (l a - l k) < lft l a k
      · rw [lft_yes q.1 q.2]; exact Int.le_refl _
      · rw [lft_no q]
        have : ¬ clamp (l a - l k) < lft l a k := fun c => q ⟨ha, c⟩
        omega
    · have ih := lft_le (l := l) (a := a) (n := n) (k := k) (by omega) ha
      by_cases q : n ≠ a ∧ clamp (l a - l n) < lft l a n
      · rw [lft_yes q.1 q.2]; omega
      · rw [lft_no q]; exact ih
theorem lft_at (l : Nat → Int) (a : Nat) : ∀ n, lft l a n = 4611686018427387903 ∨ ∃ k, k < n ∧ k ≠ a ∧ lft l a n = clamp (l a - l k)
  | 0 => Or.inl rfl
  | n + 1 => by
    by_cases q : n ≠ a ∧ clamp (l a - l n) < lft l a n
    · exact Or.inr ⟨n, by omega, q.1, lft_yes q.1 q.2⟩
    · rw [lft_no q]
      rcases lft_at l a n with h | ⟨k, h1, h2, h3⟩
      · exact Or.inl h
      · exact Or.inr ⟨k, by omega, h2, h3⟩
theorem mx_up {z : Nat → Int} : ∀ {n k : Nat}, k < n → z k ≤ mx z n
  | n + 1, k, hk => by
    have u : mx z (n + 1) = max (mx z n) (z n) := rfl
    by_cases e : k = n
    · subst e; omega
    · have := mx_up (z := z) (n := n) (k := k) (by omega)
      omega
def oth (l : Nat → Int) (a k : Nat) : Int := if k < a then l k else l (a + 1 + (k - a))
theorem lft_is {l : Nat → Int} {a n : Nat} (ha : a < n + 2) : lft l a (n + 2) = clamp (l a - mx (oth l a) (n + 1)) := by
  have h1 := mx_is (oth l a) n
  have h2 := mst_lt (oth l a) n
  obtain ⟨j, hj⟩ : ∃ j, j = mst (oth l a) (n + 1) := ⟨_, rfl⟩
  rw [← hj] at h1 h2
  have e1 : ∃ k, k < n + 2 ∧ k ≠ a ∧ oth l a j = l k := by
    unfold oth
    by_cases q : j < a
    · exact ⟨j, by omega, by omega, if_pos q⟩
    · exact ⟨a + 1 + (j - a), by omega, by omega, if_neg q⟩
  obtain ⟨k, k1, k2, k3⟩ := e1
  have a1 := lft_le (l := l) k1 k2
  rw [← k3, ← h1] at a1
  rcases lft_at l a (n + 2) with h | ⟨q, q1, q2, q3⟩
  · have := clamp_bd (l a - mx (oth l a) (n + 1))
    omega
  · have e2 : ∃ i, i < n + 1 ∧ oth l a i = l q := by
      unfold oth
      by_cases c : q < a
      · exact ⟨q, by omega, if_pos c⟩
      · exact ⟨q - 1, by omega, by rw [if_neg (by omega), show a + 1 + (q - 1 - a) = q by omega]⟩
    obtain ⟨i, i1, i2⟩ := e2
    have b1 := mx_up (z := oth l a) i1
    have b2 := clamp_mono (show l a - mx (oth l a) (n + 1) ≤ l a - l q by omega)
    omega
end Lk
end Go.Proofs.YtdgcnaijndocnaaGreatDoor
