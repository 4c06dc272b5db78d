/-
  The document's answer of layer 14 (radomeref14): a whole number by shares.
-/
import Derived.Test.YtdgcnaijndocnaaDoorM11
import Derived.Test.YtdgcnaijndocnaaDoorRegM
import Derived.Test.YtdgcnaijndocnaaDoorM1
import Derived.Test.YtdgcnaijndocnaaDoorM14
import Derived.Test.YtdgcnaijndocnaaDoorM3
import Derived.Deep.DeepCutAuto
import Derived.Deep.CutRange
set_option linter.unusedSimpArgs false
set_option linter.unusedVariables false
namespace Go.Proofs.YtdgcnaijndocnaaDoor
open Go.RowKit Dec Nv Vc St Ld Nu
attribute [local go_sem ↓] Go.wp_at_zero Go.wp_at_succ

namespace Cn
theorem hide {p : Prop} (h : p) : Hid p := h
theorem tot_le {a : Nat → Int} {M : Int} : ∀ {n : Nat}, (∀ k, k < n → 0 ≤ a k ∧ a k ≤ M) → 0 ≤ tot a n ∧ tot a n ≤ M * n
  | 0, _ => by show (0 : Int) ≤ 0 ∧ (0 : Int) ≤ M * 0; omega
  | n + 1, h => by
    have h1 := tot_le (n := n) (fun k hk => h k (by omega))
    have h2 := h n (by omega)
    show 0 ≤ tot a n + a n ∧ tot a n + a n ≤ M * ((n : Int) + 1)
    rw [Int.mul_add, Int.mul_one]; omega
theorem tot_up {a : Nat → Int} : ∀ {n k : Nat}, (∀ j, j < n → 0 ≤ a j) → k ≤ n → tot a k ≤ tot a n
  | 0, k, _, h => by (obtain rfl : k = 0 := by omega); exact Int.le_refl _
  | n + 1, k, h0, h => by
    by_cases e : k = n + 1
    · rw [e]; exact Int.le_refl _
    · have h1 := tot_up (n := n) (k := k) (fun j hj => h0 j (by omega)) (by omega)
      have h2 := h0 n (by omega)
      show tot a k ≤ tot a n + a n; omega
theorem len_of {z : Int} (h : z.natAbs < 10 ^ 100) : (digs z.natAbs).length ≤ 900000 := by
  have := length_digs_le h
  omega
theorem bst_some {n : Nat} {o c : Nat → Int} (hc : ∀ i, i < n → 0 ≤ c i) {t : Nat} (ht : t < n) : 0 ≤ bst (give n o c t).2 n ∧ (bst (give n o c t).2 n).toNat < n := by
  obtain ⟨h1, h2, _⟩ := give_inv (o := o) hc t (by omega)
  rcases bst_spec (give n o c t).2 n with ⟨b1, b2⟩ | ⟨b1, b2, _, _⟩
  · exfalso
    have all : tot (got n o c t) n = n := by
      rw [tot_congr (b := fun _ => 1) (fun k hk => ?_), tot_const]; simp
      unfold got
      rw [if_pos]
      rcases h2 k hk with ⟨e, _⟩ | ⟨e, _⟩
      · have := hc k hk; have := b2 k hk; omega
      · exact e
    omega
  · exact ⟨b1, b2⟩
theorem give_in {n : Nat} {o c : Nat → Int} {M S : Int} (hc : ∀ i, i < n → 0 ≤ c i ∧ c i ≤ S) (ho : ∀ i, i < n → 0 ≤ o i ∧ o i ≤ M) (hS : 0 ≤ S) {t : Nat} (ht : t ≤ n) {i : Nat} (hi : i < n) :
    0 ≤ (give n o c t).1 i ∧ (give n o c t).1 i ≤ M + 1 ∧ -1 ≤ (give n o c t).2 i ∧ (give n o c t).2 i ≤ S := by
  have h1 := hc i hi
  have h2 := ho i hi
  rcases (give_inv (o := o) (fun i hi => (hc i hi).1) t ht).2.1 i hi with ⟨e1, e2⟩ | ⟨e1, e2⟩ <;> rw [e1, e2] <;> omega
theorem give_next {n : Nat} {o c : Nat → Int} {t b : Nat} (hb : bst (give n o c t).2 n = (b : Int)) :
    (fun k => if k = b then (give n o c t).1 b + 1 else (give n o c t).1 k) = (give n o c (t + 1)).1 ∧ (fun k => if k = b then (-1 : Int) else (give n o c t).2 k) = (give n o c (t + 1)).2 := by
  have u : give n o c (t + 1) = if bst (give n o c t).2 n < 0 then give n o c t else
      (fun i => if i = (bst (give n o c t).2 n).toNat then (give n o c t).1 i + 1 else (give n o c t).1 i, fun i => if i = (bst (give n o c t).2 n).toNat then -1 else (give n o c t).2 i) := rfl
  rw [u, if_neg (by omega), hb, Int.toNat_natCast]
  refine ⟨funext fun k => ?_, rfl⟩
  by_cases e : k = b
  · subst e; rw [if_pos rfl]; show _ = if k = k then _ else _; rw [if_pos rfl]
  · rw [if_neg e]; show _ = if k = b then _ else _; rw [if_neg e]
theorem bst_yes {C : Nat → Int} {k : Nat} (h1 : 0 ≤ C k) (h2 : bst C k < 0 ∨ C (bst C k).toNat < C k) : bst C (k + 1) = (k : Int) := if_pos ⟨h1, h2⟩
theorem bst_no {C : Nat → Int} {k : Nat} (h : ¬ (0 ≤ C k ∧ (bst C k < 0 ∨ C (bst C k).toNat < C k))) : bst C (k + 1) = bst C k := if_neg h
theorem bst_lt {C : Nat → Int} {k : Nat} (h : 0 ≤ bst C k) : (bst C k).toNat < k := by
  rcases bst_spec C k with ⟨e, _⟩ | ⟨_, e, _⟩
  · omega
  · exact e
theorem bst_lo (C : Nat → Int) (k : Nat) : -1 ≤ bst C k ∧ bst C k < k := by
  rcases bst_spec C k with ⟨e, _⟩ | ⟨e1, e, _⟩ <;> omega
theorem row_mono {w : World} {B B' : Nat} {e : TypeId} {s : Nat} {v : Value} {n : Nat} {xs : List Value} (h : w.ownsRow B e s v n xs) (hb : B' ≤ B) : w.ownsRow B' e s v n xs :=
  ⟨h.1, h.2.imp id (fun ⟨g, cap, cur, h1, h2, h3⟩ => ⟨g, cap, cur, h1, Nat.le_trans hb h2, h3⟩)⟩
theorem sign_cases (z : Int) : (z < 0 ∧ z.sign = -1) ∨ (z = 0 ∧ z.sign = 0) ∨ (0 < z ∧ z.sign = 1) := by
  rcases Int.lt_trichotomy z 0 with h | h | h
  · exact Or.inl ⟨h, Int.sign_eq_neg_one_of_neg h⟩
  · exact Or.inr (Or.inl ⟨h, by rw [h]; rfl⟩)
  · exact Or.inr (Or.inr ⟨h, Int.sign_eq_one_of_pos h⟩)
end Cn
open Cn

end Go.Proofs.YtdgcnaijndocnaaDoor

/-
  The document's answer of layer 14 (radomeref14): Even, Check, Of.
-/
set_option linter.unusedSimpArgs false
set_option linter.unusedVariables false
namespace Go.Proofs.YtdgcnaijndocnaaDoor
open Go.RowKit Dec Nv Vc St Ld Nu Cn
attribute [local go_sem ↓] Go.wp_at_zero Go.wp_at_succ

set_option maxRecDepth 20000 in
set_option maxHeartbeats 2000000 in
theorem dcheck14_any (ao : Option Addr) (n ca : Nat) (z : Nat → Int) (fl : Int) (w : World) (hs : Sl w ao n ca z) (hz : B64 z) (b : Bool) (hb : b = true ↔ Ch n z fl) (f0 : -9223372036854775808 ≤ fl) (f1 : fl ≤ 9223372036854775807) :
    Calls Tryd.prog 7 #[.slice ao n ca, .int .i64 fl] w fun e w' => e = .returned (.bool b) ∧ Below w.heap.size w w' := by
  obtain ⟨x, hao, hc⟩ := hs.get
  have l1 := hs.le
  have l2 := hs.cap
  have HZ := hide hz
  have HB := hide hb
  have HC := hide hc
  have no : ¬ Ch n z fl → b = false := fun h => by cases b <;> simp_all
  have NO := hide no
  clear hz hb hc no hs
  by_cases hH : 1 ≤ n ∧ n ≤ 4 ∧ 0 ≤ fl ∧ fl ≤ 67108864
  · obtain ⟨hn1, hn4, hf0, hf1⟩ := hH
    obtain rfl := hao (by omega)
    have e1 : ¬ (n : Int) < 1 := by omega
    have e2 : ¬ (4 : Int) < n := by omega
    go_enter Tryd.func7, Tryd.ntmps7
    go_wp2
    go_loopw [5, 6] (fun lv i wr => ∃ k : Nat, k ≤ n ∧ i = .int .i64 (k : Int) ∧ lv = .int .i64 (1073741824 - tot z k) ∧ 0 ≤ 1073741824 - tot z k ∧ 0 ≤ tot z k ∧ (∀ j, j < k → fl ≤ z j) ∧ w = wr) (fun _ i _ => n - (intOf i).toNat)
    case atStart => exact ⟨0, by omega, rfl, rfl, by show (0 : Int) ≤ 1073741824 - 0; omega, Int.le_refl _, fun j hj => by omega, rfl⟩
    case round =>
      obtain ⟨k, hk, rfl, rfl, hl0, ht0, hfl, rfl⟩ := hrel
      by_cases h : k < n
      · have ck := HC.out k h
        have bk := HZ.out k
        have HU : Hid (tot z (k + 1) = tot z k + z k) := rfl
        have HF := hide hfl
        have kn : (k : Int) < n := by omega
        obtain ⟨zk, hzk⟩ : ∃ q, q = z k := ⟨_, rfl⟩
        obtain ⟨tk, htk⟩ : ∃ q, q = tot z k := ⟨_, rfl⟩
        rw [← hzk] at ck bk HU
        rw [← htk] at hl0 ht0 HU ⊢
        have HZK := hide hzk
        clear hzk htk hfl
        by_cases c1 : zk < fl
        · obtain rfl : b = false := NO.out (fun q => by have := q.each k h; rw [← HZK.out] at this; omega)
          go_wp2
          go_ret
          exact ⟨rfl, Below.refl _ _⟩
        · by_cases c2 : 1073741824 - tk < zk
          · obtain rfl : b = false := NO.out (fun q => by have := q.le (k := k + 1) h; rw [HU.out] at this; omega)
            go_wp2
            go_ret
            exact ⟨rfl, Below.refl _ _⟩
          · go_wp2
            go_roundw
            case rel =>
              refine ⟨k + 1, by omega, by go_num, by rw [HU.out]; congr 1; omega, by rw [HU.out]; omega, by rw [HU.out]; omega, fun j hj => ?_, by first | trivial | rfl⟩
              by_cases e : j = k
              · rw [e, ← HZK.out]; omega
              · exact HF.out j (by omega)
            case measure => simp [intOf]; omega
      · obtain rfl : n = k := by omega
        have HF := hide hfl
        have hd : b = decide (1073741824 - tot z n = 0) := by
          by_cases e : tot z n = 1073741824
          · rw [HB.out.2 ⟨hn1, hn4, hf0, hf1, hfl, e⟩]; exact (decide_eq_true (by omega)).symm
          · rw [NO.out (fun q => e q.sum)]; exact (decide_eq_false (by omega)).symm
        have HD := hide hd
        obtain ⟨tk, htk⟩ : ∃ q, q = tot z n := ⟨_, rfl⟩
        rw [← htk] at hl0 ht0 HD ⊢
        clear htk hfl hd
        by_cases e : 1073741824 - tk = 0
        · obtain rfl : b = true := by rw [HD.out]; exact decide_eq_true e
          rw [e]
          go_wp2
          go_ret
          exact ⟨rfl, Below.refl _ _⟩
        · obtain rfl : b = false := by rw [HD.out]; exact decide_eq_false e
          have e' : (1073741824 - tk == 0) = false := by simp [e]
          have e'' : ¬ tk = 1073741824 := by omega
          have e3 : ¬ (1073741824 : Int) = tk := by omega
          go_wp2
          go_ret
          exact ⟨rfl, Below.refl _ _⟩
  · obtain rfl : b = false := NO.out (fun q => hH ⟨q.one, q.four, q.lo, q.hi⟩)
    clear hao HC HZ HB NO
    rcases (by omega : n = 0 ∨ 4 < n ∨ (1 ≤ n ∧ n ≤ 4 ∧ fl < 0) ∨ (1 ≤ n ∧ n ≤ 4 ∧ 0 ≤ fl ∧ 67108864 < fl)) with h | h | ⟨h1, h2, h3⟩ | ⟨h1, h2, h3, h4⟩
    · subst h
      go_enter Tryd.func7, Tryd.ntmps7
      go_wp2
      go_ret
      exact ⟨rfl, Below.refl _ _⟩
    · have e1 : ¬ (n : Int) < 1 := by omega
      have e2 : (4 : Int) < n := by omega
      go_enter Tryd.func7, Tryd.ntmps7
      go_wp2
      go_ret
      exact ⟨rfl, Below.refl _ _⟩
    · have e1 : ¬ (n : Int) < 1 := by omega
      have e2 : ¬ (4 : Int) < n := by omega
      go_enter Tryd.func7, Tryd.ntmps7
      go_wp2
      go_ret
      exact ⟨rfl, Below.refl _ _⟩
    · have e1 : ¬ (n : Int) < 1 := by omega
      have e2 : ¬ (4 : Int) < n := by omega
      go_enter Tryd.func7, Tryd.ntmps7
      go_wp2
      go_ret
      exact ⟨rfl, Below.refl _ _⟩

/-- What Of answers. -/
def OfR (w w' : World) (n : Nat) (z : Nat → Int) (fl : Int) (v : Value) (er : Int) : Prop :=
  (¬ MayW n z fl ∧ v = .slice none 0 0 ∧ er = 1 ∧ Below w.heap.size w w') ∨ (MayW n z fl ∧ tot z n = 0 ∧ v = .slice none 0 0 ∧ er = 11 ∧ Below w.heap.size w w') ∨
  (MayW n z fl ∧ 0 < tot z n ∧ er = 0 ∧ Own w.heap.size w w' v n (fun k => sh (1073741824 - fl * n) z n k + fl))

end Go.Proofs.YtdgcnaijndocnaaDoor
