/-
  Chances by shares (layer 14), plain: each part cut down, what is left over to those of which the most was cut off; they sum to the whole, a greater weight has no lesser part, parts that are whole are exact.
-/
import Derived.Test.YtlomfjacgomhdaaDoorPure
set_option linter.unusedSimpArgs false
set_option linter.unusedVariables false
set_option linter.unusedSectionVars false
namespace Go.Proofs.YtlomfjacgomhdaaDoor
namespace Cn

/-- The sum of the first numbers. -/
def tot (a : Nat → Int) : Nat → Int
  | 0 => 0
  | k + 1 => tot a k + a k
theorem tot_congr {a b : Nat → Int} : ∀ {n : Nat}, (∀ k, k < n → a k = b k) → tot a n = tot b n
  | 0, _ => rfl
  | n + 1, h => by show tot a n + a n = tot b n + b n; rw [tot_congr (fun k hk => h k (by omega)), h n (by omega)]
theorem tot_nn {a : Nat → Int} : ∀ {n : Nat}, (∀ k, k < n → 0 ≤ a k) → 0 ≤ tot a n
  | 0, _ => Int.le_refl _
  | n + 1, h => by
    have h1 := tot_nn (n := n) (fun k hk => h k (by omega))
    have h2 := h n (by omega)
    show 0 ≤ tot a n + a n; omega
theorem tot_mul (c : Int) (a : Nat → Int) : ∀ n, tot (fun k => c * a k) n = c * tot a n
  | 0 => (Int.mul_zero c).symm
  | n + 1 => by show tot (fun k => c * a k) n + c * a n = c * (tot a n + a n); rw [tot_mul c a n, Int.mul_add]
theorem tot_add (a b : Nat → Int) : ∀ n, tot (fun k => a k + b k) n = tot a n + tot b n
  | 0 => rfl
  | n + 1 => by show tot (fun k => a k + b k) n + (a n + b n) = tot a n + a n + (tot b n + b n); rw [tot_add a b n]; omega
theorem tot_const (c : Int) : ∀ n : Nat, tot (fun _ => c) n = c * n
  | 0 => (Int.mul_zero c).symm
  | n + 1 => by show tot (fun _ => c) n + c = c * ((n : Int) + 1); rw [tot_const c n, Int.mul_add, Int.mul_one]
theorem tot_lt {a : Nat → Int} {S : Int} : ∀ {n : Nat}, 0 < n → (∀ k, k < n → a k < S) → tot a n < S * n
  | 0, h, _ => by omega
  | 1, _, h => by have := h 0 (by omega); show 0 + a 0 < S * ((1 : Nat) : Int); omega
  | n + 2, _, h => by
    have h1 := tot_lt (n := n + 1) (by omega) (fun k hk => h k (by omega))
    have h2 := h (n + 1) (by omega)
    show tot a (n + 1) + a (n + 1) < S * ((n + 1 + 1 : Nat) : Int)
    have e : S * ((n + 1 + 1 : Nat) : Int) = S * ((n + 1 : Nat) : Int) + S := by rw [show ((n + 1 + 1 : Nat) : Int) = ((n + 1 : Nat) : Int) + 1 by omega, Int.mul_add, Int.mul_one]
    omega
theorem tot_le_each {a : Nat → Int} : ∀ {n : Nat}, (∀ k, k < n → 0 ≤ a k) → ∀ {i : Nat}, i < n → a i ≤ tot a n
  | n + 1, h, i, hi => by
    have h1 := tot_nn (n := n) (fun k hk => h k (by omega))
    have h2 := h n (by omega)
    show a i ≤ tot a n + a n
    by_cases e : i = n
    · subst e; omega
    · have := tot_le_each (n := n) (fun k hk => h k (by omega)) (i := i) (by omega); omega
theorem tot_set {a : Nat → Int} {b : Nat} (x : Int) : ∀ {n : Nat}, b < n → tot (fun k => if k = b then x else a k) n = tot a n + (x - a b)
  | n + 1, h => by
    show tot (fun k => if k = b then x else a k) n + (if n = b then x else a n) = tot a n + a n + (x - a b)
    by_cases e : n = b
    · subst e
      rw [if_pos rfl, tot_congr (b := a) (fun k hk => if_neg (by omega))]; omega
    · rw [if_neg e, tot_set x (by omega)]; omega

/-- The first place of the greatest number that is not below 0; -1, if there is none. -/
def bst (c : Nat → Int) : Nat → Int
  | 0 => -1
  | k + 1 => if 0 ≤ c k ∧ (bst c k < 0 ∨ c (bst c k).toNat < c k) then (k : Int) else bst c k
theorem bst_spec (c : Nat → Int) : ∀ n, (bst c n = -1 ∧ ∀ i, i < n → c i < 0) ∨ (0 ≤ bst c n ∧ (bst c n).toNat < n ∧ 0 ≤ c (bst c n).toNat ∧ ∀ i, i < n → c i ≤ c (bst c n).toNat)
  | 0 => Or.inl ⟨rfl, fun i hi => by omega⟩
  | n + 1 => by
    have ih := bst_spec c n
    show ((if 0 ≤ c n ∧ (bst c n < 0 ∨ c (bst c n).toNat < c n) then (n : Int) else bst c n) = -1 ∧ _) ∨ (0 ≤ (if 0 ≤ c n ∧ (bst c n < 0 ∨ c (bst c n).toNat < c n) then (n : Int) else bst c n) ∧ _)
    have u : bst c (n + 1) = if 0 ≤ c n ∧ (bst c n < 0 ∨ c (bst c n).toNat < c n) then (n : Int) else bst c n := rfl
    by_cases h : 0 ≤ c n ∧ (bst c n < 0 ∨ c (bst c n).toNat < c n)
    · rw [u, if_pos h]
      refine Or.inr ⟨by omega, by omega, by rw [Int.toNat_natCast]; exact h.1, fun i hi => ?_⟩
      rw [Int.toNat_natCast]
      by_cases e : i = n
      · subst e; omega
      · rcases ih with ⟨_, h2⟩ | ⟨h1, _, _, h4⟩
        · have := h2 i (by omega); omega
        · have := h4 i (by omega); omega
    · rw [u, if_neg h]
      rcases ih with ⟨h1, h2⟩ | ⟨h1, h2, h3, h4⟩
      · refine Or.inl ⟨h1, fun i hi => ?_⟩
        by_cases e : i = n
        · subst e; omega
        · exact h2 i (by omega)
      · refine Or.inr ⟨h1, by omega, h3, fun i hi => ?_⟩
        by_cases e : i = n
        · subst e; omega
        · exact h4 i (by omega)

/-- One more for those of which the most was cut off, t times; who had one has -1 then. -/
def give (n : Nat) (o c : Nat → Int) : Nat → (Nat → Int) × (Nat → Int)
  | 0 => (o, c)
  | t + 1 => if bst (give n o c t).2 n < 0 then give n o c t else
      (fun i => if i = (bst (give n o c t).2 n).toNat then (give n o c t).1 i + 1 else (give n o c t).1 i, fun i => if i = (bst (give n o c t).2 n).toNat then -1 else (give n o c t).2 i)

section
variable {n : Nat} {o c : Nat → Int} (hc : ∀ i, i < n → 0 ≤ c i)
/-- Who has one: t of them. -/
def got (n : Nat) (o c : Nat → Int) (t : Nat) : Nat → Int := fun i => if (give n o c t).2 i = -1 then 1 else 0
include hc
theorem give_inv : ∀ t, t ≤ n → tot (got n o c t) n = t ∧ (∀ i, i < n → ((give n o c t).2 i = c i ∧ (give n o c t).1 i = o i) ∨ ((give n o c t).2 i = -1 ∧ (give n o c t).1 i = o i + 1)) ∧
    ∀ i j, i < n → j < n → (give n o c t).2 j = -1 → c j < c i → (give n o c t).2 i = -1
  | 0, _ => by
    refine ⟨?_, fun i _ => Or.inl ⟨rfl, rfl⟩, fun i j hi hj h _ => by have := hc j hj; have h' : c j = -1 := h; omega⟩
    rw [tot_congr (b := fun _ => 0) (fun k hk => by unfold got; have := hc k hk; rw [if_neg (by show ¬ c k = -1; omega)])]
    rw [tot_const]; simp
  | t + 1, ht => by
    obtain ⟨h1, h2, h3⟩ := give_inv t (by omega)
    obtain ⟨O, hO⟩ : ∃ O, O = (give n o c t).1 := ⟨_, rfl⟩
    obtain ⟨C, hC⟩ : ∃ C, C = (give n o c t).2 := ⟨_, rfl⟩
    have u : give n o c (t + 1) = if bst C n < 0 then (O, C) else (fun i => if i = (bst C n).toNat then O i + 1 else O i, fun i => if i = (bst C n).toNat then -1 else C i) := by
      rw [hC, hO]; rfl
    rw [← hO, ← hC] at h2
    rw [← hC] at h3
    have hg : tot (fun i => if C i = -1 then 1 else 0) n = t := by rw [hC]; exact h1
    rcases bst_spec C n with ⟨b1, b2⟩ | ⟨b1, b2, b3, b4⟩
    · -- none is left: all have one
      exfalso
      have all : tot (fun i => if C i = -1 then (1 : Int) else 0) n = n := by
        rw [tot_congr (b := fun _ => 1) (fun k hk => ?_), tot_const]; simp
        rw [if_pos]
        rcases h2 k hk with ⟨e, _⟩ | ⟨e, _⟩
        · have := hc k hk; have := b2 k hk; omega
        · exact e
      omega
    · obtain ⟨b, hb⟩ : ∃ b, b = (bst C n).toNat := ⟨_, rfl⟩
      rw [← hb] at b2 b3 b4
      rw [if_neg (by omega), ← hb] at u
      have e1 : (give n o c (t + 1)).1 = fun i => if i = b then O i + 1 else O i := by rw [u]
      have e2 : (give n o c (t + 1)).2 = fun i => if i = b then -1 else C i := by rw [u]
      have cb : C b = c b := by
        rcases h2 b b2 with ⟨e, _⟩ | ⟨e, _⟩
        · exact e
        · omega
      refine ⟨?_, fun i hi => ?_, fun i j hi hj hp hr => ?_⟩
      · have e3 : tot (got n o c (t + 1)) n = tot (fun k => if k = b then (1 : Int) else (fun i => if C i = -1 then (1 : Int) else 0) k) n := tot_congr fun k hk => by
          unfold got
          rw [e2]
          show (if (if k = b then (-1 : Int) else C k) = -1 then (1 : Int) else 0) = _
          by_cases e : k = b
          · rw [if_pos e, if_pos e, if_pos rfl]
          · rw [if_neg e, if_neg e]
        rw [e3, tot_set 1 b2, hg]
        show (t : Int) + (1 - (if C b = -1 then (1 : Int) else 0)) = ((t + 1 : Nat) : Int)
        rw [if_neg (by omega)]; omega
      · rw [e1, e2]
        show ((if i = b then (-1 : Int) else C i) = c i ∧ (if i = b then O i + 1 else O i) = o i) ∨ ((if i = b then (-1 : Int) else C i) = -1 ∧ (if i = b then O i + 1 else O i) = o i + 1)
        by_cases e : i = b
        · rw [if_pos e, if_pos e, e]
          refine Or.inr ⟨rfl, ?_⟩
          rcases h2 b b2 with ⟨_, q⟩ | ⟨q, _⟩
          · rw [q]
          · omega
        · rw [if_neg e, if_neg e]; exact h2 i hi
      · rw [e2] at hp ⊢
        show (if i = b then (-1 : Int) else C i) = -1
        by_cases e : i = b
        · rw [if_pos e]
        · rw [if_neg e]
          have hp' : (if j = b then (-1 : Int) else C j) = -1 := hp
          by_cases ej : j = b
          · have := b4 i hi
            rw [ej] at hr
            rcases h2 i hi with ⟨q, _⟩ | ⟨q, _⟩
            · omega
            · exact q
          · rw [if_neg ej] at hp'
            exact h3 i j hi hj hp' hr
end

/-- A whole number by shares. -/
def qt (m : Int) (a : Nat → Int) (n i : Nat) : Int := m * a i / tot a n
def rt (m : Int) (a : Nat → Int) (n i : Nat) : Int := m * a i % tot a n
def lf (m : Int) (a : Nat → Int) (n : Nat) : Int := m - tot (qt m a n) n
def sh (m : Int) (a : Nat → Int) (n : Nat) : Nat → Int := (give n (qt m a n) (rt m a n) (lf m a n).toNat).1
section
variable {m : Int} {a : Nat → Int} {n : Nat} (hm : 0 ≤ m) (ha : ∀ i, i < n → 0 ≤ a i) (hS : 0 < tot a n)
include hS
theorem rt_in (i : Nat) : 0 ≤ rt m a n i ∧ rt m a n i < tot a n := ⟨Int.emod_nonneg _ (by omega), Int.emod_lt_of_pos _ hS⟩
theorem qr (i : Nat) : m * a i = tot a n * qt m a n i + rt m a n i := (Int.mul_ediv_add_emod (m * a i) (tot a n)).symm
theorem lf_is : tot a n * lf m a n = tot (rt m a n) n := by
  have h1 : tot (fun i => m * a i) n = m * tot a n := tot_mul m a n
  have h2 : tot (fun i => m * a i) n = tot (fun i => tot a n * qt m a n i + rt m a n i) n := tot_congr fun k _ => qr hS k
  rw [tot_add (fun i => tot a n * qt m a n i) (rt m a n) n, tot_mul (tot a n) (qt m a n) n] at h2
  unfold lf
  rw [Int.mul_sub, Int.mul_comm (tot a n) m]; omega
theorem n_pos : 0 < n := by
  rcases Nat.eq_zero_or_pos n with e | e
  · subst e; have : tot a 0 = 0 := rfl; omega
  · exact e
theorem lf_in : 0 ≤ lf m a n ∧ lf m a n < n := by
  have h1 := lf_is (m := m) hS
  have h2 := tot_nn (a := rt m a n) (n := n) (fun k _ => (rt_in hS k).1)
  have h3 := tot_lt (a := rt m a n) (S := tot a n) (n_pos hS) (fun k _ => (rt_in hS k).2)
  refine ⟨?_, ?_⟩
  · have : tot a n * 0 ≤ tot a n * lf m a n := by rw [Int.mul_zero]; omega
    exact Int.le_of_mul_le_mul_left this hS
  · rw [← h1] at h3
    exact Int.lt_of_mul_lt_mul_left h3 (Int.le_of_lt hS)
theorem sh_cases {i : Nat} (hi : i < n) : ((give n (qt m a n) (rt m a n) (lf m a n).toNat).2 i = rt m a n i ∧ sh m a n i = qt m a n i) ∨ ((give n (qt m a n) (rt m a n) (lf m a n).toNat).2 i = -1 ∧ sh m a n i = qt m a n i + 1) :=
  (give_inv (fun i _ => (rt_in hS i).1) (lf m a n).toNat (by have := lf_in (m := m) hS; omega)).2.1 i hi
/-- They sum to the whole. -/
theorem sh_tot : tot (sh m a n) n = m := by
  have hl := lf_in (m := m) hS
  obtain ⟨h1, _, _⟩ := give_inv (n := n) (o := qt m a n) (fun i _ => (rt_in (m := m) hS i).1) (lf m a n).toNat (by omega)
  have e : tot (sh m a n) n = tot (fun i => qt m a n i + got n (qt m a n) (rt m a n) (lf m a n).toNat i) n := tot_congr fun k hk => by
    unfold got
    rcases sh_cases (m := m) hS hk with ⟨e1, e2⟩ | ⟨e1, e2⟩
    · rw [e2, e1, if_neg (by have := (rt_in (m := m) hS k).1; omega), Int.add_zero]
    · rw [e2, e1, if_pos rfl]
  rw [e, tot_add, h1]
  unfold lf at hl ⊢
  omega
include hm ha
theorem qt_nn {i : Nat} (hi : i < n) : 0 ≤ qt m a n i := Int.ediv_nonneg (Int.mul_nonneg hm (ha i hi)) (Int.le_of_lt hS)
theorem sh_nn {i : Nat} (hi : i < n) : 0 ≤ sh m a n i := by
  have := qt_nn hm ha hS hi
  rcases sh_cases (m := m) hS hi with ⟨_, e⟩ | ⟨_, e⟩ <;> omega
theorem sh_le {i : Nat} (hi : i < n) : sh m a n i ≤ m := by
  have := tot_le_each (a := sh m a n) (n := n) (fun k hk => sh_nn hm ha hS hk) hi
  rw [sh_tot hS] at this; exact this
omit ha in
/-- A greater weight has no lesser part. -/
theorem sh_mono {i j : Nat} (hi : i < n) (hj : j < n) (hm' : 0 < m) (h : a j < a i) : sh m a n j ≤ sh m a n i := by
  have hl := lf_in (m := m) hS
  obtain ⟨_, _, h3⟩ := give_inv (n := n) (o := qt m a n) (fun i _ => (rt_in (m := m) hS i).1) (lf m a n).toNat (by omega)
  have hlt : m * a j < m * a i := Int.mul_lt_mul_of_pos_left h hm'
  have hq : qt m a n j ≤ qt m a n i := Int.ediv_le_ediv hS (Int.le_of_lt hlt)
  have ei := qr (m := m) hS i
  have ej := qr (m := m) hS j
  rcases sh_cases (m := m) hS hi with ⟨e1, e2⟩ | ⟨e1, e2⟩
  · rcases sh_cases (m := m) hS hj with ⟨f1, f2⟩ | ⟨f1, f2⟩
    · omega
    · rcases Int.lt_or_eq_of_le hq with c | c
      · omega
      · exfalso
        rw [c] at ej
        have := h3 i j hi hj f1 (by omega)
        have := (rt_in (m := m) hS i).1
        omega
  · rcases sh_cases (m := m) hS hj with ⟨f1, f2⟩ | ⟨f1, f2⟩ <;> omega
omit hm ha in
/-- Parts that are whole are exact. -/
theorem sh_whole {p : Nat → Int} (h : ∀ i, i < n → m * a i = tot a n * p i) {i : Nat} (hi : i < n) : sh m a n i = p i := by
  have hr : ∀ k, k < n → rt m a n k = 0 := fun k hk => by unfold rt; rw [h k hk]; exact Int.mul_emod_right _ _
  have hq : ∀ k, k < n → qt m a n k = p k := fun k hk => by unfold qt; rw [h k hk]; exact Int.mul_ediv_cancel_left _ (by omega)
  have h0 : lf m a n = 0 := by
    have e := lf_is (m := m) hS
    rw [tot_congr (b := fun _ => 0) hr, tot_const, Int.zero_mul] at e
    rcases Int.mul_eq_zero.1 e with e | e
    · omega
    · exact e
  unfold sh
  rw [h0]
  exact hq i hi
end
theorem bst_congr {c d : Nat → Int} : ∀ {n : Nat}, (∀ i, i < n → c i = d i) → bst c n = bst d n
  | 0, _ => rfl
  | n + 1, h => by
    have ih := bst_congr (n := n) (fun i hi => h i (by omega))
    have hb : 0 ≤ bst c n → c (bst c n).toNat = d (bst c n).toNat := fun q => by
      rcases bst_spec c n with ⟨e, _⟩ | ⟨_, e, _, _⟩
      · omega
      · exact h _ (by omega)
    show (if 0 ≤ c n ∧ (bst c n < 0 ∨ c (bst c n).toNat < c n) then (n : Int) else bst c n) = (if 0 ≤ d n ∧ (bst d n < 0 ∨ d (bst d n).toNat < d n) then (n : Int) else bst d n)
    rw [← ih, ← h n (by omega)]
    rcases Int.lt_or_le (bst c n) 0 with q | q
    · have e1 : (0 ≤ c n ∧ (bst c n < 0 ∨ c (bst c n).toNat < c n)) = (0 ≤ c n ∧ (bst c n < 0 ∨ d (bst c n).toNat < c n)) := by simp [q]
      simp only [e1]
    · rw [hb q]
end Cn
end Go.Proofs.YtlomfjacgomhdaaDoor
