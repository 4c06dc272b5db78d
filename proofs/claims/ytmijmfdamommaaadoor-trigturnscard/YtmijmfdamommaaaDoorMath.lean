/-
  Plain facts on decimal digits, the lowest first: what a list of digits tells, the one list without noughts behind that tells a number, and what adding, taking away and cutting do to it. No program is named here.
-/
set_option linter.unusedSimpArgs false
set_option linter.unusedVariables false
namespace Go.Proofs.YtmijmfdamommaaaDoor
namespace Dec

/-- What digits tell, the lowest first. -/
def val : List Nat → Nat
  | [] => 0
  | d :: r => d + 10 * val r

/-- Each is a digit. -/
def Small (l : List Nat) : Prop := ∀ i, l.getD i 0 < 10

/-- No nought behind. -/
def Tidy (l : List Nat) : Prop := l ≠ [] → l.getD (l.length - 1) 0 ≠ 0

/-- The digits of a number, with so much fuel. -/
def digsF : Nat → Nat → List Nat
  | 0, _ => []
  | f + 1, n => if n = 0 then [] else n % 10 :: digsF f (n / 10)

/-- The digits of a number. -/
def digs (n : Nat) : List Nat := digsF n n

theorem val_nil : val [] = 0 := rfl
theorem val_cons (d : Nat) (r : List Nat) : val (d :: r) = d + 10 * val r := rfl

theorem small_nil : Small [] := by intro i; simp
theorem small_cons {d : Nat} {r : List Nat} (h : d < 10) (k : Small r) : Small (d :: r) := by
  intro i
  cases i with
  | zero => simpa using h
  | succ j => simpa using k j
theorem small_tail {d : Nat} {r : List Nat} (h : Small (d :: r)) : Small r := by
  intro i; simpa using h (i + 1)
theorem small_head {d : Nat} {r : List Nat} (h : Small (d :: r)) : d < 10 := by simpa using h 0

theorem val_append (a b : List Nat) : val (a ++ b) = val a + 10 ^ a.length * val b := by
  induction a with
  | nil => simp [val]
  | cons d r ih =>
    simp only [List.cons_append, val_cons, ih, List.length_cons, Nat.pow_succ]
    rw [Nat.mul_add, ← Nat.add_assoc, Nat.mul_comm (10 ^ r.length) 10, ← Nat.mul_assoc]

theorem val_lt {l : List Nat} (h : Small l) : val l < 10 ^ l.length := by
  induction l with
  | nil => simp [val]
  | cons d r ih =>
    have h1 := ih (small_tail h)
    have h2 := small_head h
    simp only [val_cons, List.length_cons, Nat.pow_succ]
    omega

theorem take_step (l : List Nat) (k : Nat) : val (l.take (k + 1)) = val (l.take k) + 10 ^ k * l.getD k 0 := by
  by_cases h : k < l.length
  · rw [List.take_succ_eq_append_getElem h, val_append]
    have e : (l.take k).length = k := by simp; omega
    rw [e]
    simp [val, List.getD, List.getElem?_eq_getElem h]
  · rw [List.take_of_length_le (by omega), List.take_of_length_le (by omega)]
    have e : l.getD k 0 = 0 := by simp [List.getD, List.getElem?_eq_none (Nat.le_of_not_lt h)]
    rw [e]; simp

theorem take_all {l : List Nat} {k : Nat} (h : l.length ≤ k) : l.take k = l := List.take_of_length_le h

theorem small_append {a b : List Nat} (ha : Small a) (hb : Small b) : Small (a ++ b) := by
  intro i
  by_cases h : i < a.length
  · have := ha i
    simpa [List.getD, List.getElem?_append_left h] using this
  · have := hb (i - a.length)
    simpa [List.getD, List.getElem?_append_right (Nat.le_of_not_lt h)] using this

theorem small_one {d : Nat} (h : d < 10) : Small [d] := small_cons h small_nil

theorem small_take {l : List Nat} (h : Small l) (k : Nat) : Small (l.take k) := by
  intro i
  by_cases hi : i < k
  · have := h i
    simpa [List.getD, List.getElem?_take, hi] using this
  · simp [List.getD, List.getElem?_take, hi]

/-! ### the one tidy list -/

theorem val_pos {l : List Nat} (ht : Tidy l) (hn : l ≠ []) : 0 < val l := by
  induction l with
  | nil => exact absurd rfl hn
  | cons d r ih =>
    rw [val_cons]
    by_cases hr : r = []
    · subst hr
      have := ht (by simp)
      simp at this
      omega
    · have : Tidy r := by
        intro _
        have := ht (by simp)
        have e : (d :: r).length - 1 = (r.length - 1) + 1 := by
          have : 0 < r.length := List.length_pos_iff.2 hr
          simp; omega
        rw [e] at this
        simpa using this
      have := ih this hr
      omega

theorem tidy_tail {d : Nat} {r : List Nat} (h : Tidy (d :: r)) : Tidy r := by
  intro hr
  have := h (by simp)
  have e : (d :: r).length - 1 = (r.length - 1) + 1 := by
    have : 0 < r.length := List.length_pos_iff.2 hr
    simp; omega
  rw [e] at this
  simpa using this

theorem digsF_val : ∀ (f : Nat) (l : List Nat), Small l → Tidy l → val l ≤ f → digsF f (val l) = l
  | 0, l, _, ht, hf => by
    by_cases hn : l = []
    · subst hn; rfl
    · have := val_pos ht hn
      omega
  | f + 1, l, hs, ht, hf => by
    cases l with
    | nil => simp [digsF, val]
    | cons d r =>
      have hp := val_pos ht (by simp)
      have hd := small_head hs
      rw [digsF, if_neg (by omega)]
      have e1 : val (d :: r) % 10 = d := by rw [val_cons]; omega
      have e2 : val (d :: r) / 10 = val r := by rw [val_cons]; omega
      rw [e1, e2, digsF_val f r (small_tail hs) (tidy_tail ht) (by rw [val_cons] at hp hf; omega)]

/-- A tidy list of digits is the number's. -/
theorem digs_val {l : List Nat} (hs : Small l) (ht : Tidy l) : digs (val l) = l := digsF_val _ l hs ht (Nat.le_refl _)

theorem digs_of {l : List Nat} {n : Nat} (hs : Small l) (ht : Tidy l) (h : val l = n) : l = digs n := by rw [← h, digs_val hs ht]

theorem digsF_small : ∀ (f n : Nat), Small (digsF f n)
  | 0, _ => small_nil
  | f + 1, n => by
    rw [digsF]
    split
    · exact small_nil
    · exact small_cons (by omega) (digsF_small f _)

theorem digsF_back : ∀ (f n : Nat), n ≤ f → val (digsF f n) = n
  | 0, n, h => by simp [digsF, val]; omega
  | f + 1, n, h => by
    rw [digsF]
    split
    · simp [val]; omega
    · rw [val_cons, digsF_back f (n / 10) (by omega)]; omega

theorem tidy_cons {d : Nat} {r : List Nat} (h : Tidy r) (k : r = [] → d ≠ 0) : Tidy (d :: r) := by
  intro _
  by_cases hr : r = []
  · subst hr; simpa using k rfl
  · have := h hr
    have e : (d :: r).length - 1 = (r.length - 1) + 1 := by
      have : 0 < r.length := List.length_pos_iff.2 hr
      simp; omega
    rw [e]; simpa using this

theorem digsF_tidy : ∀ (f n : Nat), n ≤ f → Tidy (digsF f n)
  | 0, _, _ => by intro h; exact absurd rfl h
  | f + 1, n, h => by
    rw [digsF]
    split
    · intro h; exact absurd rfl h
    · refine tidy_cons (digsF_tidy f _ (by omega)) ?_
      intro e
      have := digsF_back f (n / 10) (by omega)
      rw [e] at this
      simp [val] at this
      omega

theorem small_digs (n : Nat) : Small (digs n) := digsF_small _ _
theorem tidy_digs (n : Nat) : Tidy (digs n) := digsF_tidy _ _ (Nat.le_refl _)
theorem val_digs (n : Nat) : val (digs n) = n := digsF_back _ _ (Nat.le_refl _)

theorem digs_zero : digs 0 = [] := rfl
theorem digs_nil_iff (n : Nat) : digs n = [] ↔ n = 0 := by
  constructor
  · intro h; have := val_digs n; rw [h] at this; simp [val] at this; omega
  · intro h; subst h; rfl

/-- Trimming: where the digits behind k are noughts, and the k-th, if there is one, is none, the first k are the number's. -/
theorem digs_take {l : List Nat} {k : Nat} (hs : Small l) (hk : k ≤ l.length) (hv : val (l.take k) = val l) (ht : k = 0 ∨ l.getD (k - 1) 0 ≠ 0) : l.take k = digs (val l) := by
  refine digs_of (small_take hs k) ?_ hv
  intro hn
  have e : (l.take k).length = k := by simp; omega
  rcases ht with h0 | h0
  · subst h0; simp at hn
  · rw [e]
    have hk0 : 0 < k := by
      rcases Nat.eq_zero_or_pos k with h | h
      · subst h; simp at hn
      · exact h
    simpa [List.getD, List.getElem?_take, show k - 1 < k by omega] using h0

theorem take_back {l : List Nat} {k : Nat} (h0 : l.getD k 0 = 0) : val (l.take k) = val (l.take (k + 1)) := by
  rw [take_step, h0]; simp

theorem length_digs_le {n k : Nat} (h : n < 10 ^ k) : (digs n).length ≤ k := by
  by_cases hn : digs n = []
  · rw [hn]; simp
  · have hp : 0 < (digs n).length := List.length_pos_iff.2 hn
    have ht := tidy_digs n hn
    have hv := take_step (digs n) ((digs n).length - 1)
    rw [show (digs n).length - 1 + 1 = (digs n).length by omega, List.take_of_length_le (Nat.le_refl _), val_digs] at hv
    rcases Nat.lt_or_ge k (digs n).length with hlt | hge
    · exfalso
      have h1 : 10 ^ k ≤ 10 ^ ((digs n).length - 1) := Nat.pow_le_pow_right (by omega) (by omega)
      have h2 : 10 ^ ((digs n).length - 1) * 1 ≤ 10 ^ ((digs n).length - 1) * (digs n).getD ((digs n).length - 1) 0 := Nat.mul_le_mul_left _ (by omega)
      omega
    · exact hge

/-- The digits of what a list tells stand at the list's head. -/
theorem digs_head : ∀ {l : List Nat}, Small l → ∃ k, k ≤ l.length ∧ l.take k = digs (val l)
  | [], _ => ⟨0, by simp, rfl⟩
  | d :: r, h => by
    obtain ⟨k, hk, e⟩ := digs_head (small_tail h)
    by_cases hz : val (d :: r) = 0
    · exact ⟨0, by simp, by rw [hz]; rfl⟩
    · refine ⟨k + 1, by simp; omega, digs_of (small_take h _) ?_ ?_⟩
      · rw [List.take_succ_cons]
        refine tidy_cons (by rw [e]; exact tidy_digs _) ?_
        intro e2 e3
        rw [e] at e2
        have := (digs_nil_iff _).1 e2
        rw [val_cons] at hz
        omega
      · rw [List.take_succ_cons, val_cons, val_cons, e, val_digs]

theorem getD_digs_val {l : List Nat} (h : Small l) {t : Nat} (ht : t < (digs (val l)).length) : l.getD t 0 = (digs (val l)).getD t 0 := by
  obtain ⟨k, hk, e⟩ := digs_head h
  rw [← e] at ht ⊢
  have hk2 : t < k := by simp at ht; omega
  simp [List.getD, hk2]

theorem pow_le_digs {n : Nat} (h : digs n ≠ []) : 10 ^ ((digs n).length - 1) ≤ n := by
  have hp : 0 < (digs n).length := List.length_pos_iff.2 h
  have ht := tidy_digs n h
  have hv := take_step (digs n) ((digs n).length - 1)
  rw [show (digs n).length - 1 + 1 = (digs n).length by omega, List.take_of_length_le (Nat.le_refl _), val_digs] at hv
  have h2 : 10 ^ ((digs n).length - 1) * 1 ≤ 10 ^ ((digs n).length - 1) * (digs n).getD ((digs n).length - 1) 0 := Nat.mul_le_mul_left _ (by omega)
  omega

theorem lt_pow_digs (n : Nat) : n < 10 ^ (digs n).length := by
  have := val_lt (small_digs n); rwa [val_digs] at this

/-- Fewer digits: less. -/
theorem lt_of_length {a b : Nat} (h : (digs a).length < (digs b).length) : a < b := by
  have h1 := lt_pow_digs a
  have h2 := pow_le_digs (n := b) (by intro e; rw [e] at h; simp at h)
  have h3 : 10 ^ (digs a).length ≤ 10 ^ ((digs b).length - 1) := Nat.pow_le_pow_right (by omega) (by omega)
  omega

theorem length_le_of_le {a b : Nat} (h : a ≤ b) : (digs a).length ≤ (digs b).length := by
  rcases Nat.lt_or_ge (digs b).length (digs a).length with k | k
  · have := lt_of_length k; omega
  · exact k

/-- The same digits from i on, and at i - 1 a lesser one: less. -/
theorem lt_of_top : ∀ {a b : List Nat} {i : Nat}, Small a → Small b → a.length = b.length → i < a.length → a.drop (i + 1) = b.drop (i + 1) → a.getD i 0 < b.getD i 0 → val a < val b
  | [], _, _, _, _, _, h, _, _ => by simp at h
  | _ :: _, [], _, _, _, h, _, _, _ => by simp at h
  | x :: a, y :: b, 0, ha, hb, hl, hi, hd, hlt => by
    simp only [List.drop_succ_cons, List.drop_zero] at hd
    simp at hlt
    rw [val_cons, val_cons, hd]; omega
  | x :: a, y :: b, i + 1, ha, hb, hl, hi, hd, hlt => by
    have := lt_of_top (i := i) (small_tail ha) (small_tail hb) (by simpa using hl) (by simpa using hi) (by simpa using hd) (by simpa using hlt)
    have h1 := small_head ha
    have h2 := small_head hb
    rw [val_cons, val_cons]; omega

theorem ne_of_bne {a b : Nat} (h : (((a : Nat) : Int) != ((b : Nat) : Int)) = true) : a ≠ b := by
  intro e; subst e; simp at h
theorem eq_of_bne {a b : Nat} (h : (((a : Nat) : Int) != ((b : Nat) : Int)) = false) : a = b := by
  have : ((a : Nat) : Int) = ((b : Nat) : Int) := by simpa using h
  omega
theorem decide_cast_lt (a b : Nat) : decide (((a : Nat) : Int) < ((b : Nat) : Int)) = decide (a < b) := by
  rw [decide_eq_decide]; omega

theorem less_top {x y : List Nat} {k : Nat} (hx : Small x) (hy : Small y) (hl : x.length = y.length) (h0 : 0 < k) (hk : k ≤ x.length) (hd : x.drop k = y.drop k) (hne : x.getD (k - 1) 0 ≠ y.getD (k - 1) 0) :
    decide (x.getD (k - 1) 0 < y.getD (k - 1) 0) = decide (val x < val y) := by
  have e : k - 1 + 1 = k := by omega
  rcases Nat.lt_or_gt_of_ne hne with h | h
  · have := lt_of_top (i := k - 1) hx hy hl (by omega) (by rw [e]; exact hd) h
    rw [decide_eq_true h, decide_eq_true this]
  · have := lt_of_top (i := k - 1) hy hx hl.symm (by omega) (by rw [e]; exact hd.symm) h
    rw [decide_eq_false (by omega), decide_eq_false (by omega)]

theorem drop_step {x y : List Nat} {k : Nat} (hkx : k - 1 < x.length) (hky : k - 1 < y.length) (h0 : 0 < k) (hd : x.drop k = y.drop k) (he : x.getD (k - 1) 0 = y.getD (k - 1) 0) : x.drop (k - 1) = y.drop (k - 1) := by
  rw [List.drop_eq_getElem_cons hkx, List.drop_eq_getElem_cons hky, show k - 1 + 1 = k by omega, hd]
  simp [List.getD, List.getElem?_eq_getElem hkx, List.getElem?_eq_getElem hky] at he
  rw [he]

/-! ### adding, digit by digit -/

/-- Behind k digits: what is laid so far, and what is carried. -/
def PlusAt (x y : List Nat) (k : Nat) (o : List Nat) (c : Nat) : Prop := o.length = k ∧ Small o ∧ val o + 10 ^ k * c = val (x.take k) + val (y.take k)

theorem plusAt_start (x y : List Nat) : PlusAt x y 0 [] 0 := ⟨rfl, small_nil, by simp [val]⟩

theorem plusAt_step {x y o : List Nat} {k c : Nat} (h : PlusAt x y k o c) : PlusAt x y (k + 1) (o ++ [(c + x.getD k 0 + y.getD k 0) % 10]) ((c + x.getD k 0 + y.getD k 0) / 10) := by
  obtain ⟨h1, h2, h3⟩ := h
  refine ⟨by simp [h1], small_append h2 (small_one (by omega)), ?_⟩
  rw [val_append, h1, take_step, take_step]
  have e : val [(c + x.getD k 0 + y.getD k 0) % 10] = (c + x.getD k 0 + y.getD k 0) % 10 := by simp [val]
  rw [e]
  have e2 : (c + x.getD k 0 + y.getD k 0) % 10 + 10 * ((c + x.getD k 0 + y.getD k 0) / 10) = c + x.getD k 0 + y.getD k 0 := by omega
  have e3 : 10 ^ (k + 1) * ((c + x.getD k 0 + y.getD k 0) / 10) = 10 ^ k * (10 * ((c + x.getD k 0 + y.getD k 0) / 10)) := by rw [Nat.pow_succ, Nat.mul_assoc]
  rw [e3, Nat.add_assoc, ← Nat.mul_add, e2, Nat.mul_add, Nat.mul_add]
  omega

theorem plusAt_end {x y o : List Nat} {k c : Nat} (h : PlusAt x y k o c) (hx : x.length ≤ k) (hy : y.length ≤ k) (hc : c ≤ 1) : Small (o ++ [c]) ∧ val (o ++ [c]) = val x + val y := by
  obtain ⟨h1, h2, h3⟩ := h
  refine ⟨small_append h2 (small_one (by omega)), ?_⟩
  rw [val_append, h1, ← take_all hx, ← take_all hy, ← h3]
  simp [val]

/-! ### taking away, digit by digit -/

/-- Behind k digits: what is laid so far, and what is borrowed. -/
def MinusAt (x y : List Nat) (k : Nat) (o : List Nat) (c : Nat) : Prop := o.length = k ∧ Small o ∧ val (x.take k) + 10 ^ k * c = val o + val (y.take k)

theorem minusAt_start (x y : List Nat) : MinusAt x y 0 [] 0 := ⟨rfl, small_nil, by simp [val]⟩

theorem minusAt_step {x y o : List Nat} {k c d c' : Nat} (h : MinusAt x y k o c) (hd : d < 10) (he : x.getD k 0 + 10 * c' = d + c + y.getD k 0) : MinusAt x y (k + 1) (o ++ [d]) c' := by
  obtain ⟨h1, h2, h3⟩ := h
  refine ⟨by simp [h1], small_append h2 (small_one hd), ?_⟩
  rw [val_append, h1, take_step, take_step]
  have e : val [d] = d := by simp [val]
  have e3 : 10 ^ (k + 1) * c' = 10 ^ k * (10 * c') := by rw [Nat.pow_succ, Nat.mul_assoc]
  rw [e, e3]
  have e4 : 10 ^ k * (x.getD k 0 + 10 * c') = 10 ^ k * (d + c + y.getD k 0) := by rw [he]
  simp only [Nat.mul_add] at e4
  omega

theorem minusAt_end {x y o : List Nat} {k c : Nat} (h : MinusAt x y k o c) (hx : x.length ≤ k) (hy : y.length ≤ k) (hc : c ≤ 1) (hle : val y ≤ val x) : Small o ∧ val o = val x - val y := by
  obtain ⟨h1, h2, h3⟩ := h
  rw [take_all hx, take_all hy] at h3
  have hlt := val_lt h2
  rw [h1] at hlt
  have : c = 0 := by
    rcases Nat.eq_zero_or_pos c with h | h
    · exact h
    · have e : c = 1 := by omega
      rw [e] at h3
      omega
  subst this
  exact ⟨h2, by omega⟩

theorem length_add_le (x y : Nat) : (digs (x + y)).length ≤ (digs x).length + (digs y).length + 1 := by
  refine length_digs_le ?_
  have h1 := lt_pow_digs x
  have h2 := lt_pow_digs y
  have h3 : 10 ^ (digs x).length ≤ 10 ^ ((digs x).length + (digs y).length) := Nat.pow_le_pow_right (by omega) (by omega)
  have h4 : 10 ^ (digs y).length ≤ 10 ^ ((digs x).length + (digs y).length) := Nat.pow_le_pow_right (by omega) (by omega)
  rw [Nat.pow_succ]
  omega

theorem length_mul_le (x y : Nat) : (digs (x * y)).length ≤ (digs x).length + (digs y).length := by
  refine length_digs_le ?_
  rw [Nat.pow_add]
  have h1 := lt_pow_digs x
  have h2 := lt_pow_digs y
  rcases Nat.eq_zero_or_pos y with h | h
  · subst h; rw [Nat.mul_zero]; exact Nat.mul_pos (Nat.pow_pos (by omega)) (Nat.pow_pos (by omega))
  · exact Nat.lt_of_lt_of_le (Nat.mul_lt_mul_of_pos_right h1 h) (Nat.mul_le_mul_left _ (by omega))

/-- The lowest digit, and the others. -/
theorem digs_step {n : Nat} (h : 0 < n) : digs n = n % 10 :: digs (n / 10) := by
  symm
  refine digs_of (small_cons (by omega) (small_digs _)) (tidy_cons (tidy_digs _) ?_) ?_
  · intro e
    have := (digs_nil_iff _).1 e
    omega
  · rw [val_cons, val_digs]; omega

/-- What is laid so far, and what is left, are all digits. -/
def OfAt (x : Nat) (o : List Nat) (n : Nat) : Prop := o ++ digs x = digs n
theorem ofAt_step {x n : Nat} {o : List Nat} (h : OfAt x o n) (hx : 0 < x) : OfAt (x / 10) (o ++ [x % 10]) n := by
  unfold OfAt at *
  rw [← h, digs_step hx]; simp
theorem ofAt_end {n : Nat} {o : List Nat} (h : OfAt 0 o n) : o = digs n := by
  unfold OfAt at h; rw [← h, digs_zero]; simp
theorem ofAt_length {x n : Nat} {o : List Nat} (h : OfAt x o n) : o.length ≤ (digs n).length := by
  unfold OfAt at h; rw [← h]; simp

end Dec
end Go.Proofs.YtmijmfdamommaaaDoor
