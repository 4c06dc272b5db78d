/-
  Plain facts on dividing, digit by digit. No program is named here.
-/
import Derived.Test.YtmijmfdamommaaaDoorMath
set_option linter.unusedSimpArgs false
set_option linter.unusedVariables false
namespace Go.Proofs.YtmijmfdamommaaaDoor
namespace Dec

theorem vdrop (l : List Nat) (k : Nat) (h : k < l.length) : val (l.drop k) = l.getD k 0 + 10 * val (l.drop (k + 1)) := by
  rw [List.drop_eq_getElem_cons h, val_cons]
  simp [List.getD, List.getElem?_eq_getElem h]

theorem small_set {l : List Nat} (h : Small l) (k d : Nat) (hd : d < 10) : Small (l.set k d) := by
  intro i
  have := h i
  simp only [List.getD, List.getElem?_set]
  simp only [List.getD] at this
  split
  · split
    · simpa using hd
    · simp
  · exact this

/-- Behind the digits from k on: the quotient's digits from k on, and the rest. -/
def DivAt (x : List Nat) (b k : Nat) (q : List Nat) (r : Nat) : Prop :=
  q.length = x.length ∧ Small q ∧ (∀ t, t < k → q.getD t 0 = 0) ∧ r < b ∧ val (x.drop k) = val (q.drop k) * b + r

/-- The same, while digit k is under way. -/
def DivIn (x : List Nat) (b k : Nat) (q : List Nat) (r : Nat) : Prop :=
  q.length = x.length ∧ Small q ∧ (∀ t, t < k → q.getD t 0 = 0) ∧ q.getD k 0 * b + r < 10 * b ∧ val (x.drop k) = val (q.drop k) * b + r

theorem divAt_start (x : List Nat) (b : Nat) (hb : 0 < b) : DivAt x b x.length (List.replicate x.length 0) 0 := by
  refine ⟨by simp, ?_, ?_, hb, ?_⟩
  · intro i
    simp only [List.getD, List.getElem?_replicate]
    split <;> simp
  · intro t _
    simp only [List.getD, List.getElem?_replicate]
    split <;> simp
  · rw [List.drop_of_length_le (Nat.le_refl _), List.drop_of_length_le (by simp)]
    simp [val]

theorem divIn_start {x q : List Nat} {b k r : Nat} (hx : Small x) (hk : k < x.length) (h : DivAt x b (k + 1) q r) : DivIn x b k q (x.getD k 0 + 10 * r) := by
  obtain ⟨h1, h2, h3, h4, h5⟩ := h
  have hd := hx k
  have h0 := h3 k (by omega)
  refine ⟨h1, h2, fun t ht => h3 t (by omega), ?_, ?_⟩
  · rw [h0]; omega
  · rw [vdrop x k hk, vdrop q k (by omega), h5, h0, Nat.zero_add, Nat.mul_add, Nat.mul_assoc]; omega

theorem divIn_digit {x q : List Nat} {b k r : Nat} (h : DivIn x b k q r) (hr : b ≤ r) : q.getD k 0 + 1 < 10 := by
  obtain ⟨h1, h2, h3, h4, h5⟩ := h
  have h6 : (q.getD k 0 + 1) * b < 10 * b := by rw [Nat.add_mul]; omega
  exact Nat.lt_of_mul_lt_mul_right h6

theorem divIn_step {x q : List Nat} {b k r : Nat} (hk : k < x.length) (h : DivIn x b k q r) (hr : b ≤ r) : DivIn x b k (q.set k (q.getD k 0 + 1)) (r - b) := by
  have hd := divIn_digit h hr
  obtain ⟨h1, h2, h3, h4, h5⟩ := h
  have hkq : k < q.length := by omega
  have e1 : (q.set k (q.getD k 0 + 1)).getD k 0 = q.getD k 0 + 1 := by simp [List.getD, hkq]
  refine ⟨by simp [h1], small_set h2 _ _ hd, ?_, ?_, ?_⟩
  · intro t ht
    have := h3 t ht
    simp only [List.getD, List.getElem?_set]
    rw [if_neg (by omega)]
    exact this
  · rw [e1, Nat.add_mul]; omega
  · have e2 : (q.set k (q.getD k 0 + 1)).drop (k + 1) = q.drop (k + 1) := by
      rw [List.drop_set_of_lt (by omega)]
    rw [h5, vdrop (q.set k (q.getD k 0 + 1)) k (by simpa using hkq), e1, e2, vdrop q k hkq]
    simp only [Nat.add_mul]
    omega

theorem divIn_end {x q : List Nat} {b k r : Nat} (h : DivIn x b k q r) (hr : r < b) : DivAt x b k q r :=
  ⟨h.1, h.2.1, h.2.2.1, hr, h.2.2.2.2⟩

theorem divAt_end {x q : List Nat} {b r : Nat} (h : DivAt x b 0 q r) : Small q ∧ val q = val x / b ∧ r = val x % b := by
  obtain ⟨h1, h2, h3, h4, h5⟩ := h
  simp only [List.drop_zero] at h5
  have hb : 0 < b := by omega
  refine ⟨h2, ?_, ?_⟩
  · rw [h5, Nat.mul_comm, Nat.mul_add_div hb, Nat.div_eq_of_lt h4]; rfl
  · rw [h5, Nat.mul_comm, Nat.mul_add_mod, Nat.mod_eq_of_lt h4]

theorem front_val (d r : Nat) (hd : d < 10) : Small (d :: digs r) ∧ val (d :: digs r) = d + 10 * r := by
  refine ⟨small_cons hd (small_digs r), ?_⟩
  rw [val_cons, val_digs]

end Dec
end Go.Proofs.YtmijmfdamommaaaDoor
