/-
  Plain facts on numbers: no program is named here.
-/
set_option linter.unusedSimpArgs false
set_option linter.unusedVariables false
namespace Go.Proofs.YtlomfjacgomhdaaGreatDoor
namespace Qn
def lo (n : Int) : Int := n % 18446744073709551616
def mi (n : Int) : Int := n / 18446744073709551616 % 18446744073709551616
def hi (n : Int) : Int := n / 18446744073709551616 / 18446744073709551616 % 18446744073709551616
theorem lo_bd (n : Int) : 0 ≤ lo n ∧ lo n ≤ 18446744073709551615 := by unfold lo; omega
theorem mi_bd (n : Int) : 0 ≤ mi n ∧ mi n ≤ 18446744073709551615 := by unfold mi; omega
theorem hi_bd (n : Int) : 0 ≤ hi n ∧ hi n ≤ 18446744073709551615 := by unfold hi; omega
def sg (x : Int) : Int := if x < 9223372036854775808 then 0 else 18446744073709551615
def clamp (n : Int) : Int := if 4611686018427387903 < n then 4611686018427387903 else if n < -4611686018427387903 then -4611686018427387903 else n
def great (n : Int) : Bool := decide (4611686018427387903 < n) || decide (n < -4611686018427387903)
def rne (n d : Int) : Int := if 2 * (n % d) < d ∨ 2 * (n % d) = d ∧ n / d % 2 = 0 then n / d else n / d + 1
end Qn
namespace Qn
def DAt (un y1 y0 u1 q rh : Int) : Prop := 0 ≤ q ∧ q ≤ 4294967298 ∧ 0 ≤ rh ∧ un = q * y1 + rh ∧ (un * 4294967296 + u1) / (y1 * 4294967296 + y0) ≤ q
theorem dig_mul (q y1 y0 : Int) : q * (y1 * 4294967296 + y0) = q * y1 * 4294967296 + q * y0 := by
  rw [Int.mul_add, ← Int.mul_assoc]
theorem dAt_start {un y1 y0 u1 : Int} (h0 : 0 ≤ un) (hy1 : 2147483648 ≤ y1) (hy2 : y1 < 4294967296) (hy0 : 0 ≤ y0) (hy3 : y0 < 4294967296) (hu0 : 0 ≤ u1) (hu1 : u1 < 4294967296) (hlt : un < y1 * 4294967296 + y0) :
    DAt un y1 y0 u1 (un / y1) (un - un / y1 * y1) := by
  have hm := Int.emod_add_mul_ediv un y1
  have hm0 := Int.emod_nonneg un (show y1 ≠ 0 by omega)
  have hm1 := Int.emod_lt_of_pos un (show 0 < y1 by omega)
  have hq0 : 0 ≤ un / y1 := Int.ediv_nonneg h0 (by omega)
  have hq : un / y1 < 4294967299 := Int.ediv_lt_of_lt_mul (by omega) (by omega)
  rw [Int.mul_comm] at hm
  refine ⟨hq0, by omega, by omega, by omega, ?_⟩
  have hpos : 0 < y1 * 4294967296 + y0 := by omega
  have : (un * 4294967296 + u1) / (y1 * 4294967296 + y0) < un / y1 + 1 := by
    refine Int.ediv_lt_of_lt_mul hpos ?_
    simp only [dig_mul, Int.add_mul, Int.one_mul]
    have hz : 0 ≤ un / y1 * y0 := Int.mul_nonneg hq0 hy0
    omega
  omega
theorem dAt_down {un y1 y0 u1 q rh : Int} (h : DAt un y1 y0 u1 q rh) (hy1 : 2147483648 ≤ y1) (hy0 : 0 ≤ y0) (hu0 : 0 ≤ u1) (hu1 : u1 < 4294967296) (hlt : un < y1 * 4294967296 + y0)
    (hc : 4294967296 ≤ q ∨ rh * 4294967296 + u1 < q * y0) : DAt un y1 y0 u1 (q - 1) (rh + y1) := by
  obtain ⟨h1, h2, h3, h4, h5⟩ := h
  have hpos : 0 < y1 * 4294967296 + y0 := by omega
  have hlt2 : (un * 4294967296 + u1) / (y1 * 4294967296 + y0) < q := by
    refine Int.ediv_lt_of_lt_mul hpos ?_
    rcases hc with hc | hc
    · have : 4294967296 * (y1 * 4294967296 + y0) ≤ q * (y1 * 4294967296 + y0) := Int.mul_le_mul_of_nonneg_right hc (by omega)
      omega
    · rw [dig_mul]
      omega
  have hq1 : 1 ≤ q := by
    have : 0 ≤ (un * 4294967296 + u1) / (y1 * 4294967296 + y0) := Int.ediv_nonneg (by
      have : 0 ≤ q * y1 := Int.mul_nonneg h1 (by omega)
      omega) (by omega)
    omega
  refine ⟨by omega, by omega, by omega, ?_, by omega⟩
  rw [Int.sub_mul, Int.one_mul]
  omega
theorem dAt_break {un y1 y0 u1 q rh : Int} (h : DAt un y1 y0 u1 q rh) (hq : q ≤ 4294967297) (hy0 : 0 ≤ y0) (hy3 : y0 < 4294967296) (hu0 : 0 ≤ u1) (hr : 4294967296 ≤ rh) : q * y0 ≤ rh * 4294967296 + u1 := by
  have h1 : q * y0 ≤ 4294967297 * y0 := Int.mul_le_mul_of_nonneg_right hq hy0
  omega
theorem dAt_done {un y1 y0 u1 q rh : Int} (h : DAt un y1 y0 u1 q rh) (hy1 : 2147483648 ≤ y1) (hy0 : 0 ≤ y0) (hc : q * y0 ≤ rh * 4294967296 + u1) : q = (un * 4294967296 + u1) / (y1 * 4294967296 + y0) := by
  obtain ⟨h1, h2, h3, h4, h5⟩ := h
  have hpos : 0 < y1 * 4294967296 + y0 := by omega
  have : q ≤ (un * 4294967296 + u1) / (y1 * 4294967296 + y0) := by
    refine Int.le_ediv_of_mul_le hpos ?_
    rw [dig_mul]
    omega
  omega
theorem dig_rest {un u1 Y q : Int} (hY : 0 < Y) (hYW : Y < 18446744073709551616) (hq : q = (un * 4294967296 + u1) / Y) :
    ((un * 4294967296 + u1) - q * Y) % 18446744073709551616 = (un * 4294967296 + u1) % Y := by
  have h := Int.emod_add_mul_ediv (un * 4294967296 + u1) Y
  have h0 := Int.emod_nonneg (un * 4294967296 + u1) (show Y ≠ 0 by omega)
  have h1 := Int.emod_lt_of_pos (un * 4294967296 + u1) hY
  rw [← hq, Int.mul_comm Y q] at h
  rw [show un * 4294967296 + u1 - q * Y = (un * 4294967296 + u1) % Y by omega]
  omega
theorem dig_lt {un u1 Y : Int} (h0 : 0 ≤ un) (hY : un < Y) (hu0 : 0 ≤ u1) (hu1 : u1 < 4294967296) : 0 ≤ (un * 4294967296 + u1) / Y ∧ (un * 4294967296 + u1) / Y < 4294967296 := by
  refine ⟨Int.ediv_nonneg (by omega) (by omega), Int.ediv_lt_of_lt_mul (by omega) ?_⟩
  omega
theorem two_digits {V U u1 u0 Y : Int} (hY : 0 < Y) (hV : V = (U * 4294967296 + u1) * 4294967296 + u0) :
    V / Y = (U * 4294967296 + u1) / Y * 4294967296 + ((U * 4294967296 + u1) % Y * 4294967296 + u0) / Y ∧ V % Y = ((U * 4294967296 + u1) % Y * 4294967296 + u0) % Y := by
  have h := Int.emod_add_mul_ediv (U * 4294967296 + u1) Y
  generalize hr : (U * 4294967296 + u1) % Y = r at *
  generalize hq : (U * 4294967296 + u1) / Y = q at *
  have e : V = r * 4294967296 + u0 + Y * (q * 4294967296) := by
    rw [hV, ← h, Int.add_mul, Int.mul_assoc]
    omega
  rw [e, Int.add_mul_ediv_left _ _ (by omega), Int.add_mul_emod_self_left]
  exact ⟨by omega, rfl⟩
theorem shifted {h l y D E U L : Int} (hy : 0 < y) (hD : 0 < D) (hE : 0 < E) (hDE : D * E = 18446744073709551616) (hl : 0 ≤ l) (hU : U = h * D + l / E) (hL : L = l * D % 18446744073709551616) :
    (U * 18446744073709551616 + L) / (y * D) = (h * 18446744073709551616 + l) / y ∧ (U * 18446744073709551616 + L) % (y * D) / D = (h * 18446744073709551616 + l) % y := by
  have e : U * 18446744073709551616 + L = (h * 18446744073709551616 + l) * D := by
    have e1 : l * D / 18446744073709551616 = l / E := by
      rw [← hDE, Int.mul_comm l D, Int.mul_ediv_mul_of_pos _ _ hD]
    have e2 := Int.emod_add_mul_ediv (l * D) 18446744073709551616
    rw [e1] at e2
    rw [hU, hL, Int.add_mul, Int.add_mul, Int.mul_right_comm]
    omega
  rw [e]
  refine ⟨Int.mul_ediv_mul_of_pos_left _ _ hD, ?_⟩
  rw [Int.mul_comm _ D, Int.mul_comm y D, Int.mul_emod_mul_of_pos _ _ hD, Int.mul_ediv_cancel_left _ (by omega)]
end Qn
namespace Qn
theorem rne_neg (n d : Int) (hd : 0 < d) : rne (-n) d = -rne n d := by
  have h := Int.emod_add_mul_ediv n d
  have h0 := Int.emod_nonneg n (show d ≠ 0 by omega)
  have h1 := Int.emod_lt_of_pos n hd
  generalize hq : n / d = q at *
  generalize hr : n % d = r at *
  by_cases hz : r = 0
  · subst hz
    have e : -n = 0 + d * (-q) := by rw [Int.mul_neg]; omega
    have e1 : -n / d = -q := by rw [e, Int.add_mul_ediv_left _ _ (by omega), Int.zero_ediv, Int.zero_add]
    have e2 : -n % d = 0 := by rw [e, Int.add_mul_emod_self_left, Int.zero_emod]
    unfold rne
    rw [e1, e2, hq, hr, if_pos (Or.inl (by omega)), if_pos (Or.inl (by omega))]
  · have e : -n = d - r + d * (-q - 1) := by rw [Int.mul_sub, Int.mul_neg, Int.mul_one]; omega
    have e1 : -n / d = -q - 1 := by rw [e, Int.add_mul_ediv_left _ _ (by omega), Int.ediv_eq_zero_of_lt (by omega) (by omega)]; omega
    have e2 : -n % d = d - r := by rw [e, Int.add_mul_emod_self_left, Int.emod_eq_of_lt (by omega) (by omega)]
    unfold rne
    rw [e1, e2, hq, hr]
    split <;> split <;> omega
theorem rne_mul (x d : Int) (hd : 0 < d) : rne (x * d) d = x := by
  unfold rne
  rw [Int.mul_emod_left, Int.mul_ediv_cancel _ (by omega), if_pos (Or.inl (by omega))]
theorem rne_one (x : Int) : rne x 1 = x := by
  have := rne_mul x 1 (by omega)
  rwa [Int.mul_one] at this
theorem clamp_in {n : Int} (h : great n = false) : clamp n = n := by
  unfold great at h
  rw [Bool.or_eq_false_iff, decide_eq_false_iff_not, decide_eq_false_iff_not] at h
  unfold clamp
  rw [if_neg h.1, if_neg h.2]
theorem great_iff {n : Int} : great n = false ↔ -4611686018427387903 ≤ n ∧ n ≤ 4611686018427387903 := by
  unfold great
  rw [Bool.or_eq_false_iff, decide_eq_false_iff_not, decide_eq_false_iff_not]
  omega
end Qn
namespace Dec
def val : List Nat → Nat
  | [] => 0
  | d :: r => d + 10 * val r
def Small (l : List Nat) : Prop := ∀ i, l.getD i 0 < 10
def Tidy (l : List Nat) : Prop := l ≠ [] → l.getD (l.length - 1) 0 ≠ 0
def digsF : Nat → Nat → List Nat
  | 0, _ => []
  | f + 1, n => if n = 0 then [] else n % 10 :: digsF f (n / 10)
def digs (n : Nat) : List Nat := digsF n n
theorem val_cons (d : Nat) (r : List Nat) : val (d :: r) = d + 10 * val r := rfl
theorem small_nil : Small [] := by intro i; simp
theorem small_cons {d : Nat} {r : List Nat} (h : d < 10) (k : Small r) : Small (d :: r) := by
  intro i
  cases i with
  | zero => simpa using h
  | succ j => simpa using k j
theorem small_tail {d : Nat} {r : List Nat} (h : Small (d :: r)) : Small r := by
  intro i; simpa using h (i + 1)
theorem small_head {d : Nat} {r : List Nat} (h : Small (d :: r)) : d < 10 := by simpa using h 0
theorem val_append (a b : List Nat) : val (a ++ b) = val a + 10 ^ a.length * val b := by
  induction a with
  | nil => simp [val]
  | cons d r ih =>
    simp only [List.cons_append, val_cons, ih, List.length_cons, Nat.pow_succ]
    rw [Nat.mul_add, ← Nat.add_assoc, Nat.mul_comm (10 ^ r.length) 10, ← Nat.mul_assoc]
theorem val_lt {l : List Nat} (h : Small l) : val l < 10 ^ l.length := by
  induction l with
  | nil => simp [val]
  | cons d r ih =>
    have h1 := ih (small_tail h)
    have h2 := small_head h
    simp only [val_cons, List.length_cons, Nat.pow_succ]
    omega
theorem take_step (l : List Nat) (k : Nat) : val (l.take (k + 1)) = val (l.take k) + 10 ^ k * l.getD k 0 := by
  by_cases h : k < l.length
  · rw [List.take_succ_eq_append_getElem h, val_append]
    have e : (l.take k).length = k := by simp; omega
    rw [e]
    simp [val, List.getD, List.getElem?_eq_getElem h]
  · rw [List.take_of_length_le (by omega), List.take_of_length_le (by omega)]
    have e : l.getD k 0 = 0 := by simp [List.getD, List.getElem?_eq_none (Nat.le_of_not_lt h)]
    rw [e]; simp
theorem take_all {l : List Nat} {k : Nat} (h : l.length ≤ k) : l.take k = l := List.take_of_length_le h
theorem small_append {a b : List Nat} (ha : Small a) (hb : Small b) : Small (a ++ b) := by
  intro i
  by_cases h : i < a.length
  · have := ha i
    simpa [List.getD, List.getElem?_append_left h] using this
  · have := hb (i - a.length)
    simpa [List.getD, List.getElem?_append_right (Nat.le_of_not_lt h)] using this
theorem small_one {d : Nat} (h : d < 10) : Small [d] := small_cons h small_nil
theorem small_take {l : List Nat} (h : Small l) (k : Nat) : Small (l.take k) := by
  intro i
  by_cases hi : i < k
  · have := h i
    simpa [List.getD, List.getElem?_take, hi] using this
  · simp [List.getD, List.getElem?_take, hi]
theorem val_pos {l : List Nat} (ht : Tidy l) (hn : l ≠ []) : 0 < val l := by
  induction l with
  | nil => exact absurd rfl hn
  | cons d r ih =>
    rw [val_cons]
    by_cases hr : r = []
    · subst hr
      have := ht (by simp)
      simp at this
      omega
    · have : Tidy r := by
        intro _
        have := ht (by simp)
        have e : (d :: r).length - 1 = (r.length - 1) + 1 := by
          have : 0 < r.length := List.length_pos_iff.2 hr
          simp; omega
        rw [e] at this
        simpa using this
      have := ih this hr
      omega
theorem tidy_tail {d : Nat} {r : List Nat} (h : Tidy (d :: r)) : Tidy r := by
  intro hr
  have := h (by simp)
  have e : (d :: r).length - 1 = (r.length - 1) + 1 := by
    have : 0 < r.length := List.length_pos_iff.2 hr
    simp; omega
  rw [e] at this
  simpa using this
theorem digsF_val : ∀ (f : Nat) (l : List Nat), Small l → Tidy l → val l ≤ f → digsF f (val l) = l
  | 0, l, _, ht, hf => by
    by_cases hn : l = []
    · subst hn; rfl
    · have := val_pos ht hn
      omega
  | f + 1, l, hs, ht, hf => by
    cases l with
    | nil => simp [digsF, val]
    | cons d r =>
      have hp := val_pos ht (by simp)
      have hd := small_head hs
      rw [digsF, if_neg (by omega)]
      have e1 : val (d :: r) % 10 = d := by rw [val_cons]; omega
      have e2 : val (d :: r) / 10 = val r := by rw [val_cons]; omega
      rw [e1, e2, digsF_val f r (small_tail hs) (tidy_tail ht) (by rw [val_cons] at hp hf; omega)]
theorem digs_val {l : List Nat} (hs : Small l) (ht : Tidy l) : digs (val l) = l := digsF_val _ l hs ht (Nat.le_refl _)
theorem digs_of {l : List Nat} {n : Nat} (hs : Small l) (ht : Tidy l) (h : val l = n) : l = digs n := by rw [← h, digs_val hs ht]
theorem digsF_small : ∀ (f n : Nat), Small (digsF f n)
  | 0, _ => small_nil
  | f + 1, n => by
    rw [digsF]
    split
    · exact small_nil
    · exact small_cons (by omega) (digsF_small f _)
theorem digsF_back : ∀ (f n : Nat), n ≤ f → val (digsF f n) = n
  | 0, n, h => by simp [digsF, val]; omega
  | f + 1, n, h => by
    rw [digsF]
    split
    · simp [val]; omega
    · rw [val_cons, digsF_back f (n / 10) (by omega)]; omega
theorem tidy_cons {d : Nat} {r : List Nat} (h : Tidy r) (k : r = [] → d ≠ 0) : Tidy (d :: r) := by
  intro _
  by_cases hr : r = []
  · subst hr; simpa using k rfl
  · have := h hr
    have e : (d :: r).length - 1 = (r.length - 1) + 1 := by
      have : 0 < r.length := List.length_pos_iff.2 hr
      simp; omega
    rw [e]; simpa using this
theorem digsF_tidy : ∀ (f n : Nat), n ≤ f → Tidy (digsF f n)
  | 0, _, _ => by intro h; exact absurd rfl h
  | f + 1, n, h => by
    rw [digsF]
    split
    · intro h; exact absurd rfl h
    · refine tidy_cons (digsF_tidy f _ (by omega)) ?_
      intro e
      have := digsF_back f (n / 10) (by omega)
      rw [e] at this
      simp [val] at this
      omega
theorem small_digs (n : Nat) : Small (digs n) := digsF_small _ _
theorem tidy_digs (n : Nat) : Tidy (digs n) := digsF_tidy _ _ (Nat.le_refl _)
theorem val_digs (n : Nat) : val (digs n) = n := digsF_back _ _ (Nat.le_refl _)
theorem digs_zero : digs 0 = [] := rfl
theorem digs_nil_iff (n : Nat) : digs n = [] ↔ n = 0 := by
  constructor
  · intro h; have := val_digs n; rw [h] at this; simp [val] at this; omega
  · intro h; subst h; rfl
theorem digs_take {l : List Nat} {k : Nat} (hs : Small l) (hk : k ≤ l.length) (hv : val (l.take k) = val l) (ht : k = 0 ∨ l.getD (k - 1) 0 ≠ 0) : l.take k = digs (val l) := by
  refine digs_of (small_take hs k) ?_ hv
  intro hn
  have e : (l.take k).length = k := by simp; omega
  rcases ht with h0 | h0
  · subst h0; simp at hn
  · rw [e]
    have hk0 : 0 < k := by
      rcases Nat.eq_zero_or_pos k with h | h
      · subst h; simp at hn
      · exact h
    simpa [List.getD, List.getElem?_take, show k - 1 < k by omega] using h0
theorem take_back {l : List Nat} {k : Nat} (h0 : l.getD k 0 = 0) : val (l.take k) = val (l.take (k + 1)) := by
  rw [take_step, h0]; simp
theorem length_digs_le {n k : Nat} (h : n < 10 ^ k) : (digs n).length ≤ k := by
  by_cases hn : digs n = []
  · rw [hn]; simp
  · have hp : 0 < (digs n).length := List.length_pos_iff.2 hn
    have ht := tidy_digs n hn
    have hv := take_step (digs n) ((digs n).length - 1)
    rw [show (digs n).length - 1 + 1 = (digs n).length by omega, List.take_of_length_le (Nat.le_refl _), val_digs] at hv
    rcases Nat.lt_or_ge k (digs n).length with hlt | hge
    · exfalso
      have h1 : 10 ^ k ≤ 10 ^ ((digs n).length - 1) := Nat.pow_le_pow_right (by omega) (by omega)
      have h2 : 10 ^ ((digs n).length - 1) * 1 ≤ 10 ^ ((digs n).length - 1) * (digs n).getD ((digs n).length - 1) 0 := Nat.mul_le_mul_left _ (by omega)
      omega
    · exact hge
theorem digs_head : ∀ {l : List Nat}, Small l → ∃ k, k ≤ l.length ∧ l.take k = digs (val l)
  | [], _ => ⟨0, by simp, rfl⟩
  | d :: r, h => by
    obtain ⟨k, hk, e⟩ := digs_head (small_tail h)
    by_cases hz : val (d :: r) = 0
    · exact ⟨0, by simp, by rw [hz]; rfl⟩
    · refine ⟨k + 1, by simp; omega, digs_of (small_take h _) ?_ ?_⟩
      · rw [List.take_succ_cons]
        refine tidy_cons (by rw [e]; exact tidy_digs _) ?_
        intro e2 e3
        rw [e] at e2
        have := (digs_nil_iff _).1 e2
        rw [val_cons] at hz
        omega
      · rw [List.take_succ_cons, val_cons, val_cons, e, val_digs]
theorem getD_digs_val {l : List Nat} (h : Small l) {t : Nat} (ht : t < (digs (val l)).length) : l.getD t 0 = (digs (val l)).getD t 0 := by
  obtain ⟨k, hk, e⟩ := digs_head h
  rw [← e] at ht ⊢
  have hk2 : t < k := by simp at ht; omega
  simp [List.getD, hk2]
theorem pow_le_digs {n : Nat} (h : digs n ≠ []) : 10 ^ ((digs n).length - 1) ≤ n := by
  have hp : 0 < (digs n).length := List.length_pos_iff.2 h
  have ht := tidy_digs n h
  have hv := take_step (digs n) ((digs n).length - 1)
  rw [show (digs n).length - 1 + 1 = (digs n).length by omega, List.take_of_length_le (Nat.le_refl _), val_digs] at hv
  have h2 : 10 ^ ((digs n).length - 1) * 1 ≤ 10 ^ ((digs n).length - 1) * (digs n).getD ((digs n).length - 1) 0 := Nat.mul_le_mul_left _ (by omega)
  omega
theorem lt_pow_digs (n : Nat) : n < 10 ^ (digs n).length := by
  have := val_lt (small_digs n); rwa [val_digs] at this
theorem lt_of_length {a b : Nat} (h : (digs a).length < (digs b).length) : a < b := by
  have h1 := lt_pow_digs a
  have h2 := pow_le_digs (n := b) (by intro e; rw [e] at h; simp at h)
  have h3 : 10 ^ (digs a).length ≤ 10 ^ ((digs b).length - 1) := Nat.pow_le_pow_right (by omega) (by omega)
  omega
theorem length_le_of_le {a b : Nat} (h : a ≤ b) : (digs a).length ≤ (digs b).length := by
  rcases Nat.lt_or_ge (digs b).length (digs a).length with k | k
  · have := lt_of_length k; omega
  · exact k
theorem lt_of_top : ∀ {a b : List Nat} {i : Nat}, Small a → Small b → a.length = b.length → i < a.length → a.drop (i + 1) = b.drop (i + 1) → a.getD i 0 < b.getD i 0 → val a < val b
  | [], _, _, _, _, _, h, _, _ => by simp at h
  | _ :: _, [], _, _, _, h, _, _, _ => by simp at h
  | x :: a, y :: b, 0, ha, hb, hl, hi, hd, hlt => by
    simp only [List.drop_succ_cons, List.drop_zero] at hd
    simp at hlt
    rw [val_cons, val_cons, hd]; omega
  | x :: a, y :: b, i + 1, ha, hb, hl, hi, hd, hlt => by
    have := lt_of_top (i := i) (small_tail ha) (small_tail hb) (by simpa using hl) (by simpa using hi) (by simpa using hd) (by simpa using hlt)
    have h1 := small_head ha
    have h2 := small_head hb
    rw [val_cons, val_cons]; omega
theorem ne_of_bne {a b : Nat} (h : (((a : Nat) : Int) != ((b : Nat) : Int)) = true) : a ≠ b := by
  intro e; subst e; simp at h
theorem eq_of_bne {a b : Nat} (h : (((a : Nat) : Int) != ((b : Nat) : Int)) = false) : a = b := by
  have : ((a : Nat) : Int) = ((b : Nat) : Int) := by simpa using h
  omega
theorem less_top {x y : List Nat} {k : Nat} (hx : Small x) (hy : Small y) (hl : x.length = y.length) (h0 : 0 < k) (hk : k ≤ x.length) (hd : x.drop k = y.drop k) (hne : x.getD (k - 1) 0 ≠ y.getD (k - 1) 0) :
    decide (x.getD (k - 1) 0 < y.getD (k - 1) 0) = decide (val x < val y) := by
  have e : k - 1 + 1 = k := by omega
  rcases Nat.lt_or_gt_of_ne hne with h | h
  · have := lt_of_top (i := k - 1) hx hy hl (by omega) (by rw [e]; exact hd) h
    rw [decide_eq_true h, decide_eq_true this]
  · have := lt_of_top (i := k - 1) hy hx hl.symm (by omega) (by rw [e]; exact hd.symm) h
    rw [decide_eq_false (by omega), decide_eq_false (by omega)]
theorem drop_step {x y : List Nat} {k : Nat} (hkx : k - 1 < x.length) (hky : k - 1 < y.length) (h0 : 0 < k) (hd : x.drop k = y.drop k) (he : x.getD (k - 1) 0 = y.getD (k - 1) 0) : x.drop (k - 1) = y.drop (k - 1) := by
  rw [List.drop_eq_getElem_cons hkx, List.drop_eq_getElem_cons hky, show k - 1 + 1 = k by omega, hd]
  simp [List.getD, List.getElem?_eq_getElem hkx, List.getElem?_eq_getElem hky] at he
  rw [he]
def PlusAt (x y : List Nat) (k : Nat) (o : List Nat) (c : Nat) : Prop := o.length = k ∧ Small o ∧ val o + 10 ^ k * c = val (x.take k) + val (y.take k)
theorem plusAt_start (x y : List Nat) : PlusAt x y 0 [] 0 := ⟨rfl, small_nil, by simp [val]⟩
theorem plusAt_step {x y o : List Nat} {k c : Nat} (h : PlusAt x y k o c) : PlusAt x y (k + 1) (o ++ [(c + x.getD k 0 + y.getD k 0) % 10]) ((c + x.getD k 0 + y.getD k 0) / 10) := by
  obtain ⟨h1, h2, h3⟩ := h
  refine ⟨by simp [h1], small_append h2 (small_one (by omega)), ?_⟩
  rw [val_append, h1, take_step, take_step]
  have e : val [(c + x.getD k 0 + y.getD k 0) % 10] = (c + x.getD k 0 + y.getD k 0) % 10 := by simp [val]
  rw [e]
  have e2 : (c + x.getD k 0 + y.getD k 0) % 10 + 10 * ((c + x.getD k 0 + y.getD k 0) / 10) = c + x.getD k 0 + y.getD k 0 := by omega
  have e3 : 10 ^ (k + 1) * ((c + x.getD k 0 + y.getD k 0) / 10) = 10 ^ k * (10 * ((c + x.getD k 0 + y.getD k 0) / 10)) := by rw [Nat.pow_succ, Nat.mul_assoc]
  rw [e3, Nat.add_assoc, ← Nat.mul_add, e2, Nat.mul_add, Nat.mul_add]
  omega
theorem plusAt_end {x y o : List Nat} {k c : Nat} (h : PlusAt x y k o c) (hx : x.length ≤ k) (hy : y.length ≤ k) (hc : c ≤ 1) : Small (o ++ [c]) ∧ val (o ++ [c]) = val x + val y := by
  obtain ⟨h1, h2, h3⟩ := h
  refine ⟨small_append h2 (small_one (by omega)), ?_⟩
  rw [val_append, h1, ← take_all hx, ← take_all hy, ← h3]
  simp [val]
def MinusAt (x y : List Nat) (k : Nat) (o : List Nat) (c : Nat) : Prop := o.length = k ∧ Small o ∧ val (x.take k) + 10 ^ k * c = val o + val (y.take k)
theorem minusAt_start (x y : List Nat) : MinusAt x y 0 [] 0 := ⟨rfl, small_nil, by simp [val]⟩
theorem minusAt_step {x y o : List Nat} {k c d c' : Nat} (h : MinusAt x y k o c) (hd : d < 10) (he : x.getD k 0 + 10 * c' = d + c + y.getD k 0) : MinusAt x y (k + 1) (o ++ [d]) c' := by
  obtain ⟨h1, h2, h3⟩ := h
  refine ⟨by simp [h1], small_append h2 (small_one hd), ?_⟩
  rw [val_append, h1, take_step, take_step]
  have e : val [d] = d := by simp [val]
  have e3 : 10 ^ (k + 1) * c' = 10 ^ k * (10 * c') := by rw [Nat.pow_succ, Nat.mul_assoc]
  rw [e, e3]
  have e4 : 10 ^ k * (x.getD k 0 + 10 * c') = 10 ^ k * (d + c + y.getD k 0) := by rw [he]
  simp only [Nat.mul_add] at e4
  omega
theorem minusAt_end {x y o : List Nat} {k c : Nat} (h : MinusAt x y k o c) (hx : x.length ≤ k) (hy : y.length ≤ k) (hc : c ≤ 1) (hle : val y ≤ val x) : Small o ∧ val o = val x - val y := by
  obtain ⟨h1, h2, h3⟩ := h
  rw [take_all hx, take_all hy] at h3
  have hlt := val_lt h2
  rw [h1] at hlt
  have : c = 0 := by
    rcases Nat.eq_zero_or_pos c with h | h
    · exact h
    · have e : c = 1 := by omega
      rw [e] at h3
      omega
  subst this
  exact ⟨h2, by omega⟩
theorem length_add_le (x y : Nat) : (digs (x + y)).length ≤ (digs x).length + (digs y).length + 1 := by
  refine length_digs_le ?_
  have h1 := lt_pow_digs x
  have h2 := lt_pow_digs y
  have h3 : 10 ^ (digs x).length ≤ 10 ^ ((digs x).length + (digs y).length) := Nat.pow_le_pow_right (by omega) (by omega)
  have h4 : 10 ^ (digs y).length ≤ 10 ^ ((digs x).length + (digs y).length) := Nat.pow_le_pow_right (by omega) (by omega)
  rw [Nat.pow_succ]
  omega
theorem digs_step {n : Nat} (h : 0 < n) : digs n = n % 10 :: digs (n / 10) := by
  symm
  refine digs_of (small_cons (by omega) (small_digs _)) (tidy_cons (tidy_digs _) ?_) ?_
  · intro e
    have := (digs_nil_iff _).1 e
    omega
  · rw [val_cons, val_digs]; omega
def OfAt (x : Nat) (o : List Nat) (n : Nat) : Prop := o ++ digs x = digs n
theorem ofAt_step {x n : Nat} {o : List Nat} (h : OfAt x o n) (hx : 0 < x) : OfAt (x / 10) (o ++ [x % 10]) n := by
  unfold OfAt at *
  rw [← h, digs_step hx]; simp
theorem ofAt_end {n : Nat} {o : List Nat} (h : OfAt 0 o n) : o = digs n := by
  unfold OfAt at h; rw [← h, digs_zero]; simp
theorem ofAt_length {x n : Nat} {o : List Nat} (h : OfAt x o n) : o.length ≤ (digs n).length := by
  unfold OfAt at h; rw [← h]; simp
end Dec
namespace Dec
end Dec
namespace Dec
end Dec
namespace Lg
def wd : Nat → Int → Int
  | 0, n => n % 4294967296
  | k + 1, n => wd k (n / 4294967296)
theorem wd_bd : ∀ (k : Nat) (n : Int), 0 ≤ wd k n ∧ wd k n ≤ 4294967295
  | 0, n => by unfold wd; omega
  | k + 1, n => wd_bd k (n / 4294967296)
def In8 (n : Int) : Prop := 0 ≤ n ∧ n < 115792089237316195423570985008687907853269984665640564039457584007913129639936
theorem words8 {n : Int} (h : In8 n) : n = wd 0 n + 4294967296 * wd 1 n + 18446744073709551616 * wd 2 n + 79228162514264337593543950336 * wd 3 n + 340282366920938463463374607431768211456 * wd 4 n + 1461501637330902918203684832716283019655932542976 * wd 5 n + 6277101735386680763835789423207666416102355444464034512896 * wd 6 n + 26959946667150639794667015087019630673637144422540572481103610249216 * wd 7 n := by
  unfold In8 at h
  simp only [wd]
  omega
end Lg
namespace Dt
def dk (a b : Nat → Int) : Nat → Int
  | 0 => 0
  | k + 1 => dk a b k + a k * b k
theorem mul_bd {x y : Int} (hx : -9223372036854775808 ≤ x ∧ x ≤ 9223372036854775807) (hy : -9223372036854775808 ≤ y ∧ y ≤ 9223372036854775807) : -85070591730234615865843651857942052864 ≤ x * y ∧ x * y ≤ 85070591730234615865843651857942052864 := by
  have h1 : (x.natAbs : Int) ≤ 9223372036854775808 := by omega
  have h2 : (y.natAbs : Int) ≤ 9223372036854775808 := by omega
  have h3 : ((x * y).natAbs : Int) ≤ 9223372036854775808 * 9223372036854775808 := by
    rw [Int.natAbs_mul, Int.natCast_mul]
    exact Int.mul_le_mul h1 h2 (by omega) (by omega)
  omega
theorem dk_bd (a b : Nat → Int) (ha : ∀ k, -9223372036854775808 ≤ a k ∧ a k ≤ 9223372036854775807) (hb : ∀ k, -9223372036854775808 ≤ b k ∧ b k ≤ 9223372036854775807) : ∀ k : Nat, -((k : Int) * 85070591730234615865843651857942052864) ≤ dk a b k ∧ dk a b k ≤ (k : Int) * 85070591730234615865843651857942052864
  | 0 => by simp [dk]
  | k + 1 => by
    have h1 := dk_bd a b ha hb k
    have h2 := mul_bd (ha k) (hb k)
    have e : ((k + 1 : Nat) : Int) = (k : Int) + 1 := by omega
    rw [e]
    show -(((k : Int) + 1) * _) ≤ dk a b k + a k * b k ∧ dk a b k + a k * b k ≤ _
    omega
end Dt
namespace Gw
open Qn
end Gw
end Go.Proofs.YtlomfjacgomhdaaGreatDoor
