/-
  Rows that may be a matrix, or that may not; answers of mat by cases. (By py/MParts.py.)
-/
import Derived.Test.YtgmagehgnjopcaaDoorMtK
import Derived.Test.YtgmagehgnjopcaaDoorMtR
set_option linter.unusedSimpArgs false
set_option linter.unusedVariables false
namespace Go.Proofs.YtgmagehgnjopcaaDoor
open Go.RowKit Vc Mt Qn Dt

theorem getD_b {z : List Int} (h5 : ∀ n ∈ z, (Lit.int .i64 n).wf = true) : B64 (fun k => z.getD k 0) := by
  intro k
  show _ ≤ z.getD k 0 ∧ z.getD k 0 ≤ _
  by_cases hk : k < z.length
  · have e : z.getD k 0 = z[k] := by simp [List.getD, List.getElem?_eq_getElem hk]
    rw [e]
    exact bounds_i64 (h5 _ (List.getElem_mem hk))
  · have e : z.getD k 0 = 0 := by simp [List.getD, List.getElem?_eq_none (Nat.le_of_not_lt hk)]
    rw [e]; omega
/-- The first that is not so. -/
theorem Mt.first_other {p : Nat → Prop} [DecidablePred p] : ∀ (m : Nat), (∀ k, k < m → p k) ∨ ∃ q, q < m ∧ ¬ p q ∧ ∀ k, k < q → p k
  | 0 => Or.inl fun k hk => by omega
  | m + 1 => by
    rcases Mt.first_other (p := p) m with h | ⟨q, h1, h2, h3⟩
    · by_cases c : p m
      · exact Or.inl fun k hk => by
          rcases Nat.lt_or_ge k m with d | d
          · exact h k d
          · obtain rfl : k = m := by omega
            exact c
      · exact Or.inr ⟨m, by omega, c, h⟩
    · exact Or.inr ⟨q, by omega, h2, h3⟩

/-- Rows that may be a matrix, or that may not. -/
theorem rows_cases {w : World} {lo : Option Addr} {n cm : Nat} {A : Nat → Option Addr} {L C : Nat → Nat} {Z : Nat → Nat → Int} (s : Sls w lo n cm A L C) (q : ∀ r, r < n → Sl w (A r) (L r) (C r) (Z r) ∧ B64 (Z r)) :
    (∃ (m : Nat) (F : Nat → Nat → Int), 1 ≤ n ∧ n ≤ 6 ∧ 1 ≤ m ∧ m ≤ 6 ∧ Grid w lo n cm m F ∧ B2 F ∧ (∀ i, i < n → F i = Z i) ∧ L 0 = m) ∨
    ((∀ W, Below w.heap.size w W → Calls Tryd.prog 12 #[.slice lo n cm] W fun e w' => e = .returned (.bool false) ∧ Below W.heap.size W w') ∧
     (∀ W, Below w.heap.size w W → Calls Tryd.prog 6 #[.slice lo n cm] W fun e w' => e = .returned (.tuple #[.agg (mvals 0 0 (fun _ => 0)).toArray, .iface 64 (.int .i64 1)]) ∧ Below W.heap.size W w')) := by
  have l1 := s.le
  have l2 := s.cap
  have hL : ∀ k, k < n → L k ≤ 9223372036854775807 := fun k hk => by have := (q k hk).1.le; have := (q k hk).1.cap; omega
  by_cases h0 : n = 0
  · subst h0
    exact Or.inr ⟨fun W _ => rmay_rows 0 cm lo W (by omega) (by omega), fun W _ => mof_nil lo cm W⟩
  by_cases h6 : 6 < n
  · exact Or.inr ⟨fun W _ => rmay_rows n cm lo W (by omega) (by omega), fun W b => mof_size n lo cm A L C W (by omega) (s.keep b) (hL 0 (by omega)) (by omega)⟩
  by_cases hc : 1 ≤ L 0 ∧ L 0 ≤ 6
  · rcases first_other (p := fun k => L k = L 0) n with hall | ⟨t, ht, hbad, hok⟩
    · left
      refine ⟨L 0, fun r k => if r < n then Z r k else 0, by omega, by omega, hc.1, hc.2, ⟨A, C, ⟨s.le, s.cap, fun j hj => by rw [← hall j hj]; exact s.at' j hj⟩, fun k hk => ?_⟩, fun k p => ?_, fun i hi => ?_, rfl⟩
      · have h := (q k hk).1
        rw [hall k hk] at h
        exact h.congr (fun j _ => by show Z k j = if k < n then Z k j else 0; rw [if_pos hk])
      · show _ ≤ (if k < n then Z k p else 0) ∧ (if k < n then Z k p else 0) ≤ _
        split
        · rename_i hk
          exact (q k hk).2 p
        · omega
      · funext j
        show (if i < n then Z i j else 0) = _
        rw [if_pos hi]
    · exact Or.inr ⟨fun W b => rmay_other n cm t lo A L C W (s.keep b) (by omega) (by omega) hc.1 hc.2 hL ht hbad hok, fun W b => mof_other n (L 0) t lo cm A L C Z W (by omega) (by omega) hc.1 hc.2 (s.keep b) (fun k hk => (q k hk).1.keep b) rfl ht hbad hok⟩
  · exact Or.inr ⟨fun W b => rmay_cols n cm lo A L C W (s.keep b) (by omega) (by omega) (hL 0 (by omega)) (by omega), fun W b => mof_size n lo cm A L C W (by omega) (s.keep b) (hL 0 (by omega)) (by omega)⟩

/-- Eye, by cases. -/
theorem meye_cases (i : Int) : ∃ (r c : Int) (z : Nat → Int) (f : Value), (∀ W, Calls Tryd.prog 7 #[.int .i64 i] W fun e w' => e = .returned (.tuple #[.agg (mvals r c z).toArray, f]) ∧ Below W.heap.size W w') ∧
    (¬ (1 ≤ i ∧ i ≤ 6) → r = 0 ∧ c = 0 ∧ z = (fun _ => 0) ∧ f = .iface 64 (.int .i64 1)) ∧ (∀ n : Nat, i = n → 1 ≤ n → n ≤ 6 → r = n ∧ c = n ∧ z = mz n n eyeF ∧ f = .nilIface) := by
  by_cases h : 1 ≤ i ∧ i ≤ 6
  · obtain ⟨n, rfl⟩ : ∃ n : Nat, i = n := ⟨i.toNat, by omega⟩
    exact ⟨n, n, mz n n eyeF, .nilIface, fun W => meye_any n W (by omega) (by omega), fun h' => absurd h h', fun n' e _ _ => by
      obtain rfl : n' = n := by omega
      exact ⟨rfl, rfl, rfl, rfl⟩⟩
  · exact ⟨0, 0, fun _ => 0, _, fun W => meye_not i W h, fun _ => ⟨rfl, rfl, rfl, rfl⟩, fun n' e _ _ => by omega⟩

/-- At, by cases. -/
theorem mat_cases (n m : Nat) (F : Nat → Nat → Int) (i j : Int) (h1 : 1 ≤ n) (h2 : n ≤ 6) (h3 : 1 ≤ m) (h4 : m ≤ 6) : ∃ (X : Int) (f : Value), (∀ W, Calls Tryd.prog 16 #[.agg (mvals n m (mz n m F)).toArray, .int .i64 i, .int .i64 j] W fun e w' => e = .returned (.tuple #[.int .i64 X, f]) ∧ Below W.heap.size W w') ∧
    (¬ (0 ≤ i ∧ i < n) ∨ ¬ (0 ≤ j ∧ j < m) → X = 0 ∧ f = .iface 64 (.int .i64 1)) ∧ (0 ≤ i ∧ i < n → 0 ≤ j ∧ j < m → X = F i.toNat j.toNat ∧ f = .nilIface) := by
  by_cases h : (0 ≤ i ∧ i < n) ∧ (0 ≤ j ∧ j < m)
  · obtain ⟨a, rfl⟩ : ∃ a : Nat, i = a := ⟨i.toNat, by omega⟩
    obtain ⟨b, rfl⟩ : ∃ b : Nat, j = b := ⟨j.toNat, by omega⟩
    exact ⟨F a b, .nilIface, fun W => mat_any n m a b F W h1 h2 h3 h4 (by omega) (by omega), fun h' => by omega, fun _ _ => ⟨by rw [Int.toNat_natCast, Int.toNat_natCast], rfl⟩⟩
  · exact ⟨0, _, fun W => mat_out n m i j F W h1 h2 h3 h4 (by omega), fun _ => ⟨rfl, rfl⟩, fun a b => absurd ⟨a, b⟩ h⟩

namespace Mt
/-- A row, or an error. -/
structure RowIs (inn : Prop) (w : World) (co : Option Addr) (l cc m : Nat) (z : Nat → Int) (f : Value) : Prop where
  yes : inn → m = l ∧ f = .nilIface ∧ Sl w co m cc z
  no : ¬ inn → l = 0 ∧ f = .iface 64 (.int .i64 1)
theorem RowIs.keep {inn : Prop} {w w' : World} {co : Option Addr} {l cc m : Nat} {z : Nat → Int} {f : Value} (h : RowIs inn w co l cc m z f) (b : Below w.heap.size w w') : RowIs inn w' co l cc m z f :=
  ⟨fun hi => ⟨(h.yes hi).1, (h.yes hi).2.1, (h.yes hi).2.2.keep b⟩, h.no⟩
end Mt
/-- Row, by cases. -/
theorem mrow_cases (n m : Nat) (F : Nat → Nat → Int) (i : Int) (W : World) (h1 : 1 ≤ n) (h2 : n ≤ 6) (h3 : 1 ≤ m) (h4 : m ≤ 6) : Calls Tryd.prog 17 #[.agg (mvals n m (mz n m F)).toArray, .int .i64 i] W fun e w' =>
    ∃ co l cc f, e = .returned (.tuple #[.slice co l cc, f]) ∧ RowIs (0 ≤ i ∧ i < n) w' co l cc m (F i.toNat) f ∧ Below W.heap.size W w' := by
  by_cases h : 0 ≤ i ∧ i < n
  · obtain ⟨a, rfl⟩ : ∃ a : Nat, i = a := ⟨i.toNat, by omega⟩
    refine (mrow_any n m a F W h1 h2 h3 h4 (by omega)).mono ?_
    rintro e w1 ⟨co, cc, rfl, hs, _, k⟩
    exact ⟨co, m, cc, .nilIface, rfl, ⟨fun _ => ⟨rfl, rfl, by rw [Int.toNat_natCast]; exact hs⟩, fun h' => absurd h h'⟩, k⟩
  · refine (mrow_out n m i F W h1 h2 h3 h4 h).mono ?_
    rintro e w1 ⟨rfl, k⟩
    exact ⟨none, 0, 0, _, rfl, ⟨fun h' => absurd h' h, fun _ => ⟨rfl, rfl⟩⟩, k⟩

/-- Even, by cases. -/
theorem meven_cases (n m : Nat) (F : Nat → Nat → Int) (h1 : 1 ≤ n) (h2 : n ≤ 6) (h3 : 1 ≤ m) (h4 : m ≤ 6) (hF : B2 F) : ∃ (r c : Int) (z : Nat → Int) (t : Bool) (f : Value), (∀ W, Calls Tryd.prog 18 #[.agg (mvals n m (mz n m F)).toArray] W fun e w' => e = .returned (.tuple #[.agg (mvals r c z).toArray, .bool t, f]) ∧ Below W.heap.size W w') ∧
    (n = m → r = n ∧ c = n ∧ z = mz n n (fun i j => clamp (evR F i j)) ∧ t = any2 (fun i j => great (evR F i j)) n n ∧ f = .nilIface) ∧ (n ≠ m → r = 0 ∧ c = 0 ∧ z = (fun _ => 0) ∧ t = false ∧ f = .iface 64 (.int .i64 1)) := by
  by_cases h : n = m
  · subst h
    exact ⟨n, n, _, _, .nilIface, fun W => meven_any n F W h1 h2 hF, fun _ => ⟨rfl, rfl, rfl, rfl, rfl⟩, fun h' => absurd rfl h'⟩
  · exact ⟨0, 0, _, false, _, fun W => meven_no n m (mz n m F) W (Or.inr ⟨may_mz h1 h2 h3 h4, by omega⟩), fun h' => absurd h' h, fun _ => ⟨rfl, rfl, rfl, rfl, rfl⟩⟩

end Go.Proofs.YtgmagehgnjopcaaDoor
