/-
  Sums, differences and products of rows that may be a matrix or may not, by cases. (By py/MSums.py.)
-/
import Derived.Test.YtgmagehgnjopcaaDoorMtT
import Derived.Test.YtgmagehgnjopcaaDoorMtG
import Derived.Test.YtgmagehgnjopcaaDoorMtS
set_option linter.unusedSimpArgs false
set_option linter.unusedVariables false
namespace Go.Proofs.YtgmagehgnjopcaaDoor
open Go.RowKit Vc Mt Qn Dt

namespace Mt
theorem not_zero : ¬ May 0 0 (fun _ => 0) := by
  rintro ⟨n, m, e1, _, h1, _⟩
  omega
/-- Rows, and the matrix that the laws make of them. -/
structure RowsOK (w : World) (lo : Option Addr) (n cm : Nat) (one : Bool) (r c : Int) (z : Nat → Int) : Prop where
  may : ∀ W, Below w.heap.size w W → Calls Tryd.prog 12 #[.slice lo n cm] W fun e w' => e = .returned (.bool one) ∧ Below W.heap.size W w'
  mat : ∀ W, Below w.heap.size w W → Calls Tryd.prog 22 #[.slice lo n cm] W fun e w' => e = .returned (.agg (mvals r c z).toArray) ∧ Below W.heap.size W w'
  yes : one = true → ∃ (m : Nat) (F : Nat → Nat → Int), r = n ∧ c = m ∧ z = mz n m F ∧ 1 ≤ n ∧ n ≤ 6 ∧ 1 ≤ m ∧ m ≤ 6 ∧ Grid w lo n cm m F ∧ B2 F
  no : one = false → r = 0 ∧ c = 0 ∧ z = fun _ => 0
end Mt

theorem sums_rows {w : World} {lo : Option Addr} {n cm : Nat} {A : Nat → Option Addr} {L C : Nat → Nat} {Z : Nat → Nat → Int} (s : Sls w lo n cm A L C) (q : ∀ r, r < n → Sl w (A r) (L r) (C r) (Z r) ∧ B64 (Z r)) : ∃ one r c z, RowsOK w lo n cm one r c z := by
  rcases rows_cases s q with ⟨m, F, h1, h2, h3, h4, hG, hB, _, _⟩ | ⟨b1, b2⟩
  · obtain ⟨A', C', hA, hAs⟩ := hG
    exact ⟨true, n, m, mz n m F, fun W b => rmay_yes n m cm lo A' C' W (hA.keep b) h1 h2 h3 h4,
      fun W b => matOf_by (.slice lo n cm) n m (mz n m F) W (fun W' b' => mof_any n m lo cm A' C' F W' h1 h2 h3 h4 (hA.keep (below_tr b b')) (fun k hk => (hAs k hk).keep (below_tr b b'))),
      fun _ => ⟨m, F, rfl, rfl, rfl, h1, h2, h3, h4, ⟨A', C', hA, hAs⟩, hB⟩, fun h => (by cases h)⟩
  · exact ⟨false, 0, 0, fun _ => 0, b1, fun W b => matOf_no (.slice lo n cm) W (fun W' b' => b2 W' (below_tr b b')), fun h => (by cases h), fun _ => ⟨rfl, rfl, rfl⟩⟩

theorem sums_add {w : World} {ao bo : Option Addr} {n n' ca cb : Nat} {one two : Bool} {rx cx ry cy : Int} {zx zy : Nat → Int} (ha : RowsOK w ao n ca one rx cx zx) (hb : RowsOK w bo n' cb two ry cy zy) :
    ∃ (al : Bool) (rA cA : Int) (zA : Nat → Int) (tA : Bool) (fA : Value) (rS cS : Int) (zS : Nat → Int) (tS : Bool) (fS : Value),
      (∀ W, Calls Tryd.prog 23 #[.agg (mvals rx cx zx).toArray, .agg (mvals ry cy zy).toArray] W fun e w' => e = .returned (.tuple #[.agg (mvals rA cA zA).toArray, .bool tA, fA]) ∧ Below W.heap.size W w') ∧
      (∀ W, Calls Tryd.prog 24 #[.agg (mvals rx cx zx).toArray, .agg (mvals ry cy zy).toArray] W fun e w' => e = .returned (.tuple #[.agg (mvals rS cS zS).toArray, .bool tS, fS]) ∧ Below W.heap.size W w') ∧
      (one = true → two = true → ∀ W, Below w.heap.size w W → Calls Tryd.prog 27 #[.slice ao n ca, .slice bo n' cb] W fun e w' => e = .returned (.bool al) ∧ Below W.heap.size W w') ∧
      ((!one || !two || !al) = false → ∃ (m : Nat) (F G : Nat → Nat → Int), n = n' ∧ 1 ≤ n ∧ n ≤ 6 ∧ 1 ≤ m ∧ m ≤ 6 ∧ Grid w ao n ca m F ∧ Grid w bo n cb m G ∧ B2 F ∧ B2 G ∧
        rA = n ∧ cA = m ∧ zA = mz n m (fun i j => clamp (F i j + G i j)) ∧ tA = any2 (fun i j => great (F i j + G i j)) n m ∧ fA = .nilIface ∧
        rS = n ∧ cS = m ∧ zS = mz n m (fun i j => clamp (F i j - G i j)) ∧ tS = any2 (fun i j => great (F i j - G i j)) n m ∧ fS = .nilIface) ∧
      ((!one || !two || !al) = true → rA = 0 ∧ cA = 0 ∧ zA = (fun _ => 0) ∧ tA = false ∧ fA = .iface 64 (.int .i64 1) ∧ rS = 0 ∧ cS = 0 ∧ zS = (fun _ => 0) ∧ tS = false ∧ fS = .iface 64 (.int .i64 1)) := by
  cases one with
  | false =>
    obtain ⟨rfl, rfl, rfl⟩ := ha.no rfl
    exact ⟨false, 0, 0, _, false, _, 0, 0, _, false, _, fun W => madd_no 0 0 ry cy _ zy W (Or.inl not_zero), fun W => msub_no 0 0 ry cy _ zy W (Or.inl not_zero), fun h => (by cases h), fun h => (by cases h), fun _ => ⟨rfl, rfl, rfl, rfl, rfl, rfl, rfl, rfl, rfl, rfl⟩⟩
  | true =>
    obtain ⟨m, F, rfl, rfl, rfl, h1, h2, h3, h4, gF, bF⟩ := ha.yes rfl
    cases two with
    | false =>
      obtain ⟨rfl, rfl, rfl⟩ := hb.no rfl
      exact ⟨false, 0, 0, _, false, _, 0, 0, _, false, _, fun W => madd_no n m 0 0 _ _ W (Or.inr (Or.inl ⟨may_mz h1 h2 h3 h4, not_zero⟩)), fun W => msub_no n m 0 0 _ _ W (Or.inr (Or.inl ⟨may_mz h1 h2 h3 h4, not_zero⟩)), fun _ h => (by cases h), fun h => (by cases h), fun _ => ⟨rfl, rfl, rfl, rfl, rfl, rfl, rfl, rfl, rfl, rfl⟩⟩
    | true =>
      obtain ⟨m', G, rfl, rfl, rfl, k1, k2, k3, k4, gG, bG⟩ := hb.yes rfl
      have hAl : ∀ W, Below w.heap.size w W → Calls Tryd.prog 27 #[.slice ao n ca, .slice bo n' cb] W fun e w' => e = .returned (.bool (decide (n = n' ∧ m = m'))) ∧ Below W.heap.size W w' := by
        intro W b
        obtain ⟨A, C, hA, _⟩ := gF
        obtain ⟨B, D, hB, _⟩ := gG
        exact ralike_any n n' m m' ca cb ao bo A B C D W h1 h2 k1 k2 h4 k4 (hA.keep b) (hB.keep b)
      by_cases e : n = n' ∧ m = m'
      · rw [decide_eq_true e] at hAl
        obtain ⟨rfl, rfl⟩ := e
        exact ⟨true, n, m, _, _, .nilIface, n, m, _, _, .nilIface, fun W => madd_any n m F G W h1 h2 h3 h4 bF bG, fun W => msub_any n m F G W h1 h2 h3 h4 bF bG, fun _ _ => hAl, fun _ => ⟨m, F, G, rfl, h1, h2, h3, h4, gF, gG, bF, bG, rfl, rfl, rfl, rfl, rfl, rfl, rfl, rfl, rfl, rfl⟩, fun h => (by cases h)⟩
      · rw [decide_eq_false e] at hAl
        have hne : (n : Int) ≠ n' ∨ (m : Int) ≠ m' := by omega
        exact ⟨false, 0, 0, _, false, _, 0, 0, _, false, _, fun W => madd_no n m n' m' _ _ W (Or.inr (Or.inr ⟨may_mz h1 h2 h3 h4, may_mz k1 k2 k3 k4, hne⟩)), fun W => msub_no n m n' m' _ _ W (Or.inr (Or.inr ⟨may_mz h1 h2 h3 h4, may_mz k1 k2 k3 k4, hne⟩)), fun _ _ => hAl, fun h => (by cases h), fun _ => ⟨rfl, rfl, rfl, rfl, rfl, rfl, rfl, rfl, rfl, rfl⟩⟩

theorem sums_mul {w : World} {ao bo : Option Addr} {n n' ca cb : Nat} {one two : Bool} {rx cx ry cy : Int} {zx zy : Nat → Int} (ha : RowsOK w ao n ca one rx cx zx) (hb : RowsOK w bo n' cb two ry cy zy) :
    ∃ (d : Bool) (rM cM : Int) (zM : Nat → Int) (tM : Bool) (fM : Value),
      (∀ W, Calls Tryd.prog 25 #[.agg (mvals rx cx zx).toArray, .agg (mvals ry cy zy).toArray] W fun e w' => e = .returned (.tuple #[.agg (mvals rM cM zM).toArray, .bool tM, fM]) ∧ Below W.heap.size W w') ∧
      (one = true → two = true → ∃ x m a0 c0, ao = some x ∧ w.cell? x = some (.slice a0 m c0) ∧ m ≤ 6 ∧ (((m : Nat) : Int) != ((n' : Nat) : Int)) = d ∧ n ≤ ca ∧ ca ≤ 9223372036854775807 ∧ 1 ≤ n ∧ n' ≤ 6) ∧
      ((!one || !two || d) = false → ∃ (m q : Nat) (F G : Nat → Nat → Int), m = n' ∧ 1 ≤ n ∧ n ≤ 6 ∧ 1 ≤ m ∧ m ≤ 6 ∧ 1 ≤ q ∧ q ≤ 6 ∧ Grid w ao n ca m F ∧ Grid w bo m cb q G ∧ B2 F ∧ B2 G ∧
        rM = n ∧ cM = q ∧ zM = mz n q (fun i j => clamp (mulR F G m i j)) ∧ tM = any2 (fun i j => great (mulR F G m i j)) n q ∧ fM = .nilIface) ∧
      ((!one || !two || d) = true → rM = 0 ∧ cM = 0 ∧ zM = (fun _ => 0) ∧ tM = false ∧ fM = .iface 64 (.int .i64 1)) := by
  cases one with
  | false =>
    obtain ⟨rfl, rfl, rfl⟩ := ha.no rfl
    exact ⟨true, 0, 0, _, false, _, fun W => mmul_no 0 0 ry cy _ zy W (Or.inl not_zero), fun h => (by cases h), fun h => (by cases h), fun _ => ⟨rfl, rfl, rfl, rfl, rfl⟩⟩
  | true =>
    obtain ⟨m, F, rfl, rfl, rfl, h1, h2, h3, h4, gF, bF⟩ := ha.yes rfl
    cases two with
    | false =>
      obtain ⟨rfl, rfl, rfl⟩ := hb.no rfl
      exact ⟨true, 0, 0, _, false, _, fun W => mmul_no n m 0 0 _ _ W (Or.inr ⟨may_mz h1 h2 h3 h4, by omega⟩), fun _ h => (by cases h), fun h => (by cases h), fun _ => ⟨rfl, rfl, rfl, rfl, rfl⟩⟩
    | true =>
      obtain ⟨q, G, rfl, rfl, rfl, k1, k2, k3, k4, gG, bG⟩ := hb.yes rfl
      have hc : ∃ x m' a0 c0, ao = some x ∧ w.cell? x = some (.slice a0 m' c0) ∧ m' = m ∧ n ≤ ca ∧ ca ≤ 9223372036854775807 := by
        obtain ⟨A, C, hA, _⟩ := gF
        obtain ⟨x, hx, hcl⟩ := hA.get
        exact ⟨x, m, A 0, C 0, hx (by omega), hcl 0 (by omega), rfl, hA.le, hA.cap⟩
      by_cases e : m = n'
      · subst e
        exact ⟨false, n, q, _, _, .nilIface, fun W => mmul_any n m q F G W h1 h2 h3 h4 k3 k4 bF bG, fun _ _ => by
          obtain ⟨x, m', a0, c0, e1, e2, rfl, e3, e4⟩ := hc
          exact ⟨x, m', a0, c0, e1, e2, h4, by simp, e3, e4, h1, k2⟩, fun _ => ⟨m, q, F, G, rfl, h1, h2, h3, h4, k3, k4, gF, gG, bF, bG, rfl, rfl, rfl, rfl, rfl⟩, fun h => (by cases h)⟩
      · exact ⟨true, 0, 0, _, false, _, fun W => mmul_no n m n' q _ _ W (Or.inr ⟨may_mz h1 h2 h3 h4, by omega⟩), fun _ _ => by
          obtain ⟨x, m', a0, c0, e1, e2, rfl, e3, e4⟩ := hc
          exact ⟨x, m', a0, c0, e1, e2, h4, by rw [bne_iff_ne]; omega, e3, e4, h1, k2⟩, fun h => (by cases h), fun _ => ⟨rfl, rfl, rfl, rfl, rfl⟩⟩

namespace Mt
/-- A matrix times a vector, or an error. -/
structure AppIs (k : Bool) (w0 : World) (ao : Option Addr) (n ca lv : Nat) (v : Nat → Int) (w : World) (co : Option Addr) (l cc : Nat) (t : Bool) (f : Value) : Prop where
  yes : k = false → ∃ (m : Nat) (F : Nat → Nat → Int), lv = m ∧ n = l ∧ 1 ≤ n ∧ n ≤ 6 ∧ m ≤ 6 ∧ Grid w0 ao n ca m F ∧ B2 F ∧ t = anyb (fun i => great (appR F v m i)) n ∧ f = .nilIface ∧ Sl w co n cc (fun i => clamp (appR F v m i))
  no : k = true → l = 0 ∧ t = false ∧ f = .iface 64 (.int .i64 1)
theorem AppIs.keep {k : Bool} {w0 : World} {ao : Option Addr} {n ca lv : Nat} {v : Nat → Int} {w w' : World} {co : Option Addr} {l cc : Nat} {t : Bool} {f : Value} (h : AppIs k w0 ao n ca lv v w co l cc t f) (b : Below w.heap.size w w') : AppIs k w0 ao n ca lv v w' co l cc t f :=
  ⟨fun e => by
    obtain ⟨m, F, e1, e2, e3, e4, e5, e6, e7, e8, e9, e10⟩ := h.yes e
    exact ⟨m, F, e1, e2, e3, e4, e5, e6, e7, e8, e9, e10.keep b⟩, h.no⟩
end Mt

theorem sums_app {w : World} {ao vo : Option Addr} {n ca lv cv : Nat} {one : Bool} {rx cx : Int} {zx v : Nat → Int} (ha : RowsOK w ao n ca one rx cx zx) (hv : Sl w vo lv cv v) (bv : B64 v) :
    ∃ d : Bool, (∀ W, Below w.heap.size w W → Calls Tryd.prog 26 #[.agg (mvals rx cx zx).toArray, .slice vo lv cv] W fun e w' => ∃ co l cc t f, e = .returned (.tuple #[.slice co l cc, .bool t, f]) ∧ AppIs (!one || d) w ao n ca lv v w' co l cc t f ∧ Below W.heap.size W w') ∧
      (one = true → ∃ x m a0 c0, ao = some x ∧ w.cell? x = some (.slice a0 m c0) ∧ m ≤ 6 ∧ (((m : Nat) : Int) != ((lv : Nat) : Int)) = d ∧ n ≤ ca ∧ ca ≤ 9223372036854775807 ∧ 1 ≤ n) := by
  have l1 := hv.le
  have l2 := hv.cap
  cases one with
  | false =>
    obtain ⟨rfl, rfl, rfl⟩ := ha.no rfl
    exact ⟨true, fun W b => (mapply_no 0 0 _ vo lv cv W (by omega) (Or.inl not_zero)).mono (by rintro e w1 ⟨rfl, k⟩; exact ⟨_, _, _, _, _, rfl, ⟨fun h => (by cases h), fun _ => ⟨rfl, rfl, rfl⟩⟩, k⟩), fun h => (by cases h)⟩
  | true =>
    obtain ⟨m, F, rfl, rfl, rfl, h1, h2, h3, h4, gF, bF⟩ := ha.yes rfl
    have hc : ∃ x m' a0 c0, ao = some x ∧ w.cell? x = some (.slice a0 m' c0) ∧ m' = m ∧ n ≤ ca ∧ ca ≤ 9223372036854775807 := by
      obtain ⟨A, C, hA, _⟩ := gF
      obtain ⟨x, hx, hcl⟩ := hA.get
      exact ⟨x, m, A 0, C 0, hx (by omega), hcl 0 (by omega), rfl, hA.le, hA.cap⟩
    by_cases e : m = lv
    · subst e
      exact ⟨false, fun W b => (mapply_any n m cv vo F v W h1 h2 h3 h4 bF (hv.keep b) bv).mono (by
        rintro e w1 ⟨co, cc, rfl, hs, _, k⟩
        exact ⟨co, n, cc, _, _, rfl, ⟨fun _ => ⟨m, F, rfl, rfl, h1, h2, h4, gF, bF, rfl, rfl, hs⟩, fun h => (by cases h)⟩, k⟩), fun _ => by
          obtain ⟨x, m', a0, c0, e1, e2, rfl, e3, e4⟩ := hc
          exact ⟨x, m', a0, c0, e1, e2, h4, by simp, e3, e4, h1⟩⟩
    · exact ⟨true, fun W b => (mapply_no n m _ vo lv cv W (by omega) (Or.inr ⟨may_mz h1 h2 h3 h4, by omega⟩)).mono (by rintro e w1 ⟨rfl, k⟩; exact ⟨_, _, _, _, _, rfl, ⟨fun h => (by cases h), fun _ => ⟨rfl, rfl, rfl⟩⟩, k⟩), fun _ => by
          obtain ⟨x, m', a0, c0, e1, e2, rfl, e3, e4⟩ := hc
          exact ⟨x, m', a0, c0, e1, e2, h4, by rw [bne_iff_ne]; omega, e3, e4, h1⟩⟩

theorem sums_out {w : World} {vo : Option Addr} {lv cv : Nat} {v : Nat → Int} (hv : Sl w vo lv cv v) (bv : B64 v) : ∃ (r c : Int) (z : Nat → Int) (t : Bool) (f : Value),
    (∀ W, Below w.heap.size w W → Calls Tryd.prog 31 #[.slice vo lv cv, .slice vo lv cv] W fun e w' => e = .returned (.tuple #[.agg (mvals r c z).toArray, .bool t, f]) ∧ Below W.heap.size W w') ∧
    (1 ≤ lv ∧ lv ≤ 6 → r = lv ∧ c = lv ∧ z = mz lv lv (fun i j => clamp (outR v v i j)) ∧ t = any2 (fun i j => great (outR v v i j)) lv lv ∧ f = .nilIface) ∧
    (¬ (1 ≤ lv ∧ lv ≤ 6) → r = 0 ∧ c = 0 ∧ z = (fun _ => 0) ∧ t = false ∧ f = .iface 64 (.int .i64 1)) := by
  have l1 := hv.le
  have l2 := hv.cap
  by_cases h : 1 ≤ lv ∧ lv ≤ 6
  · exact ⟨lv, lv, _, _, .nilIface, fun W b => mouter_any lv lv cv cv vo vo v v W h.1 h.2 h.1 h.2 (hv.keep b) (hv.keep b) bv bv, fun _ => ⟨rfl, rfl, rfl, rfl, rfl⟩, fun h' => absurd h h'⟩
  · exact ⟨0, 0, _, false, _, fun W b => mouter_no lv lv cv cv vo vo W (by omega) (by omega) (by omega), fun h' => absurd h' h, fun _ => ⟨rfl, rfl, rfl, rfl, rfl⟩⟩

end Go.Proofs.YtgmagehgnjopcaaDoor
