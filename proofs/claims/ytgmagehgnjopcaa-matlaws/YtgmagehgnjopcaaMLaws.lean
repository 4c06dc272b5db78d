/-
  What is proved: whatever rows it is given, the law MatLaws of layer 8 returns true, ends without a panic, and leaves what was there as it was; its condition: none. (By py/MLaws.py.)
-/
import Derived.Test.YtgmagehgnjopcaaMtK
import Derived.Test.YtgmagehgnjopcaaMtR
import Derived.Test.YtgmagehgnjopcaaFMatLaws
set_option linter.unusedSimpArgs false
set_option linter.unusedVariables false
namespace Go.Proofs.Ytgmagehgnjopcaa
open Go.RowKit Vc Mt Qn Dt

namespace Mt
theorem dk_comm (a b : Nat → Int) : ∀ n, dk a b n = dk b a n
  | 0 => rfl
  | n + 1 => by show dk a b n + a n * b n = dk b a n + b n * a n; rw [dk_comm a b n, Int.mul_comm]
theorem dk_eye (a : Nat → Int) (j : Nat) : ∀ t, dk a (fun k => eyeF k j) t = if j < t then a j * 1048576 else 0
  | 0 => rfl
  | t + 1 => by
    show dk a (fun k => eyeF k j) t + a t * eyeF t j = _
    rw [dk_eye a j t]
    unfold eyeF
    by_cases e : t = j
    · subst e; rw [if_neg (by omega), if_pos rfl, if_pos (by omega)]; omega
    · rw [if_neg e]
      by_cases h : j < t
      · rw [if_pos h, if_pos (by omega)]; omega
      · rw [if_neg h, if_neg (by omega)]; omega
theorem rne_of {a d : Int} (hd : 0 < d) : rne (a * d) d = a := by
  unfold rne
  rw [Int.mul_emod_left, Int.mul_ediv_cancel a (by omega), if_pos (Or.inl (by omega))]
theorem rne_two (a : Int) : rne (a + a) (2 ^ 1) = a := by
  rw [show a + a = a * 2 ^ 1 by omega]; exact rne_of (by decide)
theorem clamp_same {x : Int} (h : great x = false) : clamp x = x := by
  unfold great at h
  unfold clamp
  rw [Bool.or_eq_false_iff, decide_eq_false_iff_not, decide_eq_false_iff_not] at h
  rw [if_neg h.1, if_neg h.2]
theorem clamp_fix (x : Int) : great (clamp x) = false ∧ clamp (clamp x) = clamp x := by
  have h := clamp_bd x
  have e : great (clamp x) = false := by unfold great; rw [decide_eq_false (by omega), decide_eq_false (by omega)]; rfl
  exact ⟨e, clamp_same e⟩
theorem mul_one_is (F : Nat → Nat → Int) {m i j : Nat} (hj : j < m) : mulR F eyeF m i j = F i j := by
  unfold mulR
  rw [dk_eye, if_pos hj]
  exact rne_of (by decide)
theorem mul_turn (F G : Nat → Nat → Int) (m i j : Nat) : mulR (fun i j => G j i) (fun i j => F j i) m i j = mulR F G m j i := by
  unfold mulR
  rw [dk_comm]
theorem any2_turn (G : Nat → Nat → Bool) (n m : Nat) : any2 (fun i j => G j i) m n = any2 G n m := by
  cases e : any2 G n m with
  | false => exact any2_false.2 fun i j hi hj => any2_false.1 e j i hj hi
  | true =>
    cases e2 : any2 (fun i j => G j i) m n with
    | true => rfl
    | false =>
      have := any2_false.2 (fun i j hi hj => any2_false.1 e2 j i hj hi : ∀ i j, i < n → j < m → G i j = false)
      rw [e] at this; cases this
theorem even_turn (F : Nat → Nat → Int) (i j : Nat) : evR F j i = evR F i j := by unfold evR; rw [Int.add_comm]
theorem even_even (F : Nat → Nat → Int) (i j : Nat) : evR (fun i j => clamp (evR F i j)) i j = clamp (evR F i j) := by
  show rne (clamp (evR F i j) + clamp (evR F j i)) (2 ^ 1) = _
  rw [even_turn F i j]
  exact rne_two _
end Mt

theorem getD_b {z : List Int} (h5 : ∀ n ∈ z, (Lit.int .i64 n).wf = true) : B64 (fun k => z.getD k 0) := by
  intro k
  show _ ≤ z.getD k 0 ∧ z.getD k 0 ≤ _
  by_cases hk : k < z.length
  · have e : z.getD k 0 = z[k] := by simp [List.getD, List.getElem?_eq_getElem hk]
    rw [e]
    exact bounds_i64 (h5 _ (List.getElem_mem hk))
  · have e : z.getD k 0 = 0 := by simp [List.getD, List.getElem?_eq_none (Nat.le_of_not_lt hk)]
    rw [e]; omega
theorem isrows5 {w : World} {a : Option Addr} {len cap : Nat} {A : Nat → Option Addr} {L C : Nat → Nat} {Z : Nat → List Int} (h : FMatLaws.IsRows .i64 w a len cap A L C Z) :
    Sls w a len cap A L C ∧ ∀ r, r < len → Sl w (A r) (L r) (C r) (fun k => (Z r).getD k 0) ∧ B64 (fun k => (Z r).getD k 0) := by
  rcases h with ⟨rfl, rfl, rfl⟩ | ⟨x, rfl, h1, h2, h3⟩
  · exact ⟨⟨Nat.le_refl _, by omega, fun j hj => by omega⟩, fun r hr => by omega⟩
  · refine ⟨⟨h1, h2, fun j hj => ⟨x, rfl, (h3 j (by omega)).1⟩⟩, fun r hr => ?_⟩
    obtain ⟨r1, r2, r3, r4, r5, r6, r7⟩ := h3 r (by omega)
    refine ⟨⟨r2, r3, fun k hk => ?_⟩, getD_b r5⟩
    cases e : A r with
    | none => have := r6 e; omega
    | some y => exact ⟨y, rfl, r7 y e k (by omega)⟩

/-- The first that is not so. -/
theorem Mt.first_other {p : Nat → Prop} [DecidablePred p] : ∀ (m : Nat), (∀ k, k < m → p k) ∨ ∃ q, q < m ∧ ¬ p q ∧ ∀ k, k < q → p k
  | 0 => Or.inl fun k hk => by omega
  | m + 1 => by
    rcases Mt.first_other (p := p) m with h | ⟨q, h1, h2, h3⟩
    · by_cases c : p m
      · exact Or.inl fun k hk => by
          rcases Nat.lt_or_ge k m with d | d
          · exact h k d
          · obtain rfl : k = m := by omega
            exact c
      · exact Or.inr ⟨m, by omega, c, h⟩
    · exact Or.inr ⟨q, by omega, h2, h3⟩

/-- Rows that may be a matrix, or that may not. -/
theorem rows_cases {w : World} {lo : Option Addr} {n cm : Nat} {A : Nat → Option Addr} {L C : Nat → Nat} {Z : Nat → Nat → Int} (s : Sls w lo n cm A L C) (q : ∀ r, r < n → Sl w (A r) (L r) (C r) (Z r) ∧ B64 (Z r)) :
    (∃ (m : Nat) (F : Nat → Nat → Int), 1 ≤ n ∧ n ≤ 6 ∧ 1 ≤ m ∧ m ≤ 6 ∧ Grid w lo n cm m F ∧ B2 F ∧ (∀ i, i < n → F i = Z i) ∧ L 0 = m) ∨
    ((∀ W, Below w.heap.size w W → Calls Try.prog 4 #[.slice lo n cm] W fun e w' => e = .returned (.bool false) ∧ Below W.heap.size W w') ∧
     (∀ W, Below w.heap.size w W → Calls Try.prog 11 #[.slice lo n cm] W fun e w' => e = .returned (.tuple #[.agg (mvals 0 0 (fun _ => 0)).toArray, .iface 49 (.int .i64 1)]) ∧ Below W.heap.size W w')) := by
  have l1 := s.le
  have l2 := s.cap
  have hL : ∀ k, k < n → L k ≤ 9223372036854775807 := fun k hk => by have := (q k hk).1.le; have := (q k hk).1.cap; omega
  by_cases h0 : n = 0
  · subst h0
    exact Or.inr ⟨fun W _ => rmay_rows 0 cm lo W (by omega) (by omega), fun W _ => mof_nil lo cm W⟩
  by_cases h6 : 6 < n
  · exact Or.inr ⟨fun W _ => rmay_rows n cm lo W (by omega) (by omega), fun W b => mof_size n lo cm A L C W (by omega) (s.keep b) (hL 0 (by omega)) (by omega)⟩
  by_cases hc : 1 ≤ L 0 ∧ L 0 ≤ 6
  · rcases first_other (p := fun k => L k = L 0) n with hall | ⟨t, ht, hbad, hok⟩
    · left
      refine ⟨L 0, fun r k => if r < n then Z r k else 0, by omega, by omega, hc.1, hc.2, ⟨A, C, ⟨s.le, s.cap, fun j hj => by rw [← hall j hj]; exact s.at' j hj⟩, fun k hk => ?_⟩, fun k p => ?_, fun i hi => ?_, rfl⟩
      · have h := (q k hk).1
        rw [hall k hk] at h
        exact h.congr (fun j _ => by show Z k j = if k < n then Z k j else 0; rw [if_pos hk])
      · show _ ≤ (if k < n then Z k p else 0) ∧ (if k < n then Z k p else 0) ≤ _
        split
        · rename_i hk
          exact (q k hk).2 p
        · omega
      · funext j
        show (if i < n then Z i j else 0) = _
        rw [if_pos hi]
    · exact Or.inr ⟨fun W b => rmay_other n cm t lo A L C W (s.keep b) (by omega) (by omega) hc.1 hc.2 hL ht hbad hok, fun W b => mof_other n (L 0) t lo cm A L C Z W (by omega) (by omega) hc.1 hc.2 (s.keep b) (fun k hk => (q k hk).1.keep b) rfl ht hbad hok⟩
  · exact Or.inr ⟨fun W b => rmay_cols n cm lo A L C W (s.keep b) (by omega) (by omega) (hL 0 (by omega)) (by omega), fun W b => mof_size n lo cm A L C W (by omega) (s.keep b) (hL 0 (by omega)) (by omega)⟩

set_option maxRecDepth 20000 in
set_option maxHeartbeats 2000000 in
theorem mlaws_a (ao bo : Option Addr) (n m ca cb : Nat) (w : World)
    (ha : ∀ W, Below w.heap.size w W → Calls Try.prog 4 #[.slice ao n ca] W fun e w' => e = .returned (.bool false) ∧ Below W.heap.size W w') :
    Calls Try.prog 3 #[.slice ao n ca, .slice bo m cb] w fun e w' => e = .returned (.bool true) ∧ Below w.heap.size w w' := by
  have HA := Hid.mkV (ha w (Below.refl _ _))
  clear ha
  go_enter Try.func3, Try.ntmps3
  go_wp2_with fail
  refine HA.out.mono ?_
  rintro e w1 ⟨rfl, k1⟩
  go_wp2_with fail
  refine (msure_any _).mono ?_
  rintro e w2 ⟨rfl, k2⟩
  go_wp2
  go_ret
  exact ⟨rfl, below_tr k1 k2⟩

set_option maxRecDepth 20000 in
set_option maxHeartbeats 2000000 in
theorem mlaws_b (ao bo : Option Addr) (n m ca cb : Nat) (w : World)
    (ha : ∀ W, Below w.heap.size w W → Calls Try.prog 4 #[.slice ao n ca] W fun e w' => e = .returned (.bool true) ∧ Below W.heap.size W w')
    (hb : ∀ W, Below w.heap.size w W → Calls Try.prog 4 #[.slice bo m cb] W fun e w' => e = .returned (.bool false) ∧ Below W.heap.size W w') :
    Calls Try.prog 3 #[.slice ao n ca, .slice bo m cb] w fun e w' => e = .returned (.bool true) ∧ Below w.heap.size w w' := by
  have HA := Hid.mkV (ha w (Below.refl _ _))
  have HB := Hid.mkV hb
  clear ha hb
  go_enter Try.func3, Try.ntmps3
  go_wp2_with fail
  refine HA.out.mono ?_
  rintro e w1 ⟨rfl, k1⟩
  go_wp2_with fail
  refine (HB.out _ k1).mono ?_
  rintro e w2 ⟨rfl, k2⟩
  go_wp2_with fail
  refine (msure_any _).mono ?_
  rintro e w3 ⟨rfl, k3⟩
  go_wp2
  go_ret
  exact ⟨rfl, below_tr (below_tr k1 k2) k3⟩

set_option maxRecDepth 20000 in
set_option maxHeartbeats 2000000 in
theorem mlaws_c (ao bo : Option Addr) (n m q l ca cb : Nat) (F G : Nat → Nat → Int) (w : World) (h1 : 1 ≤ n) (h2 : n ≤ 6) (h3 : 1 ≤ m) (h4 : m ≤ 6) (h5 : 1 ≤ l) (h6 : l ≤ 6) (h7 : 1 ≤ q) (h8 : q ≤ 6) (ga : Grid w ao n ca m F) (gb : Grid w bo l cb q G) (hne : m ≠ l) :
    Calls Try.prog 3 #[.slice ao n ca, .slice bo l cb] w fun e w' => e = .returned (.bool true) ∧ Below w.heap.size w w' := by
  obtain ⟨A, C, hA, _⟩ := ga
  obtain ⟨B, D, hBb, _⟩ := gb
  have HA := Hid.mkV (rmay_yes n m ca ao A C w hA h1 h2 h3 h4)
  have HB := Hid.mkV (fun W (b : Below w.heap.size w W) => rmay_yes l q cb bo B D W (hBb.keep b) h5 h6 h7 h8)
  obtain ⟨x, hao, hca⟩ := hA.get
  obtain rfl := hao (by omega)
  have c0 : w.cell? x = some (.slice (A 0) m (C 0)) := hca 0 (by omega)
  have l1 := hA.le
  have l2 := hA.cap
  have l3 := hBb.le
  have l4 := hBb.cap
  have e1 : (((m : Nat) : Int) != ((l : Nat) : Int)) = true := by rw [bne_iff_ne]; omega
  clear hA hBb hao hca hne
  go_enter Try.func3, Try.ntmps3
  go_wp2_with fail
  refine HA.out.mono ?_
  rintro e w1 ⟨rfl, k1⟩
  go_wp2_with fail
  refine (HB.out _ k1).mono ?_
  rintro e w2 ⟨rfl, k2⟩
  have K2 := below_tr k1 k2
  have c2 := keep_cell K2 c0
  go_wp2_with fail
  refine (msure_any _).mono ?_
  rintro e w3 ⟨rfl, k3⟩
  go_wp2
  go_ret
  exact ⟨rfl, below_tr K2 k3⟩

set_option maxRecDepth 20000 in
set_option maxHeartbeats 4000000 in
theorem mlaws_d (ao bo : Option Addr) (n m q ca cb : Nat) (F G : Nat → Nat → Int) (w : World) (h1 : 1 ≤ n) (h2 : n ≤ 6) (h3 : 1 ≤ m) (h4 : m ≤ 6) (h7 : 1 ≤ q) (h8 : q ≤ 6) (ga : Grid w ao n ca m F) (gb : Grid w bo m cb q G) (hF : B2 F) (hG : B2 G) :
    Calls Try.prog 3 #[.slice ao n ca, .slice bo m cb] w fun e w' => e = .returned (.bool true) ∧ Below w.heap.size w w' := by
  obtain ⟨A, C, hA, hAs⟩ := ga
  obtain ⟨B, D, hBb, hBs⟩ := gb
  have HA := Hid.mkV (rmay_yes n m ca ao A C w hA h1 h2 h3 h4)
  have HB := Hid.mkV (fun W (b : Below w.heap.size w W) => rmay_yes m q cb bo B D W (hBb.keep b) h3 h4 h7 h8)
  have OA := Hid.mkV (fun W (b : Below w.heap.size w W) => matOf_by (.slice ao n ca) n m (mz n m F) W (fun W' b' => mof_any n m ao ca A C F W' h1 h2 h3 h4 (hA.keep (below_tr b b')) (fun k hk => (hAs k hk).keep (below_tr b b'))))
  have OB := Hid.mkV (fun W (b : Below w.heap.size w W) => matOf_by (.slice bo m cb) m q (mz m q G) W (fun W' b' => mof_any m q bo cb B D G W' h3 h4 h7 h8 (hBb.keep (below_tr b b')) (fun k hk => (hBs k hk).keep (below_tr b b'))))
  obtain ⟨x, hao, hca⟩ := hA.get
  obtain rfl := hao (by omega)
  have c0 : w.cell? x = some (.slice (A 0) m (C 0)) := hca 0 (by omega)
  have l1 := hA.le
  have l2 := hA.cap
  have l3 := hBb.le
  have l4 := hBb.cap
  have T1 := Hid.mkV (fun W => mturn_any n m F W h1 h2 h3 h4)
  have T2 := Hid.mkV (fun W => mturn_any m q G W h3 h4 h7 h8)
  have T3 : Hid (∀ W, Calls Try.prog 7 #[.agg (mvals m n (mz m n (fun i j => F j i))).toArray] W fun e w' => e = .returned (.tuple #[.agg (mvals n m (mz n m F)).toArray, .nilIface]) ∧ Below W.heap.size W w') := fun W => mturn_any m n (fun i j => F j i) W h3 h4 h1 h2
  have M1 := Hid.mkV (fun W => mmul_any n m q F G W h1 h2 h3 h4 h7 h8 hF hG)
  have M2 : Hid (∀ W, Calls Try.prog 8 #[.agg (mvals q m (mz q m (fun i j => G j i))).toArray, .agg (mvals m n (mz m n (fun i j => F j i))).toArray] W fun e w' => e = .returned (.tuple #[.agg (mvals q n (mz q n (fun i j => clamp (mulR F G m j i)))).toArray, .bool (any2 (fun i j => great (mulR F G m i j)) n q), .nilIface]) ∧ Below W.heap.size W w') := by
    intro W
    refine (mmul_any q m n (fun i j => G j i) (fun i j => F j i) W h7 h8 h3 h4 h1 h2 (fun i j => hG j i) (fun i j => hF j i)).mono ?_
    rintro e w1 ⟨rfl, k⟩
    refine ⟨?_, k⟩
    have e1 : (fun i j => clamp (mulR (fun i j => G j i) (fun i j => F j i) m i j)) = fun i j => clamp (mulR F G m j i) := by funext i j; rw [mul_turn]
    have e2 : (fun i j => great (mulR (fun i j => G j i) (fun i j => F j i) m i j)) = fun i j => (fun i j => great (mulR F G m i j)) j i := by funext i j; rw [mul_turn]
    rw [e1, e2, any2_turn]
  have T4 : Hid (∀ W, Calls Try.prog 7 #[.agg (mvals n q (mz n q (fun i j => clamp (mulR F G m i j)))).toArray] W fun e w' => e = .returned (.tuple #[.agg (mvals q n (mz q n (fun i j => clamp (mulR F G m j i)))).toArray, .nilIface]) ∧ Below W.heap.size W w') := fun W => mturn_any n q (fun i j => clamp (mulR F G m i j)) W h1 h2 h7 h8
  have E1 := Hid.mkV (fun W => meye_any m W h3 h4)
  have M3 : Hid (∀ W, Calls Try.prog 8 #[.agg (mvals n m (mz n m F)).toArray, .agg (mvals m m (mz m m eyeF)).toArray] W fun e w' => e = .returned (.tuple #[.agg (mvals n m (mz n m (fun i j => clamp (F i j)))).toArray, .bool (any2 (fun i j => great (F i j)) n m), .nilIface]) ∧ Below W.heap.size W w') := by
    intro W
    refine (mmul_any n m m F eyeF W h1 h2 h3 h4 h3 h4 hF (fun i j => by unfold eyeF; split <;> omega)).mono ?_
    rintro e w1 ⟨rfl, k⟩
    refine ⟨?_, k⟩
    have e1 : mvals n m (mz n m (fun i j => clamp (mulR F eyeF m i j))) = mvals n m (mz n m (fun i j => clamp (F i j))) := mvals_congr fun k _ => mz_congr (fun i j hi hj => by rw [mul_one_is F hj]) k
    have e2 : any2 (fun i j => great (mulR F eyeF m i j)) n m = any2 (fun i j => great (F i j)) n m := any2_congr fun i j hi hj => by rw [mul_one_is F hj]
    rw [e1, e2]
  have V1 : Hid (n = m → ∀ W, Calls Try.prog 10 #[.agg (mvals n m (mz n m F)).toArray] W fun e w' => e = .returned (.tuple #[.agg (mvals n m (mz n m (fun i j => clamp (evR F i j)))).toArray, .bool (any2 (fun i j => great (evR F i j)) n m), .nilIface]) ∧ Below W.heap.size W w') := by
    intro e W; subst e; exact meven_any n F W h1 h2 hF
  have V2 : Hid (n = m → ∀ W, Calls Try.prog 7 #[.agg (mvals n m (mz n m (fun i j => clamp (evR F i j)))).toArray] W fun e w' => e = .returned (.tuple #[.agg (mvals n m (mz n m (fun i j => clamp (evR F i j)))).toArray, .nilIface]) ∧ Below W.heap.size W w') := by
    intro e W; subst e
    refine (mturn_any n n (fun i j => clamp (evR F i j)) W h1 h2 h1 h2).mono ?_
    rintro e w1 ⟨rfl, k⟩
    refine ⟨?_, k⟩
    have e1 : (fun i j => (fun i j => clamp (evR F i j)) j i) = fun i j => clamp (evR F i j) := by funext i j; show clamp (evR F j i) = _; rw [even_turn]
    rw [e1]
  have V3 : Hid (n = m → ∀ W, Calls Try.prog 10 #[.agg (mvals n m (mz n m (fun i j => clamp (evR F i j)))).toArray] W fun e w' => e = .returned (.tuple #[.agg (mvals n m (mz n m (fun i j => clamp (evR F i j)))).toArray, .bool false, .nilIface]) ∧ Below W.heap.size W w') := by
    intro e W; subst e
    refine (meven_any n (fun i j => clamp (evR F i j)) W h1 h2 (fun i j => ⟨by have := (clamp_bd (evR F i j)).1; show _ ≤ clamp (evR F i j); omega, by have := (clamp_bd (evR F i j)).2; show clamp (evR F i j) ≤ _; omega⟩)).mono ?_
    rintro e w1 ⟨rfl, k⟩
    refine ⟨?_, k⟩
    have e1 : (fun i j => clamp (evR (fun i j => clamp (evR F i j)) i j)) = fun i j => clamp (evR F i j) := by funext i j; rw [even_even, (clamp_fix _).2]
    have e2 : any2 (fun i j => great (evR (fun i j => clamp (evR F i j)) i j)) n n = false := any2_false.2 fun i j _ _ => by rw [even_even, (clamp_fix _).1]
    rw [e1, e2]
  have SQ : Hid (any2 (fun i j => great (F i j)) n m = false → mvals n m (mz n m (fun i j => clamp (F i j))) = mvals n m (mz n m F)) := fun h => mvals_congr fun k _ => mz_congr (fun i j hi hj => clamp_same (any2_false.1 h i j hi hj)) k
  obtain ⟨zx, hzx⟩ : ∃ z, z = mz n m F := ⟨_, rfl⟩
  obtain ⟨zy, hzy⟩ : ∃ z, z = mz m q G := ⟨_, rfl⟩
  obtain ⟨zt, hzt⟩ : ∃ z, z = mz m n (fun i j => F j i) := ⟨_, rfl⟩
  obtain ⟨zu, hzu⟩ : ∃ z, z = mz q m (fun i j => G j i) := ⟨_, rfl⟩
  obtain ⟨zm, hzm⟩ : ∃ z, z = mz n q (fun i j => clamp (mulR F G m i j)) := ⟨_, rfl⟩
  obtain ⟨zn, hzn⟩ : ∃ z, z = mz q n (fun i j => clamp (mulR F G m j i)) := ⟨_, rfl⟩
  obtain ⟨ze, hze⟩ : ∃ z, z = mz m m eyeF := ⟨_, rfl⟩
  obtain ⟨zs, hzs⟩ : ∃ z, z = mz n m (fun i j => clamp (F i j)) := ⟨_, rfl⟩
  obtain ⟨zv, hzv⟩ : ∃ z, z = mz n m (fun i j => clamp (evR F i j)) := ⟨_, rfl⟩
  obtain ⟨tp, hto⟩ : ∃ t, t = any2 (fun i j => great (mulR F G m i j)) n q := ⟨_, rfl⟩
  obtain ⟨tq, htq⟩ : ∃ t, t = any2 (fun i j => great (F i j)) n m := ⟨_, rfl⟩
  obtain ⟨tv, htv⟩ : ∃ t, t = any2 (fun i j => great (evR F i j)) n m := ⟨_, rfl⟩
  rw [← hzx] at OA T1 T3 M1 M3 V1 SQ
  rw [← hzy] at OB T2 M1
  rw [← hzt] at T1 T3 M2
  rw [← hzu] at T2 M2
  rw [← hzm] at M1 T4
  rw [← hzn] at M2 T4
  rw [← hze] at E1 M3
  rw [← hzs] at M3 SQ
  rw [← hzv] at V1 V2 V3
  rw [← hto] at M1 M2
  rw [← htq] at M3 SQ
  rw [← htv] at V1
  have ml : (((m : Nat) : Int) != ((m : Nat) : Int)) = false := by simp
  clear hzx hzy hzt hzu hzm hzn hze hzs hzv hto htq htv hA hBb hao hca hAs hBs hF hG
  go_enter Try.func3, Try.ntmps3
  go_wp2_with fail
  refine HA.out.mono ?_
  rintro e w1 ⟨rfl, k1⟩
  go_wp2_with fail
  refine (HB.out _ k1).mono ?_
  rintro e w2 ⟨rfl, k2⟩
  have K2 := below_tr k1 k2
  have c2 := keep_cell K2 c0
  clear k1 k2 HA HB
  go_wp2_with fail
  refine (OA.out _ K2).mono ?_
  rintro e w3 ⟨rfl, k3⟩
  have K3 := below_tr K2 k3
  clear k3 K2 OA
  go_wp2_with fail
  refine (OB.out _ K3).mono ?_
  rintro e w4 ⟨rfl, k4⟩
  have K4 := below_tr K3 k4
  clear k4 K3 OB c2
  have r5 := (mrow_new w4 0 0 (fun _ => 0)).alloc (.cells (mvals 0 0 (fun _ => 0)).toArray 28)
  have r6 := (mrow_new1 w4 (.cells (mvals 0 0 (fun _ => 0)).toArray 28) 0 0 (fun _ => 0)).rowOther (g := w4.heap.size) (by omega) (mvals n m zx).toArray
  have x5 := (r5.row n m zx).rowOther (g := w4.heap.size + 1) (by omega) (mvals m q zy).toArray
  have y6 := r6.row m q zy
  have k5 := below_row (below_row (below_al (below_al (Below.refl _ w4) (.cells (mvals 0 0 (fun _ => 0)).toArray 28)) (.cells (mvals 0 0 (fun _ => 0)).toArray 28)) (Nat.le_refl _) (mvals n m zx).toArray) (show w4.heap.size ≤ w4.heap.size + 1 by omega) (mvals m q zy).toArray
  obtain ⟨w5, hw5⟩ : ∃ w5, w5 = (((w4.alloc (.cells (mvals 0 0 (fun _ => 0)).toArray 28)).alloc (.cells (mvals 0 0 (fun _ => 0)).toArray 28)).setRow w4.heap.size (mvals n m zx).toArray).setRow (w4.heap.size + 1) (mvals m q zy).toArray := ⟨_, rfl⟩
  rw [← hw5] at x5 y6 k5
  have HW5 := Hid.mkV hw5
  have K5 := below_tr K4 k5
  clear hw5 k5 K4
  go_wp2_with (first
    | (refine wpList_loadM (by rfl) _ (by rfl) _ _ _ _ (by rfl) (by with_reducible exact x5) ?_)
    | (rw [zeroM]; refine wpList_storeM rfl _ _ (by rfl) _ _ _ _ _ _ _ (by rfl) (by rfl) (by with_reducible exact r5) ?_)
    | (refine wpList_storeM rfl _ _ (by rfl) _ _ _ _ _ _ _ (by rfl) (by rfl) (by with_reducible exact r6) ?_; rw [← HW5.out])
    | fail)
  refine (T1.out _).mono ?_
  rintro e wq1 ⟨rfl, kq1⟩
  have KK1 := below_tr K5 kq1
  have x_1 := x5.keep kq1
  have y_1 := y6.keep kq1
  clear K5 x5 y6
  go_wp2_with (first
    | (rw [zeroM]; refine wpList_storeNew rfl _ _ (by rfl) _ _ _ _ (by rfl) (by rfl) ?_; intro ws2 ns2 ks2; have KK2 := below_tr KK1 ks2; have x_2 := x_1.keep ks2; have y_2 := y_1.keep ks2; clear KK1 x_1 y_1)
    | (refine wpList_loadM (by rfl) _ (by rfl) _ _ _ _ (by rfl) (by with_reducible exact y_2) ?_)
    | fail)
  refine (T2.out _).mono ?_
  rintro e wq3 ⟨rfl, kq3⟩
  have KK3 := below_tr KK2 kq3
  have x_3 := x_2.keep kq3
  have y_3 := y_2.keep kq3
  have t_3 := ns2.keep kq3
  clear KK2 x_2 y_2 ns2
  go_wp2_with (first
    | (rw [zeroM]; refine wpList_storeNew rfl _ _ (by rfl) _ _ _ _ (by rfl) (by rfl) ?_; intro ws4 ns4 ks4; have KK4 := below_tr KK3 ks4; have x_4 := x_3.keep ks4; have y_4 := y_3.keep ks4; have t_4 := t_3.keep ks4; clear KK3 x_3 y_3 t_3)
    | (refine wpList_loadM (by rfl) _ (by rfl) _ _ _ _ (by rfl) (by with_reducible exact t_4) ?_)
    | fail)
  refine (T3.out _).mono ?_
  rintro e wq5 ⟨rfl, kq5⟩
  have KK5 := below_tr KK4 kq5
  have x_5 := x_4.keep kq5
  have y_5 := y_4.keep kq5
  have t_5 := t_4.keep kq5
  have u_5 := ns4.keep kq5
  clear KK4 x_4 y_4 t_4 ns4
  go_wp2_with (first
    | (rw [zeroM]; refine wpList_storeNew rfl _ _ (by rfl) _ _ _ _ (by rfl) (by rfl) ?_; intro ws6 ns6 ks6; have KK6 := below_tr KK5 ks6; have x_6 := x_5.keep ks6; have y_6 := y_5.keep ks6; have t_6 := t_5.keep ks6; have u_6 := u_5.keep ks6; clear KK5 x_5 y_5 t_5 u_5)
    | (refine wpList_loadM (by rfl) _ (by rfl) _ _ _ _ (by rfl) (by with_reducible exact x_6) ?_)
    | (refine wpList_loadM (by rfl) _ (by rfl) _ _ _ _ (by rfl) (by with_reducible exact y_6) ?_)
    | fail)
  refine (M1.out _).mono ?_
  rintro e wq7 ⟨rfl, kq7⟩
  have KK7 := below_tr KK6 kq7
  have x_7 := x_6.keep kq7
  have y_7 := y_6.keep kq7
  have t_7 := t_6.keep kq7
  have u_7 := u_6.keep kq7
  have b_7 := ns6.keep kq7
  clear KK6 x_6 y_6 t_6 u_6 ns6
  go_wp2_with (first
    | (rw [zeroM]; refine wpList_storeNew rfl _ _ (by rfl) _ _ _ _ (by rfl) (by rfl) ?_; intro ws8 ns8 ks8; have KK8 := below_tr KK7 ks8; have x_8 := x_7.keep ks8; have y_8 := y_7.keep ks8; have t_8 := t_7.keep ks8; have u_8 := u_7.keep ks8; have b_8 := b_7.keep ks8; clear KK7 x_7 y_7 t_7 u_7 b_7)
    | (refine wpList_loadM (by rfl) _ (by rfl) _ _ _ _ (by rfl) (by with_reducible exact u_8) ?_)
    | (refine wpList_loadM (by rfl) _ (by rfl) _ _ _ _ (by rfl) (by with_reducible exact t_8) ?_)
    | fail)
  refine (M2.out _).mono ?_
  rintro e wq9 ⟨rfl, kq9⟩
  have KK9 := below_tr KK8 kq9
  have x_9 := x_8.keep kq9
  have y_9 := y_8.keep kq9
  have t_9 := t_8.keep kq9
  have u_9 := u_8.keep kq9
  have b_9 := b_8.keep kq9
  have p_9 := ns8.keep kq9
  clear KK8 x_8 y_8 t_8 u_8 b_8 ns8
  go_wp2_with (first
    | (rw [zeroM]; refine wpList_storeNew rfl _ _ (by rfl) _ _ _ _ (by rfl) (by rfl) ?_; intro ws10 ns10 ks10; have KK10 := below_tr KK9 ks10; have x_10 := x_9.keep ks10; have y_10 := y_9.keep ks10; have t_10 := t_9.keep ks10; have u_10 := u_9.keep ks10; have b_10 := b_9.keep ks10; have p_10 := p_9.keep ks10; clear KK9 x_9 y_9 t_9 u_9 b_9 p_9)
    | (refine wpList_loadM (by rfl) _ (by rfl) _ _ _ _ (by rfl) (by with_reducible exact p_10) ?_)
    | fail)
  refine (T4.out _).mono ?_
  rintro e wq11 ⟨rfl, kq11⟩
  have KK11 := below_tr KK10 kq11
  have x_11 := x_10.keep kq11
  have y_11 := y_10.keep kq11
  have t_11 := t_10.keep kq11
  have u_11 := u_10.keep kq11
  have b_11 := b_10.keep kq11
  have p_11 := p_10.keep kq11
  have r_11 := ns10.keep kq11
  clear KK10 x_10 y_10 t_10 u_10 b_10 p_10 ns10
  go_wp2_with (first
    | (rw [zeroM]; refine wpList_storeNew rfl _ _ (by rfl) _ _ _ _ (by rfl) (by rfl) ?_; intro ws12 ns12 ks12; have KK12 := below_tr KK11 ks12; have x_12 := x_11.keep ks12; have y_12 := y_11.keep ks12; have t_12 := t_11.keep ks12; have u_12 := u_11.keep ks12; have b_12 := b_11.keep ks12; have p_12 := p_11.keep ks12; have r_12 := r_11.keep ks12; clear KK11 x_11 y_11 t_11 u_11 b_11 p_11 r_11)
    | fail)
  refine (E1.out _).mono ?_
  rintro e wq13 ⟨rfl, kq13⟩
  have KK13 := below_tr KK12 kq13
  have x_13 := x_12.keep kq13
  have y_13 := y_12.keep kq13
  have t_13 := t_12.keep kq13
  have u_13 := u_12.keep kq13
  have b_13 := b_12.keep kq13
  have p_13 := p_12.keep kq13
  have r_13 := r_12.keep kq13
  have s_13 := ns12.keep kq13
  clear KK12 x_12 y_12 t_12 u_12 b_12 p_12 r_12 ns12
  go_wp2_with (first
    | (rw [zeroM]; refine wpList_storeNew rfl _ _ (by rfl) _ _ _ _ (by rfl) (by rfl) ?_; intro ws14 ns14 ks14; have KK14 := below_tr KK13 ks14; have x_14 := x_13.keep ks14; have y_14 := y_13.keep ks14; have t_14 := t_13.keep ks14; have u_14 := u_13.keep ks14; have b_14 := b_13.keep ks14; have p_14 := p_13.keep ks14; have r_14 := r_13.keep ks14; have s_14 := s_13.keep ks14; clear KK13 x_13 y_13 t_13 u_13 b_13 p_13 r_13 s_13)
    | (refine wpList_loadM (by rfl) _ (by rfl) _ _ _ _ (by rfl) (by with_reducible exact x_14) ?_)
    | (refine wpList_loadM (by rfl) _ (by rfl) _ _ _ _ (by rfl) (by with_reducible exact ns14) ?_)
    | fail)
  refine (M3.out _).mono ?_
  rintro e wq15 ⟨rfl, kq15⟩
  have KK15 := below_tr KK14 kq15
  have x_15 := x_14.keep kq15
  have y_15 := y_14.keep kq15
  have t_15 := t_14.keep kq15
  have u_15 := u_14.keep kq15
  have b_15 := b_14.keep kq15
  have p_15 := p_14.keep kq15
  have r_15 := r_14.keep kq15
  have s_15 := s_14.keep kq15
  have o_15 := ns14.keep kq15
  clear KK14 x_14 y_14 t_14 u_14 b_14 p_14 r_14 s_14 ns14
  have lA : w.cell? x = some (.slice (A 0) m (C 0)) := c0
  cases tq
  · have SQ2 := Hid.mkV (SQ.out rfl)
    try rw [SQ2.out]
    by_cases hsq : n = m
    · have es : (((n : Nat) : Int) != ((m : Nat) : Int)) = false := by rw [hsq]; simp
      have cA := c0
      have W1 := Hid.mkV (V1.out hsq)
      have W2 := Hid.mkV (V2.out hsq)
      have W3 := Hid.mkV (V3.out hsq)
      clear hsq V1 V2 V3
      go_wp2_with (first
    | (rw [zeroM]; refine wpList_storeNew rfl _ _ (by rfl) _ _ _ _ (by rfl) (by rfl) ?_; intro ws16 ns16 ks16; have KK16 := below_tr KK15 ks16; have x_16 := x_15.keep ks16; have y_16 := y_15.keep ks16; have t_16 := t_15.keep ks16; have u_16 := u_15.keep ks16; have b_16 := b_15.keep ks16; have p_16 := p_15.keep ks16; have r_16 := r_15.keep ks16; have s_16 := s_15.keep ks16; have o_16 := o_15.keep ks16; clear KK15 x_15 y_15 t_15 u_15 b_15 p_15 r_15 s_15 o_15; have cX := keep_cell KK16 c0)
        | (refine wpList_loadM (by rfl) _ (by rfl) _ _ _ _ (by rfl) (by with_reducible exact b_16) ?_)
        | (refine wpList_loadM (by rfl) _ (by rfl) _ _ _ _ (by rfl) (by with_reducible exact x_16) ?_)
        | (refine wpList_loadM (by rfl) _ (by rfl) _ _ _ _ (by rfl) (by with_reducible exact s_16) ?_)
        | (refine wpList_loadM (by rfl) _ (by rfl) _ _ _ _ (by rfl) (by with_reducible exact r_16) ?_)
        | (refine wpList_loadM (by rfl) _ (by rfl) _ _ _ _ (by rfl) (by with_reducible exact ns16) ?_)
        | (refine wpList_neM (by rfl) _ _ _ (by rfl) _ _ _ (by rfl) (by rfl) ?_)
        | fail)
      refine (W1.out _).mono ?_
      rintro e wq17 ⟨rfl, kq17⟩
      have KK17 := below_tr KK16 kq17
      have x_17 := x_16.keep kq17
      have y_17 := y_16.keep kq17
      have t_17 := t_16.keep kq17
      have u_17 := u_16.keep kq17
      have b_17 := b_16.keep kq17
      have p_17 := p_16.keep kq17
      have r_17 := r_16.keep kq17
      have s_17 := s_16.keep kq17
      have o_17 := o_16.keep kq17
      have i_17 := ns16.keep kq17
      clear KK16 x_16 y_16 t_16 u_16 b_16 p_16 r_16 s_16 o_16 ns16
      go_wp2_with (first
        | (rw [zeroM]; refine wpList_storeNew rfl _ _ (by rfl) _ _ _ _ (by rfl) (by rfl) ?_; intro ws18 ns18 ks18; have KK18 := below_tr KK17 ks18; have x_18 := x_17.keep ks18; have y_18 := y_17.keep ks18; have t_18 := t_17.keep ks18; have u_18 := u_17.keep ks18; have b_18 := b_17.keep ks18; have p_18 := p_17.keep ks18; have r_18 := r_17.keep ks18; have s_18 := s_17.keep ks18; have o_18 := o_17.keep ks18; have i_18 := i_17.keep ks18; clear KK17 x_17 y_17 t_17 u_17 b_17 p_17 r_17 s_17 o_17 i_17)
        | (refine wpList_loadM (by rfl) _ (by rfl) _ _ _ _ (by rfl) (by with_reducible exact ns18) ?_)
        | fail)
      refine (W2.out _).mono ?_
      rintro e wq19 ⟨rfl, kq19⟩
      have KK19 := below_tr KK18 kq19
      have x_19 := x_18.keep kq19
      have y_19 := y_18.keep kq19
      have t_19 := t_18.keep kq19
      have u_19 := u_18.keep kq19
      have b_19 := b_18.keep kq19
      have p_19 := p_18.keep kq19
      have r_19 := r_18.keep kq19
      have s_19 := s_18.keep kq19
      have o_19 := o_18.keep kq19
      have i_19 := i_18.keep kq19
      have v_19 := ns18.keep kq19
      clear KK18 x_18 y_18 t_18 u_18 b_18 p_18 r_18 s_18 o_18 i_18 ns18
      go_wp2_with (first
        | (rw [zeroM]; refine wpList_storeNew rfl _ _ (by rfl) _ _ _ _ (by rfl) (by rfl) ?_; intro ws20 ns20 ks20; have KK20 := below_tr KK19 ks20; have x_20 := x_19.keep ks20; have y_20 := y_19.keep ks20; have t_20 := t_19.keep ks20; have u_20 := u_19.keep ks20; have b_20 := b_19.keep ks20; have p_20 := p_19.keep ks20; have r_20 := r_19.keep ks20; have s_20 := s_19.keep ks20; have o_20 := o_19.keep ks20; have i_20 := i_19.keep ks20; have v_20 := v_19.keep ks20; clear KK19 x_19 y_19 t_19 u_19 b_19 p_19 r_19 s_19 o_19 i_19 v_19)
        | (refine wpList_loadM (by rfl) _ (by rfl) _ _ _ _ (by rfl) (by with_reducible exact v_20) ?_)
        | fail)
      refine (W3.out _).mono ?_
      rintro e wq21 ⟨rfl, kq21⟩
      have KK21 := below_tr KK20 kq21
      have x_21 := x_20.keep kq21
      have y_21 := y_20.keep kq21
      have t_21 := t_20.keep kq21
      have u_21 := u_20.keep kq21
      have b_21 := b_20.keep kq21
      have p_21 := p_20.keep kq21
      have r_21 := r_20.keep kq21
      have s_21 := s_20.keep kq21
      have o_21 := o_20.keep kq21
      have i_21 := i_20.keep kq21
      have v_21 := v_20.keep kq21
      have z_21 := ns20.keep kq21
      clear KK20 x_20 y_20 t_20 u_20 b_20 p_20 r_20 s_20 o_20 i_20 v_20 ns20
      go_wp2_with (first
        | (rw [zeroM]; refine wpList_storeNew rfl _ _ (by rfl) _ _ _ _ (by rfl) (by rfl) ?_; intro ws22 ns22 ks22; have KK22 := below_tr KK21 ks22; have x_22 := x_21.keep ks22; have y_22 := y_21.keep ks22; have t_22 := t_21.keep ks22; have u_22 := u_21.keep ks22; have b_22 := b_21.keep ks22; have p_22 := p_21.keep ks22; have r_22 := r_21.keep ks22; have s_22 := s_21.keep ks22; have o_22 := o_21.keep ks22; have i_22 := i_21.keep ks22; have v_22 := v_21.keep ks22; have z_22 := z_21.keep ks22; clear KK21 x_21 y_21 t_21 u_21 b_21 p_21 r_21 s_21 o_21 i_21 v_21 z_21)
        | (refine wpList_loadM (by rfl) _ (by rfl) _ _ _ _ (by rfl) (by with_reducible exact z_22) ?_)
        | (refine wpList_loadM (by rfl) _ (by rfl) _ _ _ _ (by rfl) (by with_reducible exact v_22) ?_)
        | (refine wpList_loadM (by rfl) _ (by rfl) _ _ _ _ (by rfl) (by with_reducible exact ns22) ?_)
        | (refine wpList_eqM (by rfl) _ _ _ (by rfl) _ _ _ (by rfl) (by rfl) ?_)
        | fail)
      refine (msure_any _).mono ?_
      rintro e wz ⟨rfl, kz⟩
      go_wp2
      go_ret
      exact ⟨rfl, below_tr KK22 kz⟩
    · have es : (((n : Nat) : Int) != ((m : Nat) : Int)) = true := by rw [bne_iff_ne]; omega
      have cA := c0
      clear hsq
      go_wp2_with (first
    | (rw [zeroM]; refine wpList_storeNew rfl _ _ (by rfl) _ _ _ _ (by rfl) (by rfl) ?_; intro ws16 ns16 ks16; have KK16 := below_tr KK15 ks16; have x_16 := x_15.keep ks16; have y_16 := y_15.keep ks16; have t_16 := t_15.keep ks16; have u_16 := u_15.keep ks16; have b_16 := b_15.keep ks16; have p_16 := p_15.keep ks16; have r_16 := r_15.keep ks16; have s_16 := s_15.keep ks16; have o_16 := o_15.keep ks16; clear KK15 x_15 y_15 t_15 u_15 b_15 p_15 r_15 s_15 o_15; have cX := keep_cell KK16 c0)
        | (refine wpList_loadM (by rfl) _ (by rfl) _ _ _ _ (by rfl) (by with_reducible exact b_16) ?_)
        | (refine wpList_loadM (by rfl) _ (by rfl) _ _ _ _ (by rfl) (by with_reducible exact x_16) ?_)
        | (refine wpList_loadM (by rfl) _ (by rfl) _ _ _ _ (by rfl) (by with_reducible exact s_16) ?_)
        | (refine wpList_loadM (by rfl) _ (by rfl) _ _ _ _ (by rfl) (by with_reducible exact r_16) ?_)
        | (refine wpList_loadM (by rfl) _ (by rfl) _ _ _ _ (by rfl) (by with_reducible exact ns16) ?_)
        | (refine wpList_neM (by rfl) _ _ _ (by rfl) _ _ _ (by rfl) (by rfl) ?_)
        | fail)
      refine (msure_any _).mono ?_
      rintro e wz ⟨rfl, kz⟩
      go_wp2
      go_ret
      exact ⟨rfl, below_tr KK16 kz⟩
  · clear SQ
    by_cases hsq : n = m
    · have es : (((n : Nat) : Int) != ((m : Nat) : Int)) = false := by rw [hsq]; simp
      have cA := c0
      have W1 := Hid.mkV (V1.out hsq)
      have W2 := Hid.mkV (V2.out hsq)
      have W3 := Hid.mkV (V3.out hsq)
      clear hsq V1 V2 V3
      go_wp2_with (first
    | (rw [zeroM]; refine wpList_storeNew rfl _ _ (by rfl) _ _ _ _ (by rfl) (by rfl) ?_; intro ws16 ns16 ks16; have KK16 := below_tr KK15 ks16; have x_16 := x_15.keep ks16; have y_16 := y_15.keep ks16; have t_16 := t_15.keep ks16; have u_16 := u_15.keep ks16; have b_16 := b_15.keep ks16; have p_16 := p_15.keep ks16; have r_16 := r_15.keep ks16; have s_16 := s_15.keep ks16; have o_16 := o_15.keep ks16; clear KK15 x_15 y_15 t_15 u_15 b_15 p_15 r_15 s_15 o_15; have cX := keep_cell KK16 c0)
        | (refine wpList_loadM (by rfl) _ (by rfl) _ _ _ _ (by rfl) (by with_reducible exact b_16) ?_)
        | (refine wpList_loadM (by rfl) _ (by rfl) _ _ _ _ (by rfl) (by with_reducible exact x_16) ?_)
        | (refine wpList_loadM (by rfl) _ (by rfl) _ _ _ _ (by rfl) (by with_reducible exact s_16) ?_)
        | (refine wpList_loadM (by rfl) _ (by rfl) _ _ _ _ (by rfl) (by with_reducible exact r_16) ?_)
        | (refine wpList_loadM (by rfl) _ (by rfl) _ _ _ _ (by rfl) (by with_reducible exact ns16) ?_)
        | (refine wpList_neM (by rfl) _ _ _ (by rfl) _ _ _ (by rfl) (by rfl) ?_)
        | fail)
      refine (W1.out _).mono ?_
      rintro e wq17 ⟨rfl, kq17⟩
      have KK17 := below_tr KK16 kq17
      have x_17 := x_16.keep kq17
      have y_17 := y_16.keep kq17
      have t_17 := t_16.keep kq17
      have u_17 := u_16.keep kq17
      have b_17 := b_16.keep kq17
      have p_17 := p_16.keep kq17
      have r_17 := r_16.keep kq17
      have s_17 := s_16.keep kq17
      have o_17 := o_16.keep kq17
      have i_17 := ns16.keep kq17
      clear KK16 x_16 y_16 t_16 u_16 b_16 p_16 r_16 s_16 o_16 ns16
      go_wp2_with (first
        | (rw [zeroM]; refine wpList_storeNew rfl _ _ (by rfl) _ _ _ _ (by rfl) (by rfl) ?_; intro ws18 ns18 ks18; have KK18 := below_tr KK17 ks18; have x_18 := x_17.keep ks18; have y_18 := y_17.keep ks18; have t_18 := t_17.keep ks18; have u_18 := u_17.keep ks18; have b_18 := b_17.keep ks18; have p_18 := p_17.keep ks18; have r_18 := r_17.keep ks18; have s_18 := s_17.keep ks18; have o_18 := o_17.keep ks18; have i_18 := i_17.keep ks18; clear KK17 x_17 y_17 t_17 u_17 b_17 p_17 r_17 s_17 o_17 i_17)
        | (refine wpList_loadM (by rfl) _ (by rfl) _ _ _ _ (by rfl) (by with_reducible exact ns18) ?_)
        | fail)
      refine (W2.out _).mono ?_
      rintro e wq19 ⟨rfl, kq19⟩
      have KK19 := below_tr KK18 kq19
      have x_19 := x_18.keep kq19
      have y_19 := y_18.keep kq19
      have t_19 := t_18.keep kq19
      have u_19 := u_18.keep kq19
      have b_19 := b_18.keep kq19
      have p_19 := p_18.keep kq19
      have r_19 := r_18.keep kq19
      have s_19 := s_18.keep kq19
      have o_19 := o_18.keep kq19
      have i_19 := i_18.keep kq19
      have v_19 := ns18.keep kq19
      clear KK18 x_18 y_18 t_18 u_18 b_18 p_18 r_18 s_18 o_18 i_18 ns18
      go_wp2_with (first
        | (rw [zeroM]; refine wpList_storeNew rfl _ _ (by rfl) _ _ _ _ (by rfl) (by rfl) ?_; intro ws20 ns20 ks20; have KK20 := below_tr KK19 ks20; have x_20 := x_19.keep ks20; have y_20 := y_19.keep ks20; have t_20 := t_19.keep ks20; have u_20 := u_19.keep ks20; have b_20 := b_19.keep ks20; have p_20 := p_19.keep ks20; have r_20 := r_19.keep ks20; have s_20 := s_19.keep ks20; have o_20 := o_19.keep ks20; have i_20 := i_19.keep ks20; have v_20 := v_19.keep ks20; clear KK19 x_19 y_19 t_19 u_19 b_19 p_19 r_19 s_19 o_19 i_19 v_19)
        | (refine wpList_loadM (by rfl) _ (by rfl) _ _ _ _ (by rfl) (by with_reducible exact v_20) ?_)
        | fail)
      refine (W3.out _).mono ?_
      rintro e wq21 ⟨rfl, kq21⟩
      have KK21 := below_tr KK20 kq21
      have x_21 := x_20.keep kq21
      have y_21 := y_20.keep kq21
      have t_21 := t_20.keep kq21
      have u_21 := u_20.keep kq21
      have b_21 := b_20.keep kq21
      have p_21 := p_20.keep kq21
      have r_21 := r_20.keep kq21
      have s_21 := s_20.keep kq21
      have o_21 := o_20.keep kq21
      have i_21 := i_20.keep kq21
      have v_21 := v_20.keep kq21
      have z_21 := ns20.keep kq21
      clear KK20 x_20 y_20 t_20 u_20 b_20 p_20 r_20 s_20 o_20 i_20 v_20 ns20
      go_wp2_with (first
        | (rw [zeroM]; refine wpList_storeNew rfl _ _ (by rfl) _ _ _ _ (by rfl) (by rfl) ?_; intro ws22 ns22 ks22; have KK22 := below_tr KK21 ks22; have x_22 := x_21.keep ks22; have y_22 := y_21.keep ks22; have t_22 := t_21.keep ks22; have u_22 := u_21.keep ks22; have b_22 := b_21.keep ks22; have p_22 := p_21.keep ks22; have r_22 := r_21.keep ks22; have s_22 := s_21.keep ks22; have o_22 := o_21.keep ks22; have i_22 := i_21.keep ks22; have v_22 := v_21.keep ks22; have z_22 := z_21.keep ks22; clear KK21 x_21 y_21 t_21 u_21 b_21 p_21 r_21 s_21 o_21 i_21 v_21 z_21)
        | (refine wpList_loadM (by rfl) _ (by rfl) _ _ _ _ (by rfl) (by with_reducible exact z_22) ?_)
        | (refine wpList_loadM (by rfl) _ (by rfl) _ _ _ _ (by rfl) (by with_reducible exact v_22) ?_)
        | (refine wpList_loadM (by rfl) _ (by rfl) _ _ _ _ (by rfl) (by with_reducible exact ns22) ?_)
        | (refine wpList_eqM (by rfl) _ _ _ (by rfl) _ _ _ (by rfl) (by rfl) ?_)
        | fail)
      refine (msure_any _).mono ?_
      rintro e wz ⟨rfl, kz⟩
      go_wp2
      go_ret
      exact ⟨rfl, below_tr KK22 kz⟩
    · have es : (((n : Nat) : Int) != ((m : Nat) : Int)) = true := by rw [bne_iff_ne]; omega
      have cA := c0
      clear hsq
      go_wp2_with (first
    | (rw [zeroM]; refine wpList_storeNew rfl _ _ (by rfl) _ _ _ _ (by rfl) (by rfl) ?_; intro ws16 ns16 ks16; have KK16 := below_tr KK15 ks16; have x_16 := x_15.keep ks16; have y_16 := y_15.keep ks16; have t_16 := t_15.keep ks16; have u_16 := u_15.keep ks16; have b_16 := b_15.keep ks16; have p_16 := p_15.keep ks16; have r_16 := r_15.keep ks16; have s_16 := s_15.keep ks16; have o_16 := o_15.keep ks16; clear KK15 x_15 y_15 t_15 u_15 b_15 p_15 r_15 s_15 o_15; have cX := keep_cell KK16 c0)
        | (refine wpList_loadM (by rfl) _ (by rfl) _ _ _ _ (by rfl) (by with_reducible exact b_16) ?_)
        | (refine wpList_loadM (by rfl) _ (by rfl) _ _ _ _ (by rfl) (by with_reducible exact x_16) ?_)
        | (refine wpList_loadM (by rfl) _ (by rfl) _ _ _ _ (by rfl) (by with_reducible exact s_16) ?_)
        | (refine wpList_loadM (by rfl) _ (by rfl) _ _ _ _ (by rfl) (by with_reducible exact r_16) ?_)
        | (refine wpList_loadM (by rfl) _ (by rfl) _ _ _ _ (by rfl) (by with_reducible exact ns16) ?_)
        | (refine wpList_neM (by rfl) _ _ _ (by rfl) _ _ _ (by rfl) (by rfl) ?_)
        | fail)
      refine (msure_any _).mono ?_
      rintro e wz ⟨rfl, kz⟩
      go_wp2
      go_ret
      exact ⟨rfl, below_tr KK16 kz⟩

theorem mlaws_walk : FMatLaws.Walk := by
  intro a0 len0 cap0 A L C Z a1 len1 cap1 A1 L1 C1 Z1 w h0 h1
  obtain ⟨s0, q0⟩ := isrows5 h0
  obtain ⟨s1, q1⟩ := isrows5 h1
  rcases rows_cases s0 q0 with ⟨m, F, g1, g2, g3, g4, gG, gB, _, _⟩ | ⟨b1, _⟩
  · rcases rows_cases s1 q1 with ⟨q, G, k1, k2, k3, k4, kG, kB, _, _⟩ | ⟨b2, _⟩
    · by_cases e : m = len1
      · subst e
        exact mlaws_d a0 a1 len0 m q cap0 cap1 F G w g1 g2 g3 g4 k3 k4 gG kG gB kB
      · exact mlaws_c a0 a1 len0 m q len1 cap0 cap1 F G w g1 g2 g3 g4 k1 k2 k3 k4 gG kG e
    · exact mlaws_b a0 a1 len0 len1 cap0 cap1 w (fun W b => by
        obtain ⟨A', C', hA, _⟩ := gG
        exact rmay_yes len0 m cap0 a0 A' C' W (hA.keep b) g1 g2 g3 g4) b2
  · exact mlaws_a a0 a1 len0 len1 cap0 cap1 w b1

/-- The law MatLaws, of any input. -/
theorem matlaws_holds : Rows.MatLawsSaid := FMatLaws.row mlaws_walk

end Go.Proofs.Ytgmagehgnjopcaa
