/-
  How things move (model): steps one behind the other, Check, Name, and what a turn is.
-/
import Derived.Test.YtnjiilknnlcblaaDoorMoMath
import Derived.Test.YtnjiilknnlcblaaDoorM2
import Derived.Test.YtnjiilknnlcblaaDoorM10
import Derived.Deep.RegionWith
import Derived.Deep.RegionHeld3
set_option linter.unusedSimpArgs false
set_option linter.unusedVariables false
namespace Go.Proofs.YtnjiilknnlcblaaDoor
open Go.RowKit Vc St Qn Dt Tg Ld Mo
attribute [local go_sem ↓] Go.wp_at_zero Go.wp_at_succ

namespace Mo
theorem isMd : Is 31 3 := ⟨by kernel_rfl, ⟨_, Tryd.underlying31, rfl⟩⟩
theorem isAc : Is 88 4 := ⟨by kernel_rfl, ⟨_, Tryd.underlying88, rfl⟩⟩
/-- Nothing was too great yet. -/
def Sure (w : World) (g : Nat) : Prop := CRow w g 47 [.bool false]
theorem Sure.keep {w w' : World} {g : Nat} (h : Sure w g) (b : Below w.heap.size w w') : Sure w' g := CRow.keep h b
/-- What is stored was there. -/
theorem below_same {w : World} {g : Nat} (h : Sure w g) : Below w.heap.size w (w.setCell ⟨g, 0, none⟩ (.bool false)) := by
  refine ⟨rfl, rfl, rfl, by simp, fun k hk => ?_⟩
  by_cases e : k = g
  · subst e
    have h1 : CRow (w.setCell ⟨k, 0, none⟩ (.bool false)) k 47 [.bool false] := CRow.set h 0 (.bool false)
    exact h1.trans h.symm
  · exact heap_setCell_other w _ k _ e
end Mo

set_option maxHeartbeats 400000 in
theorem bounded_no (g : Nat) (n : Int) (w : World) (h : Sure w g) :
    Calls Tryd.prog 33 #[.pointer (some ⟨g, 0, none⟩), .int .i64 n, .bool false] w fun e w' => e = .returned (.int .i64 n) ∧ Below w.heap.size w w' := by
  have c0 : w.cell? ⟨g, 0, none⟩ = some (.bool false) := CRow.cell h (k := 0) rfl rfl
  have f0 := CRow.free h 0
  have B := below_same h
  clear h
  go_enter Tryd.func33, Tryd.ntmps33
  go_wp2
  go_ret
  exact ⟨rfl, B⟩

set_option maxHeartbeats 400000 in
theorem number_no (g : Nat) (n : Int) (v : Value) (w : World) (h : Sure w g) :
    Calls Tryd.prog 48 #[.pointer (some ⟨g, 0, none⟩), .int .i64 n, .bool false, v] w fun e w' => e = .returned (.int .i64 n) ∧ Below w.heap.size w w' := by
  have HB := hide (bounded_no g n w h)
  clear h
  go_enter Tryd.func48, Tryd.ntmps48
  go_wp2_with fail
  refine HB.out.mono ?_
  rintro e w1 ⟨rfl, k1⟩
  go_wp2
  go_ret
  exact ⟨rfl, k1⟩

set_option maxHeartbeats 400000 in
theorem product_no (g : Nat) (a b : Int) (w : World) (h : Sure w g) (ha0 : -9223372036854775808 ≤ a) (ha1 : a ≤ 9223372036854775807) (hb0 : -9223372036854775808 ≤ b) (hb1 : b ≤ 9223372036854775807) (ho : mlO a b = false) :
    Calls Tryd.prog 32 #[.pointer (some ⟨g, 0, none⟩), .int .i64 a, .int .i64 b] w fun e w' => e = .returned (.int .i64 (ml a b)) ∧ Below w.heap.size w w' := by
  have HC := hide (qmul_any a b 20 w ha0 ha1 hb0 hb1 (by omega))
  have e1 : clamp (rne (a * b) (2 ^ 20)) = ml a b := rfl
  have e2 : great (rne (a * b) (2 ^ 20)) = mlO a b := rfl
  rw [e1, e2, ho] at HC
  have HN := hide (fun W (k : Below w.heap.size w W) => number_no g (ml a b) .nilIface W (h.keep k))
  clear e1 e2 ho h
  generalize ml a b = r at *
  go_enter Tryd.func32, Tryd.ntmps32
  go_wp2_with fail
  refine HC.out.mono ?_
  rintro e w1 ⟨rfl, k1⟩
  go_wp2_with fail
  refine (HN.out _ k1).mono ?_
  rintro e w2 ⟨rfl, k2⟩
  go_wp2
  go_ret
  exact ⟨rfl, below_tr k1 k2⟩

set_option maxHeartbeats 400000 in
theorem half_no (g : Nat) (d : Int) (w : World) (h : Sure w g) (t : MayT d) :
    Calls Tryd.prog 31 #[.pointer (some ⟨g, 0, none⟩), .int .i64 d] w fun e w' => e = .returned (.int .i64 (hf d)) ∧ Below w.heap.size w w' := by
  have h1 := sq_in t
  have h2 := hf_in t
  obtain ⟨t0, t1⟩ := t
  have H1 := hide (product_no g d d w h (by omega) (by omega) (by omega) (by omega) h1.1)
  have H2 := hide (fun W (k : Below w.heap.size w W) => product_no g (ml d d) 524288 W (h.keep k) (by omega) (by omega) (by omega) (by omega) h2.1)
  have e1 : ml (ml d d) 524288 = hf d := rfl
  rw [e1] at H2
  clear e1 h1 h2 h
  generalize ml d d = q at *
  generalize hf d = r at *
  go_enter Tryd.func31, Tryd.ntmps31
  go_wp2_with fail
  refine H1.out.mono ?_
  rintro e w1 ⟨rfl, k1⟩
  go_wp2_with fail
  refine (H2.out _ k1).mono ?_
  rintro e w2 ⟨rfl, k2⟩
  go_wp2
  go_ret
  exact ⟨rfl, below_tr k1 k2⟩

namespace Mo
/-- A kind that turns. -/
def Turns (K : Int) : Prop := K = 2 ∨ K = 3
/-- May a model be? -/
def MayM (K R N : Int) : Prop := MayN N ∧ ((K = 0 ∨ K = 1) ∧ R = 0 ∨ Turns K ∧ MayR R)
/-- A kind's name. -/
def nm (K : Int) : Value := .string (if K = 0 then { data := #[115, 116, 105, 108, 108] } else if K = 1 then { data := #[112, 117, 115, 104, 101, 100] } else if K = 2 then { data := #[108, 101, 102, 116] } else if K = 3 then { data := #[114, 105, 103, 104, 116] } else { data := #[] })
end Mo

set_option maxHeartbeats 400000 in
theorem name_any (K : Int) (w : World) :
    Calls Tryd.prog 19 #[.int .i64 K] w fun e w' => e = .returned (nm K) ∧ Below w.heap.size w w' := by
  by_cases h0 : K = 0
  · subst h0
    go_enter Tryd.func19, Tryd.ntmps19
    go_wp2
    go_ret
    exact ⟨rfl, Below.refl _ _⟩
  by_cases h1 : K = 1
  · subst h1
    go_enter Tryd.func19, Tryd.ntmps19
    go_wp2
    go_ret
    exact ⟨rfl, Below.refl _ _⟩
  by_cases h2 : K = 2
  · subst h2
    go_enter Tryd.func19, Tryd.ntmps19
    go_wp2
    go_ret
    exact ⟨rfl, Below.refl _ _⟩
  by_cases h3 : K = 3
  · subst h3
    go_enter Tryd.func19, Tryd.ntmps19
    go_wp2
    go_ret
    exact ⟨rfl, Below.refl _ _⟩
  have e : nm K = .string { data := #[] } := by unfold nm; rw [if_neg h0, if_neg h1, if_neg h2, if_neg h3]
  rw [e]
  clear e
  go_enter Tryd.func19, Tryd.ntmps19
  go_wp2
  go_ret
  exact ⟨rfl, Below.refl _ _⟩

set_option maxHeartbeats 400000 in
theorem turns_yes (K : Int) (u v : Value) (w : World) (h : Turns K) :
    Calls Tryd.prog 47 #[.agg #[.int .i64 K, u, v]] w fun e w' => e = .returned (.bool true) ∧ Below w.heap.size w w' := by
  rcases h with rfl | rfl
  · go_enter Tryd.func47, Tryd.ntmps47
    go_wp2
    go_ret
    exact ⟨rfl, below_al (Below.refl _ _) _⟩
  · go_enter Tryd.func47, Tryd.ntmps47
    go_wp2
    go_ret
    exact ⟨rfl, below_al (Below.refl _ _) _⟩
set_option maxHeartbeats 400000 in
theorem turns_no (K : Int) (u v : Value) (w : World) (h : ¬ Turns K) :
    Calls Tryd.prog 47 #[.agg #[.int .i64 K, u, v]] w fun e w' => e = .returned (.bool false) ∧ Below w.heap.size w w' := by
  have h2 : (K == 2) = false := beq_eq_false_iff_ne.2 fun e => h (.inl e)
  have h3 : (K == 3) = false := beq_eq_false_iff_ne.2 fun e => h (.inr e)
  clear h
  go_enter Tryd.func47, Tryd.ntmps47
  go_wp2
  go_ret
  exact ⟨rfl, below_al (Below.refl _ _) _⟩

set_option maxHeartbeats 400000 in
theorem rate_yes (K R : Int) (v : Value) (w : World) (h : Turns K ∧ MayR R ∨ ¬ Turns K ∧ R = 0) :
    Calls Tryd.prog 29 #[.agg #[.int .i64 K, .int .i64 R, v]] w fun e w' => e = .returned (.bool true) ∧ Below w.heap.size w w' := by
  have r0 := crow_new w 31 [.int .i64 K, .int .i64 R, v]
  rcases h with ⟨h, h1, h2⟩ | ⟨h, rfl⟩
  · go_enter Tryd.func29, Tryd.ntmps29
    go_wp2_with (first | (refine St.wpList_load isMd (by rfl) _ (by rfl) _ _ (by rfl) (by with_reducible exact r0) rfl ?_))
    refine (turns_yes K _ v _ h).mono ?_
    rintro e w1 ⟨rfl, k1⟩
    have c1 : w1.cell? ⟨w.heap.size, 1, none⟩ = some (.int .i64 R) := CRow.cell (CRow.keep r0 k1) (k := 1) rfl rfl
    go_wp2
    go_ret
    exact ⟨rfl, below_tr (below_al (Below.refl _ _) _) k1⟩
  · go_enter Tryd.func29, Tryd.ntmps29
    go_wp2_with (first | (refine St.wpList_load isMd (by rfl) _ (by rfl) _ _ (by rfl) (by with_reducible exact r0) rfl ?_))
    refine (turns_no K _ v _ h).mono ?_
    rintro e w1 ⟨rfl, k1⟩
    have c1 : w1.cell? ⟨w.heap.size, 1, none⟩ = some (.int .i64 0) := CRow.cell (CRow.keep r0 k1) (k := 1) rfl rfl
    go_wp2
    go_ret
    exact ⟨rfl, below_tr (below_al (Below.refl _ _) _) k1⟩
set_option maxHeartbeats 400000 in
theorem rate_no (K R : Int) (v : Value) (w : World) (h : Turns K ∧ ¬ MayR R ∨ ¬ Turns K ∧ R ≠ 0) :
    Calls Tryd.prog 29 #[.agg #[.int .i64 K, .int .i64 R, v]] w fun e w' => e = .returned (.bool false) ∧ Below w.heap.size w w' := by
  have r0 := crow_new w 31 [.int .i64 K, .int .i64 R, v]
  rcases h with ⟨h, h1⟩ | ⟨h, h1⟩
  · rcases Int.lt_or_le R 1048576 with h2 | h2
    · clear h1
      go_enter Tryd.func29, Tryd.ntmps29
      go_wp2_with (first | (refine St.wpList_load isMd (by rfl) _ (by rfl) _ _ (by rfl) (by with_reducible exact r0) rfl ?_))
      refine (turns_yes K _ v _ h).mono ?_
      rintro e w1 ⟨rfl, k1⟩
      have c1 : w1.cell? ⟨w.heap.size, 1, none⟩ = some (.int .i64 R) := CRow.cell (CRow.keep r0 k1) (k := 1) rfl rfl
      go_wp2
      go_ret
      exact ⟨rfl, below_tr (below_al (Below.refl _ _) _) k1⟩
    · have h3 : 268435456 < R := by
        rcases Int.lt_or_le 268435456 R with h3 | h3
        · exact h3
        · exact absurd ⟨h2, h3⟩ h1
      have h4 : decide (R ≤ 268435456) = false := decide_eq_false (by omega)
      clear h1
      go_enter Tryd.func29, Tryd.ntmps29
      go_wp2_with (first | (refine St.wpList_load isMd (by rfl) _ (by rfl) _ _ (by rfl) (by with_reducible exact r0) rfl ?_))
      refine (turns_yes K _ v _ h).mono ?_
      rintro e w1 ⟨rfl, k1⟩
      have c1 : w1.cell? ⟨w.heap.size, 1, none⟩ = some (.int .i64 R) := CRow.cell (CRow.keep r0 k1) (k := 1) rfl rfl
      go_wp2
      go_ret
      exact ⟨rfl, below_tr (below_al (Below.refl _ _) _) k1⟩
  · have h2 : (R == 0) = false := beq_eq_false_iff_ne.2 h1
    clear h1
    go_enter Tryd.func29, Tryd.ntmps29
    go_wp2_with (first | (refine St.wpList_load isMd (by rfl) _ (by rfl) _ _ (by rfl) (by with_reducible exact r0) rfl ?_))
    refine (turns_no K _ v _ h).mono ?_
    rintro e w1 ⟨rfl, k1⟩
    have c1 : w1.cell? ⟨w.heap.size, 1, none⟩ = some (.int .i64 R) := CRow.cell (CRow.keep r0 k1) (k := 1) rfl rfl
    go_wp2
    go_ret
    exact ⟨rfl, below_tr (below_al (Below.refl _ _) _) k1⟩

set_option maxHeartbeats 400000 in
theorem time_yes (d : Int) (w : World) (h : MayT d) :
    Calls Tryd.prog 14 #[.int .i64 d] w fun e w' => e = .returned (.bool true) ∧ Below w.heap.size w w' := by
  obtain ⟨h0, h1⟩ := h
  go_enter Tryd.func14, Tryd.ntmps14
  go_wp2
  go_ret
  exact ⟨rfl, Below.refl _ _⟩
set_option maxHeartbeats 400000 in
theorem time_no (d : Int) (w : World) (h : ¬ MayT d) :
    Calls Tryd.prog 14 #[.int .i64 d] w fun e w' => e = .returned (.bool false) ∧ Below w.heap.size w w' := by
  rcases Int.lt_or_le d 1 with h0 | h0
  · clear h
    go_enter Tryd.func14, Tryd.ntmps14
    go_wp2
    go_ret
    exact ⟨rfl, Below.refl _ _⟩
  · have h1 : 67108864 < d := by
      rcases Int.lt_or_le 67108864 d with h3 | h3
      · exact h3
      · exact absurd ⟨h0, h3⟩ h
    have h4 : decide (d ≤ 67108864) = false := decide_eq_false (by omega)
    clear h
    go_enter Tryd.func14, Tryd.ntmps14
    go_wp2
    go_ret
    exact ⟨rfl, Below.refl _ _⟩

namespace Mo
theorem nm_not {K : Int} (h : ¬ (K = 0 ∨ K = 1) ∧ ¬ Turns K) : nm K = .string { data := #[] } := by
  unfold nm
  rw [if_neg (fun e => h.1 (.inl e)), if_neg (fun e => h.1 (.inr e)), if_neg (fun e => h.2 (.inl e)), if_neg (fun e => h.2 (.inr e))]
end Mo

set_option maxHeartbeats 1000000 in
theorem mcheck_no (K R N : Int) (w : World) (h : ¬ MayM K R N) :
    Calls Tryd.prog 13 #[.agg #[.int .i64 K, .int .i64 R, .int .i64 N]] w fun e w' => e = .returned (.iface 45 (.int .i64 1)) ∧ Below w.heap.size w w' := by
  have r0 := crow_new w 31 [.int .i64 K, .int .i64 R, .int .i64 N]
  have HN := hide (fun W => name_any K W)
  by_cases hK : (K = 0 ∨ K = 1) ∨ Turns K
  · have HR : Hid (¬ MayN N ∨ (Turns K ∧ ¬ MayR R ∨ ¬ Turns K ∧ R ≠ 0)) := by
      by_cases hN : MayN N
      · refine .inr ?_
        rcases hK with hK | hK
        · refine .inr ⟨fun q => ?_, fun q => h ⟨hN, .inl ⟨hK, q⟩⟩⟩
          rcases hK with rfl | rfl <;> rcases q with q | q <;> omega
        · exact .inl ⟨hK, fun q => h ⟨hN, .inr ⟨hK, q⟩⟩⟩
      · exact .inl hN
    clear h
    have H1 := hide (fun W (h : MayN N) => rate_no K R (.int .i64 N) W (by rcases HR.out with q | q; (exact absurd h q); exact q))
    clear HR
    rcases hK with (rfl | rfl) | (rfl | rfl)
    all_goals
      rcases Int.lt_or_le N 1 with n1 | n1
      · clear H1
        go_enter Tryd.func13, Tryd.ntmps13
        go_wp2_with fail
        refine (HN.out _).mono ?_
        rintro e w1 ⟨rfl, k1⟩
        have c2 : w1.cell? ⟨w.heap.size, 2, none⟩ = some (.int .i64 N) := CRow.cell (CRow.keep r0 k1) (k := 2) rfl rfl
        unfold nm
        go_wp2
        go_ret
        exact ⟨rfl, below_tr (below_al (Below.refl _ _) _) k1⟩
      · rcases Int.lt_or_le 1073741824 N with n2 | n2
        · clear H1
          go_enter Tryd.func13, Tryd.ntmps13
          go_wp2_with fail
          refine (HN.out _).mono ?_
          rintro e w1 ⟨rfl, k1⟩
          have c2 : w1.cell? ⟨w.heap.size, 2, none⟩ = some (.int .i64 N) := CRow.cell (CRow.keep r0 k1) (k := 2) rfl rfl
          unfold nm
          go_wp2
          go_ret
          exact ⟨rfl, below_tr (below_al (Below.refl _ _) _) k1⟩
        · have H2 := hide (fun W => H1.out W ⟨n1, n2⟩)
          have d1 : decide (N < 1) = false := decide_eq_false (by omega)
          have d2 : decide (1073741824 < N) = false := decide_eq_false (by omega)
          clear H1
          go_enter Tryd.func13, Tryd.ntmps13
          go_wp2_with fail
          refine (HN.out _).mono ?_
          rintro e w1 ⟨rfl, k1⟩
          have r1 := CRow.keep r0 k1
          have c2 : w1.cell? ⟨w.heap.size, 2, none⟩ = some (.int .i64 N) := CRow.cell r1 (k := 2) rfl rfl
          unfold nm
          go_wp2_with (first | (refine St.wpList_load isMd (by rfl) _ (by rfl) _ _ (by rfl) (by with_reducible exact r1) rfl ?_))
          refine (H2.out _).mono ?_
          rintro e w2 ⟨rfl, k2⟩
          go_wp2
          go_ret
          exact ⟨rfl, below_tr (below_tr (below_al (Below.refl _ _) _) k1) k2⟩
  · have hK' : ¬ (K = 0 ∨ K = 1) ∧ ¬ Turns K := ⟨fun q => hK (.inl q), fun q => hK (.inr q)⟩
    rw [nm_not hK'] at HN
    clear hK hK' h
    go_enter Tryd.func13, Tryd.ntmps13
    go_wp2_with fail
    refine (HN.out _).mono ?_
    rintro e w1 ⟨rfl, k1⟩
    go_wp2
    go_ret
    exact ⟨rfl, below_tr (below_al (Below.refl _ _) _) k1⟩

set_option maxHeartbeats 1000000 in
theorem mcheck_yes (K R N : Int) (w : World) (h : MayM K R N) :
    Calls Tryd.prog 13 #[.agg #[.int .i64 K, .int .i64 R, .int .i64 N]] w fun e w' => e = .returned .nilIface ∧ Below w.heap.size w w' := by
  have r0 := crow_new w 31 [.int .i64 K, .int .i64 R, .int .i64 N]
  have HN := hide (fun W => name_any K W)
  obtain ⟨⟨n1, n2⟩, h⟩ := h
  have HR : Hid (Turns K ∧ MayR R ∨ ¬ Turns K ∧ R = 0) := by
    rcases h with ⟨h, e⟩ | h
    · refine .inr ⟨fun q => ?_, e⟩
      rcases h with rfl | rfl <;> rcases q with q | q <;> omega
    · exact .inl h
  have hK : (K = 0 ∨ K = 1) ∨ Turns K := by
    rcases h with ⟨h, _⟩ | ⟨h, _⟩
    · exact .inl h
    · exact .inr h
  have H2 := hide (fun W => rate_yes K R (.int .i64 N) W HR.out)
  have d1 : decide (N < 1) = false := decide_eq_false (by omega)
  have d2 : decide (1073741824 < N) = false := decide_eq_false (by omega)
  clear HR h
  rcases hK with (rfl | rfl) | (rfl | rfl)
  all_goals
    go_enter Tryd.func13, Tryd.ntmps13
    go_wp2_with fail
    refine (HN.out _).mono ?_
    rintro e w1 ⟨rfl, k1⟩
    have r1 := CRow.keep r0 k1
    have c2 : w1.cell? ⟨w.heap.size, 2, none⟩ = some (.int .i64 N) := CRow.cell r1 (k := 2) rfl rfl
    unfold nm
    go_wp2_with (first | (refine St.wpList_load isMd (by rfl) _ (by rfl) _ _ (by rfl) (by with_reducible exact r1) rfl ?_))
    refine (H2.out _).mono ?_
    rintro e w2 ⟨rfl, k2⟩
    go_wp2
    go_ret
    exact ⟨rfl, below_tr (below_tr (below_al (Below.refl _ _) _) k1) k2⟩
end Go.Proofs.YtnjiilknnlcblaaDoor

/-
  Matrices (mat): Mul, Apply, Even, Outer, or their errors.
-/
set_option linter.unusedSimpArgs false
set_option linter.unusedVariables false
namespace Go.Proofs.YtnjiilknnlcblaaDoor
open Go.RowKit Vc Mt Qn Dt

theorem mdot_sl (ao bo : Option Addr) (n ca cb : Nat) (za zb : Nat → Int) (q : Int) (b : Nat) (w : World) (hq : q = (b : Int)) (hn : n ≤ 64) (ha : Sl w ao n ca za) (hb : Sl w bo n cb zb) (ba : B64 za) (bb : B64 zb) (hp : b ≤ 62) :
    Calls Tryd.prog 26 #[.slice ao n ca, .slice bo n cb, .int .i64 q] w fun e w' => e = .returned (.tuple #[.int .i64 (clamp (rne (dk za zb n) (2 ^ b))), .bool (great (rne (dk za zb n) (2 ^ b))), .nilIface]) ∧ Below w.heap.size w w' := by
  subst hq
  obtain ⟨xa, hao, hca⟩ := ha.get
  obtain ⟨xb, hbo, hcb⟩ := hb.get
  exact qdot_any ao bo xa xb n ca cb za zb b w hn hao hbo hca hcb ba bb hp

namespace Mt
theorem MRow.rowSl {w : World} {g n m i p : Nat} {F : Nat → Nat → Int} (r : MRow w g n m (mz n m F)) (hi : i < n) (h36 : n * m ≤ 36) (hp : p = i * m) : Sl w (some ⟨g, p + 2, none⟩) m (36 - p) (F i) := by
  subst hp
  have := place_le (c := m) hi
  exact (r.sl (by omega) (by omega) (by omega) rfl).congr (fun j hj => mz_at hi hj)
end Mt

namespace Mt
/-- The exact sum of products, rounded. -/
def mulR (F G : Nat → Nat → Int) (m : Nat) : Nat → Nat → Int := fun i j => rne (dk (F i) (fun k => G k j) m) (2 ^ 20)
end Mt

set_option maxRecDepth 10000 in
set_option maxHeartbeats 1000000 in
theorem mmul1_any (n m q i j ga gc : Nat) (F G : Nat → Nat → Int) (w : World) (h1 : 1 ≤ n) (h2 : n ≤ 6) (h3 : 1 ≤ m) (h4 : m ≤ 6) (h5 : 1 ≤ q) (h6 : q ≤ 6) (hi : i < n) (hj : j < q) (ra : MRow w ga n m (mz n m F)) (rc : MRow w gc q m (mz q m (fun i j => G j i))) (hF : B2 F) (hG : B2 G) :
    Calls Tryd.prog 28 #[.int .i64 (i : Int), .int .i64 (j : Int), .pointer (some ⟨ga, 0, none⟩), .pointer (some ⟨gc, 0, none⟩)] w fun e w' => e = .returned (.tuple #[.int .i64 (clamp (mulR F G m i j)), .bool (great (mulR F G m i j)), .nilIface]) ∧ Below w.heap.size w w' := by
  have h36 := size_le h2 h4
  have h36' := size_le h6 h4
  obtain ⟨p, hp⟩ : ∃ p, p = i * m := ⟨_, rfl⟩
  obtain ⟨s, hs⟩ : ∃ s, s = j * m := ⟨_, rfl⟩
  have hpl : p + m ≤ n * m := by rw [hp]; exact place_le hi
  have hsl : s + m ≤ q * m := by rw [hs]; exact place_le hj
  have RA : Hid (∀ W, Below w.heap.size w W → Calls Tryd.prog 23 #[.pointer (some ⟨ga, 0, none⟩), .int .i64 (i : Int)] W fun e w' => e = .returned (.slice (some ⟨ga, p + 2, none⟩) m (36 - p)) ∧ Below W.heap.size W w') := fun W b => row_any ga i m p n _ W (ra.keep b) hp h4 (by omega) (by omega) (by omega)
  have RC : Hid (∀ W, Below w.heap.size w W → Calls Tryd.prog 23 #[.pointer (some ⟨gc, 0, none⟩), .int .i64 (j : Int)] W fun e w' => e = .returned (.slice (some ⟨gc, s + 2, none⟩) m (36 - s)) ∧ Below W.heap.size W w') := fun W b => row_any gc j m s q _ W (rc.keep b) hs h4 (by omega) (by omega) (by omega)
  have HD : Hid (∀ W, Below w.heap.size w W → Calls Tryd.prog 26 #[.slice (some ⟨ga, p + 2, none⟩) m (36 - p), .slice (some ⟨gc, s + 2, none⟩) m (36 - s), .int .i64 20] W fun e w' => e = .returned (.tuple #[.int .i64 (clamp (mulR F G m i j)), .bool (great (mulR F G m i j)), .nilIface]) ∧ Below W.heap.size W w') :=
    fun W b => mdot_sl _ _ m _ _ (F i) (fun k => G k j) 20 20 W rfl (by omega) ((ra.keep b).rowSl hi h36 hp) ((rc.keep b).rowSl hj h36' hs) (hF i) (fun k => hG k j) (by omega)
  obtain ⟨X, hX⟩ : ∃ X, X = clamp (mulR F G m i j) := ⟨_, rfl⟩
  obtain ⟨Y, hY⟩ : ∃ Y, Y = great (mulR F G m i j) := ⟨_, rfl⟩
  rw [← hX, ← hY] at HD
  rw [← hX, ← hY]
  clear hX hY hF hG ra rc hp hs
  go_enter Tryd.func28, Tryd.ntmps28
  go_wp2_with fail
  refine (RA.out _ (Below.refl _ _)).mono ?_
  rintro e w1 ⟨rfl, k1⟩
  go_wp2_with fail
  refine (RC.out _ k1).mono ?_
  rintro e w2 ⟨rfl, k2⟩
  have K2 := below_tr k1 k2
  go_wp2_with fail
  refine (HD.out _ K2).mono ?_
  rintro e w3 ⟨rfl, k3⟩
  go_wp2
  go_ret3
  exact ⟨rfl, below_tr K2 k3⟩

set_option maxRecDepth 10000 in
set_option maxHeartbeats 1000000 in
theorem mmul_any (n m q : Nat) (F G : Nat → Nat → Int) (w : World) (h1 : 1 ≤ n) (h2 : n ≤ 6) (h3 : 1 ≤ m) (h4 : m ≤ 6) (h5 : 1 ≤ q) (h6 : q ≤ 6) (hF : B2 F) (hG : B2 G) :
    Calls Tryd.prog 12 #[.agg (mvals n m (mz n m F)).toArray, .agg (mvals m q (mz m q G)).toArray] w fun e w' => e = .returned (.tuple #[.agg (mvals n q (mz n q (fun i j => clamp (mulR F G m i j)))).toArray, .bool (any2 (fun i j => great (mulR F G m i j)) n q), .nilIface]) ∧ Below w.heap.size w w' := by
  have rA := ((mrow_new w n m (mz n m F)).alloc (.cells (mvals m q (mz m q G)).toArray 26)).alloc (.cells (mvals 0 0 (fun _ => 0)).toArray 26)
  have rB := (mrow_new1 w (.cells (mvals n m (mz n m F)).toArray 26) m q (mz m q G)).alloc (.cells (mvals 0 0 (fun _ => 0)).toArray 26)
  have rZ := mrow_new2 w (.cells (mvals n m (mz n m F)).toArray 26) (.cells (mvals m q (mz m q G)).toArray 26) 0 0 (fun _ => 0)
  have hB := below_al (below_al (below_al (Below.refl _ w) (.cells (mvals n m (mz n m F)).toArray 26)) (.cells (mvals m q (mz m q G)).toArray 26)) (.cells (mvals 0 0 (fun _ => 0)).toArray 26)
  obtain ⟨W, hW⟩ : ∃ W, W = ((w.alloc (.cells (mvals n m (mz n m F)).toArray 26)).alloc (.cells (mvals m q (mz m q G)).toArray 26)).alloc (.cells (mvals 0 0 (fun _ => 0)).toArray 26) := ⟨_, rfl⟩
  rw [← hW] at rA rB rZ hB
  have HCa := Hid.mkV (fun W' => check_may W' (may_mz (F := F) h1 h2 h3 h4))
  have HTb := Hid.mkV (fun W' => mturn_any m q G W' h3 h4 h5 h6)
  have HN := Hid.mkV (fun gc W' (b : Below W.heap.size W W') (rc : MRow W' gc q m (mz q m (fun i j => G j i))) => byNumber_Mul (.pointer (some ⟨w.heap.size, 0, none⟩)) (.pointer (some ⟨gc, 0, none⟩)) n q (fun i j => clamp (mulR F G m i j)) (fun i j => great (mulR F G m i j)) W' h1 h2 h5 h6
    (fun i j hi hj w1 k1 => mmul1_any n m q i j w.heap.size gc F G w1 h1 h2 h3 h4 h5 h6 hi hj (rA.keep (below_tr b k1)) (rc.keep k1) hF hG))
  obtain ⟨z, hz⟩ : ∃ z, z = mz n m F := ⟨_, rfl⟩
  obtain ⟨y, hy⟩ : ∃ y, y = mz m q G := ⟨_, rfl⟩
  obtain ⟨u, hu⟩ : ∃ u, u = mz q m (fun i j => G j i) := ⟨_, rfl⟩
  obtain ⟨v, hv⟩ : ∃ v, v = mz n q (fun i j => clamp (mulR F G m i j)) := ⟨_, rfl⟩
  obtain ⟨t, ht⟩ : ∃ t, t = any2 (fun i j => great (mulR F G m i j)) n q := ⟨_, rfl⟩
  rw [← hz] at HCa rA hW
  rw [← hy, ← hu] at HTb
  rw [← hy] at rB hW
  rw [← hu, ← hv, ← ht] at HN
  rw [← hz, ← hy, ← hv, ← ht]
  have HW := Hid.mkV hW
  clear hz hy hu hv ht hW hF hG
  go_enter Tryd.func12, Tryd.ntmps12
  go_wp2_with (first
    | (rw [zeroM, ← HW.out]; refine wpList_loadM (by rfl) _ (by rfl) _ _ _ _ (by rfl) (by with_reducible exact rA) ?_)
    | fail)
  refine (HCa.out _).mono ?_
  rintro e w1 ⟨rfl, k1⟩
  have a1 := rA.keep k1
  have b1 := rB.keep k1
  have z1 := rZ.keep k1
  have B1 := below_tr hB k1
  have c0 := a1.rows
  have c1 := a1.cols
  have d0 := b1.rows
  clear rA rB rZ hB HCa
  go_wp2_with (first
    | (refine wpList_loadM (by rfl) _ (by rfl) _ _ _ _ (by rfl) (by with_reducible exact b1) ?_)
    | fail)
  refine (HTb.out _).mono ?_
  rintro e w2 ⟨rfl, k2⟩
  have a2 := a1.keep k2
  have b2 := b1.keep k2
  have z2 := z1.keep k2
  have B2' := below_tr B1 k2
  have rN := mrow_new w2 0 0 (fun _ => 0)
  have hz2 := z2.lt
  have a3 := (a2.alloc (.cells (mvals 0 0 (fun _ => 0)).toArray 26)).rowOther (g := w2.heap.size) (by omega) (mvals q m u).toArray
  have b3 := (b2.alloc (.cells (mvals 0 0 (fun _ => 0)).toArray 26)).rowOther (g := w2.heap.size) (by omega) (mvals q m u).toArray
  have z3 := (z2.alloc (.cells (mvals 0 0 (fun _ => 0)).toArray 26)).rowOther (g := w2.heap.size) (by omega) (mvals q m u).toArray
  have u3 := rN.row q m u
  have B3' := below_row (below_al (Below.refl _ w2) (.cells (mvals 0 0 (fun _ => 0)).toArray 26)) (Nat.le_refl _) (mvals q m u).toArray
  obtain ⟨w3, hw3⟩ : ∃ w3, w3 = (w2.alloc (.cells (mvals 0 0 (fun _ => 0)).toArray 26)).setRow w2.heap.size (mvals q m u).toArray := ⟨_, rfl⟩
  rw [← hw3] at a3 b3 z3 u3 B3'
  have HN3 := Hid.mkV (HN.out w2.heap.size w3 (below_tr (below_tr k1 k2) B3') u3)
  have B3 := below_tr B2' B3'
  have HW3 := Hid.mkV hw3
  have c0 := a3.rows
  have d1 := b3.cols
  clear hw3 a1 b1 z1 B1 HTb HN k1 k2 a2 b2 z2 B2' c1 d0
  go_wp2_with (first
    | (rw [zeroM]; refine wpList_storeM rfl _ _ (by rfl) _ _ _ _ _ _ _ (by rfl) (by rfl) (by with_reducible exact rN) ?_; rw [← HW3.out])
    | fail)
  refine HN3.out.mono ?_
  rintro e w4 ⟨rfl, k4⟩
  have z4 := z3.keep k4
  have B4 := below_tr B3 k4
  go_wp2_with (first
    | (refine wpList_storeM rfl _ _ (by rfl) _ _ _ _ _ _ _ (by rfl) (by rfl) (by with_reducible exact z4) ?_)
    | fail)
  exact bodyPost_ret (results_M3 Tryd.results12 _ _ (w.heap.size + 1 + 1) _ _ _ rfl (z4.row _ _ _)) rfl ⟨rfl, below_row B4 (by omega) _⟩

set_option maxRecDepth 10000 in
set_option maxHeartbeats 1000000 in
/-- The first may not be, or the second has not as many rows as it has columns. -/
theorem mmul_no (r c r' c' : Int) (z y : Nat → Int) (w : World) (h : ¬ May r c z ∨ (May r c z ∧ c ≠ r')) :
    Calls Tryd.prog 12 #[.agg (mvals r c z).toArray, .agg (mvals r' c' y).toArray] w fun e w' => e = .returned (.tuple #[.agg (mvals 0 0 (fun _ => 0)).toArray, .bool false, .iface 45 (.int .i64 1)]) ∧ Below w.heap.size w w' := by
  have rA := ((mrow_new w r c z).alloc (.cells (mvals r' c' y).toArray 26)).alloc (.cells (mvals 0 0 (fun _ => 0)).toArray 26)
  have rB := (mrow_new1 w (.cells (mvals r c z).toArray 26) r' c' y).alloc (.cells (mvals 0 0 (fun _ => 0)).toArray 26)
  have rZ := mrow_new2 w (.cells (mvals r c z).toArray 26) (.cells (mvals r' c' y).toArray 26) 0 0 (fun _ => 0)
  have hB := below_al (below_al (below_al (Below.refl _ w) (.cells (mvals r c z).toArray 26)) (.cells (mvals r' c' y).toArray 26)) (.cells (mvals 0 0 (fun _ => 0)).toArray 26)
  obtain ⟨W, hW⟩ : ∃ W, W = ((w.alloc (.cells (mvals r c z).toArray 26)).alloc (.cells (mvals r' c' y).toArray 26)).alloc (.cells (mvals 0 0 (fun _ => 0)).toArray 26) := ⟨_, rfl⟩
  rw [← hW] at rA rB rZ hB
  have HW := Hid.mkV hW
  clear hW
  rcases h with h | ⟨h, h'⟩
  · have HC := Hid.mkV (fun W' => check_not W' h)
    clear h
    go_enter Tryd.func12, Tryd.ntmps12
    go_wp2_with (first
      | (rw [zeroM, ← HW.out]; refine wpList_loadM (by rfl) _ (by rfl) _ _ _ _ (by rfl) (by with_reducible exact rA) ?_)
      | fail)
    refine (HC.out _).mono ?_
    rintro e w1 ⟨rfl, k1⟩
    have z1 := rZ.keep k1
    have B1 := below_tr hB k1
    go_wp2_with (first
      | (refine wpList_build0 rfl (by rfl) ?_)
      | (refine wpList_storeM rfl _ _ (by rfl) _ _ _ _ _ _ _ (by rfl) (by rfl) (by with_reducible exact z1) ?_)
      | fail)
    exact bodyPost_ret (results_M3 Tryd.results12 _ _ (w.heap.size + 1 + 1) _ _ _ rfl (z1.row _ _ _)) rfl ⟨rfl, below_row B1 (by omega) _⟩
  · have HC := Hid.mkV (fun W' => check_may W' h)
    have ec : (c != r') = true := by rw [bne_iff_ne]; exact h'
    clear h h'
    go_enter Tryd.func12, Tryd.ntmps12
    go_wp2_with (first
      | (rw [zeroM, ← HW.out]; refine wpList_loadM (by rfl) _ (by rfl) _ _ _ _ (by rfl) (by with_reducible exact rA) ?_)
      | fail)
    refine (HC.out _).mono ?_
    rintro e w1 ⟨rfl, k1⟩
    have z1 := rZ.keep k1
    have c1 := (rA.keep k1).cols
    have d0 := (rB.keep k1).rows
    have B1 := below_tr hB k1
    clear rA rB rZ hB HC
    go_wp2_with (first
      | (refine wpList_build0 rfl (by rfl) ?_)
      | (refine wpList_storeM rfl _ _ (by rfl) _ _ _ _ _ _ _ (by rfl) (by rfl) (by with_reducible exact z1) ?_)
      | fail)
    exact bodyPost_ret (results_M3 Tryd.results12 _ _ (w.heap.size + 1 + 1) _ _ _ rfl (z1.row _ _ _)) rfl ⟨rfl, below_row B1 (by omega) _⟩

namespace Mt
/-- The exact sum of products, rounded. -/
def appR (F : Nat → Nat → Int) (v : Nat → Int) (m : Nat) : Nat → Int := fun i => rne (dk (F i) v m) (2 ^ 20)
theorem run_head (b q : Nat) (w : World) (h3 : q ≤ 36) :
    (Instr.sliceAt 24 (.pointer (some ⟨b, 2, none⟩)) none (some (.int .i64 (q : Int))) none).run Tryd.prog w = .ok (.slice (some ⟨b, 2, none⟩) q 36) w := by
  rw [run_sliceAt_array_h w 24 _ Tryd.arrM .i64 _ (by omega) (by rw [Tryd.lenM]; omega), Tryd.elemM, run_size8, Tryd.lenM]
  simp only [Result.andThen_ok, slicedAt, Int.toNat_natCast, Nat.mul_one]
  rw [if_neg (by omega), Addr.add_lit]
  rfl
end Mt

set_option maxRecDepth 10000 in
set_option maxHeartbeats 1000000 in
theorem mapply1_any (n m i ga gv cv : Nat) (j : Int) (vo : Option Addr) (F : Nat → Nat → Int) (v : Nat → Int) (w : World) (h1 : 1 ≤ n) (h2 : n ≤ 6) (h3 : 1 ≤ m) (h4 : m ≤ 6) (hi : i < n) (ra : MRow w ga n m (mz n m F)) (hF : B2 F) (hv : Sl w vo m cv v) (bv : B64 v) (cg : w.cell? ⟨gv, 0, none⟩ = some (.slice vo m cv)) :
    Calls Tryd.prog 25 #[.int .i64 (i : Int), .int .i64 j, .pointer (some ⟨ga, 0, none⟩), .pointer (some ⟨gv, 0, none⟩)] w fun e w' => e = .returned (.tuple #[.int .i64 (clamp (appR F v m i)), .bool (great (appR F v m i)), .nilIface]) ∧ Below w.heap.size w w' := by
  have h36 := size_le h2 h4
  obtain ⟨p, hp⟩ : ∃ p, p = i * m := ⟨_, rfl⟩
  have hpl : p + m ≤ n * m := by rw [hp]; exact place_le hi
  have RA : Hid (∀ W, Below w.heap.size w W → Calls Tryd.prog 23 #[.pointer (some ⟨ga, 0, none⟩), .int .i64 (i : Int)] W fun e w' => e = .returned (.slice (some ⟨ga, p + 2, none⟩) m (36 - p)) ∧ Below W.heap.size W w') := fun W b => row_any ga i m p n _ W (ra.keep b) hp h4 (by omega) (by omega) (by omega)
  have HD : Hid (∀ W, Below w.heap.size w W → Calls Tryd.prog 26 #[.slice (some ⟨ga, p + 2, none⟩) m (36 - p), .slice vo m cv, .int .i64 20] W fun e w' => e = .returned (.tuple #[.int .i64 (clamp (appR F v m i)), .bool (great (appR F v m i)), .nilIface]) ∧ Below W.heap.size W w') :=
    fun W b => mdot_sl _ _ m _ _ (F i) v 20 20 W rfl (by omega) ((ra.keep b).rowSl hi h36 hp) (hv.keep b) (hF i) bv (by omega)
  obtain ⟨X, hX⟩ : ∃ X, X = clamp (appR F v m i) := ⟨_, rfl⟩
  obtain ⟨Y, hY⟩ : ∃ Y, Y = great (appR F v m i) := ⟨_, rfl⟩
  rw [← hX, ← hY] at HD
  rw [← hX, ← hY]
  clear hX hY hF hv bv ra hp
  go_enter Tryd.func25, Tryd.ntmps25
  go_wp2
  go_region_held3 (fun w' => w'.cell? ⟨gv, 0, none⟩ = some (.slice vo m cv))
    (first
      | (refine keep_cell (W := w) ?_ cg; first | with_reducible exact Below.refl _ _ | with_reducible exact Vc.below_drew' _ | with_reducible exact kd | with_reducible exact ka))
    (first
      | (go_at_call 23; refine (RA.out _ (by first | with_reducible exact Vc.below_drew' _)).mono ?_; rintro e wa ⟨rfl, ka'⟩
         have ka : Below w.heap.size w wa := below_tr (Vc.below_drew' _) ka')
      | (go_at_call 26; refine (HD.out _ (by first | with_reducible exact ka)).mono ?_; rintro e wq ⟨rfl, kq'⟩
         have kd : Below w.heap.size w wq := below_tr ka kq'))
  all_goals go_wp2
  all_goals go_ret3
  all_goals exact ⟨rfl, kd⟩

set_option maxRecDepth 10000 in
set_option maxHeartbeats 1000000 in
theorem mapply_any (n m cv : Nat) (vo : Option Addr) (F : Nat → Nat → Int) (v : Nat → Int) (w : World) (h1 : 1 ≤ n) (h2 : n ≤ 6) (h3 : 1 ≤ m) (h4 : m ≤ 6) (hF : B2 F) (hv : Sl w vo m cv v) (bv : B64 v) :
    Calls Tryd.prog 10 #[.agg (mvals n m (mz n m F)).toArray, .slice vo m cv] w fun e w' => ∃ co cc, e = .returned (.tuple #[.slice co n cc, .bool (anyb (fun i => great (appR F v m i)) n), .nilIface]) ∧ Sl w' co n cc (fun i => clamp (appR F v m i)) ∧ Fresh w.heap.size co ∧ Below w.heap.size w w' := by
  have rA := (mrow_new w n m (mz n m F)).alloc (.cells #[.slice vo m cv] 37)
  have hB := below_al (below_al (Below.refl _ w) (.cells (mvals n m (mz n m F)).toArray 26)) (.cells #[.slice vo m cv] 37)
  have cg : ((w.alloc (.cells (mvals n m (mz n m F)).toArray 26)).alloc (.cells #[.slice vo m cv] 37)).cell? ⟨w.heap.size + 1, 0, none⟩ = some (.slice vo m cv) := by go_simp
  obtain ⟨W, hW⟩ : ∃ W, W = (w.alloc (.cells (mvals n m (mz n m F)).toArray 26)).alloc (.cells #[.slice vo m cv] 37) := ⟨_, rfl⟩
  rw [← hW] at rA hB cg
  have l1 := hv.le
  have l2 := hv.cap
  have HCa := Hid.mkV (fun W' => check_may W' (may_mz (F := F) h1 h2 h3 h4))
  have HN := Hid.mkV (fun W' (b : Below W.heap.size W W') => byNumber_Apply (.pointer (some ⟨w.heap.size, 0, none⟩)) (.pointer (some ⟨w.heap.size + 1, 0, none⟩)) n 1 (fun i _ => clamp (appR F v m i)) (fun i _ => great (appR F v m i)) W' h1 h2 (by omega) (by omega)
    (fun i j hi hj w1 k1 => mapply1_any n m i w.heap.size (w.heap.size + 1) cv j vo F v w1 h1 h2 h3 h4 hi (rA.keep (below_tr b k1)) hF (hv.keep (below_tr hB (below_tr b k1))) bv (keep_cell (below_tr b k1) cg)))
  have hA : any2 (fun i _ => great (appR F v m i)) n 1 = anyb (fun i => great (appR F v m i)) n := anyb_congr fun i _ => by show (false || _) = _; rw [Bool.false_or]
  rw [hA] at HN
  have hS : Hid (∀ k, k < n → mz n 1 (fun i _ => clamp (appR F v m i)) (0 + k) = clamp (appR F v m k)) := fun k hk => by
    have := mz_at (n := n) (c := 1) (F := fun i _ => clamp (appR F v m i)) hk (show 0 < 1 by omega)
    rw [Nat.mul_one, Nat.add_zero] at this
    rw [Nat.zero_add]
    exact this
  obtain ⟨z, hz⟩ : ∃ z, z = mz n m F := ⟨_, rfl⟩
  obtain ⟨y, hy⟩ : ∃ y, y = mz n 1 (fun i _ => clamp (appR F v m i)) := ⟨_, rfl⟩
  obtain ⟨t, ht⟩ : ∃ t, t = anyb (fun i => great (appR F v m i)) n := ⟨_, rfl⟩
  obtain ⟨s, hs⟩ : ∃ s : Nat → Int, s = fun i => clamp (appR F v m i) := ⟨_, rfl⟩
  have hS' : Hid (∀ k, k < n → y (0 + k) = s k) := by rw [hy, hs]; exact hS
  rw [← hz] at HCa rA hW
  rw [← hy, ← ht] at HN
  rw [← hz, ← hs, ← ht]
  have HW := Hid.mkV hW
  clear hz hy ht hs hW hF hv bv hA hS
  go_enter Tryd.func10, Tryd.ntmps10
  go_wp2_with (first
    | (rw [← HW.out]; refine wpList_loadM (by rfl) _ (by rfl) _ _ _ _ (by rfl) (by with_reducible exact rA) ?_)
    | fail)
  refine (HCa.out _).mono ?_
  rintro e w1 ⟨rfl, k1⟩
  have a1 := rA.keep k1
  have B1 := below_tr hB k1
  have c0 := a1.rows
  have c1 := a1.cols
  have cg1 := keep_cell k1 cg
  have HN1 := Hid.mkV (HN.out w1 k1)
  clear rA hB cg HCa HN k1
  go_wp2_with fail
  refine HN1.out.mono ?_
  rintro e w2 ⟨rfl, k2⟩
  have B2' := below_tr B1 k2
  have rN := mrow_new w2 0 0 (fun _ => 0)
  have u3 := rN.row n 1 y
  have B3' := below_row (below_al (Below.refl _ w2) (.cells (mvals 0 0 (fun _ => 0)).toArray 26)) (Nat.le_refl _) (mvals n 1 y).toArray
  obtain ⟨w3, hw3⟩ : ∃ w3, w3 = (w2.alloc (.cells (mvals 0 0 (fun _ => 0)).toArray 26)).setRow w2.heap.size (mvals n 1 y).toArray := ⟨_, rfl⟩
  rw [← hw3] at u3 B3'
  have HW3 := Hid.mkV hw3
  have B3 := below_tr B2' B3'
  have e0 := u3.rows
  have e1 : ∀ W, (Instr.sliceAt 24 (.pointer (some ⟨w2.heap.size, 2, none⟩)) none (some (.int .i64 (n : Int))) none).run Tryd.prog W = .ok (.slice (some ⟨w2.heap.size, 2, none⟩) n 36) W := fun W => run_head _ n W (by omega)
  have s3 : Sl w3 (some ⟨w2.heap.size, 2, none⟩) n 36 s := (u3.sl (p := 0) (by omega) (by omega) (by omega) rfl).congr hS'.out
  have HC3 := Hid.mkV (copied_any _ n _ _ w3 s3 (by omega))
  have hsz := B3.size
  clear hw3 a1 c0 c1 cg1 s3
  go_wp2_with (first
    | (rw [zeroM]; refine wpList_storeM rfl _ _ (by rfl) _ _ _ _ _ _ _ (by rfl) (by rfl) (by with_reducible exact rN) ?_; rw [← HW3.out])
    | fail)
  refine HC3.out.mono ?_
  rintro e w5 ⟨co, cc, rfl, s5, f5, k5⟩
  go_wp2
  go_ret3
  exact ⟨co, cc, rfl, s5, fun x hx => Nat.le_trans hsz (f5 x hx), below_tr B3 k5⟩

set_option maxRecDepth 10000 in
set_option maxHeartbeats 1000000 in
theorem mapply_no (r c : Int) (z : Nat → Int) (vo : Option Addr) (l cv : Nat) (w : World) (hl : l ≤ 9223372036854775807) (h : ¬ May r c z ∨ (May r c z ∧ (l : Int) ≠ c)) :
    Calls Tryd.prog 10 #[.agg (mvals r c z).toArray, .slice vo l cv] w fun e w' => e = .returned (.tuple #[.slice none 0 0, .bool false, .iface 45 (.int .i64 1)]) ∧ Below w.heap.size w w' := by
  have rA := (mrow_new w r c z).alloc (.cells #[.slice vo l cv] 37)
  have hB := below_al (below_al (Below.refl _ w) (.cells (mvals r c z).toArray 26)) (.cells #[.slice vo l cv] 37)
  have cg : ((w.alloc (.cells (mvals r c z).toArray 26)).alloc (.cells #[.slice vo l cv] 37)).cell? ⟨w.heap.size + 1, 0, none⟩ = some (.slice vo l cv) := by go_simp
  obtain ⟨W, hW⟩ : ∃ W, W = (w.alloc (.cells (mvals r c z).toArray 26)).alloc (.cells #[.slice vo l cv] 37) := ⟨_, rfl⟩
  rw [← hW] at rA hB cg
  have HW := Hid.mkV hW
  clear hW
  rcases h with h | ⟨h, h'⟩
  · have HC := Hid.mkV (fun W' => check_not W' h)
    clear h
    go_enter Tryd.func10, Tryd.ntmps10
    go_wp2_with (first
      | (rw [← HW.out]; refine wpList_loadM (by rfl) _ (by rfl) _ _ _ _ (by rfl) (by with_reducible exact rA) ?_)
      | fail)
    refine (HC.out _).mono ?_
    rintro e w1 ⟨rfl, k1⟩
    go_wp2
    go_ret3
    exact ⟨rfl, below_tr hB k1⟩
  · have HC := Hid.mkV (fun W' => check_may W' h)
    have ec : (((l : Nat) : Int) != c) = true := by rw [bne_iff_ne]; exact h'
    clear h h'
    go_enter Tryd.func10, Tryd.ntmps10
    go_wp2_with (first
      | (rw [← HW.out]; refine wpList_loadM (by rfl) _ (by rfl) _ _ _ _ (by rfl) (by with_reducible exact rA) ?_)
      | fail)
    refine (HC.out _).mono ?_
    rintro e w1 ⟨rfl, k1⟩
    have c1 := (rA.keep k1).cols
    have cg1 := keep_cell k1 cg
    have B1 := below_tr hB k1
    clear rA hB cg HC
    go_wp2
    go_ret3
    exact ⟨rfl, B1⟩



end Go.Proofs.YtnjiilknnlcblaaDoor
