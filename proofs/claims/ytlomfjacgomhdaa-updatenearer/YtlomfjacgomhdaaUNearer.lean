/-
  What is proved: whatever numbers it is given, the law UpdateNearer of layer 13 returns true, ends without a panic, and leaves what was there as it was.
-/
import Derived.Test.YtlomfjacgomhdaaM20
import Derived.Test.YtlomfjacgomhdaaUdN
import Derived.Test.YtlomfjacgomhdaaFUpdateNearer
import Derived.Deep.DeepCutAuto
import Derived.Deep.CutRange
set_option linter.unusedSimpArgs false
set_option linter.unusedVariables false
namespace Go.Proofs.Ytlomfjacgomhdaa
open Go.RowKit Vc St Mt Pr Qn Ud Up Ld
attribute [local go_sem ↓] Go.wp_at_zero Go.wp_at_succ

namespace Un
def four (a b c d : Int) : Nat → Int
  | 0 => a
  | 1 => b
  | 2 => c
  | _ => d
theorem arr4 (a b c d : Int) : #[.int .i64 a, .int .i64 b, .int .i64 c, .int .i64 d] = (vals 4 (four a b c d)).toArray := rfl
abbrev inA (z : Int) : Prop := -68719476736 ≤ z ∧ z ≤ 68719476736
abbrev inB (z : Int) : Prop := 1048576 ≤ z ∧ z ≤ 17179869184
theorem mz7 (F : Nat → Nat → Int) (i : Nat) (h : i < 6) : mz 6 6 F (7 * i) = F i i := by
  have e := mz_at (n := 6) (c := 6) (F := F) h h
  rwa [show i * 6 + i = 7 * i by omega] at e
/-- What is told of the state that has seen the place. -/
structure Near (a0 a1 a2 a3 b0 b1 b2 b3 : Int) (Y z : Nat → Int) : Prop where
  x0 : min a0 a2 ≤ Y 0 ∧ Y 0 ≤ max a0 a2
  x3 : min a1 a3 ≤ Y 3 ∧ Y 3 ≤ max a1 a3
  x1 : Y 1 = 7340032
  x4 : Y 4 = -5242880
  x2 : Y 2 = 0
  p0 : 0 ≤ z 0 ∧ z 0 ≤ b0 + 3 ∧ z 0 ≤ b3 + 3
  p3 : 0 ≤ z 21 ∧ z 21 ≤ b0 + 3 ∧ z 21 ≤ b3 + 3
  p1 : z 7 = b1
  p2 : z 14 = b2
theorem near_is {a0 a1 a2 a3 b0 b1 b2 b3 : Int} (h0 : inA a0) (h1 : inA a1) (h2 : inA a2) (h3 : inA a3) (g0 : inB b0) (g1 : inB b1) (g2 : inB b2) (g3 : inB b3) :
    Near a0 a1 a2 a3 b0 b1 b2 b3 (xN (XX a0 a1 7340032 (-5242880)) (PP b0 b1 b2) a2 a3 b3 b3 0) (mz 6 6 (zN (PP b0 b1 b2) b3 b3 0)) := by
  have hx := fun {i : Nat} (hi : i < 6) => xN_is (p := b0) (f := b1) (q := b2) (r := b3) (x0 := a0) (y0 := a1) (x := a2) (y := a3) (u := 7340032) (v := -5242880) g0.1 g0.2 g3.1 g3.2 h0 h1 h2 h3 (by omega) (by omega) hi
  have hz := fun {i : Nat} (hi : i < 6) => (mz7 (zN (PP b0 b1 b2) b3 b3 0) i hi).trans (Un.zN_is (p := b0) (f := b1) (q := b2) (r := b3) g0.1 g0.2 g3.1 g3.2 g1.1 g1.2 g2.1 g2.2 hi hi)
  have hw := fun {i : Nat} (hi : i < 6) => ww_in (p := b0) (f := b1) (q := b2) (r := b3) g0.1 g0.2 g3.1 g3.2 g1.1 g1.2 g2.1 g2.2 hi i
  obtain ⟨k0, k1⟩ := kk_in g0.1 g0.2 g3.1 g3.2
  have e0 : ad b0 b3 0 (a2 - a0) (a3 - a1) = rne (kk b0 b3 * (a2 - a0)) (2 ^ 20) := if_pos rfl
  have e3 : ad b0 b3 3 (a2 - a0) (a3 - a1) = rne (kk b0 b3 * (a3 - a1)) (2 ^ 20) := (if_neg (by decide)).trans (if_pos rfl)
  have e1 : ad b0 b3 1 (a2 - a0) (a3 - a1) = 0 := (if_neg (by decide)).trans (if_neg (by decide))
  have e2 : ad b0 b3 2 (a2 - a0) (a3 - a1) = 0 := (if_neg (by decide)).trans (if_neg (by decide))
  have e4 : ad b0 b3 4 (a2 - a0) (a3 - a1) = 0 := (if_neg (by decide)).trans (if_neg (by decide))
  have m0 := part_mid (k := kk b0 b3) (a := a2 - a0) k0 k1
  have m3 := part_mid (k := kk b0 b3) (a := a3 - a1) k0 k1
  have w0 := ww_mid (f := b1) (q := b2) g0.1 g0.2 g3.1 g3.2 (Or.inl rfl : (0 : Nat) = 0 ∨ (0 : Nat) = 3)
  have w3 := ww_mid (f := b1) (q := b2) g0.1 g0.2 g3.1 g3.2 (Or.inr rfl : (3 : Nat) = 0 ∨ (3 : Nat) = 3)
  refine ⟨?_, ?_, ?_, ?_, ?_, ?_, ?_, ?_, ?_⟩
  · rw [hx (i := 0) (by omega), e0]; show min a0 a2 ≤ a0 + _ ∧ a0 + _ ≤ max a0 a2; omega
  · rw [hx (i := 3) (by omega), e3]; show min a1 a3 ≤ a1 + _ ∧ a1 + _ ≤ max a1 a3; omega
  · rw [hx (i := 1) (by omega), e1]; rfl
  · rw [hx (i := 4) (by omega), e4]; rfl
  · rw [hx (i := 2) (by omega), e2]; rfl
  · rw [show (0 : Nat) = 7 * 0 from rfl, hz (i := 0) (by omega)]; exact ⟨(hw (i := 0) (by omega)).1, w0.1, w0.2⟩
  · rw [show (21 : Nat) = 7 * 3 from rfl, hz (i := 3) (by omega)]; exact ⟨(hw (i := 3) (by omega)).1, w3.1, w3.2⟩
  · rw [show (7 : Nat) = 7 * 1 from rfl, hz (i := 1) (by omega)]; exact ww_one g0.1 g0.2 g3.1 g3.2 (Or.inl rfl)
  · rw [show (14 : Nat) = 7 * 2 from rfl, hz (i := 2) (by omega)]; exact ww_one g0.1 g0.2 g3.1 g3.2 (Or.inr rfl)
theorem six4 {a0 a1 : Int} (h0 : inA a0) (h1 : inA a1) : ∀ k, k < 4 → InV (Pd.six a0 a1 7340032 (-5242880) 0 0 k) := fun k hk => by
  match k, hk with
  | 0, _ => exact ⟨by show _ ≤ a0; omega, by show a0 ≤ _; omega⟩
  | 1, _ => exact ⟨by show _ ≤ a1; omega, by show a1 ≤ _; omega⟩
  | 2, _ => exact ⟨by show (_ : Int) ≤ 7340032; omega, by show (7340032 : Int) ≤ _; omega⟩
  | 3, _ => exact ⟨by show (_ : Int) ≤ -5242880; omega, by show (-5242880 : Int) ≤ _; omega⟩
theorem six6 {b0 b1 b2 : Int} (g0 : inB b0) (g1 : inB b1) (g2 : inB b2) : ∀ k, k < 6 → 1 ≤ DD b0 b1 b2 k ∧ DD b0 b1 b2 k ≤ 4611686018427387903 := fun k hk => by
  match k, hk with
  | 0, _ => show 1 ≤ b0 ∧ b0 ≤ _; omega
  | 1, _ => show 1 ≤ b1 ∧ b1 ≤ _; omega
  | 2, _ => show 1 ≤ b2 ∧ b2 ≤ _; omega
  | 3, _ => show 1 ≤ b0 ∧ b0 ≤ _; omega
  | 4, _ => show 1 ≤ b1 ∧ b1 ≤ _; omega
  | 5, _ => show 1 ≤ b2 ∧ b2 ≤ _; omega
theorem XX_v {a0 a1 : Int} (h0 : inA a0) (h1 : inA a1) : ∀ k, k < 6 → InV (XX a0 a1 7340032 (-5242880) k) := fun k hk => by
  match k, hk with
  | 0, _ => exact ⟨by show _ ≤ a0; omega, by show a0 ≤ _; omega⟩
  | 1, _ => exact ⟨by show (_ : Int) ≤ 7340032; omega, by show (7340032 : Int) ≤ _; omega⟩
  | 2, _ => exact in0
  | 3, _ => exact ⟨by show _ ≤ a1; omega, by show a1 ≤ _; omega⟩
  | 4, _ => exact ⟨by show (_ : Int) ≤ -5242880; omega, by show (-5242880 : Int) ≤ _; omega⟩
  | 5, _ => exact in0
theorem XX_b {a0 a1 : Int} (h0 : inA a0) (h1 : inA a1) : B64 (XX a0 a1 7340032 (-5242880)) := six_b (by intro v hv; simp only [List.mem_cons, List.not_mem_nil, or_false] at hv; rcases hv with rfl | rfl | rfl | rfl | rfl | rfl <;> omega)
theorem PP_b {b0 b1 b2 : Int} (g0 : inB b0) (g1 : inB b1) (g2 : inB b2) : B2 (PP b0 b1 b2) := Pd.bP_b2 (six_b (by intro v hv; simp only [List.mem_cons, List.not_mem_nil, or_false] at hv; rcases hv with rfl | rfl | rfl | rfl | rfl | rfl <;> omega))
end Un
open Un

set_option maxRecDepth 10000 in
set_option maxHeartbeats 1000000 in
/-- The state that has seen the place, and all that is told of it. -/
theorem near_next {a0 a1 a2 a3 b0 b1 b2 b3 : Int} (h0 : inA a0) (h1 : inA a1) (h2 : inA a2) (h3 : inA a3) (g0 : inB b0) (g1 : inB b1) (g2 : inB b2) (g3 : inB b3) :
    ∃ X z Y z', (∀ W, Calls Try.prog 5 #[.int .i64 a0, .int .i64 a1, .int .i64 7340032, .int .i64 (-5242880), .int .i64 b0, .int .i64 b1, .int .i64 b2] W fun e w' => e = .returned (.tuple #[.agg (Pd.svals X 6 6 z).toArray, .nilIface]) ∧ Below W.heap.size W w') ∧
      (∀ W, Calls Try.prog 6 #[.agg (Pd.svals X 6 6 z).toArray, .agg (pv a2 a3 b3 b3 0).toArray] W fun e w' => e = .returned (.tuple #[.agg (Pd.svals Y 6 6 z').toArray, .bool false, .nilIface]) ∧ Below W.heap.size W w') ∧ Near a0 a1 a2 a3 b0 b1 b2 b3 Y z' := by
  have hp : MayN a2 a3 b3 b3 0 := ⟨⟨by omega, by omega⟩, ⟨by omega, by omega⟩, ⟨by omega, by omega⟩, ⟨by omega, by omega⟩, in0, by omega, by omega⟩
  have hf := fine_is (p := b0) (f := b1) (q := b2) (r := b3) g0.1 g0.2 g3.1 g3.2
  have hg := (gap_is (p := b0) (f := b1) (q := b2) (r := b3) (u := 7340032) (v := -5242880) g0.1 g0.2 g3.1 g3.2 h0 h1 h2 h3).2.2
  have hm : MayV (XX a0 a1 7340032 (-5242880)) (PP b0 b1 b2) := Pd.blank_may (XX_v h0 h1) (six6 g0 g1 g2)
  have hO : OfYes (XX a0 a1 7340032 (-5242880)) (PP b0 b1 b2) a2 a3 b3 b3 0 := fun W => uof_still _ _ _ _ _ _ _ W hm hp (XX_b h0 h1) (PP_b g0 g1 g2) hf hg
  have hN := fun W => unext_ok _ _ _ _ _ _ _ W hO hp hf (XX_b h0 h1) (PP_b g0 g1 g2)
  rw [nO_is (p := b0) (f := b1) (q := b2) (r := b3) (x0 := a0) (y0 := a1) (x := a2) (y := a3) (u := 7340032) (v := -5242880) g0.1 g0.2 g3.1 g3.2 g1.1 g1.2 g2.1 g2.2 h0 h1 h2 h3 (by omega) (by omega)] at hN
  exact ⟨_, _, _, _, fun W => pblank_yes a0 a1 7340032 (-5242880) b0 b1 b2 W (six4 h0 h1) (six6 g0 g1 g2), hN, near_is h0 h1 h2 h3 g0 g1 g2 g3⟩

set_option maxRecDepth 20000 in
set_option maxHeartbeats 4000000 in
theorem unearer_walk : FUpdateNearer.Walk := by
  intro a0 a1 a2 a3 b0 b1 b2 b3 w wa0 wa1 wa2 wa3 wb0 wb1 wb2 wb3
  rw [arr4 a0 a1 a2 a3, arr4 b0 b1 b2 b3]
  have ra := (crow_new w 22 (vals 4 (four a0 a1 a2 a3))).alloc (.cells (vals 4 (four b0 b1 b2 b3)).toArray 22)
  have rb := crow_new1 w (.cells (vals 4 (four a0 a1 a2 a3)).toArray 22) 22 (vals 4 (four b0 b1 b2 b3))
  have B0 : Below w.heap.size w ((w.alloc (.cells (vals 4 (four a0 a1 a2 a3)).toArray 22)).alloc (.cells (vals 4 (four b0 b1 b2 b3)).toArray 22)) := below_al (below_al (Below.refl _ _) _) _
  obtain ⟨W, hW⟩ : ∃ W, W = (w.alloc (.cells (vals 4 (four a0 a1 a2 a3)).toArray 22)).alloc (.cells (vals 4 (four b0 b1 b2 b3)).toArray 22) := ⟨_, rfl⟩
  rw [← hW] at ra rb B0
  have HW := Ud.hide hW
  have HS := Ud.hide (fun W => usure_any W)
  clear hW wa0 wa1 wa2 wa3 wb0 wb1 wb2 wb3
  go_enter Try.func3, Try.ntmps3
  go_wp2_with (first | (rw [← HW.out]) | fail)
  go_loopw [5] (fun i wr => ∃ k : Nat, k ≤ 4 ∧ i = .int .i64 (k : Int) ∧ wr = W ∧ Hid (∀ q, q < k → inA (four a0 a1 a2 a3 q) ∧ inB (four b0 b1 b2 b3 q))) (fun i _ => 4 - (intOf i).toNat)
  case atStart => exact ⟨0, by omega, rfl, rfl, fun q hq => by omega⟩
  case round =>
    obtain ⟨k, hk, rfl, rfl, hok⟩ := hrel
    by_cases h : k < 4
    · have ca := CRow.cell ra (vals_at (z := four a0 a1 a2 a3) h) rfl
      have cb := CRow.cell rb (vals_at (z := four b0 b1 b2 b3) h) rfl
      obtain ⟨va, hva⟩ : ∃ v, v = four a0 a1 a2 a3 k := ⟨_, rfl⟩
      obtain ⟨vb, hvb⟩ : ∃ v, v = four b0 b1 b2 b3 k := ⟨_, rfl⟩
      rw [← hva] at ca
      rw [← hvb] at cb
      have HA := Ud.hide hva
      have HB := Ud.hide hvb
      clear hva hvb
      by_cases c1 : va < -68719476736
      · have d1 : decide (va < -68719476736) = true := decide_eq_true c1
        go_wp2_with fail
        refine (HS.out _).mono ?_
        rintro e w1 ⟨rfl, k1⟩
        go_wp2
        go_ret
        exact ⟨rfl, below_tr B0 k1⟩
      · have d1 : decide (va < -68719476736) = false := decide_eq_false c1
        by_cases c2 : 68719476736 < va
        · have d2 : decide (68719476736 < va) = true := decide_eq_true c2
          go_wp2_with fail
          refine (HS.out _).mono ?_
          rintro e w1 ⟨rfl, k1⟩
          go_wp2
          go_ret
          exact ⟨rfl, below_tr B0 k1⟩
        · have d2 : decide (68719476736 < va) = false := decide_eq_false c2
          by_cases c3 : vb < 1048576
          · have d3 : decide (vb < 1048576) = true := decide_eq_true c3
            go_wp2_with fail
            refine (HS.out _).mono ?_
            rintro e w1 ⟨rfl, k1⟩
            go_wp2
            go_ret
            exact ⟨rfl, below_tr B0 k1⟩
          · have d3 : decide (vb < 1048576) = false := decide_eq_false c3
            by_cases c4 : 17179869184 < vb
            · have d4 : decide (17179869184 < vb) = true := decide_eq_true c4
              go_wp2_with fail
              refine (HS.out _).mono ?_
              rintro e w1 ⟨rfl, k1⟩
              go_wp2
              go_ret
              exact ⟨rfl, below_tr B0 k1⟩
            · have d4 : decide (17179869184 < vb) = false := decide_eq_false c4
              go_wp2
              go_roundw
              case rel => exact ⟨k + 1, by omega, by go_num, trivial, fun q hq => by
                  rcases Nat.lt_or_ge q k with c | c
                  · exact hok.out q c
                  · obtain rfl : q = k := by omega
                    rw [← HA.out, ← HB.out]; omega⟩
              case measure => simp [intOf]; omega
    · obtain rfl : k = 4 := by omega
      obtain ⟨h0, g0⟩ := hok.out 0 (by omega)
      obtain ⟨h1, g1⟩ := hok.out 1 (by omega)
      obtain ⟨h2, g2⟩ := hok.out 2 (by omega)
      obtain ⟨h3, g3⟩ := hok.out 3 (by omega)
      have h0 : inA a0 := h0
      have h1 : inA a1 := h1
      have h2 : inA a2 := h2
      have h3 : inA a3 := h3
      have g0 : inB b0 := g0
      have g1 : inB b1 := g1
      have g2 : inB b2 := g2
      have g3 : inB b3 := g3
      obtain ⟨X, z, Y, z', H1, H2, HN⟩ := near_next h0 h1 h2 h3 g0 g1 g2 g3
      have H1 := Ud.hide H1
      have H2 := Ud.hide H2
      have HN := Ud.hide HN
      have ca0 := CRow.cell ra (k := 0) (v := .int .i64 a0) rfl rfl
      have ca1 := CRow.cell ra (k := 1) (v := .int .i64 a1) rfl rfl
      have cb0 := CRow.cell rb (k := 0) (v := .int .i64 b0) rfl rfl
      have cb1 := CRow.cell rb (k := 1) (v := .int .i64 b1) rfl rfl
      have cb2 := CRow.cell rb (k := 2) (v := .int .i64 b2) rfl rfl
      clear hok h hk HW
      go_wp2_with fail
      refine (H1.out _).mono ?_
      rintro e w1 ⟨rfl, k1⟩
      have ra1 := CRow.keep ra k1
      have rb1 := CRow.keep rb k1
      have B1 := below_tr B0 k1
      clear ca0 ca1 cb0 cb1 cb2 ra rb B0 k1 H1
      go_wp2_with (first
        | (rw [Pd.zeroS]; refine St.wpList_storeNew Pd.isS rfl _ _ (by rfl) _ _ _ (by rfl) (by rfl) (Pd.svals_len _ _ _ _) (Pd.svals_len _ _ _ _) (Pd.one_svals _ _ _ _) ?_; intro w2 t2 k2; have ra2 := CRow.keep ra1 k2; have rb2 := CRow.keep rb1 k2; have B2 := below_tr B1 k2; have ca2 := CRow.cell ra2 (k := 2) (v := .int .i64 a2) rfl rfl; have ca3 := CRow.cell ra2 (k := 3) (v := .int .i64 a3) rfl rfl; have cb3 := CRow.cell rb2 (k := 3) (v := .int .i64 b3) rfl rfl; clear ra1 rb1 B1 k2)
        | (refine St.wpList_load Pd.isS (by rfl) _ (by rfl) _ _ (by rfl) (by with_reducible exact t2) (Pd.svals_len _ _ _ _) ?_)
        | fail)
      refine (H2.out _).mono ?_
      rintro e w3 ⟨rfl, k3⟩
      have ra3 := CRow.keep ra2 k3
      have rb3 := CRow.keep rb2 k3
      have B3 := below_tr B2 k3
      clear ca2 ca3 cb3 ra2 rb2 t2 B2 k3 H2
      go_wp2_with (first
        | (rw [Pd.zeroS]; refine St.wpList_storeNew Pd.isS rfl _ _ (by rfl) _ _ _ (by rfl) (by rfl) (Pd.svals_len _ _ _ _) (Pd.svals_len _ _ _ _) (Pd.one_svals _ _ _ _) ?_; intro w4 t4 k4; have ra4 := CRow.keep ra3 k4; have rb4 := CRow.keep rb3 k4; have B4 := below_tr B3 k4; clear ra3 rb3 B3 k4)
        | fail)
      obtain ⟨g, hg⟩ : ∃ g, g = w3.heap.size := ⟨_, rfl⟩
      rw [← hg] at t4 ⊢
      clear hg
      go_loopw [12] (fun i wr => ∃ k : Nat, k ≤ 2 ∧ i = .int .i64 (k : Int) ∧ Below w4.heap.size w4 wr) (fun i _ => 2 - (intOf i).toNat)
      case atStart => exact ⟨0, by omega, rfl, Below.refl _ _⟩
      case round =>
        rename World => wr
        obtain ⟨k, hk, rfl, kr⟩ := hrel
        have ra5 := CRow.keep ra4 kr
        have rb5 := CRow.keep rb4 kr
        have t5 := CRow.keep t4 kr
        have B5 := below_tr B4 kr
        clear ra4 rb4 t4 B4
        by_cases h : k < 2
        · rcases (by omega : k = 0 ∨ k = 1) with rfl | rfl
          · have ca0 := CRow.cell ra5 (k := 0) (v := .int .i64 a0) rfl rfl
            have ca2 := CRow.cell ra5 (k := 2) (v := .int .i64 a2) rfl rfl
            have cb0 := CRow.cell rb5 (k := 0) (v := .int .i64 b0) rfl rfl
            have cb3 := CRow.cell rb5 (k := 3) (v := .int .i64 b3) rfl rfl
            have cy := Pd.SRow.x t5 (k := 0) (by omega) rfl
            have cz := Pd.SRow.z t5 (k := 0) (by omega) rfl
            have nx := HN.out.x0
            have np := HN.out.p0
            obtain ⟨L, hL⟩ : ∃ L, min a0 a2 = L := ⟨_, rfl⟩
            obtain ⟨U, hU⟩ : ∃ U, max a0 a2 = U := ⟨_, rfl⟩
            obtain ⟨N, hN⟩ : ∃ N, min b0 b3 = N := ⟨_, rfl⟩
            obtain ⟨y, hy⟩ : ∃ y, y = Y 0 := ⟨_, rfl⟩
            obtain ⟨v, hv⟩ : ∃ v, v = z' 0 := ⟨_, rfl⟩
            rw [← hy] at cy nx
            rw [← hv] at cz np
            rw [hL, hU] at nx
            have d1 : decide (y < L - 262144) = false := decide_eq_false (by omega)
            have d2 : decide (U + 262144 < y) = false := decide_eq_false (by omega)
            have d3 : decide (v < 0) = false := decide_eq_false (by omega)
            have lL : -68719476736 ≤ L ∧ L ≤ 68719476736 := by omega
            have lU : -68719476736 ≤ U ∧ U ≤ 68719476736 := by omega
            have lN : 1048576 ≤ N ∧ N ≤ 17179869184 := by omega
            have d4 : decide (N + b0 / 262144 + b3 / 262144 + 16 < v) = false := decide_eq_false (by omega)
            have l0 : 0 ≤ b0 / 262144 ∧ b0 / 262144 ≤ 65536 := by omega
            have l3 : 0 ≤ b3 / 262144 ∧ b3 / 262144 ≤ 65536 := by omega
            clear hy hv
            go_upto_region 14 with fail
            go_region
            go_wp2
            go_roundw
            case rel => exact ⟨1, by omega, rfl, below_tr kr (Vc.below_drew' _)⟩
            case measure => simp [intOf]
          · have ca0 := CRow.cell ra5 (k := 1) (v := .int .i64 a1) rfl rfl
            have ca2 := CRow.cell ra5 (k := 3) (v := .int .i64 a3) rfl rfl
            have cb0 := CRow.cell rb5 (k := 0) (v := .int .i64 b0) rfl rfl
            have cb3 := CRow.cell rb5 (k := 3) (v := .int .i64 b3) rfl rfl
            have cy := Pd.SRow.x t5 (k := 3) (by omega) rfl
            have cz := Pd.SRow.z t5 (k := 21) (by omega) rfl
            have nx := HN.out.x3
            have np := HN.out.p3
            obtain ⟨L, hL⟩ : ∃ L, min a1 a3 = L := ⟨_, rfl⟩
            obtain ⟨U, hU⟩ : ∃ U, max a1 a3 = U := ⟨_, rfl⟩
            obtain ⟨N, hN⟩ : ∃ N, min b0 b3 = N := ⟨_, rfl⟩
            obtain ⟨y, hy⟩ : ∃ y, y = Y 3 := ⟨_, rfl⟩
            obtain ⟨v, hv⟩ : ∃ v, v = z' 21 := ⟨_, rfl⟩
            rw [← hy] at cy nx
            rw [← hv] at cz np
            rw [hL, hU] at nx
            have d1 : decide (y < L - 262144) = false := decide_eq_false (by omega)
            have d2 : decide (U + 262144 < y) = false := decide_eq_false (by omega)
            have d3 : decide (v < 0) = false := decide_eq_false (by omega)
            have lL : -68719476736 ≤ L ∧ L ≤ 68719476736 := by omega
            have lU : -68719476736 ≤ U ∧ U ≤ 68719476736 := by omega
            have lN : 1048576 ≤ N ∧ N ≤ 17179869184 := by omega
            have d4 : decide (N + b0 / 262144 + b3 / 262144 + 16 < v) = false := decide_eq_false (by omega)
            have l0 : 0 ≤ b0 / 262144 ∧ b0 / 262144 ≤ 65536 := by omega
            have l3 : 0 ≤ b3 / 262144 ∧ b3 / 262144 ≤ 65536 := by omega
            clear hy hv
            go_upto_region 14 with fail
            go_region
            go_wp2
            go_roundw
            case rel => exact ⟨2, by omega, rfl, below_tr kr (Vc.below_drew' _)⟩
            case measure => simp [intOf]
        · obtain rfl : k = 2 := by omega
          have cb1 := CRow.cell rb5 (k := 1) (v := .int .i64 b1) rfl rfl
          have cb2 := CRow.cell rb5 (k := 2) (v := .int .i64 b2) rfl rfl
          have cy1 := Pd.SRow.x t5 (k := 1) (by omega) rfl
          have cy4 := Pd.SRow.x t5 (k := 4) (by omega) rfl
          have cy2 := Pd.SRow.x t5 (k := 2) (by omega) rfl
          have cz7 := Pd.SRow.z t5 (k := 7) (by omega) rfl
          have cz14 := Pd.SRow.z t5 (k := 14) (by omega) rfl
          rw [HN.out.x1] at cy1
          rw [HN.out.x4] at cy4
          rw [HN.out.x2] at cy2
          rw [HN.out.p1] at cz7
          rw [HN.out.p2] at cz14
          go_wp2_with fail
          refine (HS.out _).mono ?_
          rintro e w5 ⟨rfl, k5⟩
          go_wp2
          go_ret
          exact ⟨rfl, below_tr B5 k5⟩

theorem x : Rows.UpdateNearerSaid := FUpdateNearer.row unearer_walk
end Go.Proofs.Ytlomfjacgomhdaa
