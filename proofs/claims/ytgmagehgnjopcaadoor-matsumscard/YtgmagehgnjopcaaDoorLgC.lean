/-
  By of the document's answer of layer 3 (radomeref03): a number of eight words by two to a power, rounded and bounded; by py/By.py.
-/
import Derived.Test.YtgmagehgnjopcaaDoorLgB
import Derived.RegionTactic
import Derived.ChangeAlike
import Derived.BigRegion
import Derived.Deep.DeepCutAuto
set_option linter.unusedSimpArgs false
set_option linter.unusedVariables false
namespace Go.Proofs.YtgmagehgnjopcaaDoor
open Go.RowKit Lg
attribute [local go_sem ↓] Go.wp_at_zero Go.wp_at_succ

attribute [local go_sem] Lg.field_D

set_option maxRecDepth 20000 in
set_option maxHeartbeats 1000000 in
theorem by_mid (s : Bool) (A D E N : Int) (sh u : Nat) (w : World) (hA : In8 A) (hN : In8 N) (hsh : sh ≤ 31) (hu : sh + u = 32) (hD : (2 : Int) ^ sh = D) (hE : (2 : Int) ^ u = E) (HN : Hid (N = A / (4294967296 ^ 1 * D))) (F : Int) (v : Nat) (hv31 : v ≤ 31) (hF : (2 : Int) ^ v = F) (hN1 : In8 (N + 1)) (Z : Int) (HRES : Hid (Z = if wd 0 A / F % 2 = 1 ∧ ((False ∨ 0 < wd 0 A % F) ∨ wd 0 N % 2 = 1) then N + 1 else N)) (Hv : Hid (sh = 0 ∧ v = 31)) :
    Calls Tryd.prog 62 #[(.agg #[.bool s, .int .u64 (wd 0 A), .int .u64 (wd 1 A), .int .u64 (wd 2 A), .int .u64 (wd 3 A), .int .u64 (wd 4 A), .int .u64 (wd 5 A), .int .u64 (wd 6 A), .int .u64 (wd 7 A)]), .int .i64 (32 + (sh : Int))] w fun e w' => e = .returned (res s Z) ∧ Below w.heap.size w w' := by
  have hD0 : 0 < D := by rw [← hD]; exact Int.pow_pos (by omega)
  have hE0 : 0 < E := by rw [← hE]; exact Int.pow_pos (by omega)
  have HDE : Hid (D * E = 4294967296) := Hid.mk'' (by rw [← hD, ← hE, ← Int.pow_add, hu]; rfl)
  have hDW : D ≤ 4294967296 := by
    have : D * 1 ≤ D * E := Int.mul_le_mul_of_nonneg_left (by omega) (by omega)
    rw [HDE.out] at this; omega
  have hEW : E ≤ 4294967296 := by
    have : 1 * E ≤ D * E := Int.mul_le_mul_of_nonneg_right (by omega) (by omega)
    rw [HDE.out] at this; omega
  have hq : (32 + (sh : Int)) / 32 = 1 := by omega
  have hr : (32 + (sh : Int)) % 32 = (sh : Int) := by omega
  have hk : 32 - (sh : Int) = (u : Int) := by omega
  have s0 : (0 : Int) ≤ (sh : Int) := by omega
  have s1 : (sh : Int) ≤ 31 := by omega
  have u0 : (0 : Int) ≤ (u : Int) := by omega
  have u1 : (u : Int) ≤ 32 := by omega
  clear hu
  go_enter Tryd.func62, Tryd.ntmps62
  go_wp2
  go_loopw [9] (fun i wr => ∃ k : Nat, k ≤ 8 - 1 ∧ i = .int .i64 (k : Int) ∧ RowQ wr (w.heap.size + 1) (mixf k (fun j => wd j N) (fun _ => 0)) ∧ RowF wr w.heap.size s (fun j => wd j A) ∧ Below w.heap.size w wr) (fun i _ => 8 - (intOf i).toNat)
  case atStart => exact ⟨0, by omega, rfl, row8_at (w.alloc _) (by simp) _ _ _ _ _ _ _ _, (row9_new w _ _ _ _ _ _ _ _ _).alloc _, below_al (below_al (Below.refl _ _) _) _⟩
  case round =>
    obtain ⟨k, hk8, rfl, hQ, hA9, hbel⟩ := hrel
    by_cases h8 : k < 8 - 1
    · have cA : wr.cell? ⟨w.heap.size, 1 + (k + 1), none⟩ = some (.int .u64 (wd (k + 1) A)) := hA9.cell (k := k + 1) (by omega)
      have w0 := wd_bd (k + 1) A
      have w1 := wd_bd (k + 1 + 1) A
      have cQ := hQ.cell (k := k) (by omega)
      have fQ := hQ.free k
      have SW := Hid.mk'' (shift_words A D E 1 k hD0 hE0 HDE.out)
      rw [← HN.out] at SW
      have HS := Hid.mk'' (fun (w' : World) (d : Nat → Int) (h : RowQ w' (w.heap.size + 1) d) (v : Int) => h.set v (k := k) (by omega))
      have TOP := Hid.mk'' (wd_top hA)
      have cA2 : k + 1 + 1 < 8 → wr.cell? ⟨w.heap.size, 1 + (k + 1 + 1), none⟩ = some (.int .u64 (wd (k + 1 + 1) A)) := fun h => hA9.cell (k := k + 1 + 1) h
      obtain ⟨P, hP⟩ : ∃ P, P = wd (k + 1) A := ⟨_, rfl⟩
      obtain ⟨R, hR⟩ : ∃ R, R = wd (k + 1 + 1) A := ⟨_, rfl⟩
      have HR := Hid.mk'' hR
      rw [← hP] at cA w0
      rw [← hR] at cA2 w1
      have HP := Hid.mk'' hP
      clear hP hR
      have p0 : 0 ≤ P / D := Int.ediv_nonneg w0.1 (by omega)
      have p1 : P / D ≤ 4294967295 := Int.le_trans (Int.ediv_le_self D w0.1) w0.2
      have r0 : 0 ≤ R * E := Int.mul_nonneg w1.1 (by omega)
      have r1 : R * E ≤ 4294967295 * 4294967296 := Int.mul_le_mul w1.2 hEW (by omega) (by omega)
      by_cases h2 : k + 1 + 1 < 8
      · have cA3 := cA2 h2
        clear cA2
        go_wp2
        go_region
        all_goals go_wp2
        all_goals go_roundw
        case rel =>
          refine ⟨k + 1, by omega, by go_num, ((HS.out _ _ (HS.out _ _ hQ _) _).congr ?_).drew, (hA9.other _ (show w.heap.size ≠ w.heap.size + 1 by omega)).other _ (show w.heap.size ≠ w.heap.size + 1 by omega), ((hbel.setCell (p := ⟨w.heap.size + 1, k, none⟩) (show w.heap.size ≤ w.heap.size + 1 by omega) _).setCell (p := ⟨w.heap.size + 1, k, none⟩) (show w.heap.size ≤ w.heap.size + 1 by omega) _).drew⟩
          intro j _
          unfold mixf
          by_cases e : j = k
          · subst e; rw [if_pos rfl, if_pos (by omega), HP.out, HR.out]; exact SW.out.symm
          · rw [if_neg e, if_neg e]
            by_cases e2 : j < k
            · rw [if_pos e2, if_pos (by omega)]
            · rw [if_neg e2, if_neg (by omega)]
        case measure => simp [intOf]; omega
      · clear cA2
        go_wp2
        go_roundw
        case rel =>
          refine ⟨k + 1, by omega, by go_num, (HS.out _ _ hQ _).congr ?_, hA9.other _ (show w.heap.size ≠ w.heap.size + 1 by omega), hbel.setCell (p := ⟨w.heap.size + 1, k, none⟩) (show w.heap.size ≤ w.heap.size + 1 by omega) _⟩
          intro j _
          unfold mixf
          by_cases e : j = k
          · subst e
            have z := TOP.out (j + 1 + 1) (by omega)
            have sw := SW.out
            rw [z, Int.zero_mul] at sw
            rw [if_pos rfl, if_pos (by omega), HP.out]
            show _ = wd j N
            rw [sw]; simp
          · rw [if_neg e]
            by_cases e2 : j < k
            · rw [if_pos e2, if_pos (by omega)]
            · rw [if_neg e2, if_neg (by omega)]
        case measure => simp [intOf]; omega
    · have hQN : RowQ wr (w.heap.size + 1) (fun j => wd j N) := by
        refine hQ.congr ?_
        intro j hj
        unfold mixf
        by_cases e : j < k
        · rw [if_pos e]
        · rw [if_neg e]
          have e7 : j = 7 := by omega
          have sw := shift_words A D E 1 j hD0 hE0 (by rw [← hD, ← hE, ← Int.pow_add]; exact (by have h := hk; rw [show sh + u = 32 by omega]; rfl))
          rw [← HN.out, wd_top hA (j + 1) (by omega), wd_top hA (j + 1 + 1) (by omega)] at sw
          show 0 = wd j N
          rw [sw]; simp
      have hk9 : 8 ≤ k + 1 := by omega
      clear hQ h8 HDE
      have q0 := hQN.cell (k := 0) (by omega)
      have q1 := hQN.cell (k := 1) (by omega)
      have q2 := hQN.cell (k := 2) (by omega)
      have q3 := hQN.cell (k := 3) (by omega)
      have q4 := hQN.cell (k := 4) (by omega)
      have q5 := hQN.cell (k := 5) (by omega)
      have q6 := hQN.cell (k := 6) (by omega)
      have q7 := hQN.cell (k := 7) (by omega)
      have sA := hA9.cs
      have a0 : _ = some (Value.int .u64 (wd 0 A)) := hA9.c0
      have a1 : _ = some (Value.int .u64 (wd 1 A)) := hA9.c1
      have a2 : _ = some (Value.int .u64 (wd 2 A)) := hA9.c2
      have a3 : _ = some (Value.int .u64 (wd 3 A)) := hA9.c3
      have a4 : _ = some (Value.int .u64 (wd 4 A)) := hA9.c4
      have a5 : _ = some (Value.int .u64 (wd 5 A)) := hA9.c5
      have a6 : _ = some (Value.int .u64 (wd 6 A)) := hA9.c6
      have a7 : _ = some (Value.int .u64 (wd 7 A)) := hA9.c7
      have e0 : (sh : Int) = 0 := by have := Hv.out.1; omega
      have e31 : (v : Int) = 31 := by have := Hv.out.2; omega
      have hv1 : 32 + (sh : Int) - 1 = (v : Int) := by omega
      have hv2 : (v : Int) / 32 = 0 := by omega
      have hv3 : (v : Int) % 32 = (v : Int) := by omega
      have hv8 : (v : Int).tdiv 32 = 0 := by rw [Int.tdiv_eq_ediv_of_nonneg (by omega)]; omega
      have hv9 : (v : Int).tmod 32 = (v : Int) := by rw [Int.tmod_eq_emod_of_nonneg (by omega)]; omega
      clear e0 e31
      have v0 : (0 : Int) ≤ (v : Int) := by omega
      have v1 : (v : Int) ≤ 31 := by omega
      have hvw : IntKind.i64.wrap (v : Int) = (v : Int) := by rw [IntKind.wrap_i64]; omega
      obtain ⟨hF1, hF2, hfw⟩ := wrap_pow hv31 hF
      have hF0 : 0 < F := by rw [← hF]; exact Int.pow_pos (by omega)
      have wM := wd_bd 0 A
      have wN := wd_bd 0 N
      have rm0 : 0 ≤ wd 0 A % F := Int.emod_nonneg _ (by omega)
      have rm1 : wd 0 A % F < F := Int.emod_lt_of_pos _ hF0
      go_wp2_with fail
      refine (lbit_0 A F v _ hv31 hF).mono ?_
      rintro e w2 ⟨rfl, hb2⟩
      have hQN2 := hQN.keep hb2
      have hA92 := hA9.keep hb2
      have hbel2 := below_tr hbel hb2
      clear hQN hA9 hbel q0 q1 q2 q3 q4 q5 q6 q7 sA a0 a1 a2 a3 a4 a5 a6 a7
      have hQN := hQN2
      have hA9 := hA92
      have hbel := hbel2
      clear hQN2 hA92 hbel2
      have q0 := hQN.cell (k := 0) (by omega)
      have q1 := hQN.cell (k := 1) (by omega)
      have q2 := hQN.cell (k := 2) (by omega)
      have q3 := hQN.cell (k := 3) (by omega)
      have q4 := hQN.cell (k := 4) (by omega)
      have q5 := hQN.cell (k := 5) (by omega)
      have q6 := hQN.cell (k := 6) (by omega)
      have q7 := hQN.cell (k := 7) (by omega)
      have sA := hA9.cs
      have a0 : _ = some (Value.int .u64 (wd 0 A)) := hA9.c0
      have a1 : _ = some (Value.int .u64 (wd 1 A)) := hA9.c1
      have a2 : _ = some (Value.int .u64 (wd 2 A)) := hA9.c2
      have a3 : _ = some (Value.int .u64 (wd 3 A)) := hA9.c3
      have a4 : _ = some (Value.int .u64 (wd 4 A)) := hA9.c4
      have a5 : _ = some (Value.int .u64 (wd 5 A)) := hA9.c5
      have a6 : _ = some (Value.int .u64 (wd 6 A)) := hA9.c6
      have a7 : _ = some (Value.int .u64 (wd 7 A)) := hA9.c7
      rcases Int.emod_two_eq (wd 0 A / F) with hB | hB
      · rw [hB]
        have HZ : Hid (Z = N) := Hid.mk'' (by rw [HRES.out, if_neg (by intro h; have := h.1; omega)])
        go_wp2_with fail
        refine (lower62 N _ hN).mono ?_
        rintro e w9 ⟨rfl, hb9⟩
        have t0 := keep_cell hb9 q0
        have t1 := keep_cell hb9 q1
        have tA := keep_cell hb9 sA
        by_cases hlt : N < 4611686018427387904
        · rw [decide_eq_true hlt]
          have hw01 := Hid.mk'' (low_two (Q := N) (by have := hN; unfold In8 at this; omega) hlt)
          have b0 := wd_bd 0 (N)
          have b1 : 0 ≤ wd 1 (N) ∧ wd 1 (N) ≤ 1073741823 := high_two (by have := hN; unfold In8 at this; omega) hlt
          cases s
          · go_wp2
            go_ret2
            exact ⟨ret_low false HZ.out hlt hw01.out, below_tr hbel hb9⟩
          · go_wp2
            go_ret2
            exact ⟨ret_low true HZ.out hlt (congrArg (fun z : Int => -z) hw01.out), below_tr hbel hb9⟩
        · rw [decide_eq_false hlt]
          cases s
          · go_wp2
            go_ret2
            exact ⟨ret_high false HZ.out (by omega), below_tr hbel hb9⟩
          · go_wp2
            go_ret2
            exact ⟨ret_high true HZ.out (by omega), below_tr hbel hb9⟩
      · rw [hB]
        by_cases hR1 : 0 < wd 0 A % F
        · have HZ : Hid (Z = N + 1) := Hid.mk'' (by rw [HRES.out, if_pos ⟨hB, Or.inl (Or.inr hR1)⟩])
          go_wp2
          refine wp_loop_rounds 1 ?_
          rw [rounds_succ]
          go_wp2
          go_quiet (fail)
          go_wp2_with fail
          refine (join_one N _).mono ?_
          rintro e w4 ⟨rfl, hb4⟩
          have hQN2 := (hQN.drewN nq).keep hb4
          have hA92 := (hA9.drewN nq).keep hb4
          have hbel2 := below_tr (below_drewN hbel nq) hb4
          clear hQN hA9 hbel q0 q1 q2 q3 q4 q5 q6 q7 sA a0 a1 a2 a3 a4 a5 a6 a7
          have hQN := hQN2
          have hA9 := hA92
          have hbel := hbel2
          clear hQN2 hA92 hbel2
          have q0 := hQN.cell (k := 0) (by omega)
          have q1 := hQN.cell (k := 1) (by omega)
          have q2 := hQN.cell (k := 2) (by omega)
          have q3 := hQN.cell (k := 3) (by omega)
          have q4 := hQN.cell (k := 4) (by omega)
          have q5 := hQN.cell (k := 5) (by omega)
          have q6 := hQN.cell (k := 6) (by omega)
          have q7 := hQN.cell (k := 7) (by omega)
          have sA := hA9.cs
          have a0 : _ = some (Value.int .u64 (wd 0 A)) := hA9.c0
          have a1 : _ = some (Value.int .u64 (wd 1 A)) := hA9.c1
          have a2 : _ = some (Value.int .u64 (wd 2 A)) := hA9.c2
          have a3 : _ = some (Value.int .u64 (wd 3 A)) := hA9.c3
          have a4 : _ = some (Value.int .u64 (wd 4 A)) := hA9.c4
          have a5 : _ = some (Value.int .u64 (wd 5 A)) := hA9.c5
          have a6 : _ = some (Value.int .u64 (wd 6 A)) := hA9.c6
          have a7 : _ = some (Value.int .u64 (wd 7 A)) := hA9.c7
          have r8 : Row8 w4 (w.heap.size + 1) (wd 0 N) (wd 1 N) (wd 2 N) (wd 3 N) (wd 4 N) (wd 5 N) (wd 6 N) (wd 7 N) := hQN
          have r8' : RowQ (w4.setRow (w.heap.size + 1) #[.int .u64 (wd 0 (N + 1)), .int .u64 (wd 1 (N + 1)), .int .u64 (wd 2 (N + 1)), .int .u64 (wd 3 (N + 1)), .int .u64 (wd 4 (N + 1)), .int .u64 (wd 5 (N + 1)), .int .u64 (wd 6 (N + 1)), .int .u64 (wd 7 (N + 1))]) (w.heap.size + 1) (fun j => wd j (N + 1)) := r8.row _ _ _ _ _ _ _ _
          have hA9' : RowF (w4.setRow (w.heap.size + 1) #[.int .u64 (wd 0 (N + 1)), .int .u64 (wd 1 (N + 1)), .int .u64 (wd 2 (N + 1)), .int .u64 (wd 3 (N + 1)), .int .u64 (wd 4 (N + 1)), .int .u64 (wd 5 (N + 1)), .int .u64 (wd 6 (N + 1)), .int .u64 (wd 7 (N + 1))]) w.heap.size s (fun j => wd j A) := Row9.rowOther hA9 (by omega) _
          have hbel' : Below w.heap.size w (w4.setRow (w.heap.size + 1) #[.int .u64 (wd 0 (N + 1)), .int .u64 (wd 1 (N + 1)), .int .u64 (wd 2 (N + 1)), .int .u64 (wd 3 (N + 1)), .int .u64 (wd 4 (N + 1)), .int .u64 (wd 5 (N + 1)), .int .u64 (wd 6 (N + 1)), .int .u64 (wd 7 (N + 1))]) := below_setRow hbel (by omega) _
          clear hQN hA9 hbel q0 q1 q2 q3 q4 q5 q6 q7 sA a0 a1 a2 a3 a4 a5 a6 a7
          have hQN := r8'
          have hA9 := hA9'
          have hbel := hbel'
          clear r8' hA9' hbel'
          have q0 := hQN.cell (k := 0) (by omega)
          have q1 := hQN.cell (k := 1) (by omega)
          have q2 := hQN.cell (k := 2) (by omega)
          have q3 := hQN.cell (k := 3) (by omega)
          have q4 := hQN.cell (k := 4) (by omega)
          have q5 := hQN.cell (k := 5) (by omega)
          have q6 := hQN.cell (k := 6) (by omega)
          have q7 := hQN.cell (k := 7) (by omega)
          have sA := hA9.cs
          go_upto_region 18 with (refine wpList_store8 rfl (.tmp 6) (.tmp 108) rfl _ _ _ _ _ _ _ _ _ _ _ _ _ _ _ _ _ rfl rfl r8 ?_)
          generalize w4.setRow (w.heap.size + 1) #[.int .u64 (wd 0 (N + 1)), .int .u64 (wd 1 (N + 1)), .int .u64 (wd 2 (N + 1)), .int .u64 (wd 3 (N + 1)), .int .u64 (wd 4 (N + 1)), .int .u64 (wd 5 (N + 1)), .int .u64 (wd 6 (N + 1)), .int .u64 (wd 7 (N + 1))] = wq at *
          go_wp2_with fail
          refine (lower62 (N + 1) _ hN1).mono ?_
          rintro e w9 ⟨rfl, hb9⟩
          have t0 := keep_cell hb9 q0
          have t1 := keep_cell hb9 q1
          have tA := keep_cell hb9 sA
          by_cases hlt : (N + 1) < 4611686018427387904
          · rw [decide_eq_true hlt]
            have hw01 := Hid.mk'' (low_two (Q := (N + 1)) (by have := hN1; unfold In8 at this; omega) hlt)
            have b0 := wd_bd 0 ((N + 1))
            have b1 : 0 ≤ wd 1 ((N + 1)) ∧ wd 1 ((N + 1)) ≤ 1073741823 := high_two (by have := hN1; unfold In8 at this; omega) hlt
            cases s
            · go_wp2
              go_ret2
              exact ⟨ret_low false HZ.out hlt hw01.out, below_tr hbel hb9⟩
            · go_wp2
              go_ret2
              exact ⟨ret_low true HZ.out hlt (congrArg (fun z : Int => -z) hw01.out), below_tr hbel hb9⟩
          · rw [decide_eq_false hlt]
            cases s
            · go_wp2
              go_ret2
              exact ⟨ret_high false HZ.out (by omega), below_tr hbel hb9⟩
            · go_wp2
              go_ret2
              exact ⟨ret_high true HZ.out (by omega), below_tr hbel hb9⟩
        · by_cases hod : wd 0 N % 2 = 1
          · have HZ : Hid (Z = N + 1) := Hid.mk'' (by rw [HRES.out, if_pos ⟨hB, Or.inr hod⟩])
            have hodb : (wd 0 N % 2 == 1) = true := by simpa using hod
            go_wp2
            refine wp_loop_rounds 1 ?_
            rw [rounds_succ]
            go_wp2
            go_quiet (fail)
            go_wp2_with fail
            refine (join_one N _).mono ?_
            rintro e w4 ⟨rfl, hb4⟩
            have hQN2 := (hQN.drewN nq).keep hb4
            have hA92 := (hA9.drewN nq).keep hb4
            have hbel2 := below_tr (below_drewN hbel nq) hb4
            clear hQN hA9 hbel q0 q1 q2 q3 q4 q5 q6 q7 sA a0 a1 a2 a3 a4 a5 a6 a7
            have hQN := hQN2
            have hA9 := hA92
            have hbel := hbel2
            clear hQN2 hA92 hbel2
            have q0 := hQN.cell (k := 0) (by omega)
            have q1 := hQN.cell (k := 1) (by omega)
            have q2 := hQN.cell (k := 2) (by omega)
            have q3 := hQN.cell (k := 3) (by omega)
            have q4 := hQN.cell (k := 4) (by omega)
            have q5 := hQN.cell (k := 5) (by omega)
            have q6 := hQN.cell (k := 6) (by omega)
            have q7 := hQN.cell (k := 7) (by omega)
            have sA := hA9.cs
            have a0 : _ = some (Value.int .u64 (wd 0 A)) := hA9.c0
            have a1 : _ = some (Value.int .u64 (wd 1 A)) := hA9.c1
            have a2 : _ = some (Value.int .u64 (wd 2 A)) := hA9.c2
            have a3 : _ = some (Value.int .u64 (wd 3 A)) := hA9.c3
            have a4 : _ = some (Value.int .u64 (wd 4 A)) := hA9.c4
            have a5 : _ = some (Value.int .u64 (wd 5 A)) := hA9.c5
            have a6 : _ = some (Value.int .u64 (wd 6 A)) := hA9.c6
            have a7 : _ = some (Value.int .u64 (wd 7 A)) := hA9.c7
            have r8 : Row8 w4 (w.heap.size + 1) (wd 0 N) (wd 1 N) (wd 2 N) (wd 3 N) (wd 4 N) (wd 5 N) (wd 6 N) (wd 7 N) := hQN
            have r8' : RowQ (w4.setRow (w.heap.size + 1) #[.int .u64 (wd 0 (N + 1)), .int .u64 (wd 1 (N + 1)), .int .u64 (wd 2 (N + 1)), .int .u64 (wd 3 (N + 1)), .int .u64 (wd 4 (N + 1)), .int .u64 (wd 5 (N + 1)), .int .u64 (wd 6 (N + 1)), .int .u64 (wd 7 (N + 1))]) (w.heap.size + 1) (fun j => wd j (N + 1)) := r8.row _ _ _ _ _ _ _ _
            have hA9' : RowF (w4.setRow (w.heap.size + 1) #[.int .u64 (wd 0 (N + 1)), .int .u64 (wd 1 (N + 1)), .int .u64 (wd 2 (N + 1)), .int .u64 (wd 3 (N + 1)), .int .u64 (wd 4 (N + 1)), .int .u64 (wd 5 (N + 1)), .int .u64 (wd 6 (N + 1)), .int .u64 (wd 7 (N + 1))]) w.heap.size s (fun j => wd j A) := Row9.rowOther hA9 (by omega) _
            have hbel' : Below w.heap.size w (w4.setRow (w.heap.size + 1) #[.int .u64 (wd 0 (N + 1)), .int .u64 (wd 1 (N + 1)), .int .u64 (wd 2 (N + 1)), .int .u64 (wd 3 (N + 1)), .int .u64 (wd 4 (N + 1)), .int .u64 (wd 5 (N + 1)), .int .u64 (wd 6 (N + 1)), .int .u64 (wd 7 (N + 1))]) := below_setRow hbel (by omega) _
            clear hQN hA9 hbel q0 q1 q2 q3 q4 q5 q6 q7 sA a0 a1 a2 a3 a4 a5 a6 a7
            have hQN := r8'
            have hA9 := hA9'
            have hbel := hbel'
            clear r8' hA9' hbel'
            have q0 := hQN.cell (k := 0) (by omega)
            have q1 := hQN.cell (k := 1) (by omega)
            have q2 := hQN.cell (k := 2) (by omega)
            have q3 := hQN.cell (k := 3) (by omega)
            have q4 := hQN.cell (k := 4) (by omega)
            have q5 := hQN.cell (k := 5) (by omega)
            have q6 := hQN.cell (k := 6) (by omega)
            have q7 := hQN.cell (k := 7) (by omega)
            have sA := hA9.cs
            go_upto_region 18 with (refine wpList_store8 rfl (.tmp 6) (.tmp 108) rfl _ _ _ _ _ _ _ _ _ _ _ _ _ _ _ _ _ rfl rfl r8 ?_)
            generalize w4.setRow (w.heap.size + 1) #[.int .u64 (wd 0 (N + 1)), .int .u64 (wd 1 (N + 1)), .int .u64 (wd 2 (N + 1)), .int .u64 (wd 3 (N + 1)), .int .u64 (wd 4 (N + 1)), .int .u64 (wd 5 (N + 1)), .int .u64 (wd 6 (N + 1)), .int .u64 (wd 7 (N + 1))] = wq at *
            go_wp2_with fail
            refine (lower62 (N + 1) _ hN1).mono ?_
            rintro e w9 ⟨rfl, hb9⟩
            have t0 := keep_cell hb9 q0
            have t1 := keep_cell hb9 q1
            have tA := keep_cell hb9 sA
            by_cases hlt : (N + 1) < 4611686018427387904
            · rw [decide_eq_true hlt]
              have hw01 := Hid.mk'' (low_two (Q := (N + 1)) (by have := hN1; unfold In8 at this; omega) hlt)
              have b0 := wd_bd 0 ((N + 1))
              have b1 : 0 ≤ wd 1 ((N + 1)) ∧ wd 1 ((N + 1)) ≤ 1073741823 := high_two (by have := hN1; unfold In8 at this; omega) hlt
              cases s
              · go_wp2
                go_ret2
                exact ⟨ret_low false HZ.out hlt hw01.out, below_tr hbel hb9⟩
              · go_wp2
                go_ret2
                exact ⟨ret_low true HZ.out hlt (congrArg (fun z : Int => -z) hw01.out), below_tr hbel hb9⟩
            · rw [decide_eq_false hlt]
              cases s
              · go_wp2
                go_ret2
                exact ⟨ret_high false HZ.out (by omega), below_tr hbel hb9⟩
              · go_wp2
                go_ret2
                exact ⟨ret_high true HZ.out (by omega), below_tr hbel hb9⟩
          · have HZ : Hid (Z = N) := Hid.mk'' (by rw [HRES.out, if_neg (by intro h; rcases h.2 with (h2 | h2) | h2 <;> omega)])
            have hodb : (wd 0 N % 2 == 1) = false := by simpa using hod
            go_wp2
            refine wp_loop_rounds 1 ?_
            rw [rounds_succ]
            go_wp2
            go_quiet (fail)
            go_wp2_with fail
            refine (lower62 N _ hN).mono ?_
            rintro e w9 ⟨rfl, hb9⟩
            have t0 := keep_cell hb9 q0
            have t1 := keep_cell hb9 q1
            have tA := keep_cell hb9 sA
            by_cases hlt : N < 4611686018427387904
            · rw [decide_eq_true hlt]
              have hw01 := Hid.mk'' (low_two (Q := N) (by have := hN; unfold In8 at this; omega) hlt)
              have b0 := wd_bd 0 (N)
              have b1 : 0 ≤ wd 1 (N) ∧ wd 1 (N) ≤ 1073741823 := high_two (by have := hN; unfold In8 at this; omega) hlt
              cases s
              · go_wp2
                go_ret2
                exact ⟨ret_low false HZ.out hlt hw01.out, below_tr (below_drewN hbel _) hb9⟩
              · go_wp2
                go_ret2
                exact ⟨ret_low true HZ.out hlt (congrArg (fun z : Int => -z) hw01.out), below_tr (below_drewN hbel _) hb9⟩
            · rw [decide_eq_false hlt]
              cases s
              · go_wp2
                go_ret2
                exact ⟨ret_high false HZ.out (by omega), below_tr (below_drewN hbel _) hb9⟩
              · go_wp2
                go_ret2
                exact ⟨ret_high true HZ.out (by omega), below_tr (below_drewN hbel _) hb9⟩

set_option maxRecDepth 20000 in
set_option maxHeartbeats 1000000 in
theorem by_high (s : Bool) (A D E N : Int) (sh u : Nat) (w : World) (hA : In8 A) (hN : In8 N) (hsh : sh ≤ 31) (hu : sh + u = 32) (hD : (2 : Int) ^ sh = D) (hE : (2 : Int) ^ u = E) (HN : Hid (N = A / (4294967296 ^ 1 * D))) (F : Int) (v : Nat) (hv31 : v ≤ 31) (hF : (2 : Int) ^ v = F) (hN1 : In8 (N + 1)) (Z : Int) (HRES : Hid (Z = if wd 1 A / F % 2 = 1 ∧ ((0 < wd 0 A ∨ 0 < wd 1 A % F) ∨ wd 0 N % 2 = 1) then N + 1 else N)) (Hv : Hid (sh = v + 1)) :
    Calls Tryd.prog 62 #[(.agg #[.bool s, .int .u64 (wd 0 A), .int .u64 (wd 1 A), .int .u64 (wd 2 A), .int .u64 (wd 3 A), .int .u64 (wd 4 A), .int .u64 (wd 5 A), .int .u64 (wd 6 A), .int .u64 (wd 7 A)]), .int .i64 (32 + (sh : Int))] w fun e w' => e = .returned (res s Z) ∧ Below w.heap.size w w' := by
  have hD0 : 0 < D := by rw [← hD]; exact Int.pow_pos (by omega)
  have hE0 : 0 < E := by rw [← hE]; exact Int.pow_pos (by omega)
  have HDE : Hid (D * E = 4294967296) := Hid.mk'' (by rw [← hD, ← hE, ← Int.pow_add, hu]; rfl)
  have hDW : D ≤ 4294967296 := by
    have : D * 1 ≤ D * E := Int.mul_le_mul_of_nonneg_left (by omega) (by omega)
    rw [HDE.out] at this; omega
  have hEW : E ≤ 4294967296 := by
    have : 1 * E ≤ D * E := Int.mul_le_mul_of_nonneg_right (by omega) (by omega)
    rw [HDE.out] at this; omega
  have hq : (32 + (sh : Int)) / 32 = 1 := by omega
  have hr : (32 + (sh : Int)) % 32 = (sh : Int) := by omega
  have hk : 32 - (sh : Int) = (u : Int) := by omega
  have s0 : (0 : Int) ≤ (sh : Int) := by omega
  have s1 : (sh : Int) ≤ 31 := by omega
  have u0 : (0 : Int) ≤ (u : Int) := by omega
  have u1 : (u : Int) ≤ 32 := by omega
  clear hu
  go_enter Tryd.func62, Tryd.ntmps62
  go_wp2
  go_loopw [9] (fun i wr => ∃ k : Nat, k ≤ 8 - 1 ∧ i = .int .i64 (k : Int) ∧ RowQ wr (w.heap.size + 1) (mixf k (fun j => wd j N) (fun _ => 0)) ∧ RowF wr w.heap.size s (fun j => wd j A) ∧ Below w.heap.size w wr) (fun i _ => 8 - (intOf i).toNat)
  case atStart => exact ⟨0, by omega, rfl, row8_at (w.alloc _) (by simp) _ _ _ _ _ _ _ _, (row9_new w _ _ _ _ _ _ _ _ _).alloc _, below_al (below_al (Below.refl _ _) _) _⟩
  case round =>
    obtain ⟨k, hk8, rfl, hQ, hA9, hbel⟩ := hrel
    by_cases h8 : k < 8 - 1
    · have cA : wr.cell? ⟨w.heap.size, 1 + (k + 1), none⟩ = some (.int .u64 (wd (k + 1) A)) := hA9.cell (k := k + 1) (by omega)
      have w0 := wd_bd (k + 1) A
      have w1 := wd_bd (k + 1 + 1) A
      have cQ := hQ.cell (k := k) (by omega)
      have fQ := hQ.free k
      have SW := Hid.mk'' (shift_words A D E 1 k hD0 hE0 HDE.out)
      rw [← HN.out] at SW
      have HS := Hid.mk'' (fun (w' : World) (d : Nat → Int) (h : RowQ w' (w.heap.size + 1) d) (v : Int) => h.set v (k := k) (by omega))
      have TOP := Hid.mk'' (wd_top hA)
      have cA2 : k + 1 + 1 < 8 → wr.cell? ⟨w.heap.size, 1 + (k + 1 + 1), none⟩ = some (.int .u64 (wd (k + 1 + 1) A)) := fun h => hA9.cell (k := k + 1 + 1) h
      obtain ⟨P, hP⟩ : ∃ P, P = wd (k + 1) A := ⟨_, rfl⟩
      obtain ⟨R, hR⟩ : ∃ R, R = wd (k + 1 + 1) A := ⟨_, rfl⟩
      have HR := Hid.mk'' hR
      rw [← hP] at cA w0
      rw [← hR] at cA2 w1
      have HP := Hid.mk'' hP
      clear hP hR
      have p0 : 0 ≤ P / D := Int.ediv_nonneg w0.1 (by omega)
      have p1 : P / D ≤ 4294967295 := Int.le_trans (Int.ediv_le_self D w0.1) w0.2
      have r0 : 0 ≤ R * E := Int.mul_nonneg w1.1 (by omega)
      have r1 : R * E ≤ 4294967295 * 4294967296 := Int.mul_le_mul w1.2 hEW (by omega) (by omega)
      by_cases h2 : k + 1 + 1 < 8
      · have cA3 := cA2 h2
        clear cA2
        go_wp2
        go_region
        all_goals go_wp2
        all_goals go_roundw
        case rel =>
          refine ⟨k + 1, by omega, by go_num, ((HS.out _ _ (HS.out _ _ hQ _) _).congr ?_).drew, (hA9.other _ (show w.heap.size ≠ w.heap.size + 1 by omega)).other _ (show w.heap.size ≠ w.heap.size + 1 by omega), ((hbel.setCell (p := ⟨w.heap.size + 1, k, none⟩) (show w.heap.size ≤ w.heap.size + 1 by omega) _).setCell (p := ⟨w.heap.size + 1, k, none⟩) (show w.heap.size ≤ w.heap.size + 1 by omega) _).drew⟩
          intro j _
          unfold mixf
          by_cases e : j = k
          · subst e; rw [if_pos rfl, if_pos (by omega), HP.out, HR.out]; exact SW.out.symm
          · rw [if_neg e, if_neg e]
            by_cases e2 : j < k
            · rw [if_pos e2, if_pos (by omega)]
            · rw [if_neg e2, if_neg (by omega)]
        case measure => simp [intOf]; omega
      · clear cA2
        go_wp2
        go_roundw
        case rel =>
          refine ⟨k + 1, by omega, by go_num, (HS.out _ _ hQ _).congr ?_, hA9.other _ (show w.heap.size ≠ w.heap.size + 1 by omega), hbel.setCell (p := ⟨w.heap.size + 1, k, none⟩) (show w.heap.size ≤ w.heap.size + 1 by omega) _⟩
          intro j _
          unfold mixf
          by_cases e : j = k
          · subst e
            have z := TOP.out (j + 1 + 1) (by omega)
            have sw := SW.out
            rw [z, Int.zero_mul] at sw
            rw [if_pos rfl, if_pos (by omega), HP.out]
            show _ = wd j N
            rw [sw]; simp
          · rw [if_neg e]
            by_cases e2 : j < k
            · rw [if_pos e2, if_pos (by omega)]
            · rw [if_neg e2, if_neg (by omega)]
        case measure => simp [intOf]; omega
    · have hQN : RowQ wr (w.heap.size + 1) (fun j => wd j N) := by
        refine hQ.congr ?_
        intro j hj
        unfold mixf
        by_cases e : j < k
        · rw [if_pos e]
        · rw [if_neg e]
          have e7 : j = 7 := by omega
          have sw := shift_words A D E 1 j hD0 hE0 (by rw [← hD, ← hE, ← Int.pow_add]; exact (by have h := hk; rw [show sh + u = 32 by omega]; rfl))
          rw [← HN.out, wd_top hA (j + 1) (by omega), wd_top hA (j + 1 + 1) (by omega)] at sw
          show 0 = wd j N
          rw [sw]; simp
      have hk9 : 8 ≤ k + 1 := by omega
      clear hQ h8 HDE
      have q0 := hQN.cell (k := 0) (by omega)
      have q1 := hQN.cell (k := 1) (by omega)
      have q2 := hQN.cell (k := 2) (by omega)
      have q3 := hQN.cell (k := 3) (by omega)
      have q4 := hQN.cell (k := 4) (by omega)
      have q5 := hQN.cell (k := 5) (by omega)
      have q6 := hQN.cell (k := 6) (by omega)
      have q7 := hQN.cell (k := 7) (by omega)
      have sA := hA9.cs
      have a0 : _ = some (Value.int .u64 (wd 0 A)) := hA9.c0
      have a1 : _ = some (Value.int .u64 (wd 1 A)) := hA9.c1
      have a2 : _ = some (Value.int .u64 (wd 2 A)) := hA9.c2
      have a3 : _ = some (Value.int .u64 (wd 3 A)) := hA9.c3
      have a4 : _ = some (Value.int .u64 (wd 4 A)) := hA9.c4
      have a5 : _ = some (Value.int .u64 (wd 5 A)) := hA9.c5
      have a6 : _ = some (Value.int .u64 (wd 6 A)) := hA9.c6
      have a7 : _ = some (Value.int .u64 (wd 7 A)) := hA9.c7
      have e0 : (sh : Int) = (v : Int) + 1 := by have := Hv.out; omega
      have hv1 : 32 + (sh : Int) - 1 = 32 + (v : Int) := by omega
      have hv2 : (32 + (v : Int)) / 32 = 1 := by omega
      have hv3 : (32 + (v : Int)) % 32 = (v : Int) := by omega
      have hv8 : (32 + (v : Int)).tdiv 32 = 1 := by rw [Int.tdiv_eq_ediv_of_nonneg (by omega)]; omega
      have hv9 : (32 + (v : Int)).tmod 32 = (v : Int) := by rw [Int.tmod_eq_emod_of_nonneg (by omega)]; omega
      have hvx : IntKind.i64.wrap (32 + (v : Int)) = 32 + (v : Int) := by rw [IntKind.wrap_i64]; omega
      clear e0
      have v0 : (0 : Int) ≤ (v : Int) := by omega
      have v1 : (v : Int) ≤ 31 := by omega
      have hvw : IntKind.i64.wrap (v : Int) = (v : Int) := by rw [IntKind.wrap_i64]; omega
      obtain ⟨hF1, hF2, hfw⟩ := wrap_pow hv31 hF
      have hF0 : 0 < F := by rw [← hF]; exact Int.pow_pos (by omega)
      have wM := wd_bd 1 A
      have wN := wd_bd 0 N
      have rm0 : 0 ≤ wd 1 A % F := Int.emod_nonneg _ (by omega)
      have rm1 : wd 1 A % F < F := Int.emod_lt_of_pos _ hF0
      go_wp2_with fail
      refine (lbit_1 A F v _ hv31 hF).mono ?_
      rintro e w2 ⟨rfl, hb2⟩
      have hQN2 := hQN.keep hb2
      have hA92 := hA9.keep hb2
      have hbel2 := below_tr hbel hb2
      clear hQN hA9 hbel q0 q1 q2 q3 q4 q5 q6 q7 sA a0 a1 a2 a3 a4 a5 a6 a7
      have hQN := hQN2
      have hA9 := hA92
      have hbel := hbel2
      clear hQN2 hA92 hbel2
      have q0 := hQN.cell (k := 0) (by omega)
      have q1 := hQN.cell (k := 1) (by omega)
      have q2 := hQN.cell (k := 2) (by omega)
      have q3 := hQN.cell (k := 3) (by omega)
      have q4 := hQN.cell (k := 4) (by omega)
      have q5 := hQN.cell (k := 5) (by omega)
      have q6 := hQN.cell (k := 6) (by omega)
      have q7 := hQN.cell (k := 7) (by omega)
      have sA := hA9.cs
      have a0 : _ = some (Value.int .u64 (wd 0 A)) := hA9.c0
      have a1 : _ = some (Value.int .u64 (wd 1 A)) := hA9.c1
      have a2 : _ = some (Value.int .u64 (wd 2 A)) := hA9.c2
      have a3 : _ = some (Value.int .u64 (wd 3 A)) := hA9.c3
      have a4 : _ = some (Value.int .u64 (wd 4 A)) := hA9.c4
      have a5 : _ = some (Value.int .u64 (wd 5 A)) := hA9.c5
      have a6 : _ = some (Value.int .u64 (wd 6 A)) := hA9.c6
      have a7 : _ = some (Value.int .u64 (wd 7 A)) := hA9.c7
      rcases Int.emod_two_eq (wd 1 A / F) with hB | hB
      · rw [hB]
        have HZ : Hid (Z = N) := Hid.mk'' (by rw [HRES.out, if_neg (by intro h; have := h.1; omega)])
        go_wp2_with fail
        refine (lower62 N _ hN).mono ?_
        rintro e w9 ⟨rfl, hb9⟩
        have t0 := keep_cell hb9 q0
        have t1 := keep_cell hb9 q1
        have tA := keep_cell hb9 sA
        by_cases hlt : N < 4611686018427387904
        · rw [decide_eq_true hlt]
          have hw01 := Hid.mk'' (low_two (Q := N) (by have := hN; unfold In8 at this; omega) hlt)
          have b0 := wd_bd 0 (N)
          have b1 : 0 ≤ wd 1 (N) ∧ wd 1 (N) ≤ 1073741823 := high_two (by have := hN; unfold In8 at this; omega) hlt
          cases s
          · go_wp2
            go_ret2
            exact ⟨ret_low false HZ.out hlt hw01.out, below_tr hbel hb9⟩
          · go_wp2
            go_ret2
            exact ⟨ret_low true HZ.out hlt (congrArg (fun z : Int => -z) hw01.out), below_tr hbel hb9⟩
        · rw [decide_eq_false hlt]
          cases s
          · go_wp2
            go_ret2
            exact ⟨ret_high false HZ.out (by omega), below_tr hbel hb9⟩
          · go_wp2
            go_ret2
            exact ⟨ret_high true HZ.out (by omega), below_tr hbel hb9⟩
      · rw [hB]
        have w00 := wd_bd 0 A
        by_cases hR0 : 0 < wd 0 A
        · have HZ : Hid (Z = N + 1) := Hid.mk'' (by rw [HRES.out, if_pos ⟨hB, Or.inl (Or.inl hR0)⟩])
          go_wp2
          refine wp_loop_rounds 2 ?_
          rw [rounds_succ]
          go_wp2
          rw [rounds_succ]
          go_wp2
          go_quiet (fail)
          go_wp2_with fail
          refine (join_one N _).mono ?_
          rintro e w4 ⟨rfl, hb4⟩
          have hQN2 := (hQN.drewN nq).keep hb4
          have hA92 := (hA9.drewN nq).keep hb4
          have hbel2 := below_tr (below_drewN hbel nq) hb4
          clear hQN hA9 hbel q0 q1 q2 q3 q4 q5 q6 q7 sA a0 a1 a2 a3 a4 a5 a6 a7
          have hQN := hQN2
          have hA9 := hA92
          have hbel := hbel2
          clear hQN2 hA92 hbel2
          have q0 := hQN.cell (k := 0) (by omega)
          have q1 := hQN.cell (k := 1) (by omega)
          have q2 := hQN.cell (k := 2) (by omega)
          have q3 := hQN.cell (k := 3) (by omega)
          have q4 := hQN.cell (k := 4) (by omega)
          have q5 := hQN.cell (k := 5) (by omega)
          have q6 := hQN.cell (k := 6) (by omega)
          have q7 := hQN.cell (k := 7) (by omega)
          have sA := hA9.cs
          have a0 : _ = some (Value.int .u64 (wd 0 A)) := hA9.c0
          have a1 : _ = some (Value.int .u64 (wd 1 A)) := hA9.c1
          have a2 : _ = some (Value.int .u64 (wd 2 A)) := hA9.c2
          have a3 : _ = some (Value.int .u64 (wd 3 A)) := hA9.c3
          have a4 : _ = some (Value.int .u64 (wd 4 A)) := hA9.c4
          have a5 : _ = some (Value.int .u64 (wd 5 A)) := hA9.c5
          have a6 : _ = some (Value.int .u64 (wd 6 A)) := hA9.c6
          have a7 : _ = some (Value.int .u64 (wd 7 A)) := hA9.c7
          have r8 : Row8 w4 (w.heap.size + 1) (wd 0 N) (wd 1 N) (wd 2 N) (wd 3 N) (wd 4 N) (wd 5 N) (wd 6 N) (wd 7 N) := hQN
          have r8' : RowQ (w4.setRow (w.heap.size + 1) #[.int .u64 (wd 0 (N + 1)), .int .u64 (wd 1 (N + 1)), .int .u64 (wd 2 (N + 1)), .int .u64 (wd 3 (N + 1)), .int .u64 (wd 4 (N + 1)), .int .u64 (wd 5 (N + 1)), .int .u64 (wd 6 (N + 1)), .int .u64 (wd 7 (N + 1))]) (w.heap.size + 1) (fun j => wd j (N + 1)) := r8.row _ _ _ _ _ _ _ _
          have hA9' : RowF (w4.setRow (w.heap.size + 1) #[.int .u64 (wd 0 (N + 1)), .int .u64 (wd 1 (N + 1)), .int .u64 (wd 2 (N + 1)), .int .u64 (wd 3 (N + 1)), .int .u64 (wd 4 (N + 1)), .int .u64 (wd 5 (N + 1)), .int .u64 (wd 6 (N + 1)), .int .u64 (wd 7 (N + 1))]) w.heap.size s (fun j => wd j A) := Row9.rowOther hA9 (by omega) _
          have hbel' : Below w.heap.size w (w4.setRow (w.heap.size + 1) #[.int .u64 (wd 0 (N + 1)), .int .u64 (wd 1 (N + 1)), .int .u64 (wd 2 (N + 1)), .int .u64 (wd 3 (N + 1)), .int .u64 (wd 4 (N + 1)), .int .u64 (wd 5 (N + 1)), .int .u64 (wd 6 (N + 1)), .int .u64 (wd 7 (N + 1))]) := below_setRow hbel (by omega) _
          clear hQN hA9 hbel q0 q1 q2 q3 q4 q5 q6 q7 sA a0 a1 a2 a3 a4 a5 a6 a7
          have hQN := r8'
          have hA9 := hA9'
          have hbel := hbel'
          clear r8' hA9' hbel'
          have q0 := hQN.cell (k := 0) (by omega)
          have q1 := hQN.cell (k := 1) (by omega)
          have q2 := hQN.cell (k := 2) (by omega)
          have q3 := hQN.cell (k := 3) (by omega)
          have q4 := hQN.cell (k := 4) (by omega)
          have q5 := hQN.cell (k := 5) (by omega)
          have q6 := hQN.cell (k := 6) (by omega)
          have q7 := hQN.cell (k := 7) (by omega)
          have sA := hA9.cs
          go_upto_region 18 with (refine wpList_store8 rfl (.tmp 6) (.tmp 108) rfl _ _ _ _ _ _ _ _ _ _ _ _ _ _ _ _ _ rfl rfl r8 ?_)
          generalize w4.setRow (w.heap.size + 1) #[.int .u64 (wd 0 (N + 1)), .int .u64 (wd 1 (N + 1)), .int .u64 (wd 2 (N + 1)), .int .u64 (wd 3 (N + 1)), .int .u64 (wd 4 (N + 1)), .int .u64 (wd 5 (N + 1)), .int .u64 (wd 6 (N + 1)), .int .u64 (wd 7 (N + 1))] = wq at *
          go_wp2_with fail
          refine (lower62 (N + 1) _ hN1).mono ?_
          rintro e w9 ⟨rfl, hb9⟩
          have t0 := keep_cell hb9 q0
          have t1 := keep_cell hb9 q1
          have tA := keep_cell hb9 sA
          by_cases hlt : (N + 1) < 4611686018427387904
          · rw [decide_eq_true hlt]
            have hw01 := Hid.mk'' (low_two (Q := (N + 1)) (by have := hN1; unfold In8 at this; omega) hlt)
            have b0 := wd_bd 0 ((N + 1))
            have b1 : 0 ≤ wd 1 ((N + 1)) ∧ wd 1 ((N + 1)) ≤ 1073741823 := high_two (by have := hN1; unfold In8 at this; omega) hlt
            cases s
            · go_wp2
              go_ret2
              exact ⟨ret_low false HZ.out hlt hw01.out, below_tr hbel hb9⟩
            · go_wp2
              go_ret2
              exact ⟨ret_low true HZ.out hlt (congrArg (fun z : Int => -z) hw01.out), below_tr hbel hb9⟩
          · rw [decide_eq_false hlt]
            cases s
            · go_wp2
              go_ret2
              exact ⟨ret_high false HZ.out (by omega), below_tr hbel hb9⟩
            · go_wp2
              go_ret2
              exact ⟨ret_high true HZ.out (by omega), below_tr hbel hb9⟩
        · have hR0b : decide (0 < wd 0 A) = false := decide_eq_false hR0
          by_cases hR1 : 0 < wd 1 A % F
          · have HZ : Hid (Z = N + 1) := Hid.mk'' (by rw [HRES.out, if_pos ⟨hB, Or.inl (Or.inr hR1)⟩])
            go_wp2
            refine wp_loop_rounds 2 ?_
            rw [rounds_succ]
            go_wp2
            rw [rounds_succ]
            go_wp2
            go_quiet (fail)
            go_wp2_with fail
            refine (join_one N _).mono ?_
            rintro e w4 ⟨rfl, hb4⟩
            have hQN2 := (hQN.drewN nq).keep hb4
            have hA92 := (hA9.drewN nq).keep hb4
            have hbel2 := below_tr (below_drewN hbel nq) hb4
            clear hQN hA9 hbel q0 q1 q2 q3 q4 q5 q6 q7 sA a0 a1 a2 a3 a4 a5 a6 a7
            have hQN := hQN2
            have hA9 := hA92
            have hbel := hbel2
            clear hQN2 hA92 hbel2
            have q0 := hQN.cell (k := 0) (by omega)
            have q1 := hQN.cell (k := 1) (by omega)
            have q2 := hQN.cell (k := 2) (by omega)
            have q3 := hQN.cell (k := 3) (by omega)
            have q4 := hQN.cell (k := 4) (by omega)
            have q5 := hQN.cell (k := 5) (by omega)
            have q6 := hQN.cell (k := 6) (by omega)
            have q7 := hQN.cell (k := 7) (by omega)
            have sA := hA9.cs
            have a0 : _ = some (Value.int .u64 (wd 0 A)) := hA9.c0
            have a1 : _ = some (Value.int .u64 (wd 1 A)) := hA9.c1
            have a2 : _ = some (Value.int .u64 (wd 2 A)) := hA9.c2
            have a3 : _ = some (Value.int .u64 (wd 3 A)) := hA9.c3
            have a4 : _ = some (Value.int .u64 (wd 4 A)) := hA9.c4
            have a5 : _ = some (Value.int .u64 (wd 5 A)) := hA9.c5
            have a6 : _ = some (Value.int .u64 (wd 6 A)) := hA9.c6
            have a7 : _ = some (Value.int .u64 (wd 7 A)) := hA9.c7
            have r8 : Row8 w4 (w.heap.size + 1) (wd 0 N) (wd 1 N) (wd 2 N) (wd 3 N) (wd 4 N) (wd 5 N) (wd 6 N) (wd 7 N) := hQN
            have r8' : RowQ (w4.setRow (w.heap.size + 1) #[.int .u64 (wd 0 (N + 1)), .int .u64 (wd 1 (N + 1)), .int .u64 (wd 2 (N + 1)), .int .u64 (wd 3 (N + 1)), .int .u64 (wd 4 (N + 1)), .int .u64 (wd 5 (N + 1)), .int .u64 (wd 6 (N + 1)), .int .u64 (wd 7 (N + 1))]) (w.heap.size + 1) (fun j => wd j (N + 1)) := r8.row _ _ _ _ _ _ _ _
            have hA9' : RowF (w4.setRow (w.heap.size + 1) #[.int .u64 (wd 0 (N + 1)), .int .u64 (wd 1 (N + 1)), .int .u64 (wd 2 (N + 1)), .int .u64 (wd 3 (N + 1)), .int .u64 (wd 4 (N + 1)), .int .u64 (wd 5 (N + 1)), .int .u64 (wd 6 (N + 1)), .int .u64 (wd 7 (N + 1))]) w.heap.size s (fun j => wd j A) := Row9.rowOther hA9 (by omega) _
            have hbel' : Below w.heap.size w (w4.setRow (w.heap.size + 1) #[.int .u64 (wd 0 (N + 1)), .int .u64 (wd 1 (N + 1)), .int .u64 (wd 2 (N + 1)), .int .u64 (wd 3 (N + 1)), .int .u64 (wd 4 (N + 1)), .int .u64 (wd 5 (N + 1)), .int .u64 (wd 6 (N + 1)), .int .u64 (wd 7 (N + 1))]) := below_setRow hbel (by omega) _
            clear hQN hA9 hbel q0 q1 q2 q3 q4 q5 q6 q7 sA a0 a1 a2 a3 a4 a5 a6 a7
            have hQN := r8'
            have hA9 := hA9'
            have hbel := hbel'
            clear r8' hA9' hbel'
            have q0 := hQN.cell (k := 0) (by omega)
            have q1 := hQN.cell (k := 1) (by omega)
            have q2 := hQN.cell (k := 2) (by omega)
            have q3 := hQN.cell (k := 3) (by omega)
            have q4 := hQN.cell (k := 4) (by omega)
            have q5 := hQN.cell (k := 5) (by omega)
            have q6 := hQN.cell (k := 6) (by omega)
            have q7 := hQN.cell (k := 7) (by omega)
            have sA := hA9.cs
            go_upto_region 18 with (refine wpList_store8 rfl (.tmp 6) (.tmp 108) rfl _ _ _ _ _ _ _ _ _ _ _ _ _ _ _ _ _ rfl rfl r8 ?_)
            generalize w4.setRow (w.heap.size + 1) #[.int .u64 (wd 0 (N + 1)), .int .u64 (wd 1 (N + 1)), .int .u64 (wd 2 (N + 1)), .int .u64 (wd 3 (N + 1)), .int .u64 (wd 4 (N + 1)), .int .u64 (wd 5 (N + 1)), .int .u64 (wd 6 (N + 1)), .int .u64 (wd 7 (N + 1))] = wq at *
            go_wp2_with fail
            refine (lower62 (N + 1) _ hN1).mono ?_
            rintro e w9 ⟨rfl, hb9⟩
            have t0 := keep_cell hb9 q0
            have t1 := keep_cell hb9 q1
            have tA := keep_cell hb9 sA
            by_cases hlt : (N + 1) < 4611686018427387904
            · rw [decide_eq_true hlt]
              have hw01 := Hid.mk'' (low_two (Q := (N + 1)) (by have := hN1; unfold In8 at this; omega) hlt)
              have b0 := wd_bd 0 ((N + 1))
              have b1 : 0 ≤ wd 1 ((N + 1)) ∧ wd 1 ((N + 1)) ≤ 1073741823 := high_two (by have := hN1; unfold In8 at this; omega) hlt
              cases s
              · go_wp2
                go_ret2
                exact ⟨ret_low false HZ.out hlt hw01.out, below_tr hbel hb9⟩
              · go_wp2
                go_ret2
                exact ⟨ret_low true HZ.out hlt (congrArg (fun z : Int => -z) hw01.out), below_tr hbel hb9⟩
            · rw [decide_eq_false hlt]
              cases s
              · go_wp2
                go_ret2
                exact ⟨ret_high false HZ.out (by omega), below_tr hbel hb9⟩
              · go_wp2
                go_ret2
                exact ⟨ret_high true HZ.out (by omega), below_tr hbel hb9⟩
          · by_cases hod : wd 0 N % 2 = 1
            · have HZ : Hid (Z = N + 1) := Hid.mk'' (by rw [HRES.out, if_pos ⟨hB, Or.inr hod⟩])
              have hodb : (wd 0 N % 2 == 1) = true := by simpa using hod
              go_wp2
              refine wp_loop_rounds 2 ?_
              rw [rounds_succ]
              go_wp2
              rw [rounds_succ]
              go_wp2
              go_quiet (fail)
              go_wp2_with fail
              refine (join_one N _).mono ?_
              rintro e w4 ⟨rfl, hb4⟩
              have hQN2 := (hQN.drewN nq).keep hb4
              have hA92 := (hA9.drewN nq).keep hb4
              have hbel2 := below_tr (below_drewN hbel nq) hb4
              clear hQN hA9 hbel q0 q1 q2 q3 q4 q5 q6 q7 sA a0 a1 a2 a3 a4 a5 a6 a7
              have hQN := hQN2
              have hA9 := hA92
              have hbel := hbel2
              clear hQN2 hA92 hbel2
              have q0 := hQN.cell (k := 0) (by omega)
              have q1 := hQN.cell (k := 1) (by omega)
              have q2 := hQN.cell (k := 2) (by omega)
              have q3 := hQN.cell (k := 3) (by omega)
              have q4 := hQN.cell (k := 4) (by omega)
              have q5 := hQN.cell (k := 5) (by omega)
              have q6 := hQN.cell (k := 6) (by omega)
              have q7 := hQN.cell (k := 7) (by omega)
              have sA := hA9.cs
              have a0 : _ = some (Value.int .u64 (wd 0 A)) := hA9.c0
              have a1 : _ = some (Value.int .u64 (wd 1 A)) := hA9.c1
              have a2 : _ = some (Value.int .u64 (wd 2 A)) := hA9.c2
              have a3 : _ = some (Value.int .u64 (wd 3 A)) := hA9.c3
              have a4 : _ = some (Value.int .u64 (wd 4 A)) := hA9.c4
              have a5 : _ = some (Value.int .u64 (wd 5 A)) := hA9.c5
              have a6 : _ = some (Value.int .u64 (wd 6 A)) := hA9.c6
              have a7 : _ = some (Value.int .u64 (wd 7 A)) := hA9.c7
              have r8 : Row8 w4 (w.heap.size + 1) (wd 0 N) (wd 1 N) (wd 2 N) (wd 3 N) (wd 4 N) (wd 5 N) (wd 6 N) (wd 7 N) := hQN
              have r8' : RowQ (w4.setRow (w.heap.size + 1) #[.int .u64 (wd 0 (N + 1)), .int .u64 (wd 1 (N + 1)), .int .u64 (wd 2 (N + 1)), .int .u64 (wd 3 (N + 1)), .int .u64 (wd 4 (N + 1)), .int .u64 (wd 5 (N + 1)), .int .u64 (wd 6 (N + 1)), .int .u64 (wd 7 (N + 1))]) (w.heap.size + 1) (fun j => wd j (N + 1)) := r8.row _ _ _ _ _ _ _ _
              have hA9' : RowF (w4.setRow (w.heap.size + 1) #[.int .u64 (wd 0 (N + 1)), .int .u64 (wd 1 (N + 1)), .int .u64 (wd 2 (N + 1)), .int .u64 (wd 3 (N + 1)), .int .u64 (wd 4 (N + 1)), .int .u64 (wd 5 (N + 1)), .int .u64 (wd 6 (N + 1)), .int .u64 (wd 7 (N + 1))]) w.heap.size s (fun j => wd j A) := Row9.rowOther hA9 (by omega) _
              have hbel' : Below w.heap.size w (w4.setRow (w.heap.size + 1) #[.int .u64 (wd 0 (N + 1)), .int .u64 (wd 1 (N + 1)), .int .u64 (wd 2 (N + 1)), .int .u64 (wd 3 (N + 1)), .int .u64 (wd 4 (N + 1)), .int .u64 (wd 5 (N + 1)), .int .u64 (wd 6 (N + 1)), .int .u64 (wd 7 (N + 1))]) := below_setRow hbel (by omega) _
              clear hQN hA9 hbel q0 q1 q2 q3 q4 q5 q6 q7 sA a0 a1 a2 a3 a4 a5 a6 a7
              have hQN := r8'
              have hA9 := hA9'
              have hbel := hbel'
              clear r8' hA9' hbel'
              have q0 := hQN.cell (k := 0) (by omega)
              have q1 := hQN.cell (k := 1) (by omega)
              have q2 := hQN.cell (k := 2) (by omega)
              have q3 := hQN.cell (k := 3) (by omega)
              have q4 := hQN.cell (k := 4) (by omega)
              have q5 := hQN.cell (k := 5) (by omega)
              have q6 := hQN.cell (k := 6) (by omega)
              have q7 := hQN.cell (k := 7) (by omega)
              have sA := hA9.cs
              go_upto_region 18 with (refine wpList_store8 rfl (.tmp 6) (.tmp 108) rfl _ _ _ _ _ _ _ _ _ _ _ _ _ _ _ _ _ rfl rfl r8 ?_)
              generalize w4.setRow (w.heap.size + 1) #[.int .u64 (wd 0 (N + 1)), .int .u64 (wd 1 (N + 1)), .int .u64 (wd 2 (N + 1)), .int .u64 (wd 3 (N + 1)), .int .u64 (wd 4 (N + 1)), .int .u64 (wd 5 (N + 1)), .int .u64 (wd 6 (N + 1)), .int .u64 (wd 7 (N + 1))] = wq at *
              go_wp2_with fail
              refine (lower62 (N + 1) _ hN1).mono ?_
              rintro e w9 ⟨rfl, hb9⟩
              have t0 := keep_cell hb9 q0
              have t1 := keep_cell hb9 q1
              have tA := keep_cell hb9 sA
              by_cases hlt : (N + 1) < 4611686018427387904
              · rw [decide_eq_true hlt]
                have hw01 := Hid.mk'' (low_two (Q := (N + 1)) (by have := hN1; unfold In8 at this; omega) hlt)
                have b0 := wd_bd 0 ((N + 1))
                have b1 : 0 ≤ wd 1 ((N + 1)) ∧ wd 1 ((N + 1)) ≤ 1073741823 := high_two (by have := hN1; unfold In8 at this; omega) hlt
                cases s
                · go_wp2
                  go_ret2
                  exact ⟨ret_low false HZ.out hlt hw01.out, below_tr hbel hb9⟩
                · go_wp2
                  go_ret2
                  exact ⟨ret_low true HZ.out hlt (congrArg (fun z : Int => -z) hw01.out), below_tr hbel hb9⟩
              · rw [decide_eq_false hlt]
                cases s
                · go_wp2
                  go_ret2
                  exact ⟨ret_high false HZ.out (by omega), below_tr hbel hb9⟩
                · go_wp2
                  go_ret2
                  exact ⟨ret_high true HZ.out (by omega), below_tr hbel hb9⟩
            · have HZ : Hid (Z = N) := Hid.mk'' (by rw [HRES.out, if_neg (by intro h; rcases h.2 with (h2 | h2) | h2 <;> omega)])
              have hodb : (wd 0 N % 2 == 1) = false := by simpa using hod
              go_wp2
              refine wp_loop_rounds 2 ?_
              rw [rounds_succ]
              go_wp2
              rw [rounds_succ]
              go_wp2
              go_quiet (fail)
              go_wp2_with fail
              refine (lower62 N _ hN).mono ?_
              rintro e w9 ⟨rfl, hb9⟩
              have t0 := keep_cell hb9 q0
              have t1 := keep_cell hb9 q1
              have tA := keep_cell hb9 sA
              by_cases hlt : N < 4611686018427387904
              · rw [decide_eq_true hlt]
                have hw01 := Hid.mk'' (low_two (Q := N) (by have := hN; unfold In8 at this; omega) hlt)
                have b0 := wd_bd 0 (N)
                have b1 : 0 ≤ wd 1 (N) ∧ wd 1 (N) ≤ 1073741823 := high_two (by have := hN; unfold In8 at this; omega) hlt
                cases s
                · go_wp2
                  go_ret2
                  exact ⟨ret_low false HZ.out hlt hw01.out, below_tr (below_drewN hbel _) hb9⟩
                · go_wp2
                  go_ret2
                  exact ⟨ret_low true HZ.out hlt (congrArg (fun z : Int => -z) hw01.out), below_tr (below_drewN hbel _) hb9⟩
              · rw [decide_eq_false hlt]
                cases s
                · go_wp2
                  go_ret2
                  exact ⟨ret_high false HZ.out (by omega), below_tr (below_drewN hbel _) hb9⟩
                · go_wp2
                  go_ret2
                  exact ⟨ret_high true HZ.out (by omega), below_tr (below_drewN hbel _) hb9⟩

end Go.Proofs.YtgmagehgnjopcaaDoor
