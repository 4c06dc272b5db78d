/-
  By of the document's answer of layer 3 (radomeref03): a number of eight words by two to a power, rounded and bounded; by py/By.py.
-/
import Derived.Test.YtgmagehgnjopcaaDoorLgQ
import Derived.RegionTactic
import Derived.ChangeAlike
import Derived.BigRegion
import Derived.Deep.DeepCutAuto
set_option linter.unusedSimpArgs false
set_option linter.unusedVariables false
namespace Go.Proofs.YtgmagehgnjopcaaDoor
open Go.RowKit Lg
attribute [local go_sem ↓] Go.wp_at_zero Go.wp_at_succ

namespace Lg
/-- What comes of a size with its sign: bounded, and whether it was. -/
def res (s : Bool) (Q : Int) : Value := .tuple #[.int .i64 (if Q < 4611686018427387904 then (if s then -Q else Q) else (if s then -4611686018427387903 else 4611686018427387903)), .bool (decide (¬ Q < 4611686018427387904))]
theorem res_low (s : Bool) (Q : Int) (h : Q < 4611686018427387904) : res s Q = .tuple #[.int .i64 (if s then -Q else Q), .bool false] := by
  unfold res; rw [if_pos h]; simp [h]
theorem res_high (s : Bool) (Q : Int) (h : ¬ Q < 4611686018427387904) : res s Q = .tuple #[.int .i64 (if s then -4611686018427387903 else 4611686018427387903), .bool true] := by
  unfold res; rw [if_neg h]; simp; omega
theorem ret_low (s : Bool) {Q z Z : Int} (hZ : Z = Q) (h : Q < 4611686018427387904) (hz : z = if s then -Q else Q) : Ending.returned (.tuple #[.int .i64 z, .bool false]) = .returned (res s Z) := by rw [hZ, res_low s Q h, hz]
theorem ret_high (s : Bool) {Q Z : Int} (hZ : Z = Q) (h : 4611686018427387904 ≤ Q) : Ending.returned (.tuple #[.int .i64 (if s then -4611686018427387903 else 4611686018427387903), .bool true]) = .returned (res s Z) := by rw [hZ, res_high s Q (by omega)]
theorem low_two {Q : Int} (h0 : 0 ≤ Q) (h : Q < 4611686018427387904) : wd 0 Q + wd 1 Q * 4294967296 = Q := by
  show Q % 4294967296 + Q / 4294967296 % 4294967296 * 4294967296 = Q
  omega
theorem high_two {Q : Int} (h0 : 0 ≤ Q) (h : Q < 4611686018427387904) : 0 ≤ wd 1 Q ∧ wd 1 Q ≤ 1073741823 := by
  show 0 ≤ Q / 4294967296 % 4294967296 ∧ Q / 4294967296 % 4294967296 ≤ 1073741823
  omega
end Lg

theorem lower62 (Q : Int) (w : World) (hQ : In8 Q) :
    Calls Tryd.prog 77 #[.agg #[.int .u64 (wd 0 Q), .int .u64 (wd 1 Q), .int .u64 (wd 2 Q), .int .u64 (wd 3 Q), .int .u64 (wd 4 Q), .int .u64 (wd 5 Q), .int .u64 (wd 6 Q), .int .u64 (wd 7 Q)], .agg #[.int .u64 0, .int .u64 1073741824, .int .u64 0, .int .u64 0, .int .u64 0, .int .u64 0, .int .u64 0, .int .u64 0]] w fun e w' => e = .returned (.bool (decide (Q < 4611686018427387904))) ∧ Below w.heap.size w w' := by
  have h := lower_any Q 4611686018427387904 w hQ (by unfold In8; omega)
  rw [show wd 0 4611686018427387904 = 0 by decide, show wd 1 4611686018427387904 = 1073741824 by decide, show wd 2 4611686018427387904 = 0 by decide, show wd 3 4611686018427387904 = 0 by decide, show wd 4 4611686018427387904 = 0 by decide, show wd 5 4611686018427387904 = 0 by decide, show wd 6 4611686018427387904 = 0 by decide, show wd 7 4611686018427387904 = 0 by decide] at h
  exact h

set_option maxRecDepth 20000 in
set_option maxHeartbeats 1000000 in
theorem by_zero (s : Bool) (A D E N : Int) (sh u : Nat) (w : World) (hA : In8 A) (hN : In8 N) (hsh : sh ≤ 31) (hu : sh + u = 32) (hD : (2 : Int) ^ sh = D) (hE : (2 : Int) ^ u = E) (HN : Hid (N = A / (4294967296 ^ 0 * D))) (Hs0 : Hid (sh = 0)) :
    Calls Tryd.prog 62 #[(.agg #[.bool s, .int .u64 (wd 0 A), .int .u64 (wd 1 A), .int .u64 (wd 2 A), .int .u64 (wd 3 A), .int .u64 (wd 4 A), .int .u64 (wd 5 A), .int .u64 (wd 6 A), .int .u64 (wd 7 A)]), .int .i64 (sh : Int)] w fun e w' => e = .returned (res s N) ∧ Below w.heap.size w w' := by
  have hD0 : 0 < D := by rw [← hD]; exact Int.pow_pos (by omega)
  have hE0 : 0 < E := by rw [← hE]; exact Int.pow_pos (by omega)
  have HDE : Hid (D * E = 4294967296) := Hid.mk'' (by rw [← hD, ← hE, ← Int.pow_add, hu]; rfl)
  have hDW : D ≤ 4294967296 := by
    have : D * 1 ≤ D * E := Int.mul_le_mul_of_nonneg_left (by omega) (by omega)
    rw [HDE.out] at this; omega
  have hEW : E ≤ 4294967296 := by
    have : 1 * E ≤ D * E := Int.mul_le_mul_of_nonneg_right (by omega) (by omega)
    rw [HDE.out] at this; omega
  have hq : (sh : Int) / 32 = 0 := by omega
  have hr : (sh : Int) % 32 = (sh : Int) := by omega
  have hk : 32 - (sh : Int) = (u : Int) := by omega
  have s0 : (0 : Int) ≤ (sh : Int) := by omega
  have s1 : (sh : Int) ≤ 31 := by omega
  have u0 : (0 : Int) ≤ (u : Int) := by omega
  have u1 : (u : Int) ≤ 32 := by omega
  clear hu
  go_enter Tryd.func62, Tryd.ntmps62
  go_wp2
  go_loopw [9] (fun i wr => ∃ k : Nat, k ≤ 8 - 0 ∧ i = .int .i64 (k : Int) ∧ RowQ wr (w.heap.size + 1) (mixf k (fun j => wd j N) (fun _ => 0)) ∧ RowF wr w.heap.size s (fun j => wd j A) ∧ Below w.heap.size w wr) (fun i _ => 8 - (intOf i).toNat)
  case atStart => exact ⟨0, by omega, rfl, row8_at (w.alloc _) (by simp) _ _ _ _ _ _ _ _, (row9_new w _ _ _ _ _ _ _ _ _).alloc _, below_al (below_al (Below.refl _ _) _) _⟩
  case round =>
    obtain ⟨k, hk8, rfl, hQ, hA9, hbel⟩ := hrel
    by_cases h8 : k < 8 - 0
    · have cA : wr.cell? ⟨w.heap.size, 1 + k, none⟩ = some (.int .u64 (wd (k) A)) := hA9.cell (k := k) (by omega)
      have w0 := wd_bd (k) A
      have w1 := wd_bd (k + 1) A
      have cQ := hQ.cell (k := k) (by omega)
      have fQ := hQ.free k
      have SW := Hid.mk'' (shift_words A D E 0 k hD0 hE0 HDE.out)
      rw [← HN.out] at SW
      have HS := Hid.mk'' (fun (w' : World) (d : Nat → Int) (h : RowQ w' (w.heap.size + 1) d) (v : Int) => h.set v (k := k) (by omega))
      have TOP := Hid.mk'' (wd_top hA)
      have cA2 : k + 1 < 8 → wr.cell? ⟨w.heap.size, 1 + (k + 1), none⟩ = some (.int .u64 (wd (k + 1) A)) := fun h => hA9.cell (k := k + 1) h
      obtain ⟨P, hP⟩ : ∃ P, P = wd (k) A := ⟨_, rfl⟩
      obtain ⟨R, hR⟩ : ∃ R, R = wd (k + 1) A := ⟨_, rfl⟩
      have HR := Hid.mk'' hR
      rw [← hP] at cA w0
      rw [← hR] at cA2 w1
      have HP := Hid.mk'' hP
      clear hP hR
      have p0 : 0 ≤ P / D := Int.ediv_nonneg w0.1 (by omega)
      have p1 : P / D ≤ 4294967295 := Int.le_trans (Int.ediv_le_self D w0.1) w0.2
      have r0 : 0 ≤ R * E := Int.mul_nonneg w1.1 (by omega)
      have r1 : R * E ≤ 4294967295 * 4294967296 := Int.mul_le_mul w1.2 hEW (by omega) (by omega)
      by_cases h2 : k + 1 < 8
      · have cA3 := cA2 h2
        clear cA2
        go_wp2
        go_region
        all_goals go_wp2
        all_goals go_roundw
        case rel =>
          refine ⟨k + 1, by omega, by go_num, ((HS.out _ _ (HS.out _ _ hQ _) _).congr ?_).drew, (hA9.other _ (show w.heap.size ≠ w.heap.size + 1 by omega)).other _ (show w.heap.size ≠ w.heap.size + 1 by omega), ((hbel.setCell (p := ⟨w.heap.size + 1, k, none⟩) (show w.heap.size ≤ w.heap.size + 1 by omega) _).setCell (p := ⟨w.heap.size + 1, k, none⟩) (show w.heap.size ≤ w.heap.size + 1 by omega) _).drew⟩
          intro j _
          unfold mixf
          by_cases e : j = k
          · subst e; rw [if_pos rfl, if_pos (by omega), HP.out, HR.out]; exact SW.out.symm
          · rw [if_neg e, if_neg e]
            by_cases e2 : j < k
            · rw [if_pos e2, if_pos (by omega)]
            · rw [if_neg e2, if_neg (by omega)]
        case measure => simp [intOf]; omega
      · clear cA2
        go_wp2
        go_roundw
        case rel =>
          refine ⟨k + 1, by omega, by go_num, (HS.out _ _ hQ _).congr ?_, hA9.other _ (show w.heap.size ≠ w.heap.size + 1 by omega), hbel.setCell (p := ⟨w.heap.size + 1, k, none⟩) (show w.heap.size ≤ w.heap.size + 1 by omega) _⟩
          intro j _
          unfold mixf
          by_cases e : j = k
          · subst e
            have z := TOP.out (j + 1) (by omega)
            have sw := SW.out
            rw [z, Int.zero_mul] at sw
            rw [if_pos rfl, if_pos (by omega), HP.out]
            show _ = wd j N
            rw [sw]; simp
          · rw [if_neg e]
            by_cases e2 : j < k
            · rw [if_pos e2, if_pos (by omega)]
            · rw [if_neg e2, if_neg (by omega)]
        case measure => simp [intOf]; omega
    · have hQN : RowQ wr (w.heap.size + 1) (fun j => wd j N) := by
        refine hQ.congr ?_
        intro j hj
        unfold mixf
        by_cases e : j < k
        · rw [if_pos e]
        · rw [if_neg e]
          omega
      have hk9 : 8 ≤ k + 0 := by omega
      clear hQ h8 HDE
      have q0 := hQN.cell (k := 0) (by omega)
      have q1 := hQN.cell (k := 1) (by omega)
      have q2 := hQN.cell (k := 2) (by omega)
      have q3 := hQN.cell (k := 3) (by omega)
      have q4 := hQN.cell (k := 4) (by omega)
      have q5 := hQN.cell (k := 5) (by omega)
      have q6 := hQN.cell (k := 6) (by omega)
      have q7 := hQN.cell (k := 7) (by omega)
      have sA := hA9.cs
      have hs0' : (sh : Int) = 0 := by have := Hs0.out; omega
      go_wp2_with fail
      refine (lower62 N _ hN).mono ?_
      rintro e w9 ⟨rfl, hb9⟩
      have t0 := keep_cell hb9 q0
      have t1 := keep_cell hb9 q1
      have tA := keep_cell hb9 sA
      by_cases hlt : N < 4611686018427387904
      · rw [decide_eq_true hlt]
        have hw01 := Hid.mk'' (low_two (Q := N) (by have := hN; unfold In8 at this; omega) hlt)
        have b0 := wd_bd 0 (N)
        have b1 : 0 ≤ wd 1 (N) ∧ wd 1 (N) ≤ 1073741823 := high_two (by have := hN; unfold In8 at this; omega) hlt
        cases s
        · go_wp2
          go_ret2
          exact ⟨ret_low false rfl hlt hw01.out, below_tr hbel hb9⟩
        · go_wp2
          go_ret2
          exact ⟨ret_low true rfl hlt (congrArg (fun z : Int => -z) hw01.out), below_tr hbel hb9⟩
      · rw [decide_eq_false hlt]
        cases s
        · go_wp2
          go_ret2
          exact ⟨ret_high false rfl (by omega), below_tr hbel hb9⟩
        · go_wp2
          go_ret2
          exact ⟨ret_high true rfl (by omega), below_tr hbel hb9⟩

namespace Lg
theorem wrap_pow {v : Nat} {F : Int} (hv : v ≤ 31) (hF : (2 : Int) ^ v = F) : 0 < F ∧ F ≤ 2147483648 ∧ IntKind.u64.wrap F = F := by
  have h1 : (2 : Nat) ^ v ≤ 2 ^ 31 := Nat.pow_le_pow_right (by omega) hv
  have h2 : (2 : Int) ^ v = ((2 ^ v : Nat) : Int) := by simp
  have h3 := Nat.two_pow_pos v
  rw [hF] at h2
  refine ⟨by omega, by omega, ?_⟩
  rw [IntKind.wrap_u64]; omega
theorem RowQ.keep {w w' : World} {b : Nat} {d : Nat → Int} (h : RowQ w b d) (hb : Below w.heap.size w w') : RowQ w' b d := Row8.keep h hb
theorem Row8.row {w : World} {b : Nat} {x0 x1 x2 x3 x4 x5 x6 x7 : Int} (h : Row8 w b x0 x1 x2 x3 x4 x5 x6 x7) (y0 y1 y2 y3 y4 y5 y6 y7 : Int) : Row8 (w.setRow b #[.int .u64 y0, .int .u64 y1, .int .u64 y2, .int .u64 y3, .int .u64 y4, .int .u64 y5, .int .u64 y6, .int .u64 y7]) b y0 y1 y2 y3 y4 y5 y6 y7 := setRow_heap w b _ _ _ (0, 0) h
theorem size_arr : (Tryd.prog.info? 99).map (·.size) = some 8 := by kernel_rfl
theorem wpList_store8 {ops : Array Oper} {rest : List Oper} {o : Oper} {a : Act} {w : World} {Q : Exit → Act → World → Prop} (hgd : o.guard = none) (x y : Operand) (ho : o.op = .store 99 x y)
    (b : Nat) (x0 x1 x2 x3 x4 x5 x6 x7 y0 y1 y2 y3 y4 y5 y6 y7 : Int) (hx : a.eval x = .pointer (some ⟨b, 0, none⟩)) (hy : a.eval y = .agg #[.int .u64 x0, .int .u64 x1, .int .u64 x2, .int .u64 x3, .int .u64 x4, .int .u64 x5, .int .u64 x6, .int .u64 x7]) (hr : Row8 w b y0 y1 y2 y3 y4 y5 y6 y7)
    (h : wpList Tryd.prog ops Q rest (a.put o.dst undef) (w.setRow b #[.int .u64 x0, .int .u64 x1, .int .u64 x2, .int .u64 x3, .int .u64 x4, .int .u64 x5, .int .u64 x6, .int .u64 x7])) : wpList Tryd.prog ops Q (o :: rest) a w :=
  wpList_store_row hgd _ x y ho b _ hx hy _ _ hr size_arr rfl (by kernel_rfl) h
theorem field_D (s : Bool) (x0 x1 x2 x3 x4 x5 x6 x7 : Int) (w : World) : (Instr.field 101 (.agg #[.bool s, .int .u64 x0, .int .u64 x1, .int .u64 x2, .int .u64 x3, .int .u64 x4, .int .u64 x5, .int .u64 x6, .int .u64 x7]) 1).run Tryd.prog w = .ok (.agg #[.int .u64 x0, .int .u64 x1, .int .u64 x2, .int .u64 x3, .int .u64 x4, .int .u64 x5, .int .u64 x6, .int .u64 x7]) w := by kernel_rfl
end Lg
attribute [local go_sem] Lg.field_D

theorem join_one (N : Int) (w : World) :
    Calls Tryd.prog 60 #[(.agg #[.bool false, .int .u64 (wd 0 N), .int .u64 (wd 1 N), .int .u64 (wd 2 N), .int .u64 (wd 3 N), .int .u64 (wd 4 N), .int .u64 (wd 5 N), .int .u64 (wd 6 N), .int .u64 (wd 7 N)]), .agg #[.bool false, .int .u64 1, .int .u64 0, .int .u64 0, .int .u64 0, .int .u64 0, .int .u64 0, .int .u64 0, .int .u64 0]] w fun e w' => e = .returned (.agg #[.bool false, .int .u64 (wd 0 (N + 1)), .int .u64 (wd 1 (N + 1)), .int .u64 (wd 2 (N + 1)), .int .u64 (wd 3 (N + 1)), .int .u64 (wd 4 (N + 1)), .int .u64 (wd 5 (N + 1)), .int .u64 (wd 6 (N + 1)), .int .u64 (wd 7 (N + 1))]) ∧ Below w.heap.size w w' := by
  have h := join_same false N 1 w
  rw [show wd 0 1 = 1 by decide, show wd 1 1 = 0 by decide, show wd 2 1 = 0 by decide, show wd 3 1 = 0 by decide, show wd 4 1 = 0 by decide, show wd 5 1 = 0 by decide, show wd 6 1 = 0 by decide, show wd 7 1 = 0 by decide] at h
  exact h

set_option maxHeartbeats 400000 in
theorem lbit_0 (A F : Int) (v : Nat) (w : World) (hv : v ≤ 31) (hF : (2 : Int) ^ v = F) :
    Calls Tryd.prog 79 #[.agg #[.int .u64 (wd 0 A), .int .u64 (wd 1 A), .int .u64 (wd 2 A), .int .u64 (wd 3 A), .int .u64 (wd 4 A), .int .u64 (wd 5 A), .int .u64 (wd 6 A), .int .u64 (wd 7 A)], .int .i64 (v : Int)] w fun e w' => e = .returned (.int .u64 (wd 0 A / F % 2)) ∧ Below w.heap.size w w' := by
  have hq : (v : Int) / 32 = 0 := by omega
  have hr : (v : Int) % 32 = (v : Int) := by omega
  have v0 : (0 : Int) ≤ (v : Int) := by omega
  have v1 : (v : Int) ≤ 31 := by omega
  have hF0 : 0 < F := by rw [← hF]; exact Int.pow_pos (by omega)
  have w0 := wd_bd 0 A
  have p0 : 0 ≤ wd 0 A / F := Int.ediv_nonneg w0.1 (by omega)
  have p1 : wd 0 A / F ≤ 4294967295 := Int.le_trans (Int.ediv_le_self F w0.1) w0.2
  go_enter Tryd.func79, Tryd.ntmps79
  go_wp2
  go_ret
  exact ⟨rfl, below_al (Below.refl _ _) _⟩

set_option maxHeartbeats 400000 in
theorem lbit_1 (A F : Int) (v : Nat) (w : World) (hv : v ≤ 31) (hF : (2 : Int) ^ v = F) :
    Calls Tryd.prog 79 #[.agg #[.int .u64 (wd 0 A), .int .u64 (wd 1 A), .int .u64 (wd 2 A), .int .u64 (wd 3 A), .int .u64 (wd 4 A), .int .u64 (wd 5 A), .int .u64 (wd 6 A), .int .u64 (wd 7 A)], .int .i64 (32 + (v : Int))] w fun e w' => e = .returned (.int .u64 (wd 1 A / F % 2)) ∧ Below w.heap.size w w' := by
  have hq : (32 + (v : Int)) / 32 = 1 := by omega
  have hr : (32 + (v : Int)) % 32 = (v : Int) := by omega
  have v0 : (0 : Int) ≤ (v : Int) := by omega
  have v1 : (v : Int) ≤ 31 := by omega
  have hF0 : 0 < F := by rw [← hF]; exact Int.pow_pos (by omega)
  have w0 := wd_bd 1 A
  have p0 : 0 ≤ wd 1 A / F := Int.ediv_nonneg w0.1 (by omega)
  have p1 : wd 1 A / F ≤ 4294967295 := Int.le_trans (Int.ediv_le_self F w0.1) w0.2
  go_enter Tryd.func79, Tryd.ntmps79
  go_wp2
  go_ret
  exact ⟨rfl, below_al (Below.refl _ _) _⟩

set_option maxRecDepth 20000 in
set_option maxHeartbeats 1000000 in
theorem by_low (s : Bool) (A D E N : Int) (sh u : Nat) (w : World) (hA : In8 A) (hN : In8 N) (hsh : sh ≤ 31) (hu : sh + u = 32) (hD : (2 : Int) ^ sh = D) (hE : (2 : Int) ^ u = E) (HN : Hid (N = A / (4294967296 ^ 0 * D))) (F : Int) (v : Nat) (hv31 : v ≤ 31) (hF : (2 : Int) ^ v = F) (hN1 : In8 (N + 1)) (Z : Int) (HRES : Hid (Z = if wd 0 A / F % 2 = 1 ∧ ((False ∨ 0 < wd 0 A % F) ∨ wd 0 N % 2 = 1) then N + 1 else N)) (Hv : Hid (sh = v + 1)) :
    Calls Tryd.prog 62 #[(.agg #[.bool s, .int .u64 (wd 0 A), .int .u64 (wd 1 A), .int .u64 (wd 2 A), .int .u64 (wd 3 A), .int .u64 (wd 4 A), .int .u64 (wd 5 A), .int .u64 (wd 6 A), .int .u64 (wd 7 A)]), .int .i64 (sh : Int)] w fun e w' => e = .returned (res s Z) ∧ Below w.heap.size w w' := by
  have hD0 : 0 < D := by rw [← hD]; exact Int.pow_pos (by omega)
  have hE0 : 0 < E := by rw [← hE]; exact Int.pow_pos (by omega)
  have HDE : Hid (D * E = 4294967296) := Hid.mk'' (by rw [← hD, ← hE, ← Int.pow_add, hu]; rfl)
  have hDW : D ≤ 4294967296 := by
    have : D * 1 ≤ D * E := Int.mul_le_mul_of_nonneg_left (by omega) (by omega)
    rw [HDE.out] at this; omega
  have hEW : E ≤ 4294967296 := by
    have : 1 * E ≤ D * E := Int.mul_le_mul_of_nonneg_right (by omega) (by omega)
    rw [HDE.out] at this; omega
  have hq : (sh : Int) / 32 = 0 := by omega
  have hr : (sh : Int) % 32 = (sh : Int) := by omega
  have hk : 32 - (sh : Int) = (u : Int) := by omega
  have s0 : (0 : Int) ≤ (sh : Int) := by omega
  have s1 : (sh : Int) ≤ 31 := by omega
  have u0 : (0 : Int) ≤ (u : Int) := by omega
  have u1 : (u : Int) ≤ 32 := by omega
  clear hu
  go_enter Tryd.func62, Tryd.ntmps62
  go_wp2
  go_loopw [9] (fun i wr => ∃ k : Nat, k ≤ 8 - 0 ∧ i = .int .i64 (k : Int) ∧ RowQ wr (w.heap.size + 1) (mixf k (fun j => wd j N) (fun _ => 0)) ∧ RowF wr w.heap.size s (fun j => wd j A) ∧ Below w.heap.size w wr) (fun i _ => 8 - (intOf i).toNat)
  case atStart => exact ⟨0, by omega, rfl, row8_at (w.alloc _) (by simp) _ _ _ _ _ _ _ _, (row9_new w _ _ _ _ _ _ _ _ _).alloc _, below_al (below_al (Below.refl _ _) _) _⟩
  case round =>
    obtain ⟨k, hk8, rfl, hQ, hA9, hbel⟩ := hrel
    by_cases h8 : k < 8 - 0
    · have cA : wr.cell? ⟨w.heap.size, 1 + k, none⟩ = some (.int .u64 (wd (k) A)) := hA9.cell (k := k) (by omega)
      have w0 := wd_bd (k) A
      have w1 := wd_bd (k + 1) A
      have cQ := hQ.cell (k := k) (by omega)
      have fQ := hQ.free k
      have SW := Hid.mk'' (shift_words A D E 0 k hD0 hE0 HDE.out)
      rw [← HN.out] at SW
      have HS := Hid.mk'' (fun (w' : World) (d : Nat → Int) (h : RowQ w' (w.heap.size + 1) d) (v : Int) => h.set v (k := k) (by omega))
      have TOP := Hid.mk'' (wd_top hA)
      have cA2 : k + 1 < 8 → wr.cell? ⟨w.heap.size, 1 + (k + 1), none⟩ = some (.int .u64 (wd (k + 1) A)) := fun h => hA9.cell (k := k + 1) h
      obtain ⟨P, hP⟩ : ∃ P, P = wd (k) A := ⟨_, rfl⟩
      obtain ⟨R, hR⟩ : ∃ R, R = wd (k + 1) A := ⟨_, rfl⟩
      have HR := Hid.mk'' hR
      rw [← hP] at cA w0
      rw [← hR] at cA2 w1
      have HP := Hid.mk'' hP
      clear hP hR
      have p0 : 0 ≤ P / D := Int.ediv_nonneg w0.1 (by omega)
      have p1 : P / D ≤ 4294967295 := Int.le_trans (Int.ediv_le_self D w0.1) w0.2
      have r0 : 0 ≤ R * E := Int.mul_nonneg w1.1 (by omega)
      have r1 : R * E ≤ 4294967295 * 4294967296 := Int.mul_le_mul w1.2 hEW (by omega) (by omega)
      by_cases h2 : k + 1 < 8
      · have cA3 := cA2 h2
        clear cA2
        go_wp2
        go_region
        all_goals go_wp2
        all_goals go_roundw
        case rel =>
          refine ⟨k + 1, by omega, by go_num, ((HS.out _ _ (HS.out _ _ hQ _) _).congr ?_).drew, (hA9.other _ (show w.heap.size ≠ w.heap.size + 1 by omega)).other _ (show w.heap.size ≠ w.heap.size + 1 by omega), ((hbel.setCell (p := ⟨w.heap.size + 1, k, none⟩) (show w.heap.size ≤ w.heap.size + 1 by omega) _).setCell (p := ⟨w.heap.size + 1, k, none⟩) (show w.heap.size ≤ w.heap.size + 1 by omega) _).drew⟩
          intro j _
          unfold mixf
          by_cases e : j = k
          · subst e; rw [if_pos rfl, if_pos (by omega), HP.out, HR.out]; exact SW.out.symm
          · rw [if_neg e, if_neg e]
            by_cases e2 : j < k
            · rw [if_pos e2, if_pos (by omega)]
            · rw [if_neg e2, if_neg (by omega)]
        case measure => simp [intOf]; omega
      · clear cA2
        go_wp2
        go_roundw
        case rel =>
          refine ⟨k + 1, by omega, by go_num, (HS.out _ _ hQ _).congr ?_, hA9.other _ (show w.heap.size ≠ w.heap.size + 1 by omega), hbel.setCell (p := ⟨w.heap.size + 1, k, none⟩) (show w.heap.size ≤ w.heap.size + 1 by omega) _⟩
          intro j _
          unfold mixf
          by_cases e : j = k
          · subst e
            have z := TOP.out (j + 1) (by omega)
            have sw := SW.out
            rw [z, Int.zero_mul] at sw
            rw [if_pos rfl, if_pos (by omega), HP.out]
            show _ = wd j N
            rw [sw]; simp
          · rw [if_neg e]
            by_cases e2 : j < k
            · rw [if_pos e2, if_pos (by omega)]
            · rw [if_neg e2, if_neg (by omega)]
        case measure => simp [intOf]; omega
    · have hQN : RowQ wr (w.heap.size + 1) (fun j => wd j N) := by
        refine hQ.congr ?_
        intro j hj
        unfold mixf
        by_cases e : j < k
        · rw [if_pos e]
        · rw [if_neg e]
          omega
      have hk9 : 8 ≤ k + 0 := by omega
      clear hQ h8 HDE
      have q0 := hQN.cell (k := 0) (by omega)
      have q1 := hQN.cell (k := 1) (by omega)
      have q2 := hQN.cell (k := 2) (by omega)
      have q3 := hQN.cell (k := 3) (by omega)
      have q4 := hQN.cell (k := 4) (by omega)
      have q5 := hQN.cell (k := 5) (by omega)
      have q6 := hQN.cell (k := 6) (by omega)
      have q7 := hQN.cell (k := 7) (by omega)
      have sA := hA9.cs
      have a0 : _ = some (Value.int .u64 (wd 0 A)) := hA9.c0
      have a1 : _ = some (Value.int .u64 (wd 1 A)) := hA9.c1
      have a2 : _ = some (Value.int .u64 (wd 2 A)) := hA9.c2
      have a3 : _ = some (Value.int .u64 (wd 3 A)) := hA9.c3
      have a4 : _ = some (Value.int .u64 (wd 4 A)) := hA9.c4
      have a5 : _ = some (Value.int .u64 (wd 5 A)) := hA9.c5
      have a6 : _ = some (Value.int .u64 (wd 6 A)) := hA9.c6
      have a7 : _ = some (Value.int .u64 (wd 7 A)) := hA9.c7
      have hv1 : (sh : Int) - 1 = (v : Int) := by have := Hv.out; omega
      have hpos : (0 : Int) < (sh : Int) := by have := Hv.out; omega
      have hv2 : (v : Int) / 32 = 0 := by omega
      have hv4 : ((sh : Int) - 1) / 32 = 0 := by omega
      have hv5 : ((sh : Int) - 1) % 32 = (v : Int) := by omega
      have hv3 : (v : Int) % 32 = (v : Int) := by omega
      have v0 : (0 : Int) ≤ (v : Int) := by omega
      have v1 : (v : Int) ≤ 31 := by omega
      have hv6 : ((sh : Int) - 1).tdiv 32 = 0 := by rw [Int.tdiv_eq_ediv_of_nonneg (by omega)]; omega
      have hv7 : ((sh : Int) - 1).tmod 32 = (v : Int) := by rw [Int.tmod_eq_emod_of_nonneg (by omega)]; omega
      have hv8 : (v : Int).tdiv 32 = 0 := by rw [Int.tdiv_eq_ediv_of_nonneg (by omega)]; omega
      have hv9 : (v : Int).tmod 32 = (v : Int) := by rw [Int.tmod_eq_emod_of_nonneg (by omega)]; omega
      have hva : IntKind.i64.wrap ((sh : Int) - 1) = (v : Int) := by rw [IntKind.wrap_i64]; omega
      have hvw : IntKind.i64.wrap (v : Int) = (v : Int) := by rw [IntKind.wrap_i64]; omega
      obtain ⟨hF1, hF2, hfw⟩ := wrap_pow hv31 hF
      have hF0 : 0 < F := by rw [← hF]; exact Int.pow_pos (by omega)
      have wM := wd_bd 0 A
      have wN := wd_bd 0 N
      have rm0 : 0 ≤ wd 0 A % F := Int.emod_nonneg _ (by omega)
      have rm1 : wd 0 A % F < F := Int.emod_lt_of_pos _ hF0
      go_wp2_with fail
      refine (lbit_0 A F v _ hv31 hF).mono ?_
      rintro e w2 ⟨rfl, hb2⟩
      have hQN2 := hQN.keep hb2
      have hA92 := hA9.keep hb2
      have hbel2 := below_tr hbel hb2
      clear hQN hA9 hbel q0 q1 q2 q3 q4 q5 q6 q7 sA a0 a1 a2 a3 a4 a5 a6 a7
      have hQN := hQN2
      have hA9 := hA92
      have hbel := hbel2
      clear hQN2 hA92 hbel2
      have q0 := hQN.cell (k := 0) (by omega)
      have q1 := hQN.cell (k := 1) (by omega)
      have q2 := hQN.cell (k := 2) (by omega)
      have q3 := hQN.cell (k := 3) (by omega)
      have q4 := hQN.cell (k := 4) (by omega)
      have q5 := hQN.cell (k := 5) (by omega)
      have q6 := hQN.cell (k := 6) (by omega)
      have q7 := hQN.cell (k := 7) (by omega)
      have sA := hA9.cs
      have a0 : _ = some (Value.int .u64 (wd 0 A)) := hA9.c0
      have a1 : _ = some (Value.int .u64 (wd 1 A)) := hA9.c1
      have a2 : _ = some (Value.int .u64 (wd 2 A)) := hA9.c2
      have a3 : _ = some (Value.int .u64 (wd 3 A)) := hA9.c3
      have a4 : _ = some (Value.int .u64 (wd 4 A)) := hA9.c4
      have a5 : _ = some (Value.int .u64 (wd 5 A)) := hA9.c5
      have a6 : _ = some (Value.int .u64 (wd 6 A)) := hA9.c6
      have a7 : _ = some (Value.int .u64 (wd 7 A)) := hA9.c7
      rcases Int.emod_two_eq (wd 0 A / F) with hB | hB
      · rw [hB]
        have HZ : Hid (Z = N) := Hid.mk'' (by rw [HRES.out, if_neg (by intro h; have := h.1; omega)])
        go_wp2_with fail
        refine (lower62 N _ hN).mono ?_
        rintro e w9 ⟨rfl, hb9⟩
        have t0 := keep_cell hb9 q0
        have t1 := keep_cell hb9 q1
        have tA := keep_cell hb9 sA
        by_cases hlt : N < 4611686018427387904
        · rw [decide_eq_true hlt]
          have hw01 := Hid.mk'' (low_two (Q := N) (by have := hN; unfold In8 at this; omega) hlt)
          have b0 := wd_bd 0 (N)
          have b1 : 0 ≤ wd 1 (N) ∧ wd 1 (N) ≤ 1073741823 := high_two (by have := hN; unfold In8 at this; omega) hlt
          cases s
          · go_wp2
            go_ret2
            exact ⟨ret_low false HZ.out hlt hw01.out, below_tr hbel hb9⟩
          · go_wp2
            go_ret2
            exact ⟨ret_low true HZ.out hlt (congrArg (fun z : Int => -z) hw01.out), below_tr hbel hb9⟩
        · rw [decide_eq_false hlt]
          cases s
          · go_wp2
            go_ret2
            exact ⟨ret_high false HZ.out (by omega), below_tr hbel hb9⟩
          · go_wp2
            go_ret2
            exact ⟨ret_high true HZ.out (by omega), below_tr hbel hb9⟩
      · rw [hB]
        by_cases hR1 : 0 < wd 0 A % F
        · have HZ : Hid (Z = N + 1) := Hid.mk'' (by rw [HRES.out, if_pos ⟨hB, Or.inl (Or.inr hR1)⟩])
          go_wp2
          refine wp_loop_rounds 1 ?_
          rw [rounds_succ]
          go_wp2
          go_quiet (fail)
          go_wp2_with fail
          refine (join_one N _).mono ?_
          rintro e w4 ⟨rfl, hb4⟩
          have hQN2 := (hQN.drewN nq).keep hb4
          have hA92 := (hA9.drewN nq).keep hb4
          have hbel2 := below_tr (below_drewN hbel nq) hb4
          clear hQN hA9 hbel q0 q1 q2 q3 q4 q5 q6 q7 sA a0 a1 a2 a3 a4 a5 a6 a7
          have hQN := hQN2
          have hA9 := hA92
          have hbel := hbel2
          clear hQN2 hA92 hbel2
          have q0 := hQN.cell (k := 0) (by omega)
          have q1 := hQN.cell (k := 1) (by omega)
          have q2 := hQN.cell (k := 2) (by omega)
          have q3 := hQN.cell (k := 3) (by omega)
          have q4 := hQN.cell (k := 4) (by omega)
          have q5 := hQN.cell (k := 5) (by omega)
          have q6 := hQN.cell (k := 6) (by omega)
          have q7 := hQN.cell (k := 7) (by omega)
          have sA := hA9.cs
          have a0 : _ = some (Value.int .u64 (wd 0 A)) := hA9.c0
          have a1 : _ = some (Value.int .u64 (wd 1 A)) := hA9.c1
          have a2 : _ = some (Value.int .u64 (wd 2 A)) := hA9.c2
          have a3 : _ = some (Value.int .u64 (wd 3 A)) := hA9.c3
          have a4 : _ = some (Value.int .u64 (wd 4 A)) := hA9.c4
          have a5 : _ = some (Value.int .u64 (wd 5 A)) := hA9.c5
          have a6 : _ = some (Value.int .u64 (wd 6 A)) := hA9.c6
          have a7 : _ = some (Value.int .u64 (wd 7 A)) := hA9.c7
          have r8 : Row8 w4 (w.heap.size + 1) (wd 0 N) (wd 1 N) (wd 2 N) (wd 3 N) (wd 4 N) (wd 5 N) (wd 6 N) (wd 7 N) := hQN
          have r8' : RowQ (w4.setRow (w.heap.size + 1) #[.int .u64 (wd 0 (N + 1)), .int .u64 (wd 1 (N + 1)), .int .u64 (wd 2 (N + 1)), .int .u64 (wd 3 (N + 1)), .int .u64 (wd 4 (N + 1)), .int .u64 (wd 5 (N + 1)), .int .u64 (wd 6 (N + 1)), .int .u64 (wd 7 (N + 1))]) (w.heap.size + 1) (fun j => wd j (N + 1)) := r8.row _ _ _ _ _ _ _ _
          have hA9' : RowF (w4.setRow (w.heap.size + 1) #[.int .u64 (wd 0 (N + 1)), .int .u64 (wd 1 (N + 1)), .int .u64 (wd 2 (N + 1)), .int .u64 (wd 3 (N + 1)), .int .u64 (wd 4 (N + 1)), .int .u64 (wd 5 (N + 1)), .int .u64 (wd 6 (N + 1)), .int .u64 (wd 7 (N + 1))]) w.heap.size s (fun j => wd j A) := Row9.rowOther hA9 (by omega) _
          have hbel' : Below w.heap.size w (w4.setRow (w.heap.size + 1) #[.int .u64 (wd 0 (N + 1)), .int .u64 (wd 1 (N + 1)), .int .u64 (wd 2 (N + 1)), .int .u64 (wd 3 (N + 1)), .int .u64 (wd 4 (N + 1)), .int .u64 (wd 5 (N + 1)), .int .u64 (wd 6 (N + 1)), .int .u64 (wd 7 (N + 1))]) := below_setRow hbel (by omega) _
          clear hQN hA9 hbel q0 q1 q2 q3 q4 q5 q6 q7 sA a0 a1 a2 a3 a4 a5 a6 a7
          have hQN := r8'
          have hA9 := hA9'
          have hbel := hbel'
          clear r8' hA9' hbel'
          have q0 := hQN.cell (k := 0) (by omega)
          have q1 := hQN.cell (k := 1) (by omega)
          have q2 := hQN.cell (k := 2) (by omega)
          have q3 := hQN.cell (k := 3) (by omega)
          have q4 := hQN.cell (k := 4) (by omega)
          have q5 := hQN.cell (k := 5) (by omega)
          have q6 := hQN.cell (k := 6) (by omega)
          have q7 := hQN.cell (k := 7) (by omega)
          have sA := hA9.cs
          go_upto_region 18 with (refine wpList_store8 rfl (.tmp 6) (.tmp 108) rfl _ _ _ _ _ _ _ _ _ _ _ _ _ _ _ _ _ rfl rfl r8 ?_)
          generalize w4.setRow (w.heap.size + 1) #[.int .u64 (wd 0 (N + 1)), .int .u64 (wd 1 (N + 1)), .int .u64 (wd 2 (N + 1)), .int .u64 (wd 3 (N + 1)), .int .u64 (wd 4 (N + 1)), .int .u64 (wd 5 (N + 1)), .int .u64 (wd 6 (N + 1)), .int .u64 (wd 7 (N + 1))] = wq at *
          go_wp2_with fail
          refine (lower62 (N + 1) _ hN1).mono ?_
          rintro e w9 ⟨rfl, hb9⟩
          have t0 := keep_cell hb9 q0
          have t1 := keep_cell hb9 q1
          have tA := keep_cell hb9 sA
          by_cases hlt : (N + 1) < 4611686018427387904
          · rw [decide_eq_true hlt]
            have hw01 := Hid.mk'' (low_two (Q := (N + 1)) (by have := hN1; unfold In8 at this; omega) hlt)
            have b0 := wd_bd 0 ((N + 1))
            have b1 : 0 ≤ wd 1 ((N + 1)) ∧ wd 1 ((N + 1)) ≤ 1073741823 := high_two (by have := hN1; unfold In8 at this; omega) hlt
            cases s
            · go_wp2
              go_ret2
              exact ⟨ret_low false HZ.out hlt hw01.out, below_tr hbel hb9⟩
            · go_wp2
              go_ret2
              exact ⟨ret_low true HZ.out hlt (congrArg (fun z : Int => -z) hw01.out), below_tr hbel hb9⟩
          · rw [decide_eq_false hlt]
            cases s
            · go_wp2
              go_ret2
              exact ⟨ret_high false HZ.out (by omega), below_tr hbel hb9⟩
            · go_wp2
              go_ret2
              exact ⟨ret_high true HZ.out (by omega), below_tr hbel hb9⟩
        · by_cases hod : wd 0 N % 2 = 1
          · have HZ : Hid (Z = N + 1) := Hid.mk'' (by rw [HRES.out, if_pos ⟨hB, Or.inr hod⟩])
            have hodb : (wd 0 N % 2 == 1) = true := by simpa using hod
            go_wp2
            refine wp_loop_rounds 1 ?_
            rw [rounds_succ]
            go_wp2
            go_quiet (fail)
            go_wp2_with fail
            refine (join_one N _).mono ?_
            rintro e w4 ⟨rfl, hb4⟩
            have hQN2 := (hQN.drewN nq).keep hb4
            have hA92 := (hA9.drewN nq).keep hb4
            have hbel2 := below_tr (below_drewN hbel nq) hb4
            clear hQN hA9 hbel q0 q1 q2 q3 q4 q5 q6 q7 sA a0 a1 a2 a3 a4 a5 a6 a7
            have hQN := hQN2
            have hA9 := hA92
            have hbel := hbel2
            clear hQN2 hA92 hbel2
            have q0 := hQN.cell (k := 0) (by omega)
            have q1 := hQN.cell (k := 1) (by omega)
            have q2 := hQN.cell (k := 2) (by omega)
            have q3 := hQN.cell (k := 3) (by omega)
            have q4 := hQN.cell (k := 4) (by omega)
            have q5 := hQN.cell (k := 5) (by omega)
            have q6 := hQN.cell (k := 6) (by omega)
            have q7 := hQN.cell (k := 7) (by omega)
            have sA := hA9.cs
            have a0 : _ = some (Value.int .u64 (wd 0 A)) := hA9.c0
            have a1 : _ = some (Value.int .u64 (wd 1 A)) := hA9.c1
            have a2 : _ = some (Value.int .u64 (wd 2 A)) := hA9.c2
            have a3 : _ = some (Value.int .u64 (wd 3 A)) := hA9.c3
            have a4 : _ = some (Value.int .u64 (wd 4 A)) := hA9.c4
            have a5 : _ = some (Value.int .u64 (wd 5 A)) := hA9.c5
            have a6 : _ = some (Value.int .u64 (wd 6 A)) := hA9.c6
            have a7 : _ = some (Value.int .u64 (wd 7 A)) := hA9.c7
            have r8 : Row8 w4 (w.heap.size + 1) (wd 0 N) (wd 1 N) (wd 2 N) (wd 3 N) (wd 4 N) (wd 5 N) (wd 6 N) (wd 7 N) := hQN
            have r8' : RowQ (w4.setRow (w.heap.size + 1) #[.int .u64 (wd 0 (N + 1)), .int .u64 (wd 1 (N + 1)), .int .u64 (wd 2 (N + 1)), .int .u64 (wd 3 (N + 1)), .int .u64 (wd 4 (N + 1)), .int .u64 (wd 5 (N + 1)), .int .u64 (wd 6 (N + 1)), .int .u64 (wd 7 (N + 1))]) (w.heap.size + 1) (fun j => wd j (N + 1)) := r8.row _ _ _ _ _ _ _ _
            have hA9' : RowF (w4.setRow (w.heap.size + 1) #[.int .u64 (wd 0 (N + 1)), .int .u64 (wd 1 (N + 1)), .int .u64 (wd 2 (N + 1)), .int .u64 (wd 3 (N + 1)), .int .u64 (wd 4 (N + 1)), .int .u64 (wd 5 (N + 1)), .int .u64 (wd 6 (N + 1)), .int .u64 (wd 7 (N + 1))]) w.heap.size s (fun j => wd j A) := Row9.rowOther hA9 (by omega) _
            have hbel' : Below w.heap.size w (w4.setRow (w.heap.size + 1) #[.int .u64 (wd 0 (N + 1)), .int .u64 (wd 1 (N + 1)), .int .u64 (wd 2 (N + 1)), .int .u64 (wd 3 (N + 1)), .int .u64 (wd 4 (N + 1)), .int .u64 (wd 5 (N + 1)), .int .u64 (wd 6 (N + 1)), .int .u64 (wd 7 (N + 1))]) := below_setRow hbel (by omega) _
            clear hQN hA9 hbel q0 q1 q2 q3 q4 q5 q6 q7 sA a0 a1 a2 a3 a4 a5 a6 a7
            have hQN := r8'
            have hA9 := hA9'
            have hbel := hbel'
            clear r8' hA9' hbel'
            have q0 := hQN.cell (k := 0) (by omega)
            have q1 := hQN.cell (k := 1) (by omega)
            have q2 := hQN.cell (k := 2) (by omega)
            have q3 := hQN.cell (k := 3) (by omega)
            have q4 := hQN.cell (k := 4) (by omega)
            have q5 := hQN.cell (k := 5) (by omega)
            have q6 := hQN.cell (k := 6) (by omega)
            have q7 := hQN.cell (k := 7) (by omega)
            have sA := hA9.cs
            go_upto_region 18 with (refine wpList_store8 rfl (.tmp 6) (.tmp 108) rfl _ _ _ _ _ _ _ _ _ _ _ _ _ _ _ _ _ rfl rfl r8 ?_)
            generalize w4.setRow (w.heap.size + 1) #[.int .u64 (wd 0 (N + 1)), .int .u64 (wd 1 (N + 1)), .int .u64 (wd 2 (N + 1)), .int .u64 (wd 3 (N + 1)), .int .u64 (wd 4 (N + 1)), .int .u64 (wd 5 (N + 1)), .int .u64 (wd 6 (N + 1)), .int .u64 (wd 7 (N + 1))] = wq at *
            go_wp2_with fail
            refine (lower62 (N + 1) _ hN1).mono ?_
            rintro e w9 ⟨rfl, hb9⟩
            have t0 := keep_cell hb9 q0
            have t1 := keep_cell hb9 q1
            have tA := keep_cell hb9 sA
            by_cases hlt : (N + 1) < 4611686018427387904
            · rw [decide_eq_true hlt]
              have hw01 := Hid.mk'' (low_two (Q := (N + 1)) (by have := hN1; unfold In8 at this; omega) hlt)
              have b0 := wd_bd 0 ((N + 1))
              have b1 : 0 ≤ wd 1 ((N + 1)) ∧ wd 1 ((N + 1)) ≤ 1073741823 := high_two (by have := hN1; unfold In8 at this; omega) hlt
              cases s
              · go_wp2
                go_ret2
                exact ⟨ret_low false HZ.out hlt hw01.out, below_tr hbel hb9⟩
              · go_wp2
                go_ret2
                exact ⟨ret_low true HZ.out hlt (congrArg (fun z : Int => -z) hw01.out), below_tr hbel hb9⟩
            · rw [decide_eq_false hlt]
              cases s
              · go_wp2
                go_ret2
                exact ⟨ret_high false HZ.out (by omega), below_tr hbel hb9⟩
              · go_wp2
                go_ret2
                exact ⟨ret_high true HZ.out (by omega), below_tr hbel hb9⟩
          · have HZ : Hid (Z = N) := Hid.mk'' (by rw [HRES.out, if_neg (by intro h; rcases h.2 with (h2 | h2) | h2 <;> omega)])
            have hodb : (wd 0 N % 2 == 1) = false := by simpa using hod
            go_wp2
            refine wp_loop_rounds 1 ?_
            rw [rounds_succ]
            go_wp2
            go_quiet (fail)
            go_wp2_with fail
            refine (lower62 N _ hN).mono ?_
            rintro e w9 ⟨rfl, hb9⟩
            have t0 := keep_cell hb9 q0
            have t1 := keep_cell hb9 q1
            have tA := keep_cell hb9 sA
            by_cases hlt : N < 4611686018427387904
            · rw [decide_eq_true hlt]
              have hw01 := Hid.mk'' (low_two (Q := N) (by have := hN; unfold In8 at this; omega) hlt)
              have b0 := wd_bd 0 (N)
              have b1 : 0 ≤ wd 1 (N) ∧ wd 1 (N) ≤ 1073741823 := high_two (by have := hN; unfold In8 at this; omega) hlt
              cases s
              · go_wp2
                go_ret2
                exact ⟨ret_low false HZ.out hlt hw01.out, below_tr (below_drewN hbel _) hb9⟩
              · go_wp2
                go_ret2
                exact ⟨ret_low true HZ.out hlt (congrArg (fun z : Int => -z) hw01.out), below_tr (below_drewN hbel _) hb9⟩
            · rw [decide_eq_false hlt]
              cases s
              · go_wp2
                go_ret2
                exact ⟨ret_high false HZ.out (by omega), below_tr (below_drewN hbel _) hb9⟩
              · go_wp2
                go_ret2
                exact ⟨ret_high true HZ.out (by omega), below_tr (below_drewN hbel _) hb9⟩

end Go.Proofs.YtgmagehgnjopcaaDoor
