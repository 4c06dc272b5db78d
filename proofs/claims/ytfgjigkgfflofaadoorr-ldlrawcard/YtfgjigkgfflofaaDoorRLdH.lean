/-
  Factors (ldl): which may be: Check.
-/
import Derived.Test.YtfgjigkgfflofaaDoorRLdG
set_option linter.unusedSimpArgs false
set_option linter.unusedVariables false
namespace Go.Proofs.YtfgjigkgfflofaaDoorR
open Go.RowKit Vc Mt St Qn Dt Ld

namespace Ld
/-- May it stand at place k of D? -/
def okD (N : Nat) (x : Int) (k : Nat) : Bool := if N ≤ k then x == 0 else decide (1 ≤ x) && decide (x ≤ 4611686018427387903)
/-- May it stand at row i, column j of L? -/
def okL (N : Nat) (x : Int) (i j : Nat) : Bool := if N ≤ i ∨ i < j then x == 0 else if j = i then x == 1073741824 else !great x
/-- May factors be? -/
def FMay (n : Int) (z d : Nat → Int) : Prop := 1 ≤ n ∧ n ≤ 6 ∧ (∀ k, k < 6 → okD n.toNat (d k) k = true) ∧ ∀ k, k < 36 → okL n.toNat (z k) (k / n.toNat) (k % n.toNat) = true
open Classical in
noncomputable def resC (p : Prop) : Value := if p then .nilIface else .iface 39 (.int .i64 1)
theorem resC_yes {p : Prop} (h : p) : resC p = .nilIface := if_pos h
theorem resC_no {p : Prop} (h : ¬ p) : resC p = .iface 39 (.int .i64 1) := if_neg h

theorem run_at36 (w : World) (z : Nat → Int) : ∀ {k : Nat}, k < 36 → (Instr.index 23 (.agg (vals 36 z).toArray) (.int .i64 (k : Int))).run Tryd.prog w = .ok (.int .i64 (z k)) w
  | 0, _ => by kernel_rfl
  | 1, _ => by kernel_rfl
  | 2, _ => by kernel_rfl
  | 3, _ => by kernel_rfl
  | 4, _ => by kernel_rfl
  | 5, _ => by kernel_rfl
  | 6, _ => by kernel_rfl
  | 7, _ => by kernel_rfl
  | 8, _ => by kernel_rfl
  | 9, _ => by kernel_rfl
  | 10, _ => by kernel_rfl
  | 11, _ => by kernel_rfl
  | 12, _ => by kernel_rfl
  | 13, _ => by kernel_rfl
  | 14, _ => by kernel_rfl
  | 15, _ => by kernel_rfl
  | 16, _ => by kernel_rfl
  | 17, _ => by kernel_rfl
  | 18, _ => by kernel_rfl
  | 19, _ => by kernel_rfl
  | 20, _ => by kernel_rfl
  | 21, _ => by kernel_rfl
  | 22, _ => by kernel_rfl
  | 23, _ => by kernel_rfl
  | 24, _ => by kernel_rfl
  | 25, _ => by kernel_rfl
  | 26, _ => by kernel_rfl
  | 27, _ => by kernel_rfl
  | 28, _ => by kernel_rfl
  | 29, _ => by kernel_rfl
  | 30, _ => by kernel_rfl
  | 31, _ => by kernel_rfl
  | 32, _ => by kernel_rfl
  | 33, _ => by kernel_rfl
  | 34, _ => by kernel_rfl
  | 35, _ => by kernel_rfl
  | k + 36, h => by omega
theorem run_at6 (w : World) (z : Nat → Int) : ∀ {k : Nat}, k < 6 → (Instr.index 24 (.agg (vals 6 z).toArray) (.int .i64 (k : Int))).run Tryd.prog w = .ok (.int .i64 (z k)) w
  | 0, _ => by kernel_rfl
  | 1, _ => by kernel_rfl
  | 2, _ => by kernel_rfl
  | 3, _ => by kernel_rfl
  | 4, _ => by kernel_rfl
  | 5, _ => by kernel_rfl
  | k + 6, h => by omega
theorem is36 : Is 23 36 := ⟨by kernel_rfl, ⟨_, Tryd.arrM, rfl⟩⟩
theorem is6 : Is 24 6 := ⟨by kernel_rfl, ⟨_, Tryd.arr6, rfl⟩⟩
theorem FRow.rangeL {w : World} {g : Nat} {n : Int} {z d : Nat → Int} (h : FRow w g n z d) : w.rangeAt g 1 (vals 36 z) :=
  CRow.mid h fun j v hv => by
    have hj : j < 36 := by
      rcases Nat.lt_or_ge j 36 with k | k
      · exact k
      · rw [List.getElem?_eq_none (by rw [vals_len]; exact k)] at hv; cases hv
    rw [vals_at hj] at hv
    rw [Nat.add_comm, fvals_z hj]; exact hv
theorem FRow.rangeD {w : World} {g : Nat} {n : Int} {z d : Nat → Int} (h : FRow w g n z d) : w.rangeAt g 37 (vals 6 d) :=
  CRow.mid h fun j v hv => by
    have hj : j < 6 := by
      rcases Nat.lt_or_ge j 6 with k | k
      · exact k
      · rw [List.getElem?_eq_none (by rw [vals_len]; exact k)] at hv; cases hv
    rw [vals_at hj] at hv
    rw [Nat.add_comm, fvals_d hj]; exact hv
end Ld

set_option maxHeartbeats 400000 in
theorem mayD_any (g i N : Nat) (z d : Nat → Int) (x : Int) (w : World) (h : FRow w g N z d) :
    Calls Tryd.prog 10 #[.pointer (some ⟨g, 0, none⟩), .int .i64 x, .int .i64 (i : Int)] w fun e w' => e = .returned (.bool (okD N x i)) ∧ w' = w := by
  have c := FRow.n h
  clear h
  by_cases h1 : N ≤ i
  · have e : okD N x i = (x == 0) := by unfold okD; rw [if_pos h1]
    rw [e]
    clear e
    go_enter Tryd.func10, Tryd.ntmps10
    go_wp2
    go_ret
    exact ⟨rfl, rfl⟩
  · by_cases h2 : 1 ≤ x
    · have e1 : decide (x ≥ 1) = true := decide_eq_true h2
      have e : okD N x i = decide (x ≤ 4611686018427387903) := by unfold okD; rw [if_neg h1, decide_eq_true h2, Bool.true_and]
      rw [e]
      clear e
      go_enter Tryd.func10, Tryd.ntmps10
      go_wp2
      go_ret
      exact ⟨rfl, rfl⟩
    · have e1 : decide (x ≥ 1) = false := decide_eq_false h2
      have e : okD N x i = false := by unfold okD; rw [if_neg h1, decide_eq_false h2, Bool.false_and]
      rw [e]
      clear e
      go_enter Tryd.func10, Tryd.ntmps10
      go_wp2
      go_ret
      exact ⟨rfl, rfl⟩

set_option maxHeartbeats 400000 in
theorem mayL_any (g i j N : Nat) (z d : Nat → Int) (x : Int) (w : World) (h : FRow w g N z d) :
    Calls Tryd.prog 11 #[.pointer (some ⟨g, 0, none⟩), .int .i64 x, .int .i64 (i : Int), .int .i64 (j : Int)] w fun e w' => e = .returned (.bool (okL N x i j)) ∧ w' = w := by
  have c := FRow.n h
  clear h
  by_cases h1 : N ≤ i
  · have e1 : decide ((i : Int) ≥ (N : Int)) = true := decide_eq_true (by omega)
    have e : okL N x i j = (x == 0) := by unfold okL; rw [if_pos (Or.inl h1)]
    rw [e]
    clear e
    go_enter Tryd.func11, Tryd.ntmps11
    go_wp2
    go_ret
    exact ⟨rfl, rfl⟩
  · have e1 : decide ((i : Int) ≥ (N : Int)) = false := decide_eq_false (by omega)
    by_cases h2 : i < j
    · have e2 : decide ((j : Int) > (i : Int)) = true := decide_eq_true (by omega)
      have e : okL N x i j = (x == 0) := by unfold okL; rw [if_pos (Or.inr h2)]
      rw [e]
      clear e
      go_enter Tryd.func11, Tryd.ntmps11
      go_wp2
      go_ret
      exact ⟨rfl, rfl⟩
    · have e2 : decide ((j : Int) > (i : Int)) = false := decide_eq_false (by omega)
      by_cases h3 : j = i
      · have e3 : ((j : Int) == (i : Int)) = true := by simp; omega
        have e : okL N x i j = (x == 1073741824) := by unfold okL; rw [if_neg (by omega), if_pos h3]
        rw [e]
        clear e h3
        go_enter Tryd.func11, Tryd.ntmps11
        go_wp2
        go_ret
        exact ⟨rfl, rfl⟩
      · have e3 : ((j : Int) == (i : Int)) = false := by simp; omega
        have e : okL N x i j = !great x := by unfold okL; rw [if_neg (by omega), if_neg h3]
        rw [e]
        clear e h3
        go_enter Tryd.func11, Tryd.ntmps11
        go_wp2_with fail
        refine (clamp_any x _).mono ?_
        rintro e w1 ⟨rfl, rfl⟩
        go_wp2
        go_ret
        exact ⟨rfl, rfl⟩

set_option maxRecDepth 10000 in
set_option maxHeartbeats 1000000 in
theorem fcheck_any (n : Int) (z d : Nat → Int) (w : World) :
    Calls Tryd.prog 4 #[.agg (fvals n z d).toArray] w fun e w' => e = .returned (resC (FMay n z d)) ∧ Below w.heap.size w w' := by
  have rF : FRow (w.alloc (.cells (fvals n z d).toArray 26)) w.heap.size n z d := crow_new w _ _
  have hB := below_al (Below.refl _ w) (.cells (fvals n z d).toArray 26)
  obtain ⟨W, hW⟩ : ∃ W, W = w.alloc (.cells (fvals n z d).toArray 26) := ⟨_, rfl⟩
  obtain ⟨g, hg⟩ : ∃ g, g = w.heap.size := ⟨_, rfl⟩
  rw [← hW] at rF hB
  rw [← hg] at rF
  have HW := Hid.mkV hW
  have HG := Hid.mkV hg
  have HF : Hid (FMay n z d ↔ 1 ≤ n ∧ n ≤ 6 ∧ (∀ k, k < 6 → okD n.toNat (d k) k = true) ∧ ∀ k, k < 36 → okL n.toNat (z k) (k / n.toNat) (k % n.toNat) = true) := Iff.rfl
  have HY : Hid (FMay n z d → resC (FMay n z d) = .nilIface) := fun h => resC_yes h
  have HN : Hid (¬ FMay n z d → resC (FMay n z d) = .iface 39 (.int .i64 1)) := fun h => resC_no h
  obtain ⟨V, hV⟩ : ∃ V, V = resC (FMay n z d) := ⟨_, rfl⟩
  obtain ⟨M, hM⟩ : ∃ M, M = FMay n z d := ⟨_, rfl⟩
  rw [← hV] at HY HN ⊢
  rw [← hM] at HF HY HN
  have cN := FRow.n rF
  have rL := FRow.rangeL rF
  have rD := FRow.rangeD rF
  have HR := Hid.mkV rF
  have HRL := Hid.mkV rL
  have HRD := Hid.mkV rD
  clear hV hM hW hg rF rL rD
  by_cases h1 : n < 1
  · have e1 : decide (n < 1) = true := decide_eq_true h1
    go_enter Tryd.func4, Tryd.ntmps4
    go_wp2_with (first
      | (rw [← HW.out, ← HG.out]; refine wpList_loadF (by rfl) _ (by rfl) _ _ _ (by rfl) (by with_reducible exact cN) ?_)
      | fail)
    go_ret
    exact ⟨by rw [HN.out (fun h => by have := HF.out.1 h; omega)]; rfl, hB⟩
  have e1 : decide (n < 1) = false := decide_eq_false h1
  by_cases h2 : 6 < n
  · have e2 : decide (n > 6) = true := decide_eq_true h2
    go_enter Tryd.func4, Tryd.ntmps4
    go_wp2_with (first
      | (rw [← HW.out, ← HG.out]; refine wpList_loadF (by rfl) _ (by rfl) _ _ _ (by rfl) (by with_reducible exact cN) ?_)
      | fail)
    go_ret
    exact ⟨by rw [HN.out (fun h => by have := HF.out.1 h; omega)]; rfl, hB⟩
  have e2 : decide (n > 6) = false := decide_eq_false h2
  obtain ⟨N, rfl⟩ : ∃ N : Nat, n = N := ⟨n.toNat, by omega⟩
  have eN : ((N : Int)).toNat = N := Int.toNat_natCast N
  rw [eN] at HF
  have HMD := Hid.mkV (fun k x W (H : FRow W g N z d) => mayD_any g k N z d x W H)
  have HML := Hid.mkV (fun i j x W (H : FRow W g N z d) => mayL_any g i j N z d x W H)
  go_enter Tryd.func4, Tryd.ntmps4
  go_wp2_with (first
    | (rw [← HW.out, ← HG.out]; refine wpList_loadF (by rfl) _ (by rfl) _ _ _ (by rfl) (by with_reducible exact cN) ?_)
    | (refine wpList_part is6 (by rfl) _ (by rfl) _ _ _ (by rfl) HRD.out (vals_len _ _) ?_)
    | fail)
  go_loopw [18] (fun i wr => ∃ k : Nat, k ≤ 6 ∧ i = .int .i64 (k : Int) ∧ wr = W ∧ Hid (∀ q, q < k → okD N (d q) q = true)) (fun i _ => 6 - (intOf i).toNat)
  case atStart => exact ⟨0, by omega, rfl, by first | rfl | trivial, fun q hq => by omega⟩
  case round =>
    obtain ⟨k, hk, rfl, rfl, hok⟩ := hrel
    by_cases h : k < 6
    · have ix : ∀ W', (Instr.index 24 (.agg (vals 6 d).toArray) (.int .i64 (k : Int))).run Tryd.prog W' = .ok (.int .i64 (d k)) W' := fun W' => run_at6 W' d h
      go_wp2_with fail
      refine (HMD.out k (d k) _ HR.out).mono ?_
      rintro e w1 ⟨rfl, rfl⟩
      cases hb : okD N (d k) k with
      | false =>
        go_wp2
        go_ret
        exact ⟨by rw [HN.out (fun h => by have := (HF.out.1 h).2.2.1 k (by omega); rw [hb] at this; cases this)]; rfl, hB⟩
      | true =>
        go_wp2
        go_roundw
        case rel => exact ⟨k + 1, by omega, by go_num, by first | rfl | trivial, fun q hq => by
            rcases Nat.lt_or_ge q k with c | c
            · exact hok.out q c
            · obtain rfl : q = k := by omega
              exact hb⟩
        case measure => simp [intOf]; omega
    · obtain rfl : k = 6 := by omega
      go_wp2_with (first
        | (refine wpList_part is36 (by rfl) _ (by rfl) _ _ _ (by rfl) HRL.out (vals_len _ _) ?_)
        | fail)
      go_loopw [30] (fun i w' => ∃ k : Nat, k ≤ 36 ∧ i = .int .i64 (k : Int) ∧ (∃ t, w' = wr.drewN t) ∧ Hid (∀ q, q < k → okL N (z q) (q / N) (q % N) = true)) (fun i _ => 36 - (intOf i).toNat)
      case atStart => exact ⟨0, by omega, rfl, ⟨0, by first | rfl | trivial⟩, fun q hq => by omega⟩
      case round =>
        obtain ⟨k, hk, rfl, ⟨t, hwt⟩, hok2⟩ := hrel
        have HRq : Hid (FRow wr g N z d) := by rw [hwt]; exact HR.out
        have hBq : Below w.heap.size w wr := by rw [hwt]; exact below_drewN hB t
        have HT := Hid.mkV hwt
        clear hwt
        by_cases h : k < 36
        · have ix : ∀ W', (Instr.index 23 (.agg (vals 36 z).toArray) (.int .i64 (k : Int))).run Tryd.prog W' = .ok (.int .i64 (z k)) W' := fun W' => run_at36 W' z h
          have q1 : Int.tdiv (k : Int) (N : Int) = ((k / N : Nat) : Int) := rfl
          have q2 : Int.tmod (k : Int) (N : Int) = ((k % N : Nat) : Int) := rfl
          have q3 : k / N ≤ k := Nat.div_le_self _ _
          have q4 : k % N ≤ k := Nat.mod_le _ _
          have q5 : ((N : Int) == 0) = false := by simp; omega
          have q8 : ¬ (N : Int) = 0 := by omega
          have q9 : ¬ N = 0 := by omega
          have q10 : IntKind.i64.wrap (N : Int) = (N : Int) := by rw [IntKind.wrap_i64]; omega
          obtain ⟨i, hi⟩ : ∃ i, i = k / N := ⟨_, rfl⟩
          obtain ⟨j, hj⟩ : ∃ j, j = k % N := ⟨_, rfl⟩
          have HI := Hid.mkV hi
          have HJ := Hid.mkV hj
          rw [← hi] at q1 q3
          rw [← hj] at q2 q4
          clear hi hj
          have q6 : IntKind.i64.wrap (i : Int) = (i : Int) := by rw [IntKind.wrap_i64]; omega
          have q7 : IntKind.i64.wrap (j : Int) = (j : Int) := by rw [IntKind.wrap_i64]; omega
          have cNd := FRow.n HRq.out
          obtain ⟨zk, hzk⟩ : ∃ x, x = z k := ⟨_, rfl⟩
          rw [← hzk] at ix
          have HZ := Hid.mkV hzk
          clear hzk
          go_wp2
          go_quiet (first | (go_at_call 11; refine Calls.quiet_of_same (HML.out i j zk _ HRq.out)))
          cases hb : okL N zk i j with
          | false =>
            go_wp2
            go_ret
            exact ⟨by rw [HN.out (fun h => by have := (HF.out.1 h).2.2.2 k (by omega); rw [← HZ.out, ← HI.out, ← HJ.out, hb] at this; cases this)]; rfl, below_drewN hBq _⟩
          | true =>
            go_wp2
            go_roundw
            case rel => exact ⟨k + 1, by omega, by go_num, ⟨t + nq, by rw [HT.out]; simp⟩, fun q hq => by
                rcases Nat.lt_or_ge q k with c | c
                · exact hok2.out q c
                · obtain rfl : q = k := by omega
                  rw [← HZ.out, ← HI.out, ← HJ.out]
                  exact hb⟩
            case measure => simp [intOf]; omega
        · obtain rfl : k = 36 := by omega
          go_wp2
          go_ret
          exact ⟨by rw [HY.out (HF.out.2 ⟨by omega, by omega, fun q hq => hok.out q hq, fun q hq => hok2.out q hq⟩)]; rfl, hBq⟩

end Go.Proofs.YtfgjigkgfflofaaDoorR
