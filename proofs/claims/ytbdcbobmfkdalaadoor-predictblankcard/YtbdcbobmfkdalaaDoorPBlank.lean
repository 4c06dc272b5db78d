/-
  What is proved: whatever seven numbers and place it is given, the law PredictBlank of layer 12 returns true, ends without a panic, and leaves what was there as it was; its condition: the variable errors.errorType holds what it is laid with.
-/
import Derived.Test.YtbdcbobmfkdalaaDoorM20
import Derived.Test.YtbdcbobmfkdalaaDoorM17
import Derived.Test.YtbdcbobmfkdalaaDoorLieS
import Derived.Test.YtbdcbobmfkdalaaDoorM15
import Derived.Test.YtbdcbobmfkdalaaDoorErrA
import Derived.Test.YtbdcbobmfkdalaaDoorM16
import Derived.Test.YtbdcbobmfkdalaaDoorFPredictBlank
import Derived.Laws.BitsAllLaws
import Derived.Deep.OwnRows
set_option linter.unusedSimpArgs false
set_option linter.unusedVariables false
namespace Go.Proofs.YtbdcbobmfkdalaaDoor
open Go.RowKit Vc St Mt Cm Ld Pd Pr Qn Dt
attribute [local go_sem ↓] Go.wp_at_zero Go.wp_at_succ

namespace Pd
theorem ofInt_wrap (n : Int) : BitVec.ofInt 64 (IntKind.i64.wrap n) = BitVec.ofInt 64 n := by
  apply BitVec.eq_of_toNat_eq
  rw [BitVec.toNat_ofInt, BitVec.toNat_ofInt, IntKind.wrap_i64]
  congr 1
  omega
theorem xor_ne (x : Int) : bits .xor .i64 x 1 ≠ x := fun h => by
  have h1 : IntKind.i64.wrap ((BitVec.ofInt 64 x ^^^ BitVec.ofInt 64 1).toNat : Int) = x := h
  have h2 : BitVec.ofInt 64 x ^^^ BitVec.ofInt 64 1 = BitVec.ofInt 64 x := by
    have e := ofInt_wrap ((BitVec.ofInt 64 x ^^^ BitVec.ofInt 64 1).toNat : Int)
    rw [h1, BitVec.ofInt_natCast, BitVec.ofNat_toNat, BitVec.setWidth_eq] at e
    exact e.symm
  have h3 : BitVec.ofInt 64 1 = 0#64 := by
    have e : BitVec.ofInt 64 x ^^^ (BitVec.ofInt 64 x ^^^ BitVec.ofInt 64 1) = BitVec.ofInt 64 x ^^^ BitVec.ofInt 64 x := by rw [h2]
    rw [← BitVec.xor_assoc, BitVec.xor_self, BitVec.zero_xor] at e
    exact e
  exact absurd h3 (by decide)
/-- The numbers that a blank state asks for. -/
def okb (l : Nat → Int) (k : Nat) : Bool := decide (InV (l k)) && (decide (k < 4) || decide (1 ≤ l k))
def fb (l : Nat → Int) : Nat → Bool
  | 0 => true
  | k + 1 => fb l k && okb l k
theorem fb_iff {l : Nat → Int} : ∀ {n : Nat}, fb l n = true ↔ ∀ k, k < n → InV (l k) ∧ (k < 4 ∨ 1 ≤ l k)
  | 0 => ⟨fun _ k hk => by omega, fun _ => rfl⟩
  | n + 1 => by
    have e : fb l (n + 1) = (fb l n && okb l n) := rfl
    rw [e, Bool.and_eq_true, fb_iff]
    unfold okb
    simp only [Bool.and_eq_true, Bool.or_eq_true, decide_eq_true_eq]
    refine ⟨fun h k hk => ?_, fun h => ⟨fun k hk => h k (by omega), h n (by omega)⟩⟩
    rcases Nat.lt_or_ge k n with c | c
    · exact h.1 k c
    · obtain rfl : k = n := by omega
      exact h.2
def lX (l : Nat → Int) : Nat → Int := six (l 0) (l 2) 0 (l 1) (l 3) 0
def lD (l : Nat → Int) : Nat → Int := six (l 4) (l 5) (l 6) (l 4) (l 5) (l 6)
def lB (l : Nat → Int) : Nat → Int := six (l 0) (l 1) (l 2) (l 3) 0 0
theorem fb_yes {l : Nat → Int} (h1 : ∀ k, k < 4 → InV (lB l k)) (h2 : allIn 1 4611686018427387903 (lD l) 6) : fb l 7 = true := fb_iff.2 fun k hk => by
  match k, hk with
  | 0, _ => exact ⟨h1 0 (by omega), by omega⟩
  | 1, _ => exact ⟨h1 1 (by omega), by omega⟩
  | 2, _ => exact ⟨h1 2 (by omega), by omega⟩
  | 3, _ => exact ⟨h1 3 (by omega), by omega⟩
  | 4, _ => have := h2 0 (by omega); exact ⟨⟨by have : 1 ≤ l 4 := this.1; omega, this.2⟩, .inr this.1⟩
  | 5, _ => have := h2 1 (by omega); exact ⟨⟨by have : 1 ≤ l 5 := this.1; omega, this.2⟩, .inr this.1⟩
  | 6, _ => have := h2 2 (by omega); exact ⟨⟨by have : 1 ≤ l 6 := this.1; omega, this.2⟩, .inr this.1⟩
theorem fb_far {l : Nat → Int} (h : fb l 7 = true) : ∀ k, k < 4 → InV (lB l k) := fun k hk => by
  have g := fb_iff.1 h
  match k, hk with
  | 0, _ => exact (g 0 (by omega)).1
  | 1, _ => exact (g 1 (by omega)).1
  | 2, _ => exact (g 2 (by omega)).1
  | 3, _ => exact (g 3 (by omega)).1
theorem fb_un {l : Nat → Int} (h : fb l 7 = true) : allIn 1 4611686018427387903 (lD l) 6 := fun k hk => by
  have g := fb_iff.1 h
  have one : ∀ i, 4 ≤ i → i < 7 → 1 ≤ l i ∧ l i ≤ 4611686018427387903 := fun i h4 h7 => ⟨by rcases (g i h7).2 with c | c; omega; exact c, (g i h7).1.2⟩
  match k, hk with
  | 0, _ => exact one 4 (by omega) (by omega)
  | 1, _ => exact one 5 (by omega) (by omega)
  | 2, _ => exact one 6 (by omega) (by omega)
  | 3, _ => exact one 4 (by omega) (by omega)
  | 4, _ => exact one 5 (by omega) (by omega)
  | 5, _ => exact one 6 (by omega) (by omega)
theorem lX_in {l : Nat → Int} (h : fb l 7 = true) : ∀ k, k < 6 → InV (lX l k) := fun k hk => by
  have g := fb_iff.1 h
  have z : InV 0 := ⟨by omega, by omega⟩
  match k, hk with
  | 0, _ => exact (g 0 (by omega)).1
  | 1, _ => exact (g 2 (by omega)).1
  | 2, _ => exact z
  | 3, _ => exact (g 1 (by omega)).1
  | 4, _ => exact (g 3 (by omega)).1
  | 5, _ => exact z
theorem make6 (W : World) : (Instr.makeSlice 36 (.int .i64 6) (.int .i64 6)).run Tryd.prog W = .ok (.slice (some ⟨W.heap.size, 0, none⟩) 6 6) (W.alloc (.cells (vals 6 (fun _ => 0)).toArray 2)) := by
  have h := Go.run_make_row' (P := Tryd.prog) 36 2 (.int .i64 0) 8 Tryd.underlying36 infoI64 rfl .i64 .i64 6 (by omega) (by omega) W
  have e : madeCells #[Value.int .i64 0] 6 = (vals 6 (fun _ => 0)).toArray := by kernel_rfl
  rw [e] at h
  exact h
theorem is7 : Is 22 7 := ⟨by kernel_rfl, ⟨_, Tryd.underlying22, rfl⟩⟩
theorem isR2 : Is 39 2 := ⟨by kernel_rfl, ⟨_, Tryd.underlying39, rfl⟩⟩
theorem bP_row (l : Nat → Int) {k : Nat} (hk : k < 6) (q : Nat) : (if q = k then lD l k else 0) = bP (lD l) k q := by
  unfold bP wd
  by_cases e : q = k
  · subst e; simp
  · rw [if_neg e, if_neg (fun c => e c.symm)]
end Pd

set_option maxRecDepth 20000 in
set_option maxHeartbeats 4000000 in
theorem pb_bad (l : Nat → Int) (a1 : Int) (w : World) (hE : ErrTab w) (hf : fb l 7 = false)
    (hB : ∀ W, Calls Tryd.prog 4 #[.int .i64 (l 0), .int .i64 (l 1), .int .i64 (l 2), .int .i64 (l 3), .int .i64 (l 4), .int .i64 (l 5), .int .i64 (l 6)] W fun e w' => e = .returned (.tuple #[.agg (svals (fun _ => 0) 0 0 (fun _ => 0)).toArray, .iface 48 (.int .i64 1)]) ∧ Below W.heap.size W w') :
    Calls Tryd.prog 3 #[.agg (vals 7 l).toArray, .int .i64 a1] w fun e w' => e = .returned (.bool true) ∧ Below w.heap.size w w' := by
  have HE := hide hE
  have HB := hide hB
  clear hE hB
  have L0 := crow_new w 22 (vals 7 l)
  have B0 := below_al (Below.refl _ w) (.cells (vals 7 l).toArray 22)
  obtain ⟨W, hW⟩ : ∃ W, W = w.alloc (.cells (vals 7 l).toArray 22) := ⟨_, rfl⟩
  rw [← hW] at L0 B0
  have HW := hide hW
  have HI := hide (fun k W => rin12_any (l k) W)
  have c0 : W.cell? ⟨w.heap.size, 0, none⟩ = some (.int .i64 (l 0)) := CRow.cell L0 (vals_at (by omega)) rfl
  have c1 : W.cell? ⟨w.heap.size, 1, none⟩ = some (.int .i64 (l 1)) := CRow.cell L0 (vals_at (by omega)) rfl
  have c2 : W.cell? ⟨w.heap.size, 2, none⟩ = some (.int .i64 (l 2)) := CRow.cell L0 (vals_at (by omega)) rfl
  have c3 : W.cell? ⟨w.heap.size, 3, none⟩ = some (.int .i64 (l 3)) := CRow.cell L0 (vals_at (by omega)) rfl
  have c4 : W.cell? ⟨w.heap.size, 4, none⟩ = some (.int .i64 (l 4)) := CRow.cell L0 (vals_at (by omega)) rfl
  have c5 : W.cell? ⟨w.heap.size, 5, none⟩ = some (.int .i64 (l 5)) := CRow.cell L0 (vals_at (by omega)) rfl
  have c6 : W.cell? ⟨w.heap.size, 6, none⟩ = some (.int .i64 (l 6)) := CRow.cell L0 (vals_at (by omega)) rfl
  clear hW
  go_enter Tryd.func3, Tryd.ntmps3
  go_wp2_with (first | (rw [← HW.out]) | fail)
  refine (HB.out _).mono ?_
  rintro e w1 ⟨rfl, k1⟩
  have L1 := CRow.keep L0 k1
  have B1 := below_tr B0 k1
  have l0 := CRow.lt L1
  clear L0 B0 k1 HB HW c0 c1 c2 c3 c4 c5 c6
  go_wp2_with (first
    | ((with_reducible show wpList _ _ _ _ _ _); rw [zeroS]; refine St.wpList_storeNew isS rfl _ _ (by rfl) _ _ _ (by rfl) (by rfl) (svals_len _ _ _ _) (svals_len _ _ _ _) (one_svals _ _ _ _) ?_; intro w2 t2 k2; have L2 := CRow.keep L1 k2; have B2 := below_tr B1 k2; clear L1 B1 k2)
    | fail)
  go_loopw [7, 8] (fun f i wr => ∃ k : Nat, k ≤ 7 ∧ i = .int .i64 (k : Int) ∧ f = .bool (fb l k) ∧ wr = w2) (fun _ i _ => 7 - (intOf i).toNat)
  case atStart => exact ⟨0, by omega, rfl, rfl, rfl⟩
  case round =>
    obtain ⟨k, hk, rfl, rfl, rfl⟩ := hrel
    by_cases h : k < 7
    · have ck : World.cell? _ ⟨w.heap.size, k, none⟩ = some (.int .i64 (l k)) := CRow.cell L2 (vals_at h) rfl
      have eb : Hid (fb l (k + 1) = (fb l k && okb l k)) := rfl
      have HIk := hide (HI.out k)
      obtain ⟨v, hv⟩ : ∃ v, v = l k := ⟨_, rfl⟩
      rw [← hv] at ck HIk
      have eo : Hid (okb l k = (decide (InV v) && (decide (k < 4) || decide (1 ≤ v)))) := by rw [hv]; rfl
      clear hv
      cases hf0 : fb l k with
      | true =>
        rw [hf0] at eb
        by_cases hi : InV v
        · rw [decide_eq_true hi] at HIk eo
          by_cases h4 : k < 4
          · rw [decide_eq_true h4] at eo
            have d4 : decide ((k : Int) < 4) = true := decide_eq_true (by omega)
            have ev : fb l (k + 1) = true := by rw [eb.out, eo.out]; rfl
            clear hf0 eb eo hi
            go_wp2_with fail
            refine (HIk.out _).mono ?_
            rintro e w3 ⟨rfl, rfl⟩
            go_wp2
            go_roundw
            case rel => exact ⟨k + 1, by omega, by go_num, by rw [ev], trivial⟩
            case measure => simp [intOf]; omega
          · rw [decide_eq_false h4] at eo
            have d4 : decide ((k : Int) < 4) = false := decide_eq_false (by omega)
            by_cases h1 : 1 ≤ v
            · have d1 : decide (v ≥ 1) = true := decide_eq_true h1
              have ev : fb l (k + 1) = true := by rw [eb.out, eo.out, decide_eq_true h1]; rfl
              clear hf0 eb eo hi
              go_wp2_with fail
              refine (HIk.out _).mono ?_
              rintro e w3 ⟨rfl, rfl⟩
              go_wp2
              go_roundw
              case rel => exact ⟨k + 1, by omega, by go_num, by rw [ev], trivial⟩
              case measure => simp [intOf]; omega
            · have d1 : decide (v ≥ 1) = false := decide_eq_false h1
              have ev : fb l (k + 1) = false := by rw [eb.out, eo.out, decide_eq_false h1]; rfl
              clear hf0 eb eo hi
              go_wp2_with fail
              refine (HIk.out _).mono ?_
              rintro e w3 ⟨rfl, rfl⟩
              go_wp2
              go_roundw
              case rel => exact ⟨k + 1, by omega, by go_num, by rw [ev], trivial⟩
              case measure => simp [intOf]; omega
        · rw [decide_eq_false hi] at HIk eo
          have ev : fb l (k + 1) = false := by rw [eb.out, eo.out]; rfl
          clear hf0 eb eo hi
          go_wp2_with fail
          refine (HIk.out _).mono ?_
          rintro e w3 ⟨rfl, rfl⟩
          go_wp2
          go_roundw
          case rel => exact ⟨k + 1, by omega, by go_num, by rw [ev], trivial⟩
          case measure => simp [intOf]; omega
      | false =>
        have ev : fb l (k + 1) = false := by rw [eb.out, hf0]; rfl
        clear hf0 eb eo
        go_wp2
        go_roundw
        case rel => exact ⟨k + 1, by omega, by go_num, by rw [ev], trivial⟩
        case measure => simp [intOf]; omega
    · obtain rfl : k = 7 := by omega
      rename World => w2
      rw [hf]
      clear h
      go_wp2_with fail
      refine (num_err 1 _ (HE.out.below B2)).mono ?_
      rintro e w3 ⟨rfl, k3⟩
      have t3 := CRow.keep t2 k3
      have B3 := below_tr B2 k3
      clear t2 B2 k3 L2
      go_wp2_with (first
        | ((with_reducible show wpList _ _ _ _ _ _); refine St.wpList_load isS (by rfl) _ (by rfl) _ _ (by rfl) (by with_reducible exact t3) (svals_len _ _ _ _) ?_)
        | ((with_reducible show wpList _ _ _ _ _ _); refine Pd.buildS0 (by with_reducible rfl) (by kernel_rfl) ?_)
        | ((with_reducible show wpList _ _ _ _ _ _); refine Pd.eqlS _ _ _ (by with_reducible rfl) _ _ _ _ _ _ _ _ true (by rfl) (by rfl) (eqS_same _ _ _ _) (by kernel_rfl) ?_)
        | fail)
      refine (psure_any _).mono ?_
      rintro e w4 ⟨rfl, k4⟩
      go_wp2
      go_ret
      exact ⟨rfl, below_tr B3 k4⟩

set_option maxRecDepth 20000 in
set_option maxHeartbeats 8000000 in
theorem pb_yes (l : Nat → Int) (a1 : Int) (w : World) (hE : ErrTab w) (hf : fb l 7 = true) (ba : -9223372036854775808 ≤ a1 ∧ a1 ≤ 9223372036854775807) (bl : ∀ k, -9223372036854775808 ≤ l k ∧ l k ≤ 9223372036854775807) :
    Calls Tryd.prog 3 #[.agg (vals 7 l).toArray, .int .i64 a1] w fun e w' => e = .returned (.bool true) ∧ Below w.heap.size w w' := by
  have HB : Hid (∀ W, Calls Tryd.prog 4 #[.int .i64 (l 0), .int .i64 (l 1), .int .i64 (l 2), .int .i64 (l 3), .int .i64 (l 4), .int .i64 (l 5), .int .i64 (l 6)] W fun e w' => e = .returned (.tuple #[.agg (svals (lX l) 6 6 (mz 6 6 (bP (lD l)))).toArray, .nilIface]) ∧ Below W.heap.size W w') := fun W => pblank_yes (l 0) (l 1) (l 2) (l 3) (l 4) (l 5) (l 6) W (fb_far hf) (fb_un hf)
  have HC : Hid (∀ W, Calls Tryd.prog 9 #[.agg (svals (lX l) 6 6 (mz 6 6 (bP (lD l)))).toArray] W fun e w' => e = .returned .nilIface ∧ Below W.heap.size W w') := fun W => pcheck_six (lX l) (bP (lD l)) true W ⟨fun _ => blank_may (lX_in hf) (fb_un hf), fun _ => rfl⟩
  have HS := hide (fun yo ro yc rc W hX hP => pisState_yes yo ro yc rc (lX l) (bP (lD l)) W hX hP)
  have HQ := hide (fun Y W => psame_any (lX l) 6 6 (mz 6 6 (bP (lD l))) Y 6 6 (mz 6 6 (bP (lD l))) W)
  have HR := hide (fun k (hk : k < 6) q => bP_row l hk q)
  obtain ⟨zb, hzb⟩ : ∃ z, z = mz 6 6 (bP (lD l)) := ⟨_, rfl⟩
  rw [← hzb] at HB HC HS HQ
  obtain ⟨u, hu⟩ : ∃ u : Nat, IntKind.u64.wrap a1 = (u : Int) := ⟨(IntKind.u64.wrap a1).toNat, by rw [Int.toNat_of_nonneg]; simp [IntKind.wrap, IntKind.bits, IntKind.signed]; omega⟩
  obtain ⟨j, hj⟩ : ∃ j : Nat, j = u % 6 := ⟨_, rfl⟩
  have j6 : j < 6 := by omega
  have hj1 : Int.tmod (u : Int) 6 = (j : Int) := by rw [Int.tmod_eq_emod_of_nonneg (by omega)]; omega
  have hj2 : (u : Int) % 6 = (j : Int) := by omega
  have hj3 : IntKind.i64.wrap (j : Int) = (j : Int) := by rw [IntKind.wrap_i64]; omega
  have HJ := hide j6
  clear hzb hj hE j6
  have L0 := crow_new w 22 (vals 7 l)
  have B0 := below_al (Below.refl _ w) (.cells (vals 7 l).toArray 22)
  obtain ⟨W, hW⟩ : ∃ W, W = w.alloc (.cells (vals 7 l).toArray 22) := ⟨_, rfl⟩
  rw [← hW] at L0 B0
  have HW := hide hW
  have HI := hide (fun k W => rin12_any (l k) W)
  have c0 : W.cell? ⟨w.heap.size, 0, none⟩ = some (.int .i64 (l 0)) := CRow.cell L0 (vals_at (by omega)) rfl
  have c1 : W.cell? ⟨w.heap.size, 1, none⟩ = some (.int .i64 (l 1)) := CRow.cell L0 (vals_at (by omega)) rfl
  have c2 : W.cell? ⟨w.heap.size, 2, none⟩ = some (.int .i64 (l 2)) := CRow.cell L0 (vals_at (by omega)) rfl
  have c3 : W.cell? ⟨w.heap.size, 3, none⟩ = some (.int .i64 (l 3)) := CRow.cell L0 (vals_at (by omega)) rfl
  have c4 : W.cell? ⟨w.heap.size, 4, none⟩ = some (.int .i64 (l 4)) := CRow.cell L0 (vals_at (by omega)) rfl
  have c5 : W.cell? ⟨w.heap.size, 5, none⟩ = some (.int .i64 (l 5)) := CRow.cell L0 (vals_at (by omega)) rfl
  have c6 : W.cell? ⟨w.heap.size, 6, none⟩ = some (.int .i64 (l 6)) := CRow.cell L0 (vals_at (by omega)) rfl
  clear hW
  go_enter Tryd.func3, Tryd.ntmps3
  go_wp2_with (first | (rw [← HW.out]) | fail)
  refine (HB.out _).mono ?_
  rintro e w1 ⟨rfl, k1⟩
  have L1 := CRow.keep L0 k1
  have B1 := below_tr B0 k1
  have l0 := CRow.lt L1
  clear L0 B0 k1 HB HW c0 c1 c2 c3 c4 c5 c6
  go_wp2_with (first
    | ((with_reducible show wpList _ _ _ _ _ _); rw [zeroS]; refine St.wpList_storeNew isS rfl _ _ (by rfl) _ _ _ (by rfl) (by rfl) (svals_len _ _ _ _) (svals_len _ _ _ _) (one_svals _ _ _ _) ?_; intro w2 t2 k2; have L2 := CRow.keep L1 k2; have B2 := below_tr B1 k2; clear L1 B1 k2)
    | fail)
  go_loopw [7, 8] (fun f i wr => ∃ k : Nat, k ≤ 7 ∧ i = .int .i64 (k : Int) ∧ f = .bool (fb l k) ∧ wr = w2) (fun _ i _ => 7 - (intOf i).toNat)
  case atStart => exact ⟨0, by omega, rfl, rfl, rfl⟩
  case round =>
    obtain ⟨k, hk, rfl, rfl, rfl⟩ := hrel
    by_cases h : k < 7
    · have ck : World.cell? _ ⟨w.heap.size, k, none⟩ = some (.int .i64 (l k)) := CRow.cell L2 (vals_at h) rfl
      have eb : Hid (fb l (k + 1) = (fb l k && okb l k)) := rfl
      have HIk := hide (HI.out k)
      obtain ⟨v, hv⟩ : ∃ v, v = l k := ⟨_, rfl⟩
      rw [← hv] at ck HIk
      have eo : Hid (okb l k = (decide (InV v) && (decide (k < 4) || decide (1 ≤ v)))) := by rw [hv]; rfl
      clear hv
      cases hf0 : fb l k with
      | true =>
        rw [hf0] at eb
        by_cases hi : InV v
        · rw [decide_eq_true hi] at HIk eo
          by_cases h4 : k < 4
          · rw [decide_eq_true h4] at eo
            have d4 : decide ((k : Int) < 4) = true := decide_eq_true (by omega)
            have ev : fb l (k + 1) = true := by rw [eb.out, eo.out]; rfl
            clear hf0 eb eo hi
            go_wp2_with fail
            refine (HIk.out _).mono ?_
            rintro e w3 ⟨rfl, rfl⟩
            go_wp2
            go_roundw
            case rel => exact ⟨k + 1, by omega, by go_num, by rw [ev], trivial⟩
            case measure => simp [intOf]; omega
          · rw [decide_eq_false h4] at eo
            have d4 : decide ((k : Int) < 4) = false := decide_eq_false (by omega)
            by_cases h1 : 1 ≤ v
            · have d1 : decide (v ≥ 1) = true := decide_eq_true h1
              have ev : fb l (k + 1) = true := by rw [eb.out, eo.out, decide_eq_true h1]; rfl
              clear hf0 eb eo hi
              go_wp2_with fail
              refine (HIk.out _).mono ?_
              rintro e w3 ⟨rfl, rfl⟩
              go_wp2
              go_roundw
              case rel => exact ⟨k + 1, by omega, by go_num, by rw [ev], trivial⟩
              case measure => simp [intOf]; omega
            · have d1 : decide (v ≥ 1) = false := decide_eq_false h1
              have ev : fb l (k + 1) = false := by rw [eb.out, eo.out, decide_eq_false h1]; rfl
              clear hf0 eb eo hi
              go_wp2_with fail
              refine (HIk.out _).mono ?_
              rintro e w3 ⟨rfl, rfl⟩
              go_wp2
              go_roundw
              case rel => exact ⟨k + 1, by omega, by go_num, by rw [ev], trivial⟩
              case measure => simp [intOf]; omega
        · rw [decide_eq_false hi] at HIk eo
          have ev : fb l (k + 1) = false := by rw [eb.out, eo.out]; rfl
          clear hf0 eb eo hi
          go_wp2_with fail
          refine (HIk.out _).mono ?_
          rintro e w3 ⟨rfl, rfl⟩
          go_wp2
          go_roundw
          case rel => exact ⟨k + 1, by omega, by go_num, by rw [ev], trivial⟩
          case measure => simp [intOf]; omega
      | false =>
        have ev : fb l (k + 1) = false := by rw [eb.out, hf0]; rfl
        clear hf0 eb eo
        go_wp2
        go_roundw
        case rel => exact ⟨k + 1, by omega, by go_num, by rw [ev], trivial⟩
        case measure => simp [intOf]; omega
    · obtain rfl : k = 7 := by omega
      rename World => w2
      rw [hf]
      clear h
      have c0 : w2.cell? ⟨w.heap.size, 0, none⟩ = some (.int .i64 (l 0)) := CRow.cell L2 (vals_at (by omega)) rfl
      have c1 : w2.cell? ⟨w.heap.size, 1, none⟩ = some (.int .i64 (l 1)) := CRow.cell L2 (vals_at (by omega)) rfl
      have c2 : w2.cell? ⟨w.heap.size, 2, none⟩ = some (.int .i64 (l 2)) := CRow.cell L2 (vals_at (by omega)) rfl
      have c3 : w2.cell? ⟨w.heap.size, 3, none⟩ = some (.int .i64 (l 3)) := CRow.cell L2 (vals_at (by omega)) rfl
      have xA := crow_new w2 2 (vals 6 (lX l))
      have kA := below_al (Below.refl _ w2) (.cells (vals 6 (lX l)).toArray 2)
      obtain ⟨wA, hwA⟩ : ∃ W, W = w2.alloc (.cells (vals 6 (lX l)).toArray 2) := ⟨_, rfl⟩
      rw [← hwA] at xA kA
      have HA := hide hwA
      have LA := CRow.keep L2 kA
      have tA := CRow.keep t2 kA
      have BA := below_tr B2 kA
      have d0 := keep_cell kA c0
      have d1 := keep_cell kA c1
      have d2 := keep_cell kA c2
      have d3 := keep_cell kA c3
      have l1 := CRow.lt t2
      have l2 := CRow.lt xA
      clear hwA L2 t2 B2 kA
      go_wp2_with (first
        | (rw [show (#[.int .i64 (l 0), .int .i64 (l 2), .int .i64 0, .int .i64 (l 1), .int .i64 (l 3), .int .i64 0] : Array Value) = (vals 6 (lX l)).toArray from rfl, ← HA.out])
        | ((with_reducible show wpList _ _ _ _ _ _); refine St.wpList_storeNew isR2 rfl _ _ (by rfl) _ [.slice none 0 0, .slice none 0 0] [.slice (some ⟨w2.heap.size, 0, none⟩) 6 6, .slice none 0 0] (by rfl) (by rfl) rfl rfl (by intro v hv; simp only [List.mem_cons, List.not_mem_nil, or_false] at hv; rcases hv with rfl | rfl <;> rfl) ?_; intro w3 n3 k3; have L3 := CRow.keep LA k3; have t3 := CRow.keep tA k3; have x3 := CRow.keep xA k3; have B3 := below_tr BA k3; clear LA tA xA BA k3)
        | fail)
      clear c0 c1 c2 c3 d0 d1 d2 d3 HA
      have l3 := CRow.lt n3
      obtain ⟨gw, hgw⟩ : ∃ g, g = wA.heap.size := ⟨_, rfl⟩
      rw [← hgw] at n3 l2 l3 ⊢
      obtain ⟨o, ho⟩ : ∃ o, o = w3.heap.size := ⟨_, rfl⟩
      rw [← ho] at l3
      have z0 : Ls.Sts o w3 (.slice none 0 0) (.slice none 0 0) 0 0 6 (fun _ => 0) (bP (lD l)) := Ls.Sts.nil (by omega) _ _ _
      have hL : ∀ V, But (fun q => q = gw ∨ o ≤ q) w3 V → CRow V w.heap.size 22 (vals 7 l) := fun V k => crowBut L3 k (by have := B3.size; have := CRow.lt L3; rintro (e | e); (omega); omega)
      have hT : ∀ V, But (fun q => q = gw ∨ o ≤ q) w3 V → SRow V w1.heap.size (lX l) 6 6 zb := fun V k => crowBut t3 k (by rintro (e | e) <;> omega)
      have hX : ∀ V, But (fun q => q = gw ∨ o ≤ q) w3 V → Sl V (some ⟨w2.heap.size, 0, none⟩) 6 6 (lX l) := fun V k => crow_sl (crowBut x3 k (by rintro (e | e) <;> omega)) (by omega)
      have hB : ∀ V, But (fun q => q = gw ∨ o ≤ q) w3 V → Below w.heap.size w V := fun V k => k.below B3 B3.size (by rintro q (e | e) <;> omega)
      have HL := hide hL
      have HT := hide hT
      have HX := hide hX
      have HBe := hide hB
      have HO := hide ho
      clear hL hT hX hB L3 t3 x3 B3 ho hgw
      go_loopw [10, 11] (fun i _ wr => ∃ (k : Nat) (v : Value), k ≤ 6 ∧ i = .int .i64 (k : Int) ∧ CRow wr gw 39 [.slice (some ⟨w2.heap.size, 0, none⟩) 6 6, v] ∧ Ls.Sts o wr (.slice none 0 0) v 0 k 6 (fun _ => 0) (bP (lD l)) ∧ But (fun q => q = gw ∨ o ≤ q) w3 wr) (fun i _ _ => 6 - (intOf i).toNat)
      case atStart => exact ⟨0, _, by omega, rfl, n3, z0, But.refl _ _⟩
      case round =>
        rename World => wr
        obtain ⟨k, v, hk, rfl, nr, zr, br⟩ := hrel
        by_cases h : k < 6
        · have Lr := HL.out _ br
          have hle := zr.le
          rcases (by omega : k = 0 ∨ k = 1 ∨ k = 2 ∨ k = 3 ∨ k = 4 ∨ k = 5) with rfl | rfl | rfl | rfl | rfl | rfl
          · have cl : wr.cell? ⟨w.heap.size, 4, none⟩ = some (.int .i64 (l 4)) := CRow.cell Lr (vals_at (by omega)) rfl
            have m1 := crow_new wr 2 (vals 6 (fun _ => 0))
            have k1 := below_al (Below.refl _ wr) (.cells (vals 6 (fun _ => 0)).toArray 2)
            have cl1 := keep_cell k1 cl
            have q1 : World.cell? _ ⟨wr.heap.size, 0, none⟩ = some (.int .i64 0) := CRow.cell m1 (vals_at (by omega)) rfl
            have f1 := CRow.free m1 0
            have m2 := CRow.set m1 0 (.int .i64 (l 4))
            rw [vals_set] at m2
            have k2 := k1.trans (St.below_set (x := ⟨wr.heap.size, 0, none⟩) k1.size (Nat.le_refl _) (.int .i64 (l 4)))
            obtain ⟨wa, hwa⟩ : ∃ W, W = wr.alloc (.cells (vals 6 (fun _ => 0)).toArray 2) := ⟨_, rfl⟩
            rw [← hwa] at cl1 q1 f1 m2 k2
            have HA := hide hwa
            obtain ⟨wb, hwb⟩ : ∃ W, W = wa.setCell ⟨wr.heap.size, 0, none⟩ (.int .i64 (l 4)) := ⟨_, rfl⟩
            rw [← hwb] at m2 k2
            have HB2 := hide hwb
            have s2 : Sl wb (some ⟨wr.heap.size, 0, none⟩) 6 6 (bP (lD l) 0) := (crow_sl m2 (by omega)).congr (fun q _ => HR.out 0 h q)
            have z2 := zr.keep k2
            have ap := zr.apart (ra := some ⟨wr.heap.size, 0, none⟩) (fun x hx => by cases hx; exact Nat.le_refl _)
            have n2 := CRow.keep nr k2
            have b2 := br.then k2
            have c9 : wb.cell? ⟨gw, 1, none⟩ = some v := CRow.cell n2 (k := 1) rfl rfl
            have hmk := fun W : World => make6 W
            have HS2 := hide s2
            have HAP := hide ap
            clear hwa hwb m1 k1 m2 s2 ap cl zr nr br Lr
            go_wp2_with (first
              | (rw [← HA.out])
              | (rw [← HB2.out])
              | (at_builtin; refine Ls.pushP (by rfl) _ _ (by rfl) o _ v 0 0 6 (fun _ => 0) (bP (lD l)) (by rfl) z2 (by omega) (by omega) (some ⟨wr.heap.size, 0, none⟩) 6 HS2.out HAP.out (by rfl) ?_)
              | fail)
            intro v' w' zp bp
            obtain ⟨lo', cm', hv', _⟩ := zp.grid
            subst hv'
            have n4 := crowBut n2 bp (by omega)
            have b4 := b2.trans (bp.mono fun q e => Or.inr e)
            have c4 : w'.cell? ⟨gw, 1, none⟩ = some v := CRow.cell n4 (k := 1) rfl rfl
            have f4 := CRow.free n4 1
            have n5 := CRow.set n4 1 (.slice lo' 1 cm')
            have b5 := b4.set (p := ⟨gw, 1, none⟩) (.slice lo' 1 cm') (Or.inl rfl)
            have z5 := zp.put (g := gw) l3 ((But.refl (· = gw) w').set (p := ⟨gw, 1, none⟩) (.slice lo' 1 cm') rfl)
            clear n2 b2 c9 z2 n4 b4 zp bp HA HB2 HS2 HAP q1 f1 cl1 k2
            go_wp2
            go_roundw
            case rel => exact ⟨1, _, by omega, rfl, n5, z5, b5⟩
            case measure => simp [intOf]
          · have cl : wr.cell? ⟨w.heap.size, 5, none⟩ = some (.int .i64 (l 5)) := CRow.cell Lr (vals_at (by omega)) rfl
            have m1 := crow_new wr 2 (vals 6 (fun _ => 0))
            have k1 := below_al (Below.refl _ wr) (.cells (vals 6 (fun _ => 0)).toArray 2)
            have cl1 := keep_cell k1 cl
            have q1 : World.cell? _ ⟨wr.heap.size, 1, none⟩ = some (.int .i64 0) := CRow.cell m1 (vals_at (by omega)) rfl
            have f1 := CRow.free m1 1
            have m2 := CRow.set m1 1 (.int .i64 (l 5))
            rw [vals_set] at m2
            have k2 := k1.trans (St.below_set (x := ⟨wr.heap.size, 1, none⟩) k1.size (Nat.le_refl _) (.int .i64 (l 5)))
            obtain ⟨wa, hwa⟩ : ∃ W, W = wr.alloc (.cells (vals 6 (fun _ => 0)).toArray 2) := ⟨_, rfl⟩
            rw [← hwa] at cl1 q1 f1 m2 k2
            have HA := hide hwa
            obtain ⟨wb, hwb⟩ : ∃ W, W = wa.setCell ⟨wr.heap.size, 1, none⟩ (.int .i64 (l 5)) := ⟨_, rfl⟩
            rw [← hwb] at m2 k2
            have HB2 := hide hwb
            have s2 : Sl wb (some ⟨wr.heap.size, 0, none⟩) 6 6 (bP (lD l) 1) := (crow_sl m2 (by omega)).congr (fun q _ => HR.out 1 h q)
            have z2 := zr.keep k2
            have ap := zr.apart (ra := some ⟨wr.heap.size, 0, none⟩) (fun x hx => by cases hx; exact Nat.le_refl _)
            have n2 := CRow.keep nr k2
            have b2 := br.then k2
            have c9 : wb.cell? ⟨gw, 1, none⟩ = some v := CRow.cell n2 (k := 1) rfl rfl
            have hmk := fun W : World => make6 W
            have HS2 := hide s2
            have HAP := hide ap
            clear hwa hwb m1 k1 m2 s2 ap cl zr nr br Lr
            go_wp2_with (first
              | (rw [← HA.out])
              | (rw [← HB2.out])
              | (at_builtin; refine Ls.pushP (by rfl) _ _ (by rfl) o _ v 0 1 6 (fun _ => 0) (bP (lD l)) (by rfl) z2 (by omega) (by omega) (some ⟨wr.heap.size, 0, none⟩) 6 HS2.out HAP.out (by rfl) ?_)
              | fail)
            intro v' w' zp bp
            obtain ⟨lo', cm', hv', _⟩ := zp.grid
            subst hv'
            have n4 := crowBut n2 bp (by omega)
            have b4 := b2.trans (bp.mono fun q e => Or.inr e)
            have c4 : w'.cell? ⟨gw, 1, none⟩ = some v := CRow.cell n4 (k := 1) rfl rfl
            have f4 := CRow.free n4 1
            have n5 := CRow.set n4 1 (.slice lo' 2 cm')
            have b5 := b4.set (p := ⟨gw, 1, none⟩) (.slice lo' 2 cm') (Or.inl rfl)
            have z5 := zp.put (g := gw) l3 ((But.refl (· = gw) w').set (p := ⟨gw, 1, none⟩) (.slice lo' 2 cm') rfl)
            clear n2 b2 c9 z2 n4 b4 zp bp HA HB2 HS2 HAP q1 f1 cl1 k2
            go_wp2
            go_roundw
            case rel => exact ⟨2, _, by omega, rfl, n5, z5, b5⟩
            case measure => simp [intOf]
          · have cl : wr.cell? ⟨w.heap.size, 6, none⟩ = some (.int .i64 (l 6)) := CRow.cell Lr (vals_at (by omega)) rfl
            have m1 := crow_new wr 2 (vals 6 (fun _ => 0))
            have k1 := below_al (Below.refl _ wr) (.cells (vals 6 (fun _ => 0)).toArray 2)
            have cl1 := keep_cell k1 cl
            have q1 : World.cell? _ ⟨wr.heap.size, 2, none⟩ = some (.int .i64 0) := CRow.cell m1 (vals_at (by omega)) rfl
            have f1 := CRow.free m1 2
            have m2 := CRow.set m1 2 (.int .i64 (l 6))
            rw [vals_set] at m2
            have k2 := k1.trans (St.below_set (x := ⟨wr.heap.size, 2, none⟩) k1.size (Nat.le_refl _) (.int .i64 (l 6)))
            obtain ⟨wa, hwa⟩ : ∃ W, W = wr.alloc (.cells (vals 6 (fun _ => 0)).toArray 2) := ⟨_, rfl⟩
            rw [← hwa] at cl1 q1 f1 m2 k2
            have HA := hide hwa
            obtain ⟨wb, hwb⟩ : ∃ W, W = wa.setCell ⟨wr.heap.size, 2, none⟩ (.int .i64 (l 6)) := ⟨_, rfl⟩
            rw [← hwb] at m2 k2
            have HB2 := hide hwb
            have s2 : Sl wb (some ⟨wr.heap.size, 0, none⟩) 6 6 (bP (lD l) 2) := (crow_sl m2 (by omega)).congr (fun q _ => HR.out 2 h q)
            have z2 := zr.keep k2
            have ap := zr.apart (ra := some ⟨wr.heap.size, 0, none⟩) (fun x hx => by cases hx; exact Nat.le_refl _)
            have n2 := CRow.keep nr k2
            have b2 := br.then k2
            have c9 : wb.cell? ⟨gw, 1, none⟩ = some v := CRow.cell n2 (k := 1) rfl rfl
            have hmk := fun W : World => make6 W
            have HS2 := hide s2
            have HAP := hide ap
            clear hwa hwb m1 k1 m2 s2 ap cl zr nr br Lr
            go_wp2_with (first
              | (rw [← HA.out])
              | (rw [← HB2.out])
              | (at_builtin; refine Ls.pushP (by rfl) _ _ (by rfl) o _ v 0 2 6 (fun _ => 0) (bP (lD l)) (by rfl) z2 (by omega) (by omega) (some ⟨wr.heap.size, 0, none⟩) 6 HS2.out HAP.out (by rfl) ?_)
              | fail)
            intro v' w' zp bp
            obtain ⟨lo', cm', hv', _⟩ := zp.grid
            subst hv'
            have n4 := crowBut n2 bp (by omega)
            have b4 := b2.trans (bp.mono fun q e => Or.inr e)
            have c4 : w'.cell? ⟨gw, 1, none⟩ = some v := CRow.cell n4 (k := 1) rfl rfl
            have f4 := CRow.free n4 1
            have n5 := CRow.set n4 1 (.slice lo' 3 cm')
            have b5 := b4.set (p := ⟨gw, 1, none⟩) (.slice lo' 3 cm') (Or.inl rfl)
            have z5 := zp.put (g := gw) l3 ((But.refl (· = gw) w').set (p := ⟨gw, 1, none⟩) (.slice lo' 3 cm') rfl)
            clear n2 b2 c9 z2 n4 b4 zp bp HA HB2 HS2 HAP q1 f1 cl1 k2
            go_wp2
            go_roundw
            case rel => exact ⟨3, _, by omega, rfl, n5, z5, b5⟩
            case measure => simp [intOf]
          · have cl : wr.cell? ⟨w.heap.size, 4, none⟩ = some (.int .i64 (l 4)) := CRow.cell Lr (vals_at (by omega)) rfl
            have m1 := crow_new wr 2 (vals 6 (fun _ => 0))
            have k1 := below_al (Below.refl _ wr) (.cells (vals 6 (fun _ => 0)).toArray 2)
            have cl1 := keep_cell k1 cl
            have q1 : World.cell? _ ⟨wr.heap.size, 3, none⟩ = some (.int .i64 0) := CRow.cell m1 (vals_at (by omega)) rfl
            have f1 := CRow.free m1 3
            have m2 := CRow.set m1 3 (.int .i64 (l 4))
            rw [vals_set] at m2
            have k2 := k1.trans (St.below_set (x := ⟨wr.heap.size, 3, none⟩) k1.size (Nat.le_refl _) (.int .i64 (l 4)))
            obtain ⟨wa, hwa⟩ : ∃ W, W = wr.alloc (.cells (vals 6 (fun _ => 0)).toArray 2) := ⟨_, rfl⟩
            rw [← hwa] at cl1 q1 f1 m2 k2
            have HA := hide hwa
            obtain ⟨wb, hwb⟩ : ∃ W, W = wa.setCell ⟨wr.heap.size, 3, none⟩ (.int .i64 (l 4)) := ⟨_, rfl⟩
            rw [← hwb] at m2 k2
            have HB2 := hide hwb
            have s2 : Sl wb (some ⟨wr.heap.size, 0, none⟩) 6 6 (bP (lD l) 3) := (crow_sl m2 (by omega)).congr (fun q _ => HR.out 3 h q)
            have z2 := zr.keep k2
            have ap := zr.apart (ra := some ⟨wr.heap.size, 0, none⟩) (fun x hx => by cases hx; exact Nat.le_refl _)
            have n2 := CRow.keep nr k2
            have b2 := br.then k2
            have c9 : wb.cell? ⟨gw, 1, none⟩ = some v := CRow.cell n2 (k := 1) rfl rfl
            have hmk := fun W : World => make6 W
            have HS2 := hide s2
            have HAP := hide ap
            clear hwa hwb m1 k1 m2 s2 ap cl zr nr br Lr
            go_wp2_with (first
              | (rw [← HA.out])
              | (rw [← HB2.out])
              | (at_builtin; refine Ls.pushP (by rfl) _ _ (by rfl) o _ v 0 3 6 (fun _ => 0) (bP (lD l)) (by rfl) z2 (by omega) (by omega) (some ⟨wr.heap.size, 0, none⟩) 6 HS2.out HAP.out (by rfl) ?_)
              | fail)
            intro v' w' zp bp
            obtain ⟨lo', cm', hv', _⟩ := zp.grid
            subst hv'
            have n4 := crowBut n2 bp (by omega)
            have b4 := b2.trans (bp.mono fun q e => Or.inr e)
            have c4 : w'.cell? ⟨gw, 1, none⟩ = some v := CRow.cell n4 (k := 1) rfl rfl
            have f4 := CRow.free n4 1
            have n5 := CRow.set n4 1 (.slice lo' 4 cm')
            have b5 := b4.set (p := ⟨gw, 1, none⟩) (.slice lo' 4 cm') (Or.inl rfl)
            have z5 := zp.put (g := gw) l3 ((But.refl (· = gw) w').set (p := ⟨gw, 1, none⟩) (.slice lo' 4 cm') rfl)
            clear n2 b2 c9 z2 n4 b4 zp bp HA HB2 HS2 HAP q1 f1 cl1 k2
            go_wp2
            go_roundw
            case rel => exact ⟨4, _, by omega, rfl, n5, z5, b5⟩
            case measure => simp [intOf]
          · have cl : wr.cell? ⟨w.heap.size, 5, none⟩ = some (.int .i64 (l 5)) := CRow.cell Lr (vals_at (by omega)) rfl
            have m1 := crow_new wr 2 (vals 6 (fun _ => 0))
            have k1 := below_al (Below.refl _ wr) (.cells (vals 6 (fun _ => 0)).toArray 2)
            have cl1 := keep_cell k1 cl
            have q1 : World.cell? _ ⟨wr.heap.size, 4, none⟩ = some (.int .i64 0) := CRow.cell m1 (vals_at (by omega)) rfl
            have f1 := CRow.free m1 4
            have m2 := CRow.set m1 4 (.int .i64 (l 5))
            rw [vals_set] at m2
            have k2 := k1.trans (St.below_set (x := ⟨wr.heap.size, 4, none⟩) k1.size (Nat.le_refl _) (.int .i64 (l 5)))
            obtain ⟨wa, hwa⟩ : ∃ W, W = wr.alloc (.cells (vals 6 (fun _ => 0)).toArray 2) := ⟨_, rfl⟩
            rw [← hwa] at cl1 q1 f1 m2 k2
            have HA := hide hwa
            obtain ⟨wb, hwb⟩ : ∃ W, W = wa.setCell ⟨wr.heap.size, 4, none⟩ (.int .i64 (l 5)) := ⟨_, rfl⟩
            rw [← hwb] at m2 k2
            have HB2 := hide hwb
            have s2 : Sl wb (some ⟨wr.heap.size, 0, none⟩) 6 6 (bP (lD l) 4) := (crow_sl m2 (by omega)).congr (fun q _ => HR.out 4 h q)
            have z2 := zr.keep k2
            have ap := zr.apart (ra := some ⟨wr.heap.size, 0, none⟩) (fun x hx => by cases hx; exact Nat.le_refl _)
            have n2 := CRow.keep nr k2
            have b2 := br.then k2
            have c9 : wb.cell? ⟨gw, 1, none⟩ = some v := CRow.cell n2 (k := 1) rfl rfl
            have hmk := fun W : World => make6 W
            have HS2 := hide s2
            have HAP := hide ap
            clear hwa hwb m1 k1 m2 s2 ap cl zr nr br Lr
            go_wp2_with (first
              | (rw [← HA.out])
              | (rw [← HB2.out])
              | (at_builtin; refine Ls.pushP (by rfl) _ _ (by rfl) o _ v 0 4 6 (fun _ => 0) (bP (lD l)) (by rfl) z2 (by omega) (by omega) (some ⟨wr.heap.size, 0, none⟩) 6 HS2.out HAP.out (by rfl) ?_)
              | fail)
            intro v' w' zp bp
            obtain ⟨lo', cm', hv', _⟩ := zp.grid
            subst hv'
            have n4 := crowBut n2 bp (by omega)
            have b4 := b2.trans (bp.mono fun q e => Or.inr e)
            have c4 : w'.cell? ⟨gw, 1, none⟩ = some v := CRow.cell n4 (k := 1) rfl rfl
            have f4 := CRow.free n4 1
            have n5 := CRow.set n4 1 (.slice lo' 5 cm')
            have b5 := b4.set (p := ⟨gw, 1, none⟩) (.slice lo' 5 cm') (Or.inl rfl)
            have z5 := zp.put (g := gw) l3 ((But.refl (· = gw) w').set (p := ⟨gw, 1, none⟩) (.slice lo' 5 cm') rfl)
            clear n2 b2 c9 z2 n4 b4 zp bp HA HB2 HS2 HAP q1 f1 cl1 k2
            go_wp2
            go_roundw
            case rel => exact ⟨5, _, by omega, rfl, n5, z5, b5⟩
            case measure => simp [intOf]
          · have cl : wr.cell? ⟨w.heap.size, 6, none⟩ = some (.int .i64 (l 6)) := CRow.cell Lr (vals_at (by omega)) rfl
            have m1 := crow_new wr 2 (vals 6 (fun _ => 0))
            have k1 := below_al (Below.refl _ wr) (.cells (vals 6 (fun _ => 0)).toArray 2)
            have cl1 := keep_cell k1 cl
            have q1 : World.cell? _ ⟨wr.heap.size, 5, none⟩ = some (.int .i64 0) := CRow.cell m1 (vals_at (by omega)) rfl
            have f1 := CRow.free m1 5
            have m2 := CRow.set m1 5 (.int .i64 (l 6))
            rw [vals_set] at m2
            have k2 := k1.trans (St.below_set (x := ⟨wr.heap.size, 5, none⟩) k1.size (Nat.le_refl _) (.int .i64 (l 6)))
            obtain ⟨wa, hwa⟩ : ∃ W, W = wr.alloc (.cells (vals 6 (fun _ => 0)).toArray 2) := ⟨_, rfl⟩
            rw [← hwa] at cl1 q1 f1 m2 k2
            have HA := hide hwa
            obtain ⟨wb, hwb⟩ : ∃ W, W = wa.setCell ⟨wr.heap.size, 5, none⟩ (.int .i64 (l 6)) := ⟨_, rfl⟩
            rw [← hwb] at m2 k2
            have HB2 := hide hwb
            have s2 : Sl wb (some ⟨wr.heap.size, 0, none⟩) 6 6 (bP (lD l) 5) := (crow_sl m2 (by omega)).congr (fun q _ => HR.out 5 h q)
            have z2 := zr.keep k2
            have ap := zr.apart (ra := some ⟨wr.heap.size, 0, none⟩) (fun x hx => by cases hx; exact Nat.le_refl _)
            have n2 := CRow.keep nr k2
            have b2 := br.then k2
            have c9 : wb.cell? ⟨gw, 1, none⟩ = some v := CRow.cell n2 (k := 1) rfl rfl
            have hmk := fun W : World => make6 W
            have HS2 := hide s2
            have HAP := hide ap
            clear hwa hwb m1 k1 m2 s2 ap cl zr nr br Lr
            go_wp2_with (first
              | (rw [← HA.out])
              | (rw [← HB2.out])
              | (at_builtin; refine Ls.pushP (by rfl) _ _ (by rfl) o _ v 0 5 6 (fun _ => 0) (bP (lD l)) (by rfl) z2 (by omega) (by omega) (some ⟨wr.heap.size, 0, none⟩) 6 HS2.out HAP.out (by rfl) ?_)
              | fail)
            intro v' w' zp bp
            obtain ⟨lo', cm', hv', _⟩ := zp.grid
            subst hv'
            have n4 := crowBut n2 bp (by omega)
            have b4 := b2.trans (bp.mono fun q e => Or.inr e)
            have c4 : w'.cell? ⟨gw, 1, none⟩ = some v := CRow.cell n4 (k := 1) rfl rfl
            have f4 := CRow.free n4 1
            have n5 := CRow.set n4 1 (.slice lo' 6 cm')
            have b5 := b4.set (p := ⟨gw, 1, none⟩) (.slice lo' 6 cm') (Or.inl rfl)
            have z5 := zp.put (g := gw) l3 ((But.refl (· = gw) w').set (p := ⟨gw, 1, none⟩) (.slice lo' 6 cm') rfl)
            clear n2 b2 c9 z2 n4 b4 zp bp HA HB2 HS2 HAP q1 f1 cl1 k2
            go_wp2
            go_roundw
            case rel => exact ⟨6, _, by omega, rfl, n5, z5, b5⟩
            case measure => simp [intOf]
        · obtain rfl : k = 6 := by omega
          obtain ⟨ro, rc, rfl, gP⟩ := zr.grid
          have tr := HT.out _ br
          have Xr := HX.out _ br
          have Br := HBe.out _ br
          have lr := CRow.lt tr
          clear h zr n3 z0 HR HL
          have hS := fun V (k : Below wr.heap.size wr V) => HS.out (some ⟨w2.heap.size, 0, none⟩) ro 6 rc V (Xr.keep k) (gP.keep k)
          have HS3 := hide hS
          clear hS HS Xr gP HX HT HBe br
          go_upto_region 18 with (first
            | ((with_reducible show wpList _ _ _ _ _ _); refine St.wpList_load isS (by rfl) _ (by rfl) _ _ (by rfl) (by with_reducible exact tr) (svals_len _ _ _ _) ?_)
            | ((with_reducible show wpList _ _ _ _ _ _); rw [zeroS]; refine St.wpList_storeNew isS rfl _ _ (by rfl) _ _ _ (by rfl) (by rfl) (svals_len _ _ _ _) (svals_len _ _ _ _) (one_svals _ _ _ _) ?_; intro w5 t5 k5; have s5 := CRow.keep tr k5; have n5 := CRow.keep nr k5; have B5 := below_tr Br k5)
            | fail)
          have cj := SRow.x t5 (k := j) HJ.out rfl
          have fj := CRow.free t5 j
          obtain ⟨y, hy⟩ : ∃ y, bits .xor .i64 (lX l j) 1 = y := ⟨_, rfl⟩
          have ny : Hid (y ≠ lX l j) := by rw [← hy]; exact xor_ne _
          obtain ⟨xj, hxj⟩ : ∃ x, x = lX l j := ⟨_, rfl⟩
          rw [← hxj] at cj hy
          have HXJ := hide hxj
          have t6 := SRow.setx t5 HJ.out rfl y
          have k6 := k5.trans (St.below_set (x := ⟨wr.heap.size, j, none⟩) k5.size (Nat.le_refl _) (.int .i64 y))
          have B6 := B5.trans (St.below_set (x := ⟨wr.heap.size, j, none⟩) B5.size Br.size (.int .i64 y))
          have s6 := CRow.other s5 (p := ⟨wr.heap.size, j, none⟩) (.int .i64 y) (by show w1.heap.size ≠ wr.heap.size; omega)
          have n6 := CRow.other n5 (p := ⟨wr.heap.size, j, none⟩) (.int .i64 y) (by show gw ≠ wr.heap.size; have := CRow.lt nr; omega)
          obtain ⟨w6, hw6⟩ : ∃ W, W = w5.setCell ⟨wr.heap.size, j, none⟩ (.int .i64 y) := ⟨_, rfl⟩
          rw [← hw6] at t6 k6 B6 s6 n6
          have H6 := hide hw6
          have HN : Hid (eqS (lX l) 6 6 zb (fun i => if i = j then y else lX l i) 6 6 zb = false) := by
            cases he : eqS (lX l) 6 6 zb (fun i => if i = j then y else lX l i) 6 6 zb with
            | false => rfl
            | true =>
              have e := (eqS_iff.1 he).1 j HJ.out
              rw [if_pos rfl] at e
              exact absurd e.symm ny.out
          have HQ1 := hide (HQ.out (lX l))
          rw [eqS_same] at HQ1
          have HQ2 := hide (HQ.out (fun i => if i = j then y else lX l i))
          rw [HN.out] at HQ2
          clear hw6 hxj HN HQ t5 s5 n5 k5 B5 tr nr
          have fac : World := w
          clear fac
          go_wp2_with (first
            | (rw [← H6.out])
            | ((with_reducible show wpList _ _ _ _ _ _); refine St.wpList_load isS (by rfl) _ (by rfl) _ _ (by rfl) (by with_reducible exact s6) (svals_len _ _ _ _) ?_)
            | ((with_reducible show wpList _ _ _ _ _ _); refine St.wpList_load isR2 (by rfl) _ (by rfl) _ _ (by rfl) (by with_reducible exact n6) rfl ?_)
            | fail)
          refine (HS3.out _ k6).mono ?_
          rintro e w7 ⟨rfl, k7⟩
          have s7 := CRow.keep s6 k7
          have t7 := CRow.keep t6 k7
          have B7 := below_tr B6 k7
          clear s6 t6 B6 k7 n6 H6 cj fj k6
          go_wp2_with (first
            | ((with_reducible show wpList _ _ _ _ _ _); refine St.wpList_load isS (by rfl) _ (by rfl) _ _ (by rfl) (by with_reducible exact s7) (svals_len _ _ _ _) ?_)
            | fail)
          refine (HC.out _).mono ?_
          rintro e w8 ⟨rfl, k8⟩
          have s8 := CRow.keep s7 k8
          have t8 := CRow.keep t7 k8
          have B8 := below_tr B7 k8
          clear s7 t7 B7 k8
          go_wp2_with (first
            | ((with_reducible show wpList _ _ _ _ _ _); refine St.wpList_load isS (by rfl) _ (by rfl) _ _ (by rfl) (by with_reducible exact s8) (svals_len _ _ _ _) ?_)
            | fail)
          refine (HQ1.out _).mono ?_
          rintro e w9 ⟨rfl, k9⟩
          have s9 := CRow.keep s8 k9
          have t9 := CRow.keep t8 k9
          have B9 := below_tr B8 k9
          clear s8 t8 B8 k9
          go_wp2_with (first
            | ((with_reducible show wpList _ _ _ _ _ _); refine St.wpList_load isS (by rfl) _ (by rfl) _ _ (by rfl) (by with_reducible exact s9) (svals_len _ _ _ _) ?_)
            | ((with_reducible show wpList _ _ _ _ _ _); refine St.wpList_load isS (by rfl) _ (by rfl) _ _ (by rfl) (by with_reducible exact t9) (svals_len _ _ _ _) ?_)
            | fail)
          refine (HQ2.out _).mono ?_
          rintro e w10 ⟨rfl, k10⟩
          have B10 := below_tr B9 k10
          clear s9 t9 B9 k10
          go_wp2_with fail
          refine (psure_any _).mono ?_
          rintro e w11 ⟨rfl, k11⟩
          go_wp2
          go_ret
          exact ⟨rfl, below_tr B10 k11⟩

/-- Seven numbers that came in. -/
theorem seven_lie {w : World} {cs : List Value} (h : Lie.L w 22 cs) : ∃ l : Nat → Int, cs = vals 7 l ∧ ∀ k, -9223372036854775808 ≤ l k ∧ l k ≤ 9223372036854775807 := by
  obtain ⟨hlen, hF⟩ := Lie.array_ Tryd.underlying22 h
  have hl : cs.length = 7 := by rw [hlen]; kernel_rfl
  have c1 : Tryd.prog.cellsOf 2 = 1 := by kernel_rfl
  have key : ∀ i, i < 7 → ∃ z, cs[i]? = some (.int .i64 z) ∧ -9223372036854775808 ≤ z ∧ z ≤ 9223372036854775807 := fun i hi => by
    have f := hF i hi
    rw [c1, Nat.mul_one] at f
    obtain ⟨z, e, hz⟩ := Lie.int_ Tryd.underlying2 f
    refine ⟨z, ?_, Lie.wf64 hz⟩
    have e2 : (List.take 1 (List.drop i cs))[0]? = some (.int .i64 z) := by rw [e]; rfl
    rw [List.getElem?_take, if_pos (by omega), List.getElem?_drop, Nat.add_zero] at e2
    exact e2
  refine ⟨fun i => if h : i < 7 then (key i h).choose else 0, ?_, fun k => ?_⟩
  · apply List.ext_getElem?
    intro i
    by_cases hi : i < 7
    · rw [vals_at hi]
      simp only [dif_pos hi]
      exact (key i hi).choose_spec.1
    · rw [List.getElem?_eq_none (by omega), List.getElem?_eq_none (by rw [vals_len]; omega)]
  · by_cases hk : k < 7
    · simp only [dif_pos hk]
      exact (key k hk).choose_spec.2
    · simp only [dif_neg hk]; omega

theorem pblank_walk : FPredictBlank.Walk := by
  intro c0 a1 w hL h1 hE
  obtain ⟨l, rfl, bl⟩ := seven_lie hL
  have b1 := Lie.wf64 h1
  by_cases hf : fb l 7 = true
  · exact pb_yes l a1 w hE hf b1 bl
  · have hf' : fb l 7 = false := by cases h : fb l 7 with
      | false => rfl
      | true => exact absurd h hf
    by_cases hb : ∀ k, k < 4 → InV (lB l k)
    · have hu : ¬ allIn 1 4611686018427387903 (lD l) 6 := fun q => hf (fb_yes hb q)
      exact pb_bad l a1 w hE hf' (fun W => pblank_unsure (l 0) (l 1) (l 2) (l 3) (l 4) (l 5) (l 6) W hb hu)
    · exact pb_bad l a1 w hE hf' (fun W => pblank_far (l 0) (l 1) (l 2) (l 3) (l 4) (l 5) (l 6) W hb)

/-- The law PredictBlank, of any input. -/
theorem predictblank_holds : Rows.PredictBlankCardSaid := FPredictBlank.card pblank_walk
end Go.Proofs.YtbdcbobmfkdalaaDoor
