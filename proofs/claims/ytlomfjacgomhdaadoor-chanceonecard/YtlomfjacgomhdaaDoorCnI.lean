/-
  Package chance (layer 14): the library's first greatest number, of both kinds; by shares.
-/
import Derived.Test.YtlomfjacgomhdaaDoorCnG
import Derived.Test.YtlomfjacgomhdaaDoorCnH
set_option linter.unusedSimpArgs false
set_option linter.unusedVariables false
namespace Go.Proofs.YtlomfjacgomhdaaDoor
open Go.RowKit Vc Cn

set_option maxRecDepth 10000 in
set_option maxHeartbeats 1000000 in
/-- The greatest. -/
theorem cmaxU_any (x : Addr) (n ca : Nat) (z : Nat → Int) (w : World) (hn : 0 < n) (h1 : n ≤ ca) (h2 : ca ≤ 9223372036854775807) (hc : ∀ k, k < n → w.cell? (x.add k) = some (.int .u64 (z k))) :
    Calls Tryd.prog 33 #[.slice (some x) n ca] w fun e w' => e = .returned (.int .u64 (mx z n)) ∧ w' = w := by
  have c0 := hc 0 hn
  have e0 : x.add 0 = x := rfl
  rw [e0] at c0
  have HC := hideH hc
  have e1 : decide ((n : Int) < 1) = false := decide_eq_false (by omega)
  have HM1 : Hid (mx z 1 = z 0) := by show max (z 0) (z 0) = z 0; omega
  obtain ⟨R, hR⟩ : ∃ R, R = mx z n := ⟨_, rfl⟩
  rw [← hR]
  have HR := hideH hR
  clear hc hR
  go_enter Tryd.func33, Tryd.ntmps33
  go_wp2
  go_loopw [3, 4] (fun m i wr => ∃ k : Nat, 1 ≤ k ∧ k ≤ n ∧ i = .int .i64 (k : Int) ∧ m = .int .u64 (mx z k) ∧ wr = w) (fun _ i _ => n - (intOf i).toNat)
  case atStart => exact ⟨1, by omega, by omega, rfl, by rw [HM1.out], rfl⟩
  case round =>
    obtain ⟨k, hk0, hk, rfl, rfl, rfl⟩ := hrel
    by_cases h : k < n
    · have c1 := HC.out k h
      have HU : Hid (mx z (k + 1) = max (mx z k) (z k)) := rfl
      obtain ⟨P, hP⟩ : ∃ P, P = z k := ⟨_, rfl⟩
      obtain ⟨T, hT⟩ : ∃ T, T = mx z k := ⟨_, rfl⟩
      rw [← hP] at c1 HU
      rw [← hT] at HU ⊢
      clear hP hT
      rcases Int.lt_or_le T P with c | c
      · have e2 : max T P = P := by omega
        rw [e2] at HU
        go_wp2
        go_roundw
        case rel => exact ⟨k + 1, by omega, by omega, by go_num, by rw [HU.out], trivial⟩
        case measure => simp [intOf]; omega
      · have e2 : max T P = T := by omega
        rw [e2] at HU
        go_wp2
        go_roundw
        case rel => exact ⟨k + 1, by omega, by omega, by go_num, by rw [HU.out], trivial⟩
        case measure => simp [intOf]; omega
    · obtain rfl : k = n := by omega
      rw [← HR.out]
      go_wp2
      go_ret
      exact ⟨rfl, rfl⟩

set_option maxRecDepth 10000 in
set_option maxHeartbeats 1000000 in
/-- The first place of a number. -/
theorem cindexU_any (x : Addr) (n ca : Nat) (z : Nat → Int) (v : Int) (q : Nat) (w : World) (hq : q < n) (h1 : n ≤ ca) (h2 : ca ≤ 9223372036854775807) (hc : ∀ k, k < n → w.cell? (x.add k) = some (.int .u64 (z k))) (hv : z q = v) (hno : ∀ j, j < q → z j ≠ v) :
    Calls Tryd.prog 32 #[.slice (some x) n ca, .int .u64 v] w fun e w' => e = .returned (.int .i64 (q : Int)) ∧ w' = w := by
  have HC := hideH hc
  have HV := hideH hv
  have HNO := hideH hno
  clear hc hv hno
  go_enter Tryd.func32, Tryd.ntmps32
  go_wp2
  go_loopw [8] (fun i wr => ∃ k : Nat, k ≤ q ∧ i = .int .i64 (k : Int) ∧ wr = w) (fun i _ => n - (intOf i).toNat)
  case atStart => exact ⟨0, by omega, rfl, rfl⟩
  case round =>
    obtain ⟨k, hk, rfl, rfl⟩ := hrel
    have h : k < n := by omega
    have c1 := HC.out k h
    by_cases e : k = q
    · subst e
      rw [HV.out] at c1
      go_wp2
      go_ret
      exact ⟨rfl, rfl⟩
    · have e1 := HNO.out k (by omega)
      obtain ⟨P, hP⟩ : ∃ P, P = z k := ⟨_, rfl⟩
      rw [← hP] at c1 e1
      have e2 : (v == P) = false := beq_eq_false_iff_ne.2 (fun q => e1 q.symm)
      clear hP
      go_wp2
      go_roundw
      case rel => exact ⟨k + 1, by omega, by go_num, trivial⟩
      case measure => simp [intOf]; omega

set_option maxRecDepth 10000 in
set_option maxHeartbeats 1000000 in
/-- The greatest. -/
theorem cmaxI_any (x : Addr) (n ca : Nat) (z : Nat → Int) (w : World) (hn : 0 < n) (h1 : n ≤ ca) (h2 : ca ≤ 9223372036854775807) (hc : ∀ k, k < n → w.cell? (x.add k) = some (.int .i64 (z k))) :
    Calls Tryd.prog 26 #[.slice (some x) n ca] w fun e w' => e = .returned (.int .i64 (mx z n)) ∧ w' = w := by
  have c0 := hc 0 hn
  have e0 : x.add 0 = x := rfl
  rw [e0] at c0
  have HC := hideH hc
  have e1 : decide ((n : Int) < 1) = false := decide_eq_false (by omega)
  have HM1 : Hid (mx z 1 = z 0) := by show max (z 0) (z 0) = z 0; omega
  obtain ⟨R, hR⟩ : ∃ R, R = mx z n := ⟨_, rfl⟩
  rw [← hR]
  have HR := hideH hR
  clear hc hR
  go_enter Tryd.func26, Tryd.ntmps26
  go_wp2
  go_loopw [3, 4] (fun m i wr => ∃ k : Nat, 1 ≤ k ∧ k ≤ n ∧ i = .int .i64 (k : Int) ∧ m = .int .i64 (mx z k) ∧ wr = w) (fun _ i _ => n - (intOf i).toNat)
  case atStart => exact ⟨1, by omega, by omega, rfl, by rw [HM1.out], rfl⟩
  case round =>
    obtain ⟨k, hk0, hk, rfl, rfl, rfl⟩ := hrel
    by_cases h : k < n
    · have c1 := HC.out k h
      have HU : Hid (mx z (k + 1) = max (mx z k) (z k)) := rfl
      obtain ⟨P, hP⟩ : ∃ P, P = z k := ⟨_, rfl⟩
      obtain ⟨T, hT⟩ : ∃ T, T = mx z k := ⟨_, rfl⟩
      rw [← hP] at c1 HU
      rw [← hT] at HU ⊢
      clear hP hT
      rcases Int.lt_or_le T P with c | c
      · have e2 : max T P = P := by omega
        rw [e2] at HU
        go_wp2
        go_roundw
        case rel => exact ⟨k + 1, by omega, by omega, by go_num, by rw [HU.out], trivial⟩
        case measure => simp [intOf]; omega
      · have e2 : max T P = T := by omega
        rw [e2] at HU
        go_wp2
        go_roundw
        case rel => exact ⟨k + 1, by omega, by omega, by go_num, by rw [HU.out], trivial⟩
        case measure => simp [intOf]; omega
    · obtain rfl : k = n := by omega
      rw [← HR.out]
      go_wp2
      go_ret
      exact ⟨rfl, rfl⟩

set_option maxRecDepth 10000 in
set_option maxHeartbeats 1000000 in
/-- The first place of a number. -/
theorem cindexI_any (x : Addr) (n ca : Nat) (z : Nat → Int) (v : Int) (q : Nat) (w : World) (hq : q < n) (h1 : n ≤ ca) (h2 : ca ≤ 9223372036854775807) (hc : ∀ k, k < n → w.cell? (x.add k) = some (.int .i64 (z k))) (hv : z q = v) (hno : ∀ j, j < q → z j ≠ v) :
    Calls Tryd.prog 25 #[.slice (some x) n ca, .int .i64 v] w fun e w' => e = .returned (.int .i64 (q : Int)) ∧ w' = w := by
  have HC := hideH hc
  have HV := hideH hv
  have HNO := hideH hno
  clear hc hv hno
  go_enter Tryd.func25, Tryd.ntmps25
  go_wp2
  go_loopw [8] (fun i wr => ∃ k : Nat, k ≤ q ∧ i = .int .i64 (k : Int) ∧ wr = w) (fun i _ => n - (intOf i).toNat)
  case atStart => exact ⟨0, by omega, rfl, rfl⟩
  case round =>
    obtain ⟨k, hk, rfl, rfl⟩ := hrel
    have h : k < n := by omega
    have c1 := HC.out k h
    by_cases e : k = q
    · subst e
      rw [HV.out] at c1
      go_wp2
      go_ret
      exact ⟨rfl, rfl⟩
    · have e1 := HNO.out k (by omega)
      obtain ⟨P, hP⟩ : ∃ P, P = z k := ⟨_, rfl⟩
      rw [← hP] at c1 e1
      have e2 : (v == P) = false := beq_eq_false_iff_ne.2 (fun q => e1 q.symm)
      clear hP
      go_wp2
      go_roundw
      case rel => exact ⟨k + 1, by omega, by go_num, trivial⟩
      case measure => simp [intOf]; omega

end Go.Proofs.YtlomfjacgomhdaaDoor
