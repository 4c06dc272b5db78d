/-
  The document's answer of layer 8 (radomeref08): May, Eye, Turn, Alike, Apply, Mul.
-/
import Derived.Test.YtkmhikfjdafipaaDoorMtI
import Derived.Test.YtkmhikfjdafipaaDoorM7
import Derived.Deep.RegionHeld3
set_option linter.unusedSimpArgs false
set_option linter.unusedVariables false
namespace Go.Proofs.YtkmhikfjdafipaaDoor
open Go.RowKit Vc Mt Dt

set_option maxRecDepth 10000 in
set_option maxHeartbeats 1000000 in
theorem rmay_yes (n m cm : Nat) (lo : Option Addr) (A : Nat → Option Addr) (C : Nat → Nat) (w : World) (h : Sls w lo n cm A (fun _ => m) C) (h1 : 1 ≤ n) (h2 : n ≤ 6) (h3 : 1 ≤ m) (h4 : m ≤ 6) :
    Calls Tryd.prog 14 #[.slice lo n cm] w fun e w' => e = .returned (.bool true) ∧ Below w.heap.size w w' := by
  obtain ⟨x, hlo, hcl⟩ := h.get
  obtain rfl := hlo (by omega)
  have c0 : w.cell? x = some (.slice (A 0) m (C 0)) := hcl 0 (by omega)
  have l1 := h.le
  have l2 := h.cap
  have HC := Hid.mkV hcl
  have e1 : decide ((n : Int) < 1) = false := decide_eq_false (by omega)
  have e2 : decide ((n : Int) > 6) = false := decide_eq_false (by omega)
  have e3 : decide ((m : Int) < 1) = false := decide_eq_false (by omega)
  have e4 : decide ((m : Int) > 6) = false := decide_eq_false (by omega)
  clear h hlo hcl
  go_enter Tryd.func14, Tryd.ntmps14
  go_wp2
  go_loopw [3] (fun i wr => ∃ k : Nat, k ≤ n ∧ i = .int .i64 (k : Int) ∧ Below w.heap.size w wr) (fun i _ => n - (intOf i).toNat)
  case atStart => exact ⟨0, by omega, rfl, Below.refl _ _⟩
  case round =>
    obtain ⟨k, hk, rfl, hbel⟩ := hrel
    by_cases h : k < n
    · have c1 := keep_cell hbel (HC.out k h)
      have c0' := keep_cell hbel c0
      go_wp2
      go_quiet (fail)
      go_wp2
      go_roundw
      case rel => exact ⟨k + 1, by omega, by go_num, Vc.below_drewN hbel _⟩
      case measure => simp [intOf]; omega
    · obtain rfl : k = n := by omega
      go_wp2
      go_ret
      exact ⟨rfl, hbel⟩

set_option maxRecDepth 10000 in
set_option maxHeartbeats 1000000 in
theorem rmay_rows (n cm : Nat) (lo : Option Addr) (w : World) (hn : n ≤ 9223372036854775807) (h : n < 1 ∨ 6 < n) :
    Calls Tryd.prog 14 #[.slice lo n cm] w fun e w' => e = .returned (.bool false) ∧ Below w.heap.size w w' := by
  by_cases h0 : n < 1
  · have e1 : decide ((n : Int) < 1) = true := decide_eq_true (by omega)
    go_enter Tryd.func14, Tryd.ntmps14
    go_wp2
    go_ret
    exact ⟨rfl, Below.refl _ _⟩
  · have e1 : decide ((n : Int) < 1) = false := decide_eq_false (by omega)
    have e2 : decide ((n : Int) > 6) = true := decide_eq_true (by omega)
    clear h h0
    go_enter Tryd.func14, Tryd.ntmps14
    go_wp2
    go_ret
    exact ⟨rfl, Below.refl _ _⟩

set_option maxRecDepth 10000 in
set_option maxHeartbeats 1000000 in
theorem rmay_cols (n cm : Nat) (lo : Option Addr) (A : Nat → Option Addr) (L C : Nat → Nat) (w : World) (h : Sls w lo n cm A L C) (h1 : 1 ≤ n) (h2 : n ≤ 6) (hL : L 0 ≤ 9223372036854775807) (hb : L 0 < 1 ∨ 6 < L 0) :
    Calls Tryd.prog 14 #[.slice lo n cm] w fun e w' => e = .returned (.bool false) ∧ Below w.heap.size w w' := by
  obtain ⟨x, hlo, hcl⟩ := h.get
  obtain rfl := hlo (by omega)
  have c0 : w.cell? x = some (.slice (A 0) (L 0) (C 0)) := hcl 0 (by omega)
  have l1 := h.le
  have l2 := h.cap
  have e1 : decide ((n : Int) < 1) = false := decide_eq_false (by omega)
  have e2 : decide ((n : Int) > 6) = false := decide_eq_false (by omega)
  obtain ⟨m, hm⟩ : ∃ m, m = L 0 := ⟨_, rfl⟩
  rw [← hm] at c0 hL hb
  clear h hlo hcl hm
  by_cases h0 : m < 1
  · have e3 : decide ((m : Int) < 1) = true := decide_eq_true (by omega)
    clear h0 hb
    go_enter Tryd.func14, Tryd.ntmps14
    go_wp2
    go_ret
    exact ⟨rfl, Below.refl _ _⟩
  · have e3 : decide ((m : Int) < 1) = false := decide_eq_false (by omega)
    have e4 : decide ((m : Int) > 6) = true := decide_eq_true (by omega)
    clear h0 hb
    go_enter Tryd.func14, Tryd.ntmps14
    go_wp2
    go_ret
    exact ⟨rfl, Below.refl _ _⟩

set_option maxRecDepth 10000 in
set_option maxHeartbeats 1000000 in
theorem rmay_other (n cm q : Nat) (lo : Option Addr) (A : Nat → Option Addr) (L C : Nat → Nat) (w : World) (h : Sls w lo n cm A L C) (h1 : 1 ≤ n) (h2 : n ≤ 6) (h3 : 1 ≤ L 0) (h4 : L 0 ≤ 6) (hl : ∀ k, k < n → L k ≤ 9223372036854775807) (hq : q < n) (hbad : L q ≠ L 0) (hok : ∀ k, k < q → L k = L 0) :
    Calls Tryd.prog 14 #[.slice lo n cm] w fun e w' => e = .returned (.bool false) ∧ Below w.heap.size w w' := by
  obtain ⟨x, hlo, hcl⟩ := h.get
  obtain rfl := hlo (by omega)
  have c0 : w.cell? x = some (.slice (A 0) (L 0) (C 0)) := hcl 0 (by omega)
  have l1 := h.le
  have l2 := h.cap
  have HC := Hid.mkV hcl
  have HL := Hid.mkV hl
  have HBAD := Hid.mkV hbad
  have HOK := Hid.mkV hok
  obtain ⟨m, hm⟩ : ∃ m, m = L 0 := ⟨_, rfl⟩
  rw [← hm] at c0 h3 h4
  have HN := Hid.mkV hm
  have e1 : decide ((n : Int) < 1) = false := decide_eq_false (by omega)
  have e2 : decide ((n : Int) > 6) = false := decide_eq_false (by omega)
  have e3 : decide ((m : Int) < 1) = false := decide_eq_false (by omega)
  have e4 : decide ((m : Int) > 6) = false := decide_eq_false (by omega)
  clear h hlo hcl hm hl hbad hok
  go_enter Tryd.func14, Tryd.ntmps14
  go_wp2
  go_loopw [3] (fun i wr => ∃ k : Nat, k ≤ q ∧ i = .int .i64 (k : Int) ∧ Below w.heap.size w wr) (fun i _ => n - (intOf i).toNat)
  case atStart => exact ⟨0, by omega, rfl, Below.refl _ _⟩
  case round =>
    obtain ⟨k, hk, rfl, hbel⟩ := hrel
    have h : k < n := by omega
    have c1 := keep_cell hbel (HC.out k h)
    have c0' := keep_cell hbel c0
    have b1 := HL.out k h
    by_cases hkq : k = q
    · have hh := HBAD.out
      rw [← HN.out, ← hkq] at hh
      obtain ⟨l, hl⟩ : ∃ l, l = L k := ⟨_, rfl⟩
      rw [← hl] at c1 b1 hh
      have e4 : (((l : Nat) : Int) != ((m : Nat) : Int)) = true := by rw [bne_iff_ne]; omega
      clear hl hkq hh
      go_wp2
      go_quiet (fail)
      go_wp2
      go_ret
      exact ⟨rfl, Vc.below_drewN hbel _⟩
    · have hh := HOK.out k (by omega)
      rw [hh, ← HN.out] at c1
      clear hh
      go_wp2
      go_quiet (fail)
      go_wp2
      go_roundw
      case rel => exact ⟨k + 1, by omega, by go_num, Vc.below_drewN hbel _⟩
      case measure => simp [intOf]; omega






end Go.Proofs.YtkmhikfjdafipaaDoor
