/-
  The document's answer of layer 8 (radomeref08): May, Eye, Turn, Alike, Apply, Mul.
-/
import Derived.Test.YtdgcnaijndocnaaGreatDoorM10
import Derived.Test.YtdgcnaijndocnaaGreatDoorM4
import Derived.Deep.RegionHeld3
import Derived.Test.YtdgcnaijndocnaaGreatDoorM5
import Derived.Test.YtdgcnaijndocnaaGreatDoorM2
import Derived.BigQuiet
import Derived.Deep.CutRange
import Derived.Deep.DeepCutAuto
set_option linter.unusedSimpArgs false
set_option linter.unusedVariables false
namespace Go.Proofs.YtdgcnaijndocnaaGreatDoor
open Go.RowKit Vc Mt Dt
set_option maxRecDepth 10000 in
set_option maxHeartbeats 1000000 in
theorem rmay_yes (n m cm : Nat) (lo : Option Addr) (A : Nat → Option Addr) (C : Nat → Nat) (w : World) (h : Sls w lo n cm A (fun _ => m) C) (h1 : 1 ≤ n) (h2 : n ≤ 6) (h3 : 1 ≤ m) (h4 : m ≤ 6) :
  Calls Tryz.prog 135 #[.slice lo n cm] w fun e w' => e = .returned (.bool true) ∧ Below w.heap.size w w' := by
 obtain ⟨x, hlo, hcl⟩ := h.get
 obtain rfl := hlo (by omega)
 have c0 : w.cell? x = some (.slice (A 0) m (C 0)) := hcl 0 (by omega)
 have l1 := h.le
 have l2 := h.cap
 have HC := Hid.mkV hcl
 have e1 : decide ((n : Int) < 1) = false := decide_eq_false (by omega)
 have e2 : decide ((n : Int) > 6) = false := decide_eq_false (by omega)
 have e3 : decide ((m : Int) < 1) = false := decide_eq_false (by omega)
 have e4 : decide ((m : Int) > 6) = false := decide_eq_false (by omega)
 clear h hlo hcl
 go_enter Tryz.func135, Tryz.ntmps135
 go_wp2
 go_loopw [3] (fun i wr => ∃ k : Nat, k ≤ n ∧ i = .int .i64 (k : Int) ∧ Below w.heap.size w wr) (fun i _ => n - (intOf i).toNat)
 case atStart => exact ⟨0, by omega, rfl, Below.refl _ _⟩
 case round =>
  obtain ⟨k, hk, rfl, hbel⟩ := hrel
  by_cases h : k < n
  ·have c1 := keep_cell hbel (HC.out k h)
   have c0' := keep_cell hbel c0
   go_wp2
   go_quiet (fail)
   go_wp2
   go_roundw
   case rel => exact ⟨k + 1, by omega, by go_num, Vc.below_drewN hbel _⟩
   case measure => simp [intOf]; omega
  ·obtain rfl : k = n := by omega
   go_wp2
   go_ret
   exact ⟨rfl, hbel⟩
set_option maxRecDepth 10000 in
set_option maxHeartbeats 1000000 in
theorem rmay_rows (n cm : Nat) (lo : Option Addr) (w : World) (hn : n ≤ 9223372036854775807) (h : n < 1 ∨ 6 < n) :
    Calls Tryz.prog 135 #[.slice lo n cm] w fun e w' => e = .returned (.bool false) ∧ Below w.heap.size w w' := by
  by_cases h0 : n < 1
  · have e1 : decide ((n : Int) < 1) = true := decide_eq_true (by omega)
    go_enter Tryz.func135, Tryz.ntmps135
    go_wp2
    go_ret
    exact ⟨rfl, Below.refl _ _⟩
  · have e1 : decide ((n : Int) < 1) = false := decide_eq_false (by omega)
    have e2 : decide ((n : Int) > 6) = true := decide_eq_true (by omega)
    clear h h0
    go_enter Tryz.func135, Tryz.ntmps135
    go_wp2
    go_ret
    exact ⟨rfl, Below.refl _ _⟩
set_option maxRecDepth 10000 in
set_option maxHeartbeats 1000000 in
theorem rmay_cols (n cm : Nat) (lo : Option Addr) (A : Nat → Option Addr) (L C : Nat → Nat) (w : World) (h : Sls w lo n cm A L C) (h1 : 1 ≤ n) (h2 : n ≤ 6) (hL : L 0 ≤ 9223372036854775807) (hb : L 0 < 1 ∨ 6 < L 0) :
    Calls Tryz.prog 135 #[.slice lo n cm] w fun e w' => e = .returned (.bool false) ∧ Below w.heap.size w w' := by
  obtain ⟨x, hlo, hcl⟩ := h.get
  obtain rfl := hlo (by omega)
  have c0 : w.cell? x = some (.slice (A 0) (L 0) (C 0)) := hcl 0 (by omega)
  have l1 := h.le
  have l2 := h.cap
  have e1 : decide ((n : Int) < 1) = false := decide_eq_false (by omega)
  have e2 : decide ((n : Int) > 6) = false := decide_eq_false (by omega)
  obtain ⟨m, hm⟩ : ∃ m, m = L 0 := ⟨_, rfl⟩
  rw [← hm] at c0 hL hb
  clear h hlo hcl hm
  by_cases h0 : m < 1
  · have e3 : decide ((m : Int) < 1) = true := decide_eq_true (by omega)
    clear h0 hb
    go_enter Tryz.func135, Tryz.ntmps135
    go_wp2
    go_ret
    exact ⟨rfl, Below.refl _ _⟩
  · have e3 : decide ((m : Int) < 1) = false := decide_eq_false (by omega)
    have e4 : decide ((m : Int) > 6) = true := decide_eq_true (by omega)
    clear h0 hb
    go_enter Tryz.func135, Tryz.ntmps135
    go_wp2
    go_ret
    exact ⟨rfl, Below.refl _ _⟩
set_option maxRecDepth 10000 in
set_option maxHeartbeats 1000000 in
theorem rmay_other (n cm q : Nat) (lo : Option Addr) (A : Nat → Option Addr) (L C : Nat → Nat) (w : World) (h : Sls w lo n cm A L C) (h1 : 1 ≤ n) (h2 : n ≤ 6) (h3 : 1 ≤ L 0) (h4 : L 0 ≤ 6) (hl : ∀ k, k < n → L k ≤ 9223372036854775807) (hq : q < n) (hbad : L q ≠ L 0) (hok : ∀ k, k < q → L k = L 0) :
  Calls Tryz.prog 135 #[.slice lo n cm] w fun e w' => e = .returned (.bool false) ∧ Below w.heap.size w w' := by
 obtain ⟨x, hlo, hcl⟩ := h.get
 obtain rfl := hlo (by omega)
 have c0 : w.cell? x = some (.slice (A 0) (L 0) (C 0)) := hcl 0 (by omega)
 have l1 := h.le
 have l2 := h.cap
 have HC := Hid.mkV hcl
 have HL := Hid.mkV hl
 have HBAD := Hid.mkV hbad
 have HOK := Hid.mkV hok
 obtain ⟨m, hm⟩ : ∃ m, m = L 0 := ⟨_, rfl⟩
 rw [← hm] at c0 h3 h4
 have HN := Hid.mkV hm
 have e1 : decide ((n : Int) < 1) = false := decide_eq_false (by omega)
 have e2 : decide ((n : Int) > 6) = false := decide_eq_false (by omega)
 have e3 : decide ((m : Int) < 1) = false := decide_eq_false (by omega)
 have e4 : decide ((m : Int) > 6) = false := decide_eq_false (by omega)
 clear h hlo hcl hm hl hbad hok
 go_enter Tryz.func135, Tryz.ntmps135
 go_wp2
 go_loopw [3] (fun i wr => ∃ k : Nat, k ≤ q ∧ i = .int .i64 (k : Int) ∧ Below w.heap.size w wr) (fun i _ => n - (intOf i).toNat)
 case atStart => exact ⟨0, by omega, rfl, Below.refl _ _⟩
 case round =>
  obtain ⟨k, hk, rfl, hbel⟩ := hrel
  have h : k < n := by omega
  have c1 := keep_cell hbel (HC.out k h)
  have c0' := keep_cell hbel c0
  have b1 := HL.out k h
  by_cases hkq : k = q
  ·have hh := HBAD.out
   rw [← HN.out, ← hkq] at hh
   obtain ⟨l, hl⟩ : ∃ l, l = L k := ⟨_, rfl⟩
   rw [← hl] at c1 b1 hh
   have e4 : (((l : Nat) : Int) != ((m : Nat) : Int)) = true := by rw [bne_iff_ne]; omega
   clear hl hkq hh
   go_wp2
   go_quiet (fail)
   go_wp2
   go_ret
   exact ⟨rfl, Vc.below_drewN hbel _⟩
  ·have hh := HOK.out k (by omega)
   rw [hh, ← HN.out] at c1
   clear hh
   go_wp2
   go_quiet (fail)
   go_wp2
   go_roundw
   case rel => exact ⟨k + 1, by omega, by go_num, Vc.below_drewN hbel _⟩
   case measure => simp [intOf]; omega
set_option maxRecDepth 10000 in
set_option maxHeartbeats 1000000 in
theorem rturn_any (n m cm : Nat) (lo : Option Addr) (F : Nat → Nat → Int) (w : World) (h1 : 1 ≤ n) (h2 : n ≤ 6) (h3 : 1 ≤ m) (h4 : m ≤ 6) (hg : Grid w lo n cm m F) :
  Calls Tryz.prog 73 #[.slice lo n cm] w fun e w' => ∃ lo' cm', e = .returned (.slice lo' m cm') ∧ Grid w' lo' m cm' n (fun i j => F j i) ∧ Below w.heap.size w w' := by
 obtain ⟨A, C, h, hz⟩ := hg
 obtain ⟨x, hlo, hcl⟩ := h.get
 obtain rfl := hlo (by omega)
 have c0 : w.cell? x = some (.slice (A 0) m (C 0)) := hcl 0 (by omega)
 have l1 := h.le
 have l2 := h.cap
 have HC := Hid.mkV hcl
 have HZ := Hid.mkV hz
 clear h hlo hcl hz
 go_enter Tryz.func73, Tryz.ntmps73
 go_wp2
 go_loopw [3, 4] (fun out i wr => ∃ k : Nat, k ≤ m ∧ i = .int .i64 (k : Int) ∧ Lst w.heap.size w wr out k n (fun i j => F j i)) (fun _ i _ => m - (intOf i).toNat)
 case atStart => exact ⟨0, by omega, rfl, Lst.nil (Below.refl _ _) (Nat.le_refl _) _ _⟩
 case round =>
  rename World => wo
  obtain ⟨k, hk, rfl, hL⟩ := hrel
  have c0' := keep_cell hL.below c0
  by_cases h : k < m
  ·go_wp2
   go_loopw [5, 6] (fun ps j ws => ∃ t : Nat, t ≤ n ∧ j = .int .i64 (t : Int) ∧ Own wo.heap.size wo ws ps t (fun i => F i k)) (fun _ j _ => n - (intOf j).toNat)
   case atStart => exact ⟨0, by omega, rfl, Own.nil (Below.refl _ _) (Nat.le_refl _) _⟩
   case round =>
    obtain ⟨t, ht, rfl, hown2⟩ := hrel
    by_cases h5 : t < n
    ·have kk := below_tr hL.below hown2.below
     have c1 := keep_cell kk (HC.out t h5)
     obtain ⟨ya, hya, hyc⟩ := (HZ.out t h5).get
     have c2 := keep_cell kk (hyc k h)
     rw [hya (by omega)] at c1
     have l5 := (HZ.out t h5).le
     have l6 := (HZ.out t h5).cap
     obtain ⟨V, hV⟩ : ∃ V, V = F t k := ⟨_, rfl⟩
     obtain ⟨cc, hcc⟩ : ∃ cc, cc = C t := ⟨_, rfl⟩
     rw [← hV] at c2
     rw [← hcc] at c1 l5 l6
     have HV := Hid.mkV hV
     clear hV hcc hya hyc
     go_wp2_with (at_builtin; refine wpList_push (by rfl) (.tmp 21) (.tmp 29) (by rfl) wo.heap.size wo _ t (fun i => F i k) (by rfl) hown2 (by omega) V (by exact HV.out) (by rfl) ?_)
     intro v' w' hown'
     go_wp2
     go_roundw
     case rel => exact ⟨t + 1, by omega, by go_num, hown'⟩
     case measure => simp [intOf]; omega
    ·obtain rfl : t = n := by omega
     obtain ⟨po, pc, rfl, hps, hpf⟩ := own_fresh hown2
     have hL2 := hL.keep hown2.below
     have HS := Hid.mkV hps
     have HAP := Hid.mkV (hL.apart (Nat.le_refl _) hpf)
     clear hps hpf hown2
     go_wp2_with (at_builtin; refine wpList_pushS (by rfl) (.tmp 31) (.tmp 33) (by rfl) w.heap.size w _ k _ (fun i j => F j i) (by rfl) hL2 (by omega) (by omega) po pc HS.out HAP.out (by rfl) ?_)
     intro v' w' hL'
     go_wp2
     go_roundw
     case rel => exact ⟨k + 1, by omega, by go_num, hL'⟩
     case measure => simp [intOf]; omega
  ·obtain rfl : k = m := by omega
   obtain ⟨lo, cm, rfl, hG⟩ := hL.grid
   go_wp2
   go_ret
   exact ⟨lo, cm, rfl, hG, hL.below⟩
end Go.Proofs.YtdgcnaijndocnaaGreatDoor
namespace Go.Proofs.YtdgcnaijndocnaaGreatDoor
open Go.RowKit Vc St Mt Dt
attribute [local go_sem ↓] Go.wp_at_zero Go.wp_at_succ
open Pr
set_option maxRecDepth 10000 in
set_option maxHeartbeats 1000000 in
theorem rin12_any (z : Int) (w : World) : Calls Tryz.prog 72 #[.int .i64 z] w fun e w' => e = .returned (.bool (decide (InV z))) ∧ w' = w := by
  by_cases h1 : -4611686018427387903 ≤ z
  · by_cases h2 : z ≤ 4611686018427387903
    · have e0 : decide (InV z) = true := decide_eq_true ⟨h1, h2⟩
      have e1 : decide (z ≥ -4611686018427387903) = true := decide_eq_true h1
      have e2 : decide (z ≤ 4611686018427387903) = true := decide_eq_true h2
      rw [e0]
      go_enter Tryz.func72, Tryz.ntmps72
      go_wp2
      go_ret
      exact ⟨rfl, rfl⟩
    · have e0 : decide (InV z) = false := decide_eq_false (fun h => h2 h.2)
      have e1 : decide (z ≥ -4611686018427387903) = true := decide_eq_true h1
      have e2 : decide (z ≤ 4611686018427387903) = false := decide_eq_false h2
      rw [e0]
      go_enter Tryz.func72, Tryz.ntmps72
      go_wp2
      go_ret
      exact ⟨rfl, rfl⟩
  · have e0 : decide (InV z) = false := decide_eq_false (fun h => h1 h.1)
    have e1 : decide (z ≥ -4611686018427387903) = false := decide_eq_false h1
    rw [e0]
    go_enter Tryz.func72, Tryz.ntmps72
    go_wp2
    go_ret
    exact ⟨rfl, rfl⟩
set_option maxRecDepth 10000 in
set_option maxHeartbeats 1000000 in
theorem rsix12_not (n cm : Nat) (lo : Option Addr) (w : World) (h : Calls Tryz.prog 135 #[.slice lo n cm] w fun e w' => e = .returned (.bool false) ∧ Below w.heap.size w w') :
    Calls Tryz.prog 71 #[.slice lo n cm] w fun e w' => e = .returned (.bool false) ∧ Below w.heap.size w w' := by
  have H := Hid.mkQ h
  clear h
  go_enter Tryz.func71, Tryz.ntmps71
  go_wp2_with fail
  refine H.out.mono ?_
  rintro e w1 ⟨rfl, k1⟩
  go_wp2
  go_ret
  exact ⟨rfl, k1⟩
set_option maxRecDepth 10000 in
set_option maxHeartbeats 1000000 in
theorem rsix12_grid (n m cm : Nat) (lo : Option Addr) (F : Nat → Nat → Int) (w : World) (h1 : 1 ≤ n) (h2 : n ≤ 6) (h3 : 1 ≤ m) (h4 : m ≤ 6) (hF : Grid w lo n cm m F) :
  Calls Tryz.prog 71 #[.slice lo n cm] w fun e w' => e = .returned (.bool (decide (n = 6 ∧ m = 6))) ∧ Below w.heap.size w w' := by
 obtain ⟨A, C, hS, hR⟩ := hF
 have H := Hid.mkQ (rmay_yes n m cm lo A C w hS h1 h2 h3 h4)
 have HS := Hid.mkQ hS
 clear hS hR
 by_cases e6 : n = 6
 ·subst e6
  by_cases m6 : m = 6
  ·subst m6
   have e0 : decide ((6 : Nat) = 6 ∧ (6 : Nat) = 6) = true := by decide
   rw [e0]
   go_enter Tryz.func71, Tryz.ntmps71
   go_wp2_with fail
   refine H.out.mono ?_
   rintro e w1 ⟨rfl, k1⟩
   obtain ⟨x, hlo, hcl⟩ := (HS.out.keep k1).get
   obtain rfl := hlo (by omega)
   have c0 : w1.cell? x = some (.slice (A 0) 6 (C 0)) := hcl 0 (by omega)
   clear hcl hlo
   go_wp2
   go_ret
   exact ⟨rfl, k1⟩
  ·have e0 : decide ((6 : Nat) = 6 ∧ m = 6) = false := decide_eq_false (fun h => m6 h.2)
   have e1 : ((m : Int) == 6) = false := by rw [beq_eq_false_iff_ne]; omega
   have e2 : decide ((m : Int) = 6) = false := decide_eq_false (by omega)
   rw [e0]
   go_enter Tryz.func71, Tryz.ntmps71
   go_wp2_with fail
   refine H.out.mono ?_
   rintro e w1 ⟨rfl, k1⟩
   obtain ⟨x, hlo, hcl⟩ := (HS.out.keep k1).get
   obtain rfl := hlo (by omega)
   have c0 : w1.cell? x = some (.slice (A 0) m (C 0)) := hcl 0 (by omega)
   clear hcl hlo
   go_wp2
   go_ret
   exact ⟨rfl, k1⟩
 ·have e0 : decide (n = 6 ∧ m = 6) = false := decide_eq_false (fun h => e6 h.1)
  have e1 : ((n : Int) == 6) = false := by rw [beq_eq_false_iff_ne]; omega
  have e2 : decide ((n : Int) = 6) = false := decide_eq_false (by omega)
  rw [e0]
  go_enter Tryz.func71, Tryz.ntmps71
  go_wp2_with fail
  refine H.out.mono ?_
  rintro e w1 ⟨rfl, k1⟩
  go_wp2
  go_ret
  exact ⟨rfl, k1⟩
set_option maxRecDepth 10000 in
set_option maxHeartbeats 1000000 in
theorem rmay12_not (xo po : Option Addr) (n xc pc : Nat) (w : World) (h : ∀ W, Below w.heap.size w W → Calls Tryz.prog 71 #[.slice po n pc] W fun e w' => e = .returned (.bool false) ∧ Below W.heap.size W w') :
    Calls Tryz.prog 27 #[.agg #[.slice xo 6 xc, .slice po n pc]] w fun e w' => e = .returned (.bool false) ∧ Below w.heap.size w w' := by
  have m0 := crow_new w 25 [.slice xo 6 xc, .slice po n pc]
  have B0 : Below w.heap.size w (w.alloc (.cells [.slice xo 6 xc, .slice po n pc].toArray 25)) := below_al (Below.refl _ _) _
  have H := Hid.mkQ (h _ B0)
  obtain ⟨W, hW⟩ : ∃ W, W = w.alloc (.cells [.slice xo 6 xc, .slice po n pc].toArray 25) := ⟨_, rfl⟩
  rw [← hW] at m0 B0 H
  have HW := Hid.mkQ hW
  have c0 : W.cell? ⟨w.heap.size, 0, none⟩ = some (.slice xo 6 xc) := CRow.cell m0 (k := 0) rfl rfl
  have c1 : W.cell? ⟨w.heap.size, 1, none⟩ = some (.slice po n pc) := CRow.cell m0 (k := 1) rfl rfl
  clear hW h m0
  go_enter Tryz.func27, Tryz.ntmps27
  go_wp2_with (first | (rw [← HW.out]) | fail)
  refine H.out.mono ?_
  rintro e w1 ⟨rfl, k1⟩
  go_wp2
  go_ret
  exact ⟨rfl, below_tr B0 k1⟩
set_option maxRecDepth 10000 in
set_option maxHeartbeats 4000000 in
theorem rmay12_grid (b : Bool) (xo po : Option Addr) (xc pc : Nat) (X : Nat → Int) (P : Nat → Nat → Int) (w : World) (hX : Sl w xo 6 xc X) (hP : Grid w po 6 pc 6 P) (hb : b = true ↔ MayV X P) :
  Calls Tryz.prog 27 #[.agg #[.slice xo 6 xc, .slice po 6 pc]] w fun e w' => e = .returned (.bool b) ∧ Below w.heap.size w w' := by
 have m0 := crow_new w 25 [.slice xo 6 xc, .slice po 6 pc]
 have B0 : Below w.heap.size w (w.alloc (.cells [.slice xo 6 xc, .slice po 6 pc].toArray 25)) := below_al (Below.refl _ _) _
 obtain ⟨W, hW⟩ : ∃ W, W = w.alloc (.cells [.slice xo 6 xc, .slice po 6 pc].toArray 25) := ⟨_, rfl⟩
 rw [← hW] at m0 B0
 have HW := Hid.mkQ hW
 have x0 := hX.keep B0
 have p0 := hP.keep B0
 have H : Hid (Calls Tryz.prog 71 #[.slice po 6 pc] W fun e w' => e = .returned (.bool true) ∧ Below W.heap.size W w') := rsix12_grid 6 6 pc po P W (by omega) (by omega) (by omega) (by omega) p0
 have c0 : W.cell? ⟨w.heap.size, 0, none⟩ = some (.slice xo 6 xc) := CRow.cell m0 (k := 0) rfl rfl
 have c1 : W.cell? ⟨w.heap.size, 1, none⟩ = some (.slice po 6 pc) := CRow.cell m0 (k := 1) rfl rfl
 have HN : Hid (¬ MayV X P → b = false) := fun h => by
  cases b with
  | false => rfl
  | true => exact absurd (hb.1 rfl) h
 have HY : Hid (MayV X P → b = true) := fun h => hb.2 h
 have HM := Hid.mkQ m0
 have HX := Hid.mkQ x0
 have HP := Hid.mkQ p0
 clear hW m0 hX hP x0 p0 hb
 go_enter Tryz.func27, Tryz.ntmps27
 go_wp2_with (first | (rw [← HW.out]) | fail)
 refine H.out.mono ?_
 rintro e w1 ⟨rfl, k1⟩
 clear c0 c1 H
 go_wp2
 go_loopw [3] (fun v wr => ∃ k : Nat, k ≤ 6 ∧ v = .int .i64 (k : Int) ∧ Below W.heap.size W wr ∧ Hid (∀ i, i < k → InV (X i) ∧ 0 ≤ P i i ∧ ∀ j, j < 6 → InV (P i j) ∧ P i j = P j i)) (fun v _ => 6 - (intOf v).toNat)
 case atStart => exact ⟨0, by omega, rfl, k1, fun i hi => by omega⟩
 case round =>
  rename World => wo
  obtain ⟨k, hk, rfl, hB, hok⟩ := hrel
  by_cases h : k < 6
  ·have m1 := CRow.keep HM.out hB
   have c0 : wo.cell? ⟨w.heap.size, 0, none⟩ = some (.slice xo 6 xc) := CRow.cell m1 (k := 0) rfl rfl
   have c1 : wo.cell? ⟨w.heap.size, 1, none⟩ = some (.slice po 6 pc) := CRow.cell m1 (k := 1) rfl rfl
   have x1 := HX.out.keep hB
   obtain ⟨A, C, s1, r1⟩ := HP.out.keep hB
   obtain ⟨xa, hxa, hxc⟩ := x1.get
   obtain ⟨pa, hpa, hpc⟩ := s1.get
   obtain rfl := hxa (by omega)
   obtain rfl := hpa (by omega)
   have c2 := hxc k h
   have c3 := hpc k h
   obtain ⟨ra, hra, hrc⟩ := (r1 k h).get
   have c4 := hrc k h
   rw [hra (by omega)] at c3
   have l1 := x1.le
   have l2 := x1.cap
   have l3 := s1.le
   have l4 := s1.cap
   have l5 := (r1 k h).le
   have l6 := (r1 k h).cap
   obtain ⟨ck, hck⟩ : ∃ c, c = C k := ⟨_, rfl⟩
   rw [← hck] at c3 l5 l6
   have HIn := Hid.mkQ (rin12_any (X k) wo)
   obtain ⟨xk, hxk⟩ : ∃ z, z = X k := ⟨_, rfl⟩
   rw [← hxk] at c2 HIn
   obtain ⟨pk, hpk⟩ : ∃ z, z = P k k := ⟨_, rfl⟩
   rw [← hpk] at c4
   have EX := Hid.mkQ hxk
   have EP := Hid.mkQ hpk
   clear m1 x1 s1 r1 hxa hpa hxc hpc hra hrc hck hxk hpk
   go_wp2_with fail
   refine HIn.out.mono ?_
   rintro e w2 ⟨rfl, rfl⟩
   by_cases i1 : InV xk
   ·rw [decide_eq_true i1]
    by_cases i2 : pk < 0
    ·have d2 : decide (pk < 0) = true := decide_eq_true i2
     go_wp2
     go_ret
     exact ⟨by rw [HN.out (fun q => by have := (q k h).2.1; rw [← EP.out] at this; omega)]; rfl, below_tr B0 hB⟩
    ·have d2 : decide (pk < 0) = false := decide_eq_false i2
     have HI1 := Hid.mkQ i1
     clear i1
     go_wp2
     clear c2 c3 c4 l5 l6 HIn
     go_loopw [4] (fun v wr => ∃ j : Nat, j ≤ 6 ∧ v = .int .i64 (j : Int) ∧ Below W.heap.size W wr ∧ Hid (∀ i, i < j → InV (P k i) ∧ P k i = P i k)) (fun v _ => 6 - (intOf v).toNat)
     case atStart => exact ⟨0, by omega, rfl, hB, fun i hi => by omega⟩
     case round =>
      rename World => wi
      obtain ⟨j, hj, rfl, hB2, hok2⟩ := hrel
      clear c0 c1
      by_cases h5 : j < 6
      ·have m1 := CRow.keep HM.out hB2
       have c1 : wi.cell? ⟨w.heap.size, 1, none⟩ = some (.slice (some pa) 6 pc) := CRow.cell m1 (k := 1) rfl rfl
       obtain ⟨A, C, s1, r1⟩ := HP.out.keep hB2
       obtain ⟨pa', hpa, hpc⟩ := s1.get
       obtain rfl : pa = pa' := by have := hpa (by omega); injection this
       have c3 := hpc k h
       have c5 := hpc j h5
       obtain ⟨ra, hra, hrc⟩ := (r1 k h).get
       obtain ⟨sa, hsa, hsc⟩ := (r1 j h5).get
       have c4 := hrc j h5
       have c6 := hsc k h
       rw [hra (by omega)] at c3
       rw [hsa (by omega)] at c5
       have l5 := (r1 k h).le
       have l6 := (r1 k h).cap
       have l7 := (r1 j h5).le
       have l8 := (r1 j h5).cap
       obtain ⟨ck, hck⟩ : ∃ c, c = C k := ⟨_, rfl⟩
       rw [← hck] at c3 l5 l6
       obtain ⟨cj, hcj⟩ : ∃ c, c = C j := ⟨_, rfl⟩
       rw [← hcj] at c5 l7 l8
       obtain ⟨u, hu⟩ : ∃ z, z = P k j := ⟨_, rfl⟩
       rw [← hu] at c4
       obtain ⟨v, hv⟩ : ∃ z, z = P j k := ⟨_, rfl⟩
       rw [← hv] at c6
       have EU := Hid.mkQ hu
       have EV := Hid.mkQ hv
       have HIn2 : Hid (∀ W, Calls Tryz.prog 72 #[.int .i64 u] W fun e w' => e = .returned (.bool (decide (InV u))) ∧ w' = W) := fun W => rin12_any u W
       clear m1 s1 r1 hpa hpc hra hrc hsa hsc hck hcj hu hv
       by_cases i3 : InV u
       ·rw [decide_eq_true i3] at HIn2
        have HI3 := Hid.mkQ i3
        clear i3
        by_cases i4 : u = v
        ·subst i4
         go_wp2
         go_quiet (first | (go_at_call 72; refine Calls.quiet_of_same (HIn2.out _)))
         go_wp2
         go_roundw
         case rel => exact ⟨j + 1, by omega, by go_num, below_drewN hB2 _, fun q hq => by
           rcases Nat.lt_or_ge q j with c | c
           ·exact hok2.out q c
           ·obtain rfl : q = j := by omega
            rw [← EV.out, ← EU.out]
            exact ⟨HI3.out, rfl⟩⟩
         case measure => simp [intOf]; omega
        ·have d4 : decide (u = v) = false := decide_eq_false i4
         go_wp2
         go_quiet (first | (go_at_call 72; refine Calls.quiet_of_same (HIn2.out _)))
         go_wp2
         go_ret
         exact ⟨by rw [HN.out (fun q => by have := ((q k h).2.2 j h5).2; rw [← EU.out, ← EV.out] at this; exact i4 this)]; rfl, below_drewN (below_tr B0 hB2) _⟩
       ·rw [decide_eq_false i3] at HIn2
        have HI3 := Hid.mkQ i3
        clear i3
        go_wp2
        go_quiet (first | (go_at_call 72; refine Calls.quiet_of_same (HIn2.out _)))
        go_wp2
        go_ret
        exact ⟨by rw [HN.out (fun q => by have := ((q k h).2.2 j h5).1; rw [← EU.out] at this; exact HI3.out this)]; rfl, below_drewN (below_tr B0 hB2) _⟩
      ·obtain rfl : j = 6 := by omega
       go_wp2
       go_roundw
       case rel => exact ⟨k + 1, by omega, by go_num, hB2, fun q hq => by
         rcases Nat.lt_or_ge q k with c | c
         ·exact hok.out q c
         ·obtain rfl : q = k := by omega
          exact ⟨by rw [← EX.out]; exact HI1.out, by rw [← EP.out]; omega, fun j hj => hok2.out j hj⟩⟩
       case measure => simp [intOf]; omega
   ·rw [decide_eq_false i1]
    have HI1 := Hid.mkQ i1
    clear i1
    go_wp2
    go_ret
    exact ⟨by rw [HN.out (fun q => by have := (q k h).1; rw [← EX.out] at this; exact HI1.out this)]; rfl, below_tr B0 hB⟩
  ·obtain rfl : k = 6 := by omega
   go_wp2
   go_ret
   exact ⟨by rw [HY.out (fun q hq => hok.out q hq)]; rfl, below_tr B0 hB⟩
end Go.Proofs.YtdgcnaijndocnaaGreatDoor
namespace Go.Proofs.YtdgcnaijndocnaaGreatDoor
open Go.RowKit Vc Mt Dt
end Go.Proofs.YtdgcnaijndocnaaGreatDoor
namespace Go.Proofs.YtdgcnaijndocnaaGreatDoor
open Go.RowKit Vc Mt Dt
end Go.Proofs.YtdgcnaijndocnaaGreatDoor
namespace Go.Proofs.YtdgcnaijndocnaaGreatDoor
open Go.RowKit Vc St Mt Dt
attribute [local go_sem ↓] Go.wp_at_zero Go.wp_at_succ
namespace Pr
def nY (F P : Nat → Nat → Int) : Nat → Nat → Int := fun i j => Qn.clamp (Qn.rne (dk (fun k => P k j) (F i) 6) (2 ^ 20))
def nZ (F P : Nat → Nat → Int) : Nat → Nat → Int := fun i j => Qn.clamp (Qn.rne (dk (fun k => F j k) (nY F P i) 6) (2 ^ 20))
def nW (F P Q : Nat → Nat → Int) : Nat → Nat → Int := fun i j => Qn.clamp (nZ F P i j + Q i j)
def nE (F P Q : Nat → Nat → Int) : Nat → Nat → Int := fun i j => Qn.clamp (Qn.rne (nW F P Q i j + nW F P Q j i) (2 ^ 1))
def oE (F P Q : Nat → Nat → Int) : Bool := any2 (fun i j => Qn.great (Qn.rne (nW F P Q i j + nW F P Q j i) (2 ^ 1))) 6 6
end Pr
open Pr
end Go.Proofs.YtdgcnaijndocnaaGreatDoor
namespace Go.Proofs.YtdgcnaijndocnaaGreatDoor
open Go.RowKit Vc Mt
attribute [local go_sem ↓] Go.wp_at_zero Go.wp_at_succ
end Go.Proofs.YtdgcnaijndocnaaGreatDoor
