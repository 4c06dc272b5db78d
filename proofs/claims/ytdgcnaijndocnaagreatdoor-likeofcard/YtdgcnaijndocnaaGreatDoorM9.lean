/-
  Vectors (vec): whether vectors are alike, the part at one place of each; the laws' nums.
-/
import Derived.Test.YtdgcnaijndocnaaGreatDoorM2
import Derived.Deep.RegionWith
import Derived.Test.YtdgcnaijndocnaaGreatDoorM1
set_option linter.unusedSimpArgs false
set_option linter.unusedVariables false
namespace Go.Proofs.YtdgcnaijndocnaaGreatDoor
open Go.RowKit Vc
set_option maxRecDepth 10000 in
set_option maxHeartbeats 1000000 in
theorem nums_yes (ao bo : Option Addr) (n ca cb : Nat) (z : Nat → Int) (w : World) (ha : Sl w ao n ca z) (hb : Sl w bo n cb z) :
    Calls Tryz.prog 15 #[.slice ao n ca, .slice bo n cb] w fun e w' => e = .returned (.bool true) ∧ Below w.heap.size w w' := by
  obtain ⟨xa, hao, hca⟩ := ha.get
  obtain ⟨xb, hbo, hcb⟩ := hb.get
  have h1 := ha.le
  have h2 := ha.cap
  have h3 := hb.le
  have HAO := Hid.mkV hao
  have HBO := Hid.mkV hbo
  have HCA := Hid.mkV hca
  have HCB := Hid.mkV hcb
  clear hao hbo hca hcb ha hb
  go_enter Tryz.func15, Tryz.ntmps15
  go_wp2
  go_loopw [5] (fun i wr => ∃ k : Nat, k ≤ n ∧ i = .int .i64 (k : Int) ∧ Below w.heap.size w wr) (fun i _ => n - (intOf i).toNat)
  case atStart => exact ⟨0, by omega, rfl, Below.refl _ _⟩
  case round =>
    obtain ⟨k, hk, rfl, hbel⟩ := hrel
    by_cases h : k < n
    · obtain rfl := HAO.out (by omega)
      obtain rfl := HBO.out (by omega)
      have ca' := keep_cell hbel (HCA.out k h)
      have cb' := keep_cell hbel (HCB.out k h)
      obtain ⟨P, hP⟩ : ∃ P, P = z k := ⟨_, rfl⟩
      rw [← hP] at ca' cb'
      clear hP
      go_wp2
      go_quiet (fail)
      go_wp2
      go_roundw
      case rel => exact ⟨k + 1, by omega, by go_num, Vc.below_drewN hbel _⟩
      case measure => simp [intOf]; omega
    · obtain rfl : k = n := by omega
      go_wp2
      go_ret
      exact ⟨rfl, hbel⟩
end Go.Proofs.YtdgcnaijndocnaaGreatDoor
namespace Go.Proofs.YtdgcnaijndocnaaGreatDoor
open Go.RowKit Vc Cn
namespace Cn
theorem hideH {p : Prop} (h : p) : Hid p := h
end Cn
theorem cmany_yes (n : Int) (w : World) (h0 : 1 ≤ n) (h1 : n ≤ 4) : Calls Tryz.prog 96 #[.int .i64 n] w fun e w' => e = .returned (.bool true) ∧ w' = w := by
  have e1 : decide (n ≥ 1) = true := decide_eq_true (by omega)
  have e2 : decide (n ≤ 4) = true := decide_eq_true (by omega)
  go_enter Tryz.func96, Tryz.ntmps96
  go_wp2
  go_ret
  exact ⟨rfl, rfl⟩
theorem cmany_no (n : Int) (w : World) (h : ¬ (1 ≤ n ∧ n ≤ 4)) : Calls Tryz.prog 96 #[.int .i64 n] w fun e w' => e = .returned (.bool false) ∧ w' = w := by
  by_cases h1 : 1 ≤ n
  · have e1 : decide (n ≥ 1) = true := decide_eq_true (by omega)
    have e2 : decide (n ≤ 4) = false := decide_eq_false (by omega)
    clear h
    go_enter Tryz.func96, Tryz.ntmps96
    go_wp2
    go_ret
    exact ⟨rfl, rfl⟩
  · have e1 : decide (n ≥ 1) = false := decide_eq_false (by omega)
    clear h
    go_enter Tryz.func96, Tryz.ntmps96
    go_wp2
    go_ret
    exact ⟨rfl, rfl⟩
theorem cfloor_yes (n : Int) (w : World) (h0 : 0 ≤ n) (h1 : n ≤ 67108864) : Calls Tryz.prog 98 #[.int .i64 n] w fun e w' => e = .returned (.bool true) ∧ w' = w := by
  have e1 : decide (n ≥ 0) = true := decide_eq_true (by omega)
  have e2 : decide (n ≤ 67108864) = true := decide_eq_true (by omega)
  go_enter Tryz.func98, Tryz.ntmps98
  go_wp2
  go_ret
  exact ⟨rfl, rfl⟩
theorem cfloor_no (n : Int) (w : World) (h : ¬ (0 ≤ n ∧ n ≤ 67108864)) : Calls Tryz.prog 98 #[.int .i64 n] w fun e w' => e = .returned (.bool false) ∧ w' = w := by
  by_cases h1 : 0 ≤ n
  · have e1 : decide (n ≥ 0) = true := decide_eq_true (by omega)
    have e2 : decide (n ≤ 67108864) = false := decide_eq_false (by omega)
    clear h
    go_enter Tryz.func98, Tryz.ntmps98
    go_wp2
    go_ret
    exact ⟨rfl, rfl⟩
  · have e1 : decide (n ≥ 0) = false := decide_eq_false (by omega)
    clear h
    go_enter Tryz.func98, Tryz.ntmps98
    go_wp2
    go_ret
    exact ⟨rfl, rfl⟩
set_option maxRecDepth 10000 in
set_option maxHeartbeats 1000000 in
theorem cwithin_any (lo hi : Int) (ao : Option Addr) (n ca : Nat) (z : Nat → Int) (w : World) (ha : Sl w ao n ca z) (b : Bool) (hy : b = true → ∀ k, k < n → lo ≤ z k ∧ z k ≤ hi) (hn : b = false → ∃ k, k < n ∧ ¬ (lo ≤ z k ∧ z k ≤ hi)) :
  Calls Tryz.prog 97 #[.int .i64 lo, .int .i64 hi, .slice ao n ca] w fun e w' => e = .returned (.bool b) ∧ w' = w := by
 obtain ⟨x, hao, hca⟩ := ha.get
 have h1 := ha.le
 have h2 := ha.cap
 have HAO := hideH hao
 have HCA := hideH hca
 have HY := hideH hy
 have HN := hideH hn
 clear hao hca ha hy hn
 go_enter Tryz.func97, Tryz.ntmps97
 go_wp2
 go_loopw [11] (fun i wr => ∃ k : Nat, k ≤ n ∧ i = .int .i64 (k : Int) ∧ wr = w ∧ Hid (∀ j, j < k → lo ≤ z j ∧ z j ≤ hi)) (fun i _ => n - (intOf i).toNat)
 case atStart => exact ⟨0, by omega, rfl, rfl, fun j hj => by omega⟩
 case round =>
  obtain ⟨k, hk, rfl, rfl, hin⟩ := hrel
  by_cases h : k < n
  ·obtain rfl := HAO.out (by omega)
   have ca' := HCA.out k h
   have HZ : Hid (lo ≤ z k ∧ z k ≤ hi → ∀ j, j < k + 1 → lo ≤ z j ∧ z j ≤ hi) := fun q j hj => by
    by_cases e : j = k
    ·rw [e]; exact q
    ·exact hin.out j (by omega)
   have HB : Hid (¬ (lo ≤ z k ∧ z k ≤ hi) → b = false) := fun q => by
    cases hb : b with
    | false => rfl
    | true => exact absurd (HY.out hb k h) q
   obtain ⟨P, hP⟩ : ∃ P, P = z k := ⟨_, rfl⟩
   rw [← hP] at ca' HZ HB
   clear hP
   by_cases c1 : P < lo
   ·have e1 : decide (P < lo) = true := decide_eq_true c1
    obtain rfl := HB.out (by omega)
    go_wp2
    go_ret
    exact ⟨rfl, rfl⟩
   ·have e1 : decide (P < lo) = false := decide_eq_false c1
    by_cases c2 : P > hi
    ·have e2 : decide (P > hi) = true := decide_eq_true c2
     obtain rfl := HB.out (by omega)
     go_wp2
     go_ret
     exact ⟨rfl, rfl⟩
    ·have e2 : decide (P > hi) = false := decide_eq_false c2
     have HZ' := hideH (HZ.out ⟨by omega, by omega⟩)
     clear HZ HB
     go_wp2
     go_roundw
     case rel => exact ⟨k + 1, by omega, by go_num, trivial, HZ'⟩
     case measure => simp [intOf]; omega
  ·obtain rfl : k = n := by omega
   have hb : b = true := by
    cases hb : b with
    | true => rfl
    | false =>
     obtain ⟨j, hj, q⟩ := HN.out hb
     exact absurd (hin.out j hj) q
   subst hb
   go_wp2
   go_ret
   exact ⟨rfl, rfl⟩
namespace Cn
theorem tot_four {z : Nat → Int} {n : Nat} (hn : n ≤ 4) (hz : ∀ k, k < n → 0 ≤ z k ∧ z k ≤ 1073741824) {k : Nat} (hk : k ≤ n) : 0 ≤ tot z k ∧ tot z k ≤ 1073741824 * k := by
  induction k with
  | zero => exact ⟨Int.le_refl _, by show (0 : Int) ≤ _; omega⟩
  | succ k ih =>
    have h1 := ih (by omega)
    have h2 := hz k (by omega)
    show 0 ≤ tot z k + z k ∧ tot z k + z k ≤ _
    omega
end Cn
set_option maxRecDepth 10000 in
set_option maxHeartbeats 1000000 in
theorem careChances_any (fl : Int) (ao : Option Addr) (n ca : Nat) (z : Nat → Int) (w : World) (ha : Sl w ao n ca z) (h0 : 0 ≤ fl) (h1 : fl ≤ 67108864) (b : Bool) (hy : b = true → Ch n z fl) (hn : b = false → ¬ Ch n z fl) :
  Calls Tryz.prog 145 #[.slice ao n ca, .int .i64 fl] w fun e w' => e = .returned (.bool b) ∧ w' = w := by
 have l1 := ha.le
 have l2 := ha.cap
 by_cases hm : 1 ≤ n ∧ n ≤ 4
 ·have HM := hideH (fun W => cmany_yes (n : Int) W (by omega) (by omega))
  by_cases hw : ∀ k, k < n → fl ≤ z k ∧ z k ≤ 1073741824
  ·have HW := hideH (cwithin_any fl 1073741824 ao n ca z w ha true (fun _ => hw) (fun q => by cases q))
   have HT : Hid (∀ k, k ≤ n → 0 ≤ tot z k ∧ tot z k ≤ 4294967296) := fun k hk => by
    have := tot_four (z := z) hm.2 (fun j hj => ⟨by have := hw j hj; omega, (hw j hj).2⟩) hk
    omega
   have HB : Hid (b = decide (tot z n = 1073741824)) := by
    cases hb : b with
    | true => exact (decide_eq_true (hy hb).sum).symm
    | false => exact (decide_eq_false (fun q => hn hb ⟨hm.1, hm.2, h0, h1, fun k hk => (hw k hk).1, q⟩)).symm
   have HWW := hideH hw
   obtain ⟨x, hao, hca⟩ := ha.get
   have HAO := hideH hao
   have HCA := hideH hca
   clear hao hca ha hy hn hw
   go_enter Tryz.func145, Tryz.ntmps145
   go_wp2_with (first
    | (go_at_call 96; refine (HM.out _).mono ?_; rintro e w' ⟨rfl, q⟩; obtain rfl := q.symm)
    | (go_at_call 97; refine HW.out.mono ?_; rintro e w' ⟨rfl, q⟩; obtain rfl := q.symm))
   go_loopw [5, 20] (fun s i wr => ∃ k : Nat, k ≤ n ∧ i = .int .i64 (k : Int) ∧ s = .int .i64 (tot z k) ∧ wr = w) (fun _ i _ => n - (intOf i).toNat)
   case atStart => exact ⟨0, by omega, rfl, rfl, rfl⟩
   case round =>
    obtain ⟨k, hk, rfl, rfl, rfl⟩ := hrel
    by_cases h : k < n
    ·obtain rfl := HAO.out (by omega)
     have ca' := HCA.out k h
     have hz := HWW.out k h
     have ht := HT.out k hk
     have HU : Hid (tot z (k + 1) = tot z k + z k) := rfl
     obtain ⟨P, hP⟩ : ∃ P, P = z k := ⟨_, rfl⟩
     obtain ⟨T, hT⟩ : ∃ T, T = tot z k := ⟨_, rfl⟩
     rw [← hP] at ca' HU hz
     rw [← hT] at HU ht ⊢
     clear hP hT
     have e1 : IntKind.i64.wrap (T + P) = T + P := by rw [IntKind.wrap_i64]; omega
     go_wp2
     go_roundw
     case rel => exact ⟨k + 1, by omega, by go_num, by rw [HU.out], trivial⟩
     case measure => simp [intOf]; omega
    ·obtain rfl : k = n := by omega
     have hb := HB.out
     obtain ⟨T, hT⟩ : ∃ T, T = tot z k := ⟨_, rfl⟩
     rw [← hT] at hb ⊢
     clear hT HB HT
     by_cases c : T = 1073741824
     ·obtain rfl : b = true := by rw [hb]; exact decide_eq_true c
      subst c
      clear hb
      go_wp2
      go_ret
      exact ⟨rfl, rfl⟩
     ·obtain rfl : b = false := by rw [hb]; exact decide_eq_false c
      have e1 : (T == 1073741824) = false := beq_eq_false_iff_ne.2 c
      clear hb
      go_wp2
      go_ret
      exact ⟨rfl, rfl⟩
  ·obtain rfl : b = false := by
    cases hb : b with
    | false => rfl
    | true => exact absurd (fun k hk => ⟨(hy hb).each k hk, ((hy hb).nn hk).2⟩) hw
   have HW := hideH (cwithin_any fl 1073741824 ao n ca z w ha false (fun q => by cases q) (fun _ => Classical.byContradiction fun q => hw fun k hk => Classical.byContradiction fun q' => q ⟨k, hk, q'⟩))
   clear ha hy hn hw
   go_enter Tryz.func145, Tryz.ntmps145
   go_wp2_with (first
    | (go_at_call 96; refine (HM.out _).mono ?_; rintro e w' ⟨rfl, q⟩; obtain rfl := q.symm)
    | (go_at_call 97; refine HW.out.mono ?_; rintro e w' ⟨rfl, q⟩; obtain rfl := q.symm))
   go_ret
   exact ⟨rfl, rfl⟩
 ·obtain rfl : b = false := by
   cases hb : b with
   | false => rfl
   | true => exact absurd ⟨(hy hb).one, (hy hb).four⟩ hm
  have HM := hideH (fun W => cmany_no (n : Int) W (by omega))
  clear ha hy hn hm
  go_enter Tryz.func145, Tryz.ntmps145
  go_wp2_with (go_at_call 96; refine (HM.out _).mono ?_; rintro e w' ⟨rfl, q⟩; obtain rfl := q.symm)
  go_ret
  exact ⟨rfl, rfl⟩
end Go.Proofs.YtdgcnaijndocnaaGreatDoor
