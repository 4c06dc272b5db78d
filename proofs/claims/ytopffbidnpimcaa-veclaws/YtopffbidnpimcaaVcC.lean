/-
  Vectors (vec): sums, differences, products by a number, joins, by their parts; how great. (By py/VcC.py.)
-/
import Derived.Test.YtopffbidnpimcaaVcB
import Derived.Test.YtopffbidnpimcaaQK
set_option linter.unusedSimpArgs false
set_option linter.unusedVariables false
namespace Go.Proofs.Ytopffbidnpimcaa
open Go.RowKit Vc Qn

set_option maxRecDepth 10000 in
set_option maxHeartbeats 1000000 in
/-- By parts, each told by the closure of Add. -/
theorem byPart_Add (p q : Value) (x : Addr) (m cm n c0 : Nat) (a0 : Option Addr) (r : Nat → Int) (g : Nat → Bool) (w : World) (hm : 0 < m) (hmc : m ≤ cm) (hcm : cm ≤ 9223372036854775807) (h0 : w.cell? x = some (.slice a0 n c0)) (hn : n ≤ 6)
    (hal : Calls Try.prog 20 #[.slice (some x) m cm] w fun e w' => e = .returned (.bool true) ∧ w' = w)
    (hcl : ∀ k, k < n → ∀ w1, Below w.heap.size w w1 → Calls Try.prog 11 #[.int .i64 (k : Int), p, q] w1 fun e w' => e = .returned (.tuple #[.int .i64 (r k), .bool (g k), .nilIface]) ∧ Below w1.heap.size w1 w') :
    Calls Try.prog 10 #[.func (.func 11) #[] #[p, q], .slice (some x) m cm] w fun e w' => ∃ ao ca, e = .returned (.tuple #[.slice ao n ca, .bool (anyb g n), .nilIface]) ∧ Sl w' ao n ca r ∧ Below w.heap.size w w' := by
  have HAL := Hid.mkV hal
  have HCL := Hid.mkV hcl
  clear hal hcl
  obtain ⟨i0, hi, hz0, hz1, hz2⟩ := info_parts infoI64
  go_enter Try.func10, Try.ntmps10
  go_wp2_with fail
  refine HAL.out.mono ?_
  rintro e w' ⟨rfl, rfl⟩
  go_wp2_with (at_make; refine wpList_make_full _ rfl _ _ 22 rfl w'.heap.size 2 i0 (.int .i64 0) 1 Try.underlying22 hi hz0 hz1 _ _ _ _ n rfl rfl (by omega) (by omega) (by rw [hz2]; omega) (by unfold maxLen; omega) (Nat.le_refl _) ?_)
  intro w0 hown0 hgrow0
  have hO0 := own_made hown0 hgrow0 (Nat.le_refl _)
  clear hown0 hgrow0
  go_wp2
  go_loopw [8, 24] (fun gr i wr => ∃ (k : Nat) (z : Nat → Int), k ≤ n ∧ i = .int .i64 (k : Int) ∧ gr = .bool (anyb g k) ∧ (∀ j, j < k → z j = r j) ∧ Own w'.heap.size w' wr (.slice (some ⟨w'.heap.size, 0, none⟩) n n) n z) (fun _ i _ => n - (intOf i).toNat)
  case atStart => exact ⟨0, fun _ => 0, by omega, rfl, rfl, fun j hj => by omega, hO0⟩
  case round =>
    obtain ⟨k, z, hk, rfl, rfl, hzz, hown⟩ := hrel
    by_cases h : k < n
    · have HC := Hid.mkV (HCL.out k h _ hown.below)
      have HA : Hid (anyb g (k + 1) = (anyb g k || g k)) := rfl
      have HZZ := Hid.mkV hzz
      clear hzz
      obtain ⟨R, hR⟩ : ∃ R, R = r k := ⟨_, rfl⟩
      obtain ⟨G, hG⟩ : ∃ G, G = g k := ⟨_, rfl⟩
      obtain ⟨T, hT⟩ : ∃ T, T = anyb g k := ⟨_, rfl⟩
      rw [← hR, ← hG] at HC
      rw [← hT, ← hG] at HA
      rw [← hT]
      have HR := Hid.mkV hR
      clear hR hG hT
      go_wp2_with fail
      refine HC.out.mono ?_
      rintro e w2 ⟨rfl, k2⟩
      have hown2 := hown.keep k2
      have c3 := hown2.cell h
      have f3 := hown2.free k
      cases T
      all_goals go_wp2
      all_goals go_roundw
      all_goals first
        | (simp [intOf]; omega)
        | exact ⟨k + 1, _, by omega, by go_num, by rw [HA.out]; first | rfl | simp, fun j hj => (by by_cases e : j = k; (rw [if_pos e, e]; exact HR.out); (rw [if_neg e]; exact HZZ.out j (by omega))), hown2.set k R⟩
    · obtain rfl : k = n := by omega
      go_wp2
      go_ret3
      obtain ⟨ao, ca, e1, e2⟩ := hown.sl
      cases e1
      exact ⟨_, _, rfl, e2.congr hzz, hown.below⟩

set_option maxRecDepth 10000 in
set_option maxHeartbeats 1000000 in
/-- By parts, each told by the closure of Sub. -/
theorem byPart_Sub (p q : Value) (x : Addr) (m cm n c0 : Nat) (a0 : Option Addr) (r : Nat → Int) (g : Nat → Bool) (w : World) (hm : 0 < m) (hmc : m ≤ cm) (hcm : cm ≤ 9223372036854775807) (h0 : w.cell? x = some (.slice a0 n c0)) (hn : n ≤ 6)
    (hal : Calls Try.prog 20 #[.slice (some x) m cm] w fun e w' => e = .returned (.bool true) ∧ w' = w)
    (hcl : ∀ k, k < n → ∀ w1, Below w.heap.size w w1 → Calls Try.prog 13 #[.int .i64 (k : Int), p, q] w1 fun e w' => e = .returned (.tuple #[.int .i64 (r k), .bool (g k), .nilIface]) ∧ Below w1.heap.size w1 w') :
    Calls Try.prog 10 #[.func (.func 13) #[] #[p, q], .slice (some x) m cm] w fun e w' => ∃ ao ca, e = .returned (.tuple #[.slice ao n ca, .bool (anyb g n), .nilIface]) ∧ Sl w' ao n ca r ∧ Below w.heap.size w w' := by
  have HAL := Hid.mkV hal
  have HCL := Hid.mkV hcl
  clear hal hcl
  obtain ⟨i0, hi, hz0, hz1, hz2⟩ := info_parts infoI64
  go_enter Try.func10, Try.ntmps10
  go_wp2_with fail
  refine HAL.out.mono ?_
  rintro e w' ⟨rfl, rfl⟩
  go_wp2_with (at_make; refine wpList_make_full _ rfl _ _ 22 rfl w'.heap.size 2 i0 (.int .i64 0) 1 Try.underlying22 hi hz0 hz1 _ _ _ _ n rfl rfl (by omega) (by omega) (by rw [hz2]; omega) (by unfold maxLen; omega) (Nat.le_refl _) ?_)
  intro w0 hown0 hgrow0
  have hO0 := own_made hown0 hgrow0 (Nat.le_refl _)
  clear hown0 hgrow0
  go_wp2
  go_loopw [8, 24] (fun gr i wr => ∃ (k : Nat) (z : Nat → Int), k ≤ n ∧ i = .int .i64 (k : Int) ∧ gr = .bool (anyb g k) ∧ (∀ j, j < k → z j = r j) ∧ Own w'.heap.size w' wr (.slice (some ⟨w'.heap.size, 0, none⟩) n n) n z) (fun _ i _ => n - (intOf i).toNat)
  case atStart => exact ⟨0, fun _ => 0, by omega, rfl, rfl, fun j hj => by omega, hO0⟩
  case round =>
    obtain ⟨k, z, hk, rfl, rfl, hzz, hown⟩ := hrel
    by_cases h : k < n
    · have HC := Hid.mkV (HCL.out k h _ hown.below)
      have HA : Hid (anyb g (k + 1) = (anyb g k || g k)) := rfl
      have HZZ := Hid.mkV hzz
      clear hzz
      obtain ⟨R, hR⟩ : ∃ R, R = r k := ⟨_, rfl⟩
      obtain ⟨G, hG⟩ : ∃ G, G = g k := ⟨_, rfl⟩
      obtain ⟨T, hT⟩ : ∃ T, T = anyb g k := ⟨_, rfl⟩
      rw [← hR, ← hG] at HC
      rw [← hT, ← hG] at HA
      rw [← hT]
      have HR := Hid.mkV hR
      clear hR hG hT
      go_wp2_with fail
      refine HC.out.mono ?_
      rintro e w2 ⟨rfl, k2⟩
      have hown2 := hown.keep k2
      have c3 := hown2.cell h
      have f3 := hown2.free k
      cases T
      all_goals go_wp2
      all_goals go_roundw
      all_goals first
        | (simp [intOf]; omega)
        | exact ⟨k + 1, _, by omega, by go_num, by rw [HA.out]; first | rfl | simp, fun j hj => (by by_cases e : j = k; (rw [if_pos e, e]; exact HR.out); (rw [if_neg e]; exact HZZ.out j (by omega))), hown2.set k R⟩
    · obtain rfl : k = n := by omega
      go_wp2
      go_ret3
      obtain ⟨ao, ca, e1, e2⟩ := hown.sl
      cases e1
      exact ⟨_, _, rfl, e2.congr hzz, hown.below⟩

set_option maxRecDepth 10000 in
set_option maxHeartbeats 1000000 in
/-- By parts, each told by the closure of Scale. -/
theorem byPart_Scale (p q : Value) (x : Addr) (m cm n c0 : Nat) (a0 : Option Addr) (r : Nat → Int) (g : Nat → Bool) (w : World) (hm : 0 < m) (hmc : m ≤ cm) (hcm : cm ≤ 9223372036854775807) (h0 : w.cell? x = some (.slice a0 n c0)) (hn : n ≤ 6)
    (hal : Calls Try.prog 20 #[.slice (some x) m cm] w fun e w' => e = .returned (.bool true) ∧ w' = w)
    (hcl : ∀ k, k < n → ∀ w1, Below w.heap.size w w1 → Calls Try.prog 26 #[.int .i64 (k : Int), p, q] w1 fun e w' => e = .returned (.tuple #[.int .i64 (r k), .bool (g k), .nilIface]) ∧ Below w1.heap.size w1 w') :
    Calls Try.prog 10 #[.func (.func 26) #[] #[p, q], .slice (some x) m cm] w fun e w' => ∃ ao ca, e = .returned (.tuple #[.slice ao n ca, .bool (anyb g n), .nilIface]) ∧ Sl w' ao n ca r ∧ Below w.heap.size w w' := by
  have HAL := Hid.mkV hal
  have HCL := Hid.mkV hcl
  clear hal hcl
  obtain ⟨i0, hi, hz0, hz1, hz2⟩ := info_parts infoI64
  go_enter Try.func10, Try.ntmps10
  go_wp2_with fail
  refine HAL.out.mono ?_
  rintro e w' ⟨rfl, rfl⟩
  go_wp2_with (at_make; refine wpList_make_full _ rfl _ _ 22 rfl w'.heap.size 2 i0 (.int .i64 0) 1 Try.underlying22 hi hz0 hz1 _ _ _ _ n rfl rfl (by omega) (by omega) (by rw [hz2]; omega) (by unfold maxLen; omega) (Nat.le_refl _) ?_)
  intro w0 hown0 hgrow0
  have hO0 := own_made hown0 hgrow0 (Nat.le_refl _)
  clear hown0 hgrow0
  go_wp2
  go_loopw [8, 24] (fun gr i wr => ∃ (k : Nat) (z : Nat → Int), k ≤ n ∧ i = .int .i64 (k : Int) ∧ gr = .bool (anyb g k) ∧ (∀ j, j < k → z j = r j) ∧ Own w'.heap.size w' wr (.slice (some ⟨w'.heap.size, 0, none⟩) n n) n z) (fun _ i _ => n - (intOf i).toNat)
  case atStart => exact ⟨0, fun _ => 0, by omega, rfl, rfl, fun j hj => by omega, hO0⟩
  case round =>
    obtain ⟨k, z, hk, rfl, rfl, hzz, hown⟩ := hrel
    by_cases h : k < n
    · have HC := Hid.mkV (HCL.out k h _ hown.below)
      have HA : Hid (anyb g (k + 1) = (anyb g k || g k)) := rfl
      have HZZ := Hid.mkV hzz
      clear hzz
      obtain ⟨R, hR⟩ : ∃ R, R = r k := ⟨_, rfl⟩
      obtain ⟨G, hG⟩ : ∃ G, G = g k := ⟨_, rfl⟩
      obtain ⟨T, hT⟩ : ∃ T, T = anyb g k := ⟨_, rfl⟩
      rw [← hR, ← hG] at HC
      rw [← hT, ← hG] at HA
      rw [← hT]
      have HR := Hid.mkV hR
      clear hR hG hT
      go_wp2_with fail
      refine HC.out.mono ?_
      rintro e w2 ⟨rfl, k2⟩
      have hown2 := hown.keep k2
      have c3 := hown2.cell h
      have f3 := hown2.free k
      cases T
      all_goals go_wp2
      all_goals go_roundw
      all_goals first
        | (simp [intOf]; omega)
        | exact ⟨k + 1, _, by omega, by go_num, by rw [HA.out]; first | rfl | simp, fun j hj => (by by_cases e : j = k; (rw [if_pos e, e]; exact HR.out); (rw [if_neg e]; exact HZZ.out j (by omega))), hown2.set k R⟩
    · obtain rfl : k = n := by omega
      go_wp2
      go_ret3
      obtain ⟨ao, ca, e1, e2⟩ := hown.sl
      cases e1
      exact ⟨_, _, rfl, e2.congr hzz, hown.below⟩

set_option maxRecDepth 10000 in
set_option maxHeartbeats 1000000 in
/-- By parts, each told by the closure of Join. -/
theorem byPart_Join (p q : Value) (x : Addr) (m cm n c0 : Nat) (a0 : Option Addr) (r : Nat → Int) (g : Nat → Bool) (w : World) (hm : 0 < m) (hmc : m ≤ cm) (hcm : cm ≤ 9223372036854775807) (h0 : w.cell? x = some (.slice a0 n c0)) (hn : n ≤ 6)
    (hal : Calls Try.prog 20 #[.slice (some x) m cm] w fun e w' => e = .returned (.bool true) ∧ w' = w)
    (hcl : ∀ k, k < n → ∀ w1, Below w.heap.size w w1 → Calls Try.prog 15 #[.int .i64 (k : Int), p, q] w1 fun e w' => e = .returned (.tuple #[.int .i64 (r k), .bool (g k), .nilIface]) ∧ Below w1.heap.size w1 w') :
    Calls Try.prog 10 #[.func (.func 15) #[] #[p, q], .slice (some x) m cm] w fun e w' => ∃ ao ca, e = .returned (.tuple #[.slice ao n ca, .bool (anyb g n), .nilIface]) ∧ Sl w' ao n ca r ∧ Below w.heap.size w w' := by
  have HAL := Hid.mkV hal
  have HCL := Hid.mkV hcl
  clear hal hcl
  obtain ⟨i0, hi, hz0, hz1, hz2⟩ := info_parts infoI64
  go_enter Try.func10, Try.ntmps10
  go_wp2_with fail
  refine HAL.out.mono ?_
  rintro e w' ⟨rfl, rfl⟩
  go_wp2_with (at_make; refine wpList_make_full _ rfl _ _ 22 rfl w'.heap.size 2 i0 (.int .i64 0) 1 Try.underlying22 hi hz0 hz1 _ _ _ _ n rfl rfl (by omega) (by omega) (by rw [hz2]; omega) (by unfold maxLen; omega) (Nat.le_refl _) ?_)
  intro w0 hown0 hgrow0
  have hO0 := own_made hown0 hgrow0 (Nat.le_refl _)
  clear hown0 hgrow0
  go_wp2
  go_loopw [8, 24] (fun gr i wr => ∃ (k : Nat) (z : Nat → Int), k ≤ n ∧ i = .int .i64 (k : Int) ∧ gr = .bool (anyb g k) ∧ (∀ j, j < k → z j = r j) ∧ Own w'.heap.size w' wr (.slice (some ⟨w'.heap.size, 0, none⟩) n n) n z) (fun _ i _ => n - (intOf i).toNat)
  case atStart => exact ⟨0, fun _ => 0, by omega, rfl, rfl, fun j hj => by omega, hO0⟩
  case round =>
    obtain ⟨k, z, hk, rfl, rfl, hzz, hown⟩ := hrel
    by_cases h : k < n
    · have HC := Hid.mkV (HCL.out k h _ hown.below)
      have HA : Hid (anyb g (k + 1) = (anyb g k || g k)) := rfl
      have HZZ := Hid.mkV hzz
      clear hzz
      obtain ⟨R, hR⟩ : ∃ R, R = r k := ⟨_, rfl⟩
      obtain ⟨G, hG⟩ : ∃ G, G = g k := ⟨_, rfl⟩
      obtain ⟨T, hT⟩ : ∃ T, T = anyb g k := ⟨_, rfl⟩
      rw [← hR, ← hG] at HC
      rw [← hT, ← hG] at HA
      rw [← hT]
      have HR := Hid.mkV hR
      clear hR hG hT
      go_wp2_with fail
      refine HC.out.mono ?_
      rintro e w2 ⟨rfl, k2⟩
      have hown2 := hown.keep k2
      have c3 := hown2.cell h
      have f3 := hown2.free k
      cases T
      all_goals go_wp2
      all_goals go_roundw
      all_goals first
        | (simp [intOf]; omega)
        | exact ⟨k + 1, _, by omega, by go_num, by rw [HA.out]; first | rfl | simp, fun j hj => (by by_cases e : j = k; (rw [if_pos e, e]; exact HR.out); (rw [if_neg e]; exact HZZ.out j (by omega))), hown2.set k R⟩
    · obtain rfl : k = n := by omega
      go_wp2
      go_ret3
      obtain ⟨ao, ca, e1, e2⟩ := hown.sl
      cases e1
      exact ⟨_, _, rfl, e2.congr hzz, hown.below⟩

end Go.Proofs.Ytopffbidnpimcaa
