/-
  Vectors (vec): whether vectors are alike, the part at one place of each; the laws' nums.
-/
import Derived.Test.YtopffbidnpimcaaVcA
import Derived.Deep.RegionWith
set_option linter.unusedSimpArgs false
set_option linter.unusedVariables false
namespace Go.Proofs.Ytopffbidnpimcaa
open Go.RowKit Vc

set_option maxRecDepth 10000 in
set_option maxHeartbeats 1000000 in
theorem nums_yes (ao bo : Option Addr) (n ca cb : Nat) (z : Nat → Int) (w : World) (ha : Sl w ao n ca z) (hb : Sl w bo n cb z) :
    Calls Try.prog 6 #[.slice ao n ca, .slice bo n cb] w fun e w' => e = .returned (.bool true) ∧ Below w.heap.size w w' := by
  obtain ⟨xa, hao, hca⟩ := ha.get
  obtain ⟨xb, hbo, hcb⟩ := hb.get
  have h1 := ha.le
  have h2 := ha.cap
  have h3 := hb.le
  have HAO := Hid.mkV hao
  have HBO := Hid.mkV hbo
  have HCA := Hid.mkV hca
  have HCB := Hid.mkV hcb
  clear hao hbo hca hcb ha hb
  go_enter Try.func6, Try.ntmps6
  go_wp2
  go_loopw [5] (fun i wr => ∃ k : Nat, k ≤ n ∧ i = .int .i64 (k : Int) ∧ Below w.heap.size w wr) (fun i _ => n - (intOf i).toNat)
  case atStart => exact ⟨0, by omega, rfl, Below.refl _ _⟩
  case round =>
    obtain ⟨k, hk, rfl, hbel⟩ := hrel
    by_cases h : k < n
    · obtain rfl := HAO.out (by omega)
      obtain rfl := HBO.out (by omega)
      have ca' := keep_cell hbel (HCA.out k h)
      have cb' := keep_cell hbel (HCB.out k h)
      obtain ⟨P, hP⟩ : ∃ P, P = z k := ⟨_, rfl⟩
      rw [← hP] at ca' cb'
      clear hP
      go_wp2
      go_quiet (fail)
      go_wp2
      go_roundw
      case rel => exact ⟨k + 1, by omega, by go_num, Vc.below_drewN hbel _⟩
      case measure => simp [intOf]; omega
    · obtain rfl : k = n := by omega
      go_wp2
      go_ret
      exact ⟨rfl, hbel⟩

set_option maxRecDepth 10000 in
set_option maxHeartbeats 1000000 in
theorem alike_yes (lo : Option Addr) (m cm : Nat) (A : Nat → Option Addr) (n : Nat) (C : Nat → Nat) (w : World) (h : Sls w lo m cm A (fun _ => n) C) (hm : 0 < m) (hn : n ≤ 6) :
    Calls Try.prog 20 #[.slice lo m cm] w fun e w' => e = .returned (.bool true) ∧ w' = w := by
  obtain ⟨x, hlo, hc⟩ := h.get
  have h1 := h.le
  have h2 := h.cap
  obtain rfl := hlo hm
  have c0 := hc 0 hm
  have e0 : x.add 0 = x := rfl
  rw [e0] at c0
  have HC := Hid.mkV hc
  have e1 : ((m : Int) == 0) = false := beq_eq_false_iff_ne.2 (by omega)
  have e2 : decide ((n : Int) > 6) = false := decide_eq_false (by omega)
  clear h hlo hc e0
  go_enter Try.func20, Try.ntmps20
  go_wp2
  go_loopw [10] (fun i wr => ∃ k : Nat, k ≤ m ∧ i = .int .i64 (k : Int) ∧ wr = w) (fun i _ => m - (intOf i).toNat)
  case atStart => exact ⟨0, by omega, rfl, rfl⟩
  case round =>
    obtain ⟨k, hk, rfl, rfl⟩ := hrel
    by_cases h : k < m
    · have c1 := HC.out k h
      go_wp2
      go_roundw
      case rel => exact ⟨k + 1, by omega, by go_num, trivial⟩
      case measure => simp [intOf]; omega
    · obtain rfl : k = m := by omega
      go_wp2
      go_ret
      exact ⟨rfl, rfl⟩

theorem alike_nil (lo : Option Addr) (cm : Nat) (w : World) :
    Calls Try.prog 20 #[.slice lo 0 cm] w fun e w' => e = .returned (.bool false) ∧ w' = w := by
  go_enter Try.func20, Try.ntmps20
  go_wp2
  go_ret
  exact ⟨rfl, rfl⟩

set_option maxRecDepth 10000 in
set_option maxHeartbeats 1000000 in
/-- One that is not as the first, or has too many parts: q is the first of them. -/
theorem alike_no (lo : Option Addr) (m cm : Nat) (A : Nat → Option Addr) (L C : Nat → Nat) (w : World) (h : Sls w lo m cm A L C) (q : Nat) (hq : q < m) (hb : ∀ k, k < m → L k ≤ 9223372036854775807) (hbad : L q ≠ L 0 ∨ 6 < L q) (hok : ∀ k, k < q → L k = L 0 ∧ L k ≤ 6) :
    Calls Try.prog 20 #[.slice lo m cm] w fun e w' => e = .returned (.bool false) ∧ w' = w := by
  obtain ⟨x, hlo, hc⟩ := h.get
  have h1 := h.le
  have h2 := h.cap
  obtain rfl := hlo (by omega)
  have c0 := hc 0 (by omega)
  have b0 := hb 0 (by omega)
  have e0 : x.add 0 = x := rfl
  rw [e0] at c0
  have HC := Hid.mkV hc
  have HB := Hid.mkV hb
  have HBAD := Hid.mkV hbad
  have HOK := Hid.mkV hok
  have e1 : ((m : Int) == 0) = false := beq_eq_false_iff_ne.2 (by omega)
  obtain ⟨n, hn⟩ : ∃ n, n = L 0 := ⟨_, rfl⟩
  rw [← hn] at c0 b0
  have HN := Hid.mkV hn
  clear h hlo hc e0 hb hbad hok hn
  go_enter Try.func20, Try.ntmps20
  go_wp2
  go_loopw [10] (fun i wr => ∃ k : Nat, k ≤ q ∧ i = .int .i64 (k : Int) ∧ wr = w) (fun i _ => m - (intOf i).toNat)
  case atStart => exact ⟨0, by omega, rfl, rfl⟩
  case round =>
    obtain ⟨k, hk, rfl, rfl⟩ := hrel
    have h : k < m := by omega
    have c1 := HC.out k h
    have b1 := HB.out k h
    by_cases hkq : k = q
    · have hh := HBAD.out
      rw [← HN.out, ← hkq] at hh
      obtain ⟨l, hl⟩ : ∃ l, l = L k := ⟨_, rfl⟩
      rw [← hl] at c1 b1 hh
      clear hl hkq
      by_cases e3 : l = n
      · subst e3
        have e4 : decide ((l : Int) > 6) = true := decide_eq_true (by omega)
        clear hh
        go_wp2
        go_ret
        exact ⟨rfl, rfl⟩
      · have e4 : (((l : Nat) : Int) != ((n : Nat) : Int)) = true := by rw [bne_iff_ne]; omega
        clear hh
        go_wp2
        go_ret
        exact ⟨rfl, rfl⟩
    · have hh := HOK.out k (by omega)
      rw [← HN.out] at hh
      rw [hh.1] at c1
      have e4 : decide ((n : Int) > 6) = false := decide_eq_false (by omega)
      clear hh
      go_wp2
      go_roundw
      case rel => exact ⟨k + 1, by omega, by go_num, trivial⟩
      case measure => simp [intOf]; omega

set_option maxRecDepth 10000 in
set_option maxHeartbeats 1000000 in
/-- The part at one place of each. -/
theorem partsAt_any (p : Nat) (lo : Option Addr) (m cm : Nat) (A : Nat → Option Addr) (L C : Nat → Nat) (Z : Nat → Nat → Int) (w : World) (h : Sls w lo m cm A L C) (hz : ∀ k, k < m → Sl w (A k) (L k) (C k) (Z k)) (hp : ∀ k, k < m → p < L k) (hm : m ≤ 64) :
    Calls Try.prog 17 #[.int .i64 (p : Int), .slice lo m cm] w fun e w' => ∃ ao ca, e = .returned (.slice ao m ca) ∧ Sl w' ao m ca (fun k => Z k p) ∧ Below w.heap.size w w' := by
  obtain ⟨x, hlo, hc⟩ := h.get
  have h1 := h.le
  have h2 := h.cap
  have HLO := Hid.mkV hlo
  have HC := Hid.mkV hc
  have HZ := Hid.mkV hz
  have HP := Hid.mkV hp
  clear h hlo hc hz hp
  obtain ⟨i0, hi, hz0, hz1, hz2⟩ := info_parts infoI64
  go_enter Try.func17, Try.ntmps17
  go_wp2_with (at_make; refine wpList_make_full _ rfl _ _ 22 rfl w.heap.size 2 i0 (.int .i64 0) 1 Try.underlying22 hi hz0 hz1 _ _ _ _ m rfl rfl (by omega) (by omega) (by rw [hz2]; omega) (by unfold maxLen; omega) (Nat.le_refl _) ?_)
  intro w0 hown0 hgrow0
  have hO0 := own_made hown0 hgrow0 (Nat.le_refl _)
  clear hown0 hgrow0
  go_wp2
  go_loopw [13] (fun i wr => ∃ (k : Nat) (z : Nat → Int), k ≤ m ∧ i = .int .i64 (k : Int) ∧ (∀ j, j < k → z j = Z j p) ∧ Own w.heap.size w wr (.slice (some ⟨w.heap.size, 0, none⟩) m m) m z) (fun i _ => m - (intOf i).toNat)
  case atStart => exact ⟨0, fun _ => 0, by omega, rfl, fun j hj => by omega, hO0⟩
  case round =>
    obtain ⟨k, z, hk, rfl, hzz, hown⟩ := hrel
    by_cases h : k < m
    · obtain rfl := HLO.out (by omega)
      have c1 := keep_cell hown.below (HC.out k h)
      obtain ⟨ya, hya, hyc⟩ := (HZ.out k h).get
      have hpl := HP.out k h
      have hya' := hya (by omega)
      have c2 := keep_cell hown.below (hyc p hpl)
      have l1 := (HZ.out k h).le
      have l2 := (HZ.out k h).cap
      rw [hya'] at c1
      obtain ⟨V, hV⟩ : ∃ V, V = Z k p := ⟨_, rfl⟩
      obtain ⟨l, hl⟩ : ∃ l, l = L k := ⟨_, rfl⟩
      obtain ⟨c, hc⟩ : ∃ c, c = C k := ⟨_, rfl⟩
      rw [← hV] at c2
      rw [← hl] at c1 l1 hpl
      rw [← hc] at c1 l1 l2
      have HV := Hid.mkV hV
      clear hya hyc hya' hV hl hc
      have c3 := hown.cell h
      have f3 := hown.free k
      have HZZ := Hid.mkV hzz
      clear hzz
      go_wp2
      go_roundw
      case rel => exact ⟨k + 1, _, by omega, by go_num, fun j hj => (by by_cases e : j = k; (rw [if_pos e, e]; exact HV.out); (rw [if_neg e]; exact HZZ.out j (by omega))), hown.set k V⟩
      case measure => simp [intOf]; omega
    · obtain rfl : k = m := by omega
      go_wp2
      go_ret
      obtain ⟨ao, ca, e1, e2⟩ := hown.sl
      cases e1
      exact ⟨_, _, rfl, e2.congr hzz, hown.below⟩

end Go.Proofs.Ytopffbidnpimcaa
