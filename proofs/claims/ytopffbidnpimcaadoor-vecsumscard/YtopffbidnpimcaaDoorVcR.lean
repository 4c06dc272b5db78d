/-
  The document's answer of layer 7 (radomeref07): Scale, Check, Join.
-/
import Derived.Test.YtopffbidnpimcaaDoorVcA
import Derived.Test.YtopffbidnpimcaaDoorLgE
import Derived.Deep.RegionWith
set_option linter.unusedSimpArgs false
set_option linter.unusedVariables false
namespace Go.Proofs.YtopffbidnpimcaaDoor
open Go.RowKit Vc Dt
attribute [local go_sem ↓] Go.wp_at_zero Go.wp_at_succ

theorem ldot_sl (ao bo : Option Addr) (n ca cb : Nat) (za zb : Nat → Int) (q : Int) (b : Nat) (w : World) (hq : q = (b : Int)) (hn : n ≤ 64) (ha : Sl w ao n ca za) (hb : Sl w bo n cb zb) (ba : B64 za) (bb : B64 zb) (hp : b ≤ 62) :
    Calls Tryd.prog 30 #[.slice ao n ca, .slice bo n cb, .int .i64 q] w fun e w' => e = .returned (.tuple #[.int .i64 (Qn.clamp (Qn.rne (dk za zb n) (2 ^ b))), .bool (Qn.great (Qn.rne (dk za zb n) (2 ^ b)))]) ∧ Below w.heap.size w w' := by
  subst hq
  obtain ⟨xa, hao, hca⟩ := ha.get
  obtain ⟨xb, hbo, hcb⟩ := hb.get
  exact ldot_any ao bo xa xb n ca cb za zb b w hn hao hbo hca hcb ba bb hp

namespace Vc
theorem Sl.one {w : World} {x : Addr} {a : Int} (h : w.cell? x = some (.int .i64 a)) : Sl w (some x) 1 1 (fun _ => a) :=
  ⟨Nat.le_refl _, by omega, fun k hk => ⟨x, rfl, by obtain rfl : k = 0 := by omega
                                                    exact h⟩⟩
end Vc

/-- The document's product of two numbers: Dot of one by one. -/
theorem vdot_one (a b q : Int) (p : Nat) (w : World) (hq : q = (p : Int)) (ha0 : -9223372036854775808 ≤ a) (ha1 : a ≤ 9223372036854775807) (hb0 : -9223372036854775808 ≤ b) (hb1 : b ≤ 9223372036854775807) (hp : p ≤ 62) :
    Calls Tryd.prog 30 #[.slice (some ⟨w.heap.size, 0, none⟩) 1 1, .slice (some ⟨w.heap.size + 1, 0, none⟩) 1 1, .int .i64 q] ((w.alloc (.cells #[.int .i64 a] 2)).alloc (.cells #[.int .i64 b] 2)) fun e w' =>
      e = .returned (.tuple #[.int .i64 (Qn.clamp (Qn.rne (a * b) (2 ^ p))), .bool (Qn.great (Qn.rne (a * b) (2 ^ p)))]) ∧ Below w.heap.size w w' := by
  have d1 : ((w.alloc (.cells #[.int .i64 a] 2)).alloc (.cells #[.int .i64 b] 2)).cell? ⟨w.heap.size, 0, none⟩ = some (.int .i64 a) := by go_simp
  have d2 : ((w.alloc (.cells #[.int .i64 a] 2)).alloc (.cells #[.int .i64 b] 2)).cell? ⟨w.heap.size + 1, 0, none⟩ = some (.int .i64 b) := by go_simp
  have h := ldot_sl (some ⟨w.heap.size, 0, none⟩) (some ⟨w.heap.size + 1, 0, none⟩) 1 1 1 (fun _ => a) (fun _ => b) q p _ hq (by omega) (Sl.one d1) (Sl.one d2) (fun _ => ⟨ha0, ha1⟩) (fun _ => ⟨hb0, hb1⟩) hp
  have e1 : dk (fun _ => a) (fun _ => b) 1 = a * b := by show 0 + a * b = _; omega
  rw [e1] at h
  refine h.mono ?_
  rintro e w1 ⟨rfl, k1⟩
  exact ⟨rfl, below_tr (below_al (below_al (Below.refl _ _) _) _) k1⟩

set_option maxRecDepth 10000 in
set_option maxHeartbeats 1000000 in
theorem rscale_any (n ca : Nat) (b : Int) (ao : Option Addr) (za : Nat → Int) (w : World) (hn : n ≤ 6) (ha : Sl w ao n ca za) (ba : B64 za) (b0 : -9223372036854775808 ≤ b) (b1 : b ≤ 9223372036854775807) :
    Calls Tryd.prog 13 #[.slice ao n ca, .int .i64 b] w fun e w' => ∃ co cc, e = .returned (.tuple #[.slice co n cc, .bool (anyb (fun k => Qn.great (Qn.rne (za k * b) (2 ^ 20))) n)]) ∧ Sl w' co n cc (fun k => Qn.clamp (Qn.rne (za k * b) (2 ^ 20))) ∧ Below w.heap.size w w' := by
  obtain ⟨xa, hao, hca⟩ := ha.get
  have h1 := ha.le
  have h2 := ha.cap
  have HAO := Hid.mkV hao
  have HCA := Hid.mkV hca
  have HM : Hid (∀ k W, Calls Tryd.prog 30 #[.slice (some ⟨W.heap.size, 0, none⟩) 1 1, .slice (some ⟨W.heap.size + 1, 0, none⟩) 1 1, .int .i64 20] ((W.alloc (.cells #[.int .i64 (za k)] 2)).alloc (.cells #[.int .i64 b] 2)) fun e w' =>
      e = .returned (.tuple #[.int .i64 (Qn.clamp (Qn.rne (za k * b) (2 ^ 20))), .bool (Qn.great (Qn.rne (za k * b) (2 ^ 20)))]) ∧ Below W.heap.size W w') := fun k W => vdot_one (za k) b 20 20 W rfl (ba k).1 (ba k).2 b0 b1 (by omega)
  obtain ⟨r, hr⟩ : ∃ r : Nat → Int, r = fun k => Qn.clamp (Qn.rne (za k * b) (2 ^ 20)) := ⟨_, rfl⟩
  obtain ⟨g, hg⟩ : ∃ g : Nat → Bool, g = fun k => Qn.great (Qn.rne (za k * b) (2 ^ 20)) := ⟨_, rfl⟩
  have HM' : Hid (∀ k W, Calls Tryd.prog 30 #[.slice (some ⟨W.heap.size, 0, none⟩) 1 1, .slice (some ⟨W.heap.size + 1, 0, none⟩) 1 1, .int .i64 20] ((W.alloc (.cells #[.int .i64 (za k)] 2)).alloc (.cells #[.int .i64 b] 2)) fun e w' =>
      e = .returned (.tuple #[.int .i64 (r k), .bool (g k)]) ∧ Below W.heap.size W w') := by rw [hr, hg]; exact HM
  rw [← hr, ← hg]
  clear hr hg HM ha hao hca ba
  go_enter Tryd.func13, Tryd.ntmps13
  go_wp2
  go_loopw [6, 7, 8] (fun out an i wr => ∃ k : Nat, k ≤ n ∧ i = .int .i64 (k : Int) ∧ an = .bool (anyb g k) ∧ Own w.heap.size w wr out k r) (fun _ _ i _ => n - (intOf i).toNat)
  case atStart => exact ⟨0, by omega, rfl, rfl, Own.nil (Below.refl _ _) (Nat.le_refl _) _⟩
  case round =>
    obtain ⟨k, hk, rfl, rfl, hown⟩ := hrel
    by_cases h : k < n
    · obtain rfl := HAO.out (by omega)
      have c1 := keep_cell hown.below (HCA.out k h)
      have HA : Hid (anyb g (k + 1) = (anyb g k || g k)) := rfl
      have HC := Hid.mkV (HM'.out k)
      obtain ⟨R, hR⟩ : ∃ R, R = r k := ⟨_, rfl⟩
      obtain ⟨G, hG⟩ : ∃ G, G = g k := ⟨_, rfl⟩
      obtain ⟨T, hT⟩ : ∃ T, T = anyb g k := ⟨_, rfl⟩
      obtain ⟨P, hP⟩ : ∃ P, P = za k := ⟨_, rfl⟩
      rw [← hR, ← hG, ← hP] at HC
      rw [← hT, ← hG] at HA
      rw [← hT]
      rw [← hP] at c1
      have HR := Hid.mkV hR
      clear hR hG hT hP
      go_wp2_with fail
      refine (HC.out _).mono ?_
      rintro e w2 ⟨rfl, k2⟩
      have hown2 := hown.keep k2
      cases T
      all_goals go_wp2_with (at_builtin; refine wpList_push (by rfl) (.tmp 28) (.tmp 30) (by rfl) w.heap.size w _ k r (by rfl) hown2 (by omega) R (by exact HR.out) (by rfl) ?_)
      all_goals intro v' w' hown'
      all_goals go_wp2
      all_goals go_roundw
      all_goals first
        | (simp [intOf]; omega)
        | exact ⟨k + 1, by omega, by go_num, by rw [HA.out]; first | rfl | simp, hown'⟩
    · obtain rfl : k = n := by omega
      obtain ⟨co, cc, rfl, hs⟩ := hown.sl
      go_wp2
      go_ret2
      exact ⟨_, _, rfl, hs, hown.below⟩

set_option maxRecDepth 10000 in
set_option maxHeartbeats 1000000 in
theorem check_bad1 (lo ho : Option Addr) (m q cm hc : Nat) (w : World) (hm : m ≤ 9223372036854775807) (hq : q ≤ 9223372036854775807) (h : m < 1 ∨ 4 < m ∨ m ≠ q) :
    Calls Tryd.prog 17 #[.slice lo m cm, .slice ho q hc] w fun e w' => e = .returned (.int .i64 1) ∧ w' = w := by
  by_cases h1 : m < 1
  · obtain rfl : m = 0 := by omega
    clear h
    go_enter Tryd.func17, Tryd.ntmps17
    go_wp2
    go_ret
    exact ⟨rfl, rfl⟩
  · have e1 : decide ((m : Int) < 1) = false := decide_eq_false (by omega)
    by_cases h2 : 4 < m
    · have e2 : decide ((m : Int) > 4) = true := decide_eq_true (by omega)
      clear h
      go_enter Tryd.func17, Tryd.ntmps17
      go_wp2
      go_ret
      exact ⟨rfl, rfl⟩
    · have e2 : decide ((m : Int) > 4) = false := decide_eq_false (by omega)
      have e3 : (((m : Nat) : Int) != ((q : Nat) : Int)) = true := by rw [bne_iff_ne]; omega
      clear h
      go_enter Tryd.func17, Tryd.ntmps17
      go_wp2
      go_ret
      exact ⟨rfl, rfl⟩

set_option maxRecDepth 10000 in
set_option maxHeartbeats 1000000 in
theorem check_bad2 (lo ho : Option Addr) (m cm hc : Nat) (A : Nat → Option Addr) (L C : Nat → Nat) (w : World) (h : Sls w lo m cm A L C) (h0 : 0 < m) (h4 : m ≤ 4) (hl : L 0 ≤ 9223372036854775807) (h6 : 6 < L 0) :
    Calls Tryd.prog 17 #[.slice lo m cm, .slice ho m hc] w fun e w' => e = .returned (.int .i64 1) ∧ w' = w := by
  obtain ⟨x, hlo, hcl⟩ := h.get
  obtain rfl := hlo h0
  have c0 : w.cell? x = some (.slice (A 0) (L 0) (C 0)) := hcl 0 h0
  have l1 := h.le
  have l2 := h.cap
  obtain ⟨n, hn⟩ : ∃ n, n = L 0 := ⟨_, rfl⟩
  rw [← hn] at c0 hl h6
  clear h hlo hcl hn
  have e1 : decide ((m : Int) < 1) = false := decide_eq_false (by omega)
  have e2 : decide ((m : Int) > 4) = false := decide_eq_false (by omega)
  have e3 : decide ((n : Int) > 6) = true := decide_eq_true (by omega)
  go_enter Tryd.func17, Tryd.ntmps17
  go_wp2
  go_ret
  exact ⟨rfl, rfl⟩

set_option maxRecDepth 10000 in
set_option maxHeartbeats 1000000 in
theorem check_bad3 (lo ho : Option Addr) (m cm hc : Nat) (A : Nat → Option Addr) (L C : Nat → Nat) (w : World) (h : Sls w lo m cm A L C) (h4 : m ≤ 4) (hl : ∀ k, k < m → L k ≤ 9223372036854775807) (h6 : L 0 ≤ 6) (q : Nat) (hq : q < m) (hbad : L q ≠ L 0) (hok : ∀ k, k < q → L k = L 0) :
    Calls Tryd.prog 17 #[.slice lo m cm, .slice ho m hc] w fun e w' => e = .returned (.int .i64 1) ∧ Below w.heap.size w w' := by
  obtain ⟨x, hlo, hcl⟩ := h.get
  obtain rfl := hlo (by omega)
  have c0 : w.cell? x = some (.slice (A 0) (L 0) (C 0)) := hcl 0 (by omega)
  have l1 := h.le
  have l2 := h.cap
  have HC := Hid.mkV hcl
  have HL := Hid.mkV hl
  have HBAD := Hid.mkV hbad
  have HOK := Hid.mkV hok
  obtain ⟨n, hn⟩ : ∃ n, n = L 0 := ⟨_, rfl⟩
  rw [← hn] at c0 h6
  have HN := Hid.mkV hn
  clear h hlo hcl hn hl hbad hok
  have e1 : decide ((m : Int) < 1) = false := decide_eq_false (by omega)
  have e2 : decide ((m : Int) > 4) = false := decide_eq_false (by omega)
  have e3 : decide ((n : Int) > 6) = false := decide_eq_false (by omega)
  go_enter Tryd.func17, Tryd.ntmps17
  go_wp2
  go_loopw [5] (fun i wr => ∃ k : Nat, k ≤ q ∧ i = .int .i64 (k : Int) ∧ Below w.heap.size w wr) (fun i _ => m - (intOf i).toNat)
  case atStart => exact ⟨0, by omega, rfl, Below.refl _ _⟩
  case round =>
    obtain ⟨k, hk, rfl, hbel⟩ := hrel
    have h : k < m := by omega
    have c1 := keep_cell hbel (HC.out k h)
    have c0' := keep_cell hbel c0
    have b1 := HL.out k h
    by_cases hkq : k = q
    · have hh := HBAD.out
      rw [← HN.out, ← hkq] at hh
      obtain ⟨l, hl⟩ : ∃ l, l = L k := ⟨_, rfl⟩
      rw [← hl] at c1 b1 hh
      have e4 : (((l : Nat) : Int) != ((n : Nat) : Int)) = true := by rw [bne_iff_ne]; omega
      clear hl hkq hh
      go_wp2
      go_quiet (fail)
      go_wp2
      go_ret
      exact ⟨rfl, Vc.below_drewN hbel _⟩
    · have hh := HOK.out k (by omega)
      rw [hh, ← HN.out] at c1
      clear hh
      go_wp2
      go_quiet (fail)
      go_wp2
      go_roundw
      case rel => exact ⟨k + 1, by omega, by go_num, Vc.below_drewN hbel _⟩
      case measure => simp [intOf]; omega

set_option maxRecDepth 10000 in
set_option maxHeartbeats 1000000 in
theorem check_ok (lo ho : Option Addr) (m cm hc n : Nat) (A : Nat → Option Addr) (C : Nat → Nat) (w : World) (h : Sls w lo m cm A (fun _ => n) C) (h0 : 0 < m) (h4 : m ≤ 4) (h6 : n ≤ 6) :
    Calls Tryd.prog 17 #[.slice lo m cm, .slice ho m hc] w fun e w' => e = .returned (.int .i64 0) ∧ Below w.heap.size w w' := by
  obtain ⟨x, hlo, hcl⟩ := h.get
  obtain rfl := hlo (by omega)
  have c0 : w.cell? x = some (.slice (A 0) n (C 0)) := hcl 0 (by omega)
  have l1 := h.le
  have l2 := h.cap
  have HC := Hid.mkV hcl
  clear h hlo hcl
  have e1 : decide ((m : Int) < 1) = false := decide_eq_false (by omega)
  have e2 : decide ((m : Int) > 4) = false := decide_eq_false (by omega)
  have e3 : decide ((n : Int) > 6) = false := decide_eq_false (by omega)
  go_enter Tryd.func17, Tryd.ntmps17
  go_wp2
  go_loopw [5] (fun i wr => ∃ k : Nat, k ≤ m ∧ i = .int .i64 (k : Int) ∧ Below w.heap.size w wr) (fun i _ => m - (intOf i).toNat)
  case atStart => exact ⟨0, by omega, rfl, Below.refl _ _⟩
  case round =>
    obtain ⟨k, hk, rfl, hbel⟩ := hrel
    by_cases h : k < m
    · have c1 := keep_cell hbel (HC.out k h)
      have c0' := keep_cell hbel c0
      go_wp2
      go_quiet (fail)
      go_wp2
      go_roundw
      case rel => exact ⟨k + 1, by omega, by go_num, Vc.below_drewN hbel _⟩
      case measure => simp [intOf]; omega
    · obtain rfl : k = m := by omega
      go_wp2
      go_ret
      exact ⟨rfl, hbel⟩

set_option maxRecDepth 10000 in
set_option maxHeartbeats 1000000 in
theorem rjoin_any (n : Nat) (lo ho : Option Addr) (m cm hc : Nat) (A : Nat → Option Addr) (C : Nat → Nat) (Z : Nat → Nat → Int) (c : Nat → Int) (w : World) (h : Sls w lo m cm A (fun _ => n) C) (hz : ∀ k, k < m → Sl w (A k) n (C k) (Z k)) (hn : n ≤ 6) (hm0 : 0 < m) (hm : m ≤ 4)
    (hch : Sl w ho m hc c) (bz : ∀ k, B64 (Z k)) (bc : B64 c) :
    Calls Tryd.prog 18 #[.slice lo m cm, .slice ho m hc] w fun e w' => ∃ co cc, e = .returned (.tuple #[.slice co n cc, .bool (anyb (fun p => Qn.great (Qn.rne (dk (fun k => Z k p) c m) (2 ^ 30))) n)]) ∧ Sl w' co n cc (fun p => Qn.clamp (Qn.rne (dk (fun k => Z k p) c m) (2 ^ 30))) ∧ Below w.heap.size w w' := by
  obtain ⟨x, hlo, hcl⟩ := h.get
  obtain rfl := hlo hm0
  have c0 : w.cell? x = some (.slice (A 0) n (C 0)) := hcl 0 (by omega)
  have l1 := h.le
  have l2 := h.cap
  have l3 := hch.le
  have l4 := hch.cap
  have HC := Hid.mkV hcl
  have HZ := Hid.mkV hz
  have HM : Hid (∀ p ao ca W, Below w.heap.size w W → Sl W ao m ca (fun k => Z k p) → Calls Tryd.prog 30 #[.slice ao m ca, .slice ho m hc, .int .i64 30] W fun e w' =>
      e = .returned (.tuple #[.int .i64 (Qn.clamp (Qn.rne (dk (fun k => Z k p) c m) (2 ^ 30))), .bool (Qn.great (Qn.rne (dk (fun k => Z k p) c m) (2 ^ 30)))]) ∧ Below W.heap.size W w') := fun p ao ca W b hs => ldot_sl ao ho m ca hc _ c 30 30 W rfl (by omega) hs (hch.keep b) (fun k => bz k p) bc (by omega)
  obtain ⟨r, hr⟩ : ∃ r : Nat → Int, r = fun p => Qn.clamp (Qn.rne (dk (fun k => Z k p) c m) (2 ^ 30)) := ⟨_, rfl⟩
  obtain ⟨g, hg⟩ : ∃ g : Nat → Bool, g = fun p => Qn.great (Qn.rne (dk (fun k => Z k p) c m) (2 ^ 30)) := ⟨_, rfl⟩
  have HM' : Hid (∀ p ao ca W, Below w.heap.size w W → Sl W ao m ca (fun k => Z k p) → Calls Tryd.prog 30 #[.slice ao m ca, .slice ho m hc, .int .i64 30] W fun e w' =>
      e = .returned (.tuple #[.int .i64 (r p), .bool (g p)]) ∧ Below W.heap.size W w') := by rw [hr, hg]; exact HM
  rw [← hr, ← hg]
  clear hr hg HM h hlo hcl hz hch bz bc
  go_enter Tryd.func18, Tryd.ntmps18
  go_wp2
  go_loopw [6, 7, 8] (fun out an i wr => ∃ k : Nat, k ≤ n ∧ i = .int .i64 (k : Int) ∧ an = .bool (anyb g k) ∧ Own w.heap.size w wr out k r) (fun _ _ i _ => n - (intOf i).toNat)
  case atStart => exact ⟨0, by omega, rfl, rfl, Own.nil (Below.refl _ _) (Nat.le_refl _) _⟩
  case round =>
    rename World => wo
    obtain ⟨k, hk, rfl, rfl, hown⟩ := hrel
    have c0' := keep_cell hown.below c0
    have HA : Hid (anyb g (k + 1) = (anyb g k || g k)) := rfl
    obtain ⟨T, hT⟩ : ∃ T, T = anyb g k := ⟨_, rfl⟩
    rw [← hT] at HA
    rw [← hT]
    have HT := Hid.mkV hT
    clear hT
    by_cases h : k < n
    · go_wp2
      go_loopw [9, 10] (fun ps j ws => ∃ t : Nat, t ≤ m ∧ j = .int .i64 (t : Int) ∧ Own wo.heap.size wo ws ps t (fun i => Z i k)) (fun _ j _ => m - (intOf j).toNat)
      case atStart => exact ⟨0, by omega, rfl, Own.nil (Below.refl _ _) (Nat.le_refl _) _⟩
      case round =>
        obtain ⟨t, ht, rfl, hown2⟩ := hrel
        by_cases h2 : t < m
        · have kk := below_tr hown.below hown2.below
          have c1 := keep_cell kk (HC.out t h2)
          obtain ⟨ya, hya, hyc⟩ := (HZ.out t h2).get
          have c2 := keep_cell kk (hyc k h)
          rw [hya (by omega)] at c1
          have l5 := (HZ.out t h2).le
          have l6 := (HZ.out t h2).cap
          obtain ⟨V, hV⟩ : ∃ V, V = Z t k := ⟨_, rfl⟩
          obtain ⟨cc, hcc⟩ : ∃ cc, cc = C t := ⟨_, rfl⟩
          rw [← hV] at c2
          rw [← hcc] at c1 l5 l6
          have HV := Hid.mkV hV
          clear hV hcc hya hyc
          go_wp2_with (at_builtin; refine wpList_push (by rfl) (.tmp 27) (.tmp 35) (by rfl) wo.heap.size wo _ t (fun i => Z i k) (by rfl) hown2 (by omega) V (by exact HV.out) (by rfl) ?_)
          intro v' w' hown'
          go_wp2
          go_roundw
          case rel => exact ⟨t + 1, by omega, by go_num, hown'⟩
          case measure => simp [intOf]; omega
        · obtain rfl : t = m := by omega
          obtain ⟨po, pc, rfl, hps⟩ := hown2.sl
          have hbb := hown2.below
          have hownB := hown.keep hbb
          have HCC := Hid.mkV (HM'.out k po pc _ (below_tr hown.below hbb) hps)
          obtain ⟨R, hR⟩ : ∃ R, R = r k := ⟨_, rfl⟩
          obtain ⟨G, hG⟩ : ∃ G, G = g k := ⟨_, rfl⟩
          rw [← hR, ← hG] at HCC
          rw [← hG] at HA
          have HR := Hid.mkV hR
          clear hR hG
          go_wp2_with fail
          refine HCC.out.mono ?_
          rintro e w2 ⟨rfl, k2⟩
          have hownC := hownB.keep k2
          cases T
          all_goals go_wp2_with (at_builtin; refine wpList_push (by rfl) (.tmp 43) (.tmp 45) (by rfl) w.heap.size w _ k r (by rfl) hownC (by omega) R (by exact HR.out) (by rfl) ?_)
          all_goals intro v' w' hown'
          all_goals go_wp2
          all_goals go_roundw
          all_goals first
            | (simp [intOf]; omega)
            | exact ⟨k + 1, by omega, by go_num, by rw [HA.out]; first | rfl | simp, hown'⟩
    · obtain rfl : k = n := by omega
      obtain ⟨co, cc, rfl, hs⟩ := hown.sl
      go_wp2
      go_ret2
      exact ⟨_, _, by rw [← HT.out]; rfl, hs, hown.below⟩

end Go.Proofs.YtopffbidnpimcaaDoor
