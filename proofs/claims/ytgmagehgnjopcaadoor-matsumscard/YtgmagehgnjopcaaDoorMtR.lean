/-
  The document's answer of layer 8 (radomeref08): May, Eye, Turn, Alike, Apply, Mul.
-/
import Derived.Test.YtgmagehgnjopcaaDoorMtI
import Derived.Test.YtgmagehgnjopcaaDoorVcR
import Derived.Deep.RegionHeld3
set_option linter.unusedSimpArgs false
set_option linter.unusedVariables false
namespace Go.Proofs.YtgmagehgnjopcaaDoor
open Go.RowKit Vc Mt Dt

set_option maxRecDepth 10000 in
set_option maxHeartbeats 1000000 in
theorem rmay_yes (n m cm : Nat) (lo : Option Addr) (A : Nat → Option Addr) (C : Nat → Nat) (w : World) (h : Sls w lo n cm A (fun _ => m) C) (h1 : 1 ≤ n) (h2 : n ≤ 6) (h3 : 1 ≤ m) (h4 : m ≤ 6) :
    Calls Tryd.prog 12 #[.slice lo n cm] w fun e w' => e = .returned (.bool true) ∧ Below w.heap.size w w' := by
  obtain ⟨x, hlo, hcl⟩ := h.get
  obtain rfl := hlo (by omega)
  have c0 : w.cell? x = some (.slice (A 0) m (C 0)) := hcl 0 (by omega)
  have l1 := h.le
  have l2 := h.cap
  have HC := Hid.mkV hcl
  have e1 : decide ((n : Int) < 1) = false := decide_eq_false (by omega)
  have e2 : decide ((n : Int) > 6) = false := decide_eq_false (by omega)
  have e3 : decide ((m : Int) < 1) = false := decide_eq_false (by omega)
  have e4 : decide ((m : Int) > 6) = false := decide_eq_false (by omega)
  clear h hlo hcl
  go_enter Tryd.func12, Tryd.ntmps12
  go_wp2
  go_loopw [3] (fun i wr => ∃ k : Nat, k ≤ n ∧ i = .int .i64 (k : Int) ∧ Below w.heap.size w wr) (fun i _ => n - (intOf i).toNat)
  case atStart => exact ⟨0, by omega, rfl, Below.refl _ _⟩
  case round =>
    obtain ⟨k, hk, rfl, hbel⟩ := hrel
    by_cases h : k < n
    · have c1 := keep_cell hbel (HC.out k h)
      have c0' := keep_cell hbel c0
      go_wp2
      go_quiet (fail)
      go_wp2
      go_roundw
      case rel => exact ⟨k + 1, by omega, by go_num, Vc.below_drewN hbel _⟩
      case measure => simp [intOf]; omega
    · obtain rfl : k = n := by omega
      go_wp2
      go_ret
      exact ⟨rfl, hbel⟩

set_option maxRecDepth 10000 in
set_option maxHeartbeats 1000000 in
theorem rmay_rows (n cm : Nat) (lo : Option Addr) (w : World) (hn : n ≤ 9223372036854775807) (h : n < 1 ∨ 6 < n) :
    Calls Tryd.prog 12 #[.slice lo n cm] w fun e w' => e = .returned (.bool false) ∧ Below w.heap.size w w' := by
  by_cases h0 : n < 1
  · have e1 : decide ((n : Int) < 1) = true := decide_eq_true (by omega)
    go_enter Tryd.func12, Tryd.ntmps12
    go_wp2
    go_ret
    exact ⟨rfl, Below.refl _ _⟩
  · have e1 : decide ((n : Int) < 1) = false := decide_eq_false (by omega)
    have e2 : decide ((n : Int) > 6) = true := decide_eq_true (by omega)
    clear h h0
    go_enter Tryd.func12, Tryd.ntmps12
    go_wp2
    go_ret
    exact ⟨rfl, Below.refl _ _⟩

set_option maxRecDepth 10000 in
set_option maxHeartbeats 1000000 in
theorem rmay_cols (n cm : Nat) (lo : Option Addr) (A : Nat → Option Addr) (L C : Nat → Nat) (w : World) (h : Sls w lo n cm A L C) (h1 : 1 ≤ n) (h2 : n ≤ 6) (hL : L 0 ≤ 9223372036854775807) (hb : L 0 < 1 ∨ 6 < L 0) :
    Calls Tryd.prog 12 #[.slice lo n cm] w fun e w' => e = .returned (.bool false) ∧ Below w.heap.size w w' := by
  obtain ⟨x, hlo, hcl⟩ := h.get
  obtain rfl := hlo (by omega)
  have c0 : w.cell? x = some (.slice (A 0) (L 0) (C 0)) := hcl 0 (by omega)
  have l1 := h.le
  have l2 := h.cap
  have e1 : decide ((n : Int) < 1) = false := decide_eq_false (by omega)
  have e2 : decide ((n : Int) > 6) = false := decide_eq_false (by omega)
  obtain ⟨m, hm⟩ : ∃ m, m = L 0 := ⟨_, rfl⟩
  rw [← hm] at c0 hL hb
  clear h hlo hcl hm
  by_cases h0 : m < 1
  · have e3 : decide ((m : Int) < 1) = true := decide_eq_true (by omega)
    clear h0 hb
    go_enter Tryd.func12, Tryd.ntmps12
    go_wp2
    go_ret
    exact ⟨rfl, Below.refl _ _⟩
  · have e3 : decide ((m : Int) < 1) = false := decide_eq_false (by omega)
    have e4 : decide ((m : Int) > 6) = true := decide_eq_true (by omega)
    clear h0 hb
    go_enter Tryd.func12, Tryd.ntmps12
    go_wp2
    go_ret
    exact ⟨rfl, Below.refl _ _⟩

set_option maxRecDepth 10000 in
set_option maxHeartbeats 1000000 in
theorem rmay_other (n cm q : Nat) (lo : Option Addr) (A : Nat → Option Addr) (L C : Nat → Nat) (w : World) (h : Sls w lo n cm A L C) (h1 : 1 ≤ n) (h2 : n ≤ 6) (h3 : 1 ≤ L 0) (h4 : L 0 ≤ 6) (hl : ∀ k, k < n → L k ≤ 9223372036854775807) (hq : q < n) (hbad : L q ≠ L 0) (hok : ∀ k, k < q → L k = L 0) :
    Calls Tryd.prog 12 #[.slice lo n cm] w fun e w' => e = .returned (.bool false) ∧ Below w.heap.size w w' := by
  obtain ⟨x, hlo, hcl⟩ := h.get
  obtain rfl := hlo (by omega)
  have c0 : w.cell? x = some (.slice (A 0) (L 0) (C 0)) := hcl 0 (by omega)
  have l1 := h.le
  have l2 := h.cap
  have HC := Hid.mkV hcl
  have HL := Hid.mkV hl
  have HBAD := Hid.mkV hbad
  have HOK := Hid.mkV hok
  obtain ⟨m, hm⟩ : ∃ m, m = L 0 := ⟨_, rfl⟩
  rw [← hm] at c0 h3 h4
  have HN := Hid.mkV hm
  have e1 : decide ((n : Int) < 1) = false := decide_eq_false (by omega)
  have e2 : decide ((n : Int) > 6) = false := decide_eq_false (by omega)
  have e3 : decide ((m : Int) < 1) = false := decide_eq_false (by omega)
  have e4 : decide ((m : Int) > 6) = false := decide_eq_false (by omega)
  clear h hlo hcl hm hl hbad hok
  go_enter Tryd.func12, Tryd.ntmps12
  go_wp2
  go_loopw [3] (fun i wr => ∃ k : Nat, k ≤ q ∧ i = .int .i64 (k : Int) ∧ Below w.heap.size w wr) (fun i _ => n - (intOf i).toNat)
  case atStart => exact ⟨0, by omega, rfl, Below.refl _ _⟩
  case round =>
    obtain ⟨k, hk, rfl, hbel⟩ := hrel
    have h : k < n := by omega
    have c1 := keep_cell hbel (HC.out k h)
    have c0' := keep_cell hbel c0
    have b1 := HL.out k h
    by_cases hkq : k = q
    · have hh := HBAD.out
      rw [← HN.out, ← hkq] at hh
      obtain ⟨l, hl⟩ : ∃ l, l = L k := ⟨_, rfl⟩
      rw [← hl] at c1 b1 hh
      have e4 : (((l : Nat) : Int) != ((m : Nat) : Int)) = true := by rw [bne_iff_ne]; omega
      clear hl hkq hh
      go_wp2
      go_quiet (fail)
      go_wp2
      go_ret
      exact ⟨rfl, Vc.below_drewN hbel _⟩
    · have hh := HOK.out k (by omega)
      rw [hh, ← HN.out] at c1
      clear hh
      go_wp2
      go_quiet (fail)
      go_wp2
      go_roundw
      case rel => exact ⟨k + 1, by omega, by go_num, Vc.below_drewN hbel _⟩
      case measure => simp [intOf]; omega

set_option maxRecDepth 10000 in
set_option maxHeartbeats 1000000 in
theorem reye_any (n : Nat) (w : World) (h1 : 1 ≤ n) (h2 : n ≤ 6) :
    Calls Tryd.prog 11 #[.int .i64 (n : Int)] w fun e w' => ∃ lo cm, e = .returned (.slice lo n cm) ∧ Grid w' lo n cm n eyeF ∧ Below w.heap.size w w' := by
  obtain ⟨i0, hi, hz0, hz1, hz2⟩ := info_parts infoI64
  go_enter Tryd.func11, Tryd.ntmps11
  go_wp2
  go_loopw [3, 4] (fun out i wr => ∃ k : Nat, k ≤ n ∧ i = .int .i64 (k : Int) ∧ Lst w.heap.size w wr out k n eyeF) (fun _ i _ => n - (intOf i).toNat)
  case atStart => exact ⟨0, by omega, rfl, Lst.nil (Below.refl _ _) (Nat.le_refl _) _ _⟩
  case round =>
    rename World => wo
    obtain ⟨k, hk, rfl, hL⟩ := hrel
    by_cases h : k < n
    · go_wp2_with (at_make; refine wpList_make_full _ rfl _ _ 41 rfl wo.heap.size 2 i0 (.int .i64 0) 1 Tryd.underlying41 hi hz0 hz1 _ _ _ _ n rfl rfl (by omega) (by omega) (by rw [hz2]; omega) (by unfold maxLen; omega) (Nat.le_refl _) ?_)
      intro w0 hown0 hgrow0
      have hO0 := own_made hown0 hgrow0 (Nat.le_refl _)
      have c3 := hO0.cell h
      have f3 := hO0.free k
      have hO1 := (hO0.set k 1048576).congr (z' := eyeF k) (fun j _ => by unfold eyeF; by_cases e : j = k; (rw [if_pos e, if_pos e.symm]); (rw [if_neg e, if_neg (fun h => e h.symm)]))
      have hL1 := hL.keep hO1.below
      obtain ⟨ao, ca, e1, s1, f1⟩ := own_fresh hO1
      injection e1 with ea _ ec
      subst ea ec
      have HS := Hid.mkV s1
      have HAP := Hid.mkV (hL.apart (Nat.le_refl _) f1)
      clear hown0 hgrow0 hO0 s1 f1 hL hO1
      go_wp2_with (at_builtin; refine wpList_pushS (by rfl) _ _ (by rfl) w.heap.size w _ k n eyeF (by rfl) hL1 (by omega) (by omega) _ _ HS.out HAP.out (by show Value.slice (some ⟨w0.heap.size, 0, none⟩) 1 1 = _; simp) ?_)
      intro v' w' hL'
      go_wp2
      go_roundw
      case rel => exact ⟨k + 1, by omega, by go_num, hL'⟩
      case measure => simp [intOf]; omega
    · obtain rfl : k = n := by omega
      obtain ⟨lo, cm, rfl, hG⟩ := hL.grid
      go_wp2
      go_ret
      exact ⟨lo, cm, rfl, hG, hL.below⟩

set_option maxRecDepth 10000 in
set_option maxHeartbeats 1000000 in
theorem rturn_any (n m cm : Nat) (lo : Option Addr) (F : Nat → Nat → Int) (w : World) (h1 : 1 ≤ n) (h2 : n ≤ 6) (h3 : 1 ≤ m) (h4 : m ≤ 6) (hg : Grid w lo n cm m F) :
    Calls Tryd.prog 19 #[.slice lo n cm] w fun e w' => ∃ lo' cm', e = .returned (.slice lo' m cm') ∧ Grid w' lo' m cm' n (fun i j => F j i) ∧ Below w.heap.size w w' := by
  obtain ⟨A, C, h, hz⟩ := hg
  obtain ⟨x, hlo, hcl⟩ := h.get
  obtain rfl := hlo (by omega)
  have c0 : w.cell? x = some (.slice (A 0) m (C 0)) := hcl 0 (by omega)
  have l1 := h.le
  have l2 := h.cap
  have HC := Hid.mkV hcl
  have HZ := Hid.mkV hz
  clear h hlo hcl hz
  go_enter Tryd.func19, Tryd.ntmps19
  go_wp2
  go_loopw [3, 4] (fun out i wr => ∃ k : Nat, k ≤ m ∧ i = .int .i64 (k : Int) ∧ Lst w.heap.size w wr out k n (fun i j => F j i)) (fun _ i _ => m - (intOf i).toNat)
  case atStart => exact ⟨0, by omega, rfl, Lst.nil (Below.refl _ _) (Nat.le_refl _) _ _⟩
  case round =>
    rename World => wo
    obtain ⟨k, hk, rfl, hL⟩ := hrel
    have c0' := keep_cell hL.below c0
    by_cases h : k < m
    · go_wp2
      go_loopw [5, 6] (fun ps j ws => ∃ t : Nat, t ≤ n ∧ j = .int .i64 (t : Int) ∧ Own wo.heap.size wo ws ps t (fun i => F i k)) (fun _ j _ => n - (intOf j).toNat)
      case atStart => exact ⟨0, by omega, rfl, Own.nil (Below.refl _ _) (Nat.le_refl _) _⟩
      case round =>
        obtain ⟨t, ht, rfl, hown2⟩ := hrel
        by_cases h5 : t < n
        · have kk := below_tr hL.below hown2.below
          have c1 := keep_cell kk (HC.out t h5)
          obtain ⟨ya, hya, hyc⟩ := (HZ.out t h5).get
          have c2 := keep_cell kk (hyc k h)
          rw [hya (by omega)] at c1
          have l5 := (HZ.out t h5).le
          have l6 := (HZ.out t h5).cap
          obtain ⟨V, hV⟩ : ∃ V, V = F t k := ⟨_, rfl⟩
          obtain ⟨cc, hcc⟩ : ∃ cc, cc = C t := ⟨_, rfl⟩
          rw [← hV] at c2
          rw [← hcc] at c1 l5 l6
          have HV := Hid.mkV hV
          clear hV hcc hya hyc
          go_wp2_with (at_builtin; refine wpList_push (by rfl) (.tmp 21) (.tmp 29) (by rfl) wo.heap.size wo _ t (fun i => F i k) (by rfl) hown2 (by omega) V (by exact HV.out) (by rfl) ?_)
          intro v' w' hown'
          go_wp2
          go_roundw
          case rel => exact ⟨t + 1, by omega, by go_num, hown'⟩
          case measure => simp [intOf]; omega
        · obtain rfl : t = n := by omega
          obtain ⟨po, pc, rfl, hps, hpf⟩ := own_fresh hown2
          have hL2 := hL.keep hown2.below
          have HS := Hid.mkV hps
          have HAP := Hid.mkV (hL.apart (Nat.le_refl _) hpf)
          clear hps hpf hown2
          go_wp2_with (at_builtin; refine wpList_pushS (by rfl) (.tmp 31) (.tmp 33) (by rfl) w.heap.size w _ k _ (fun i j => F j i) (by rfl) hL2 (by omega) (by omega) po pc HS.out HAP.out (by rfl) ?_)
          intro v' w' hL'
          go_wp2
          go_roundw
          case rel => exact ⟨k + 1, by omega, by go_num, hL'⟩
          case measure => simp [intOf]; omega
    · obtain rfl : k = m := by omega
      obtain ⟨lo, cm, rfl, hG⟩ := hL.grid
      go_wp2
      go_ret
      exact ⟨lo, cm, rfl, hG, hL.below⟩

set_option maxRecDepth 10000 in
set_option maxHeartbeats 1000000 in
theorem ralike_any (n n' m m' ca cb : Nat) (ao bo : Option Addr) (A B : Nat → Option Addr) (C D : Nat → Nat) (w : World) (h1 : 1 ≤ n) (h2 : n ≤ 6) (h1' : 1 ≤ n') (h2' : n' ≤ 6) (h4 : m ≤ 6) (h4' : m' ≤ 6) (ha : Sls w ao n ca A (fun _ => m) C) (hb : Sls w bo n' cb B (fun _ => m') D) :
    Calls Tryd.prog 27 #[.slice ao n ca, .slice bo n' cb] w fun e w' => e = .returned (.bool (decide (n = n' ∧ m = m'))) ∧ Below w.heap.size w w' := by
  obtain ⟨x, hao, hca⟩ := ha.get
  obtain rfl := hao (by omega)
  obtain ⟨y, hbo, hcb⟩ := hb.get
  obtain rfl := hbo (by omega)
  have c0 : w.cell? x = some (.slice (A 0) m (C 0)) := hca 0 (by omega)
  have d0 : w.cell? y = some (.slice (B 0) m' (D 0)) := hcb 0 (by omega)
  have l1 := ha.le
  have l2 := ha.cap
  have l3 := hb.le
  have l4 := hb.cap
  clear ha hb hao hbo hca hcb
  by_cases e : n = n'
  · have e1 : (((n : Nat) : Int) == ((n' : Nat) : Int)) = true := by rw [beq_iff_eq]; omega
    have e2 : (((m : Nat) : Int) == ((m' : Nat) : Int)) = decide (n = n' ∧ m = m') := by
      rw [Bool.eq_iff_iff, beq_iff_eq, decide_eq_true_iff]; omega
    rw [← e2]
    clear e e2
    obtain ⟨t, ht⟩ : ∃ t, t = (((m : Nat) : Int) == ((m' : Nat) : Int)) := ⟨_, rfl⟩
    have e3 := ht.symm
    rw [e3]
    clear ht
    go_enter Tryd.func27, Tryd.ntmps27
    go_wp2
    go_quiet (fail)
    go_wp2
    go_ret
    exact ⟨rfl, Vc.below_drewN (Below.refl _ _) _⟩
  · have e1 : (((n : Nat) : Int) == ((n' : Nat) : Int)) = false := beq_eq_false_iff_ne.2 (by omega)
    rw [decide_eq_false (fun h => e h.1)]
    clear e
    go_enter Tryd.func27, Tryd.ntmps27
    go_wp2
    go_quiet (fail)
    go_wp2
    go_ret
    exact ⟨rfl, Vc.below_drewN (Below.refl _ _) _⟩

set_option maxRecDepth 10000 in
set_option maxHeartbeats 1000000 in
theorem rapply_any (n m cm cv : Nat) (lo vo : Option Addr) (F : Nat → Nat → Int) (v : Nat → Int) (w : World) (h2 : n ≤ 6) (h4 : m ≤ 6) (hg : Grid w lo n cm m F) (hv : Sl w vo m cv v) (hF : B2 F) (bv : B64 v) :
    Calls Tryd.prog 30 #[.slice lo n cm, .slice vo m cv] w fun e w' => ∃ co cc, e = .returned (.tuple #[.slice co n cc, .bool (anyb (fun i => Qn.great (Qn.rne (dk (F i) v m) (2 ^ 20))) n)]) ∧ Own w.heap.size w w' (.slice co n cc) n (fun i => Qn.clamp (Qn.rne (dk (F i) v m) (2 ^ 20))) := by
  obtain ⟨A, C, h, hz⟩ := hg
  obtain ⟨x, hlo, hcl⟩ := h.get
  have l1 := h.le
  have l2 := h.cap
  have HLO := Hid.mkV hlo
  have HC := Hid.mkV hcl
  have HM : Hid (∀ i, i < n → ∀ W, Below w.heap.size w W → Calls Tryd.prog 43 #[.slice (A i) m (C i), .slice vo m cv, .int .i64 20] W fun e w' =>
      e = .returned (.tuple #[.int .i64 (Qn.clamp (Qn.rne (dk (F i) v m) (2 ^ 20))), .bool (Qn.great (Qn.rne (dk (F i) v m) (2 ^ 20)))]) ∧ Below W.heap.size W w') := fun i hi W b => ldot_sl (A i) vo m (C i) cv (F i) v 20 20 W rfl (by omega) ((hz i hi).keep b) (hv.keep b) (hF i) bv (by omega)
  obtain ⟨r, hr⟩ : ∃ r : Nat → Int, r = fun i => Qn.clamp (Qn.rne (dk (F i) v m) (2 ^ 20)) := ⟨_, rfl⟩
  obtain ⟨g, hg⟩ : ∃ g : Nat → Bool, g = fun i => Qn.great (Qn.rne (dk (F i) v m) (2 ^ 20)) := ⟨_, rfl⟩
  have HM' : Hid (∀ i, i < n → ∀ W, Below w.heap.size w W → Calls Tryd.prog 43 #[.slice (A i) m (C i), .slice vo m cv, .int .i64 20] W fun e w' =>
      e = .returned (.tuple #[.int .i64 (r i), .bool (g i)]) ∧ Below W.heap.size W w') := by rw [hr, hg]; exact HM
  rw [← hr, ← hg]
  clear hr hg HM h hlo hcl hz hv hF bv
  go_enter Tryd.func30, Tryd.ntmps30
  go_wp2
  go_loopw [6, 7, 8] (fun out an i wr => ∃ k : Nat, k ≤ n ∧ i = .int .i64 (k : Int) ∧ an = .bool (anyb g k) ∧ Own w.heap.size w wr out k r) (fun _ _ i _ => n - (intOf i).toNat)
  case atStart => exact ⟨0, by omega, rfl, rfl, Own.nil (Below.refl _ _) (Nat.le_refl _) _⟩
  case round =>
    obtain ⟨k, hk, rfl, rfl, hown⟩ := hrel
    by_cases h : k < n
    · obtain rfl := HLO.out (by omega)
      have c1 := keep_cell hown.below (HC.out k h)
      have HA : Hid (anyb g (k + 1) = (anyb g k || g k)) := rfl
      have HCC := Hid.mkV (HM'.out k h _ hown.below)
      obtain ⟨R, hR⟩ : ∃ R, R = r k := ⟨_, rfl⟩
      obtain ⟨G, hG⟩ : ∃ G, G = g k := ⟨_, rfl⟩
      obtain ⟨T, hT⟩ : ∃ T, T = anyb g k := ⟨_, rfl⟩
      obtain ⟨ak, hak⟩ : ∃ ak, ak = A k := ⟨_, rfl⟩
      obtain ⟨ck, hck⟩ : ∃ ck, ck = C k := ⟨_, rfl⟩
      rw [← hR, ← hG, ← hak, ← hck] at HCC
      rw [← hak, ← hck] at c1
      rw [← hT, ← hG] at HA
      rw [← hT]
      have HR := Hid.mkV hR
      clear hR hG hT hak hck
      go_wp2_with fail
      refine HCC.out.mono ?_
      rintro e w2 ⟨rfl, k2⟩
      have hown2 := hown.keep k2
      cases T
      all_goals go_wp2_with (at_builtin; refine wpList_push (by rfl) (.tmp 26) (.tmp 28) (by rfl) w.heap.size w _ k r (by rfl) hown2 (by omega) R (by exact HR.out) (by rfl) ?_)
      all_goals intro v' w' hown'
      all_goals go_wp2
      all_goals go_roundw
      all_goals first
        | (simp [intOf]; omega)
        | exact ⟨k + 1, by omega, by go_num, by rw [HA.out]; first | rfl | simp, hown'⟩
    · obtain rfl : k = n := by omega
      obtain ⟨co, cc, rfl, hs⟩ := hown.sl
      go_wp2
      go_ret2
      exact ⟨_, _, rfl, hown⟩

set_option maxRecDepth 10000 in
set_option maxHeartbeats 1000000 in
theorem rmul_any (n m q ca cb : Nat) (ao bo : Option Addr) (F G : Nat → Nat → Int) (w : World) (h1 : 1 ≤ n) (h2 : n ≤ 6) (h3 : 1 ≤ m) (h4 : m ≤ 6) (h5 : 1 ≤ q) (h6 : q ≤ 6) (ga : Grid w ao n ca m F) (gb : Grid w bo m cb q G) (hF : B2 F) (hG : B2 G) :
    Calls Tryd.prog 29 #[.slice ao n ca, .slice bo m cb] w fun e w' => ∃ lo cm, e = .returned (.tuple #[.slice lo n cm, .bool (any2 (fun i j => Qn.great (Qn.rne (dk (fun k => G k j) (F i) m) (2 ^ 20))) n q)]) ∧ Grid w' lo n cm q (fun i j => Qn.clamp (Qn.rne (dk (fun k => G k j) (F i) m) (2 ^ 20))) ∧ Below w.heap.size w w' := by
  obtain ⟨A, C, h, hz⟩ := ga
  obtain ⟨x, hlo, hcl⟩ := h.get
  obtain rfl := hlo (by omega)
  have l1 := h.le
  have l2 := h.cap
  have HC := Hid.mkV hcl
  have HT := Hid.mkV (rturn_any m q cb bo G w h3 h4 h5 h6 gb)
  have HM : Hid (∀ tb tc i, i < n → ∀ W, Below w.heap.size w W → Grid W tb q tc m (fun i j => G j i) → Calls Tryd.prog 30 #[.slice tb q tc, .slice (A i) m (C i)] W fun e w' =>
      ∃ co cc, e = .returned (.tuple #[.slice co q cc, .bool (anyb ((fun i j => Qn.great (Qn.rne (dk (fun k => G k j) (F i) m) (2 ^ 20))) i) q)]) ∧ Own W.heap.size W w' (.slice co q cc) q ((fun i j => Qn.clamp (Qn.rne (dk (fun k => G k j) (F i) m) (2 ^ 20))) i)) :=
    fun tb tc i hi W b gt => rapply_any q m tc (C i) tb (A i) (fun i j => G j i) (F i) W h6 h4 gt ((hz i hi).keep b) (fun i k => hG k i) (hF i)
  obtain ⟨R, hR⟩ : ∃ R : Nat → Nat → Int, R = fun i j => Qn.clamp (Qn.rne (dk (fun k => G k j) (F i) m) (2 ^ 20)) := ⟨_, rfl⟩
  obtain ⟨H, hH⟩ : ∃ H : Nat → Nat → Bool, H = fun i j => Qn.great (Qn.rne (dk (fun k => G k j) (F i) m) (2 ^ 20)) := ⟨_, rfl⟩
  rw [← hR, ← hH] at HM
  rw [← hR, ← hH]
  clear hR hH h hlo hcl hz gb hF hG
  go_enter Tryd.func29, Tryd.ntmps29
  go_wp2_with fail
  refine HT.out.mono ?_
  rintro e w1 ⟨tb, tc, rfl, gt, k1⟩
  clear HT
  have HGT := Hid.mkV gt
  clear gt
  go_wp2
  go_loopw [7, 8, 9] (fun out an i wr => ∃ k : Nat, k ≤ n ∧ i = .int .i64 (k : Int) ∧ an = .bool (any2 H k q) ∧ Lst w1.heap.size w1 wr out k q R) (fun _ _ i _ => n - (intOf i).toNat)
  case atStart => exact ⟨0, by omega, rfl, rfl, Lst.nil (Below.refl _ _) (Nat.le_refl _) _ _⟩
  case round =>
    rename World => wo
    obtain ⟨k, hk, rfl, rfl, hL⟩ := hrel
    have kk := below_tr k1 hL.below
    by_cases h : k < n
    · have c1 := keep_cell kk (HC.out k h)
      have HA := Hid.mkV (any2_row H k q)
      have HCC := Hid.mkV (HM.out tb tc k h _ kk (HGT.out.keep hL.below))
      obtain ⟨g, hg⟩ : ∃ g, g = anyb (H k) q := ⟨_, rfl⟩
      obtain ⟨T, hT⟩ : ∃ T, T = any2 H k q := ⟨_, rfl⟩
      obtain ⟨ak, hak⟩ : ∃ ak, ak = A k := ⟨_, rfl⟩
      obtain ⟨ck, hck⟩ : ∃ ck, ck = C k := ⟨_, rfl⟩
      rw [← hg, ← hak, ← hck] at HCC
      rw [← hak, ← hck] at c1
      rw [← hT, ← hg] at HA
      rw [← hT]
      clear hg hT hak hck
      go_wp2_with fail
      refine HCC.out.mono ?_
      rintro e w2 ⟨co, cc, rfl, ho⟩
      have hL2 := hL.keep ho.below
      obtain ⟨co', cc', e1, s2, f2⟩ := own_fresh ho
      injection e1 with ea _ ec
      subst ea ec
      have HS := Hid.mkV s2
      have HAP := Hid.mkV (hL.apart (Nat.le_refl _) f2)
      clear s2 f2 ho
      cases T
      all_goals go_wp2_with (at_builtin; refine wpList_pushS (by rfl) (.tmp 29) (.tmp 31) (by rfl) w1.heap.size w1 _ k q R (by rfl) hL2 (by omega) (by omega) _ _ HS.out HAP.out (by rfl) ?_)
      all_goals intro v' w' hL'
      all_goals go_wp2
      all_goals go_roundw
      all_goals first
        | (simp [intOf]; omega)
        | exact ⟨k + 1, by omega, by go_num, by rw [← HA.out]; first | rfl | simp, hL'⟩
    · obtain rfl : k = n := by omega
      obtain ⟨lo, cm, rfl, hG⟩ := hL.grid
      go_wp2
      go_ret2
      exact ⟨lo, cm, rfl, hG, kk⟩

end Go.Proofs.YtgmagehgnjopcaaDoor
