/-
  The document's answer of layer 8 (radomeref08): May, Eye, Turn, Alike, Apply, Mul.
-/
import Derived.Test.YtlomfjacgomhdaaGreatDoorM16
import Derived.Test.YtlomfjacgomhdaaGreatDoorM7
import Derived.Deep.RegionHeld3
import Derived.Deep.CutRange
import Derived.Deep.DeepCutAuto
import Derived.Test.YtlomfjacgomhdaaGreatDoorM2
import Derived.Test.YtlomfjacgomhdaaGreatDoorM5
import Derived.BigQuiet
set_option linter.unusedSimpArgs false
set_option linter.unusedVariables false
namespace Go.Proofs.YtlomfjacgomhdaaGreatDoor
open Go.RowKit Vc Mt Dt
set_option maxRecDepth 10000 in
set_option maxHeartbeats 1000000 in
theorem rmay_yes (n m cm : Nat) (lo : Option Addr) (A : Nat → Option Addr) (C : Nat → Nat) (w : World) (h : Sls w lo n cm A (fun _ => m) C) (h1 : 1 ≤ n) (h2 : n ≤ 6) (h3 : 1 ≤ m) (h4 : m ≤ 6) :
    Calls Tryz.prog 114 #[.slice lo n cm] w fun e w' => e = .returned (.bool true) ∧ Below w.heap.size w w' := by
  obtain ⟨x, hlo, hcl⟩ := h.get
  obtain rfl := hlo (by omega)
  have c0 : w.cell? x = some (.slice (A 0) m (C 0)) := hcl 0 (by omega)
  have l1 := h.le
  have l2 := h.cap
  have HC := Hid.mkV hcl
  have e1 : decide ((n : Int) < 1) = false := decide_eq_false (by omega)
  have e2 : decide ((n : Int) > 6) = false := decide_eq_false (by omega)
  have e3 : decide ((m : Int) < 1) = false := decide_eq_false (by omega)
  have e4 : decide ((m : Int) > 6) = false := decide_eq_false (by omega)
  clear h hlo hcl
  go_enter Tryz.func114, Tryz.ntmps114
  go_wp2
  go_loopw [3] (fun i wr => ∃ k : Nat, k ≤ n ∧ i = .int .i64 (k : Int) ∧ Below w.heap.size w wr) (fun i _ => n - (intOf i).toNat)
  case atStart => exact ⟨0, by omega, rfl, Below.refl _ _⟩
  case round =>
    obtain ⟨k, hk, rfl, hbel⟩ := hrel
    by_cases h : k < n
    · have c1 := keep_cell hbel (HC.out k h)
      have c0' := keep_cell hbel c0
      go_wp2
      go_quiet (fail)
      go_wp2
      go_roundw
      case rel => exact ⟨k + 1, by omega, by go_num, Vc.below_drewN hbel _⟩
      case measure => simp [intOf]; omega
    · obtain rfl : k = n := by omega
      go_wp2
      go_ret
      exact ⟨rfl, hbel⟩
set_option maxRecDepth 10000 in
set_option maxHeartbeats 1000000 in
theorem rmay_rows (n cm : Nat) (lo : Option Addr) (w : World) (hn : n ≤ 9223372036854775807) (h : n < 1 ∨ 6 < n) :
    Calls Tryz.prog 114 #[.slice lo n cm] w fun e w' => e = .returned (.bool false) ∧ Below w.heap.size w w' := by
  by_cases h0 : n < 1
  · have e1 : decide ((n : Int) < 1) = true := decide_eq_true (by omega)
    go_enter Tryz.func114, Tryz.ntmps114
    go_wp2
    go_ret
    exact ⟨rfl, Below.refl _ _⟩
  · have e1 : decide ((n : Int) < 1) = false := decide_eq_false (by omega)
    have e2 : decide ((n : Int) > 6) = true := decide_eq_true (by omega)
    clear h h0
    go_enter Tryz.func114, Tryz.ntmps114
    go_wp2
    go_ret
    exact ⟨rfl, Below.refl _ _⟩
set_option maxRecDepth 10000 in
set_option maxHeartbeats 1000000 in
theorem rmay_cols (n cm : Nat) (lo : Option Addr) (A : Nat → Option Addr) (L C : Nat → Nat) (w : World) (h : Sls w lo n cm A L C) (h1 : 1 ≤ n) (h2 : n ≤ 6) (hL : L 0 ≤ 9223372036854775807) (hb : L 0 < 1 ∨ 6 < L 0) :
    Calls Tryz.prog 114 #[.slice lo n cm] w fun e w' => e = .returned (.bool false) ∧ Below w.heap.size w w' := by
  obtain ⟨x, hlo, hcl⟩ := h.get
  obtain rfl := hlo (by omega)
  have c0 : w.cell? x = some (.slice (A 0) (L 0) (C 0)) := hcl 0 (by omega)
  have l1 := h.le
  have l2 := h.cap
  have e1 : decide ((n : Int) < 1) = false := decide_eq_false (by omega)
  have e2 : decide ((n : Int) > 6) = false := decide_eq_false (by omega)
  obtain ⟨m, hm⟩ : ∃ m, m = L 0 := ⟨_, rfl⟩
  rw [← hm] at c0 hL hb
  clear h hlo hcl hm
  by_cases h0 : m < 1
  · have e3 : decide ((m : Int) < 1) = true := decide_eq_true (by omega)
    clear h0 hb
    go_enter Tryz.func114, Tryz.ntmps114
    go_wp2
    go_ret
    exact ⟨rfl, Below.refl _ _⟩
  · have e3 : decide ((m : Int) < 1) = false := decide_eq_false (by omega)
    have e4 : decide ((m : Int) > 6) = true := decide_eq_true (by omega)
    clear h0 hb
    go_enter Tryz.func114, Tryz.ntmps114
    go_wp2
    go_ret
    exact ⟨rfl, Below.refl _ _⟩
set_option maxRecDepth 10000 in
set_option maxHeartbeats 1000000 in
theorem rmay_other (n cm q : Nat) (lo : Option Addr) (A : Nat → Option Addr) (L C : Nat → Nat) (w : World) (h : Sls w lo n cm A L C) (h1 : 1 ≤ n) (h2 : n ≤ 6) (h3 : 1 ≤ L 0) (h4 : L 0 ≤ 6) (hl : ∀ k, k < n → L k ≤ 9223372036854775807) (hq : q < n) (hbad : L q ≠ L 0) (hok : ∀ k, k < q → L k = L 0) :
    Calls Tryz.prog 114 #[.slice lo n cm] w fun e w' => e = .returned (.bool false) ∧ Below w.heap.size w w' := by
  obtain ⟨x, hlo, hcl⟩ := h.get
  obtain rfl := hlo (by omega)
  have c0 : w.cell? x = some (.slice (A 0) (L 0) (C 0)) := hcl 0 (by omega)
  have l1 := h.le
  have l2 := h.cap
  have HC := Hid.mkV hcl
  have HL := Hid.mkV hl
  have HBAD := Hid.mkV hbad
  have HOK := Hid.mkV hok
  obtain ⟨m, hm⟩ : ∃ m, m = L 0 := ⟨_, rfl⟩
  rw [← hm] at c0 h3 h4
  have HN := Hid.mkV hm
  have e1 : decide ((n : Int) < 1) = false := decide_eq_false (by omega)
  have e2 : decide ((n : Int) > 6) = false := decide_eq_false (by omega)
  have e3 : decide ((m : Int) < 1) = false := decide_eq_false (by omega)
  have e4 : decide ((m : Int) > 6) = false := decide_eq_false (by omega)
  clear h hlo hcl hm hl hbad hok
  go_enter Tryz.func114, Tryz.ntmps114
  go_wp2
  go_loopw [3] (fun i wr => ∃ k : Nat, k ≤ q ∧ i = .int .i64 (k : Int) ∧ Below w.heap.size w wr) (fun i _ => n - (intOf i).toNat)
  case atStart => exact ⟨0, by omega, rfl, Below.refl _ _⟩
  case round =>
    obtain ⟨k, hk, rfl, hbel⟩ := hrel
    have h : k < n := by omega
    have c1 := keep_cell hbel (HC.out k h)
    have c0' := keep_cell hbel c0
    have b1 := HL.out k h
    by_cases hkq : k = q
    · have hh := HBAD.out
      rw [← HN.out, ← hkq] at hh
      obtain ⟨l, hl⟩ : ∃ l, l = L k := ⟨_, rfl⟩
      rw [← hl] at c1 b1 hh
      have e4 : (((l : Nat) : Int) != ((m : Nat) : Int)) = true := by rw [bne_iff_ne]; omega
      clear hl hkq hh
      go_wp2
      go_quiet (fail)
      go_wp2
      go_ret
      exact ⟨rfl, Vc.below_drewN hbel _⟩
    · have hh := HOK.out k (by omega)
      rw [hh, ← HN.out] at c1
      clear hh
      go_wp2
      go_quiet (fail)
      go_wp2
      go_roundw
      case rel => exact ⟨k + 1, by omega, by go_num, Vc.below_drewN hbel _⟩
      case measure => simp [intOf]; omega
set_option maxRecDepth 10000 in
set_option maxHeartbeats 1000000 in
theorem rturn_any (n m cm : Nat) (lo : Option Addr) (F : Nat → Nat → Int) (w : World) (h1 : 1 ≤ n) (h2 : n ≤ 6) (h3 : 1 ≤ m) (h4 : m ≤ 6) (hg : Grid w lo n cm m F) :
  Calls Tryz.prog 68 #[.slice lo n cm] w fun e w' => ∃ lo' cm', e = .returned (.slice lo' m cm') ∧ Grid w' lo' m cm' n (fun i j => F j i) ∧ Below w.heap.size w w' := by
 obtain ⟨A, C, h, hz⟩ := hg
 obtain ⟨x, hlo, hcl⟩ := h.get
 obtain rfl := hlo (by omega)
 have c0 : w.cell? x = some (.slice (A 0) m (C 0)) := hcl 0 (by omega)
 have l1 := h.le
 have l2 := h.cap
 have HC := Hid.mkV hcl
 have HZ := Hid.mkV hz
 clear h hlo hcl hz
 go_enter Tryz.func68, Tryz.ntmps68
 go_wp2
 go_loopw [3, 4] (fun out i wr => ∃ k : Nat, k ≤ m ∧ i = .int .i64 (k : Int) ∧ Lst w.heap.size w wr out k n (fun i j => F j i)) (fun _ i _ => m - (intOf i).toNat)
 case atStart => exact ⟨0, by omega, rfl, Lst.nil (Below.refl _ _) (Nat.le_refl _) _ _⟩
 case round =>
  rename World => wo
  obtain ⟨k, hk, rfl, hL⟩ := hrel
  have c0' := keep_cell hL.below c0
  by_cases h : k < m
  ·go_wp2
   go_loopw [5, 6] (fun ps j ws => ∃ t : Nat, t ≤ n ∧ j = .int .i64 (t : Int) ∧ Own wo.heap.size wo ws ps t (fun i => F i k)) (fun _ j _ => n - (intOf j).toNat)
   case atStart => exact ⟨0, by omega, rfl, Own.nil (Below.refl _ _) (Nat.le_refl _) _⟩
   case round =>
    obtain ⟨t, ht, rfl, hown2⟩ := hrel
    by_cases h5 : t < n
    ·have kk := below_tr hL.below hown2.below
     have c1 := keep_cell kk (HC.out t h5)
     obtain ⟨ya, hya, hyc⟩ := (HZ.out t h5).get
     have c2 := keep_cell kk (hyc k h)
     rw [hya (by omega)] at c1
     have l5 := (HZ.out t h5).le
     have l6 := (HZ.out t h5).cap
     obtain ⟨V, hV⟩ : ∃ V, V = F t k := ⟨_, rfl⟩
     obtain ⟨cc, hcc⟩ : ∃ cc, cc = C t := ⟨_, rfl⟩
     rw [← hV] at c2
     rw [← hcc] at c1 l5 l6
     have HV := Hid.mkV hV
     clear hV hcc hya hyc
     go_wp2_with (at_builtin; refine wpList_push (by rfl) (.tmp 21) (.tmp 29) (by rfl) wo.heap.size wo _ t (fun i => F i k) (by rfl) hown2 (by omega) V (by exact HV.out) (by rfl) ?_)
     intro v' w' hown'
     go_wp2
     go_roundw
     case rel => exact ⟨t + 1, by omega, by go_num, hown'⟩
     case measure => simp [intOf]; omega
    ·obtain rfl : t = n := by omega
     obtain ⟨po, pc, rfl, hps, hpf⟩ := own_fresh hown2
     have hL2 := hL.keep hown2.below
     have HS := Hid.mkV hps
     have HAP := Hid.mkV (hL.apart (Nat.le_refl _) hpf)
     clear hps hpf hown2
     go_wp2_with (at_builtin; refine wpList_pushS (by rfl) (.tmp 31) (.tmp 33) (by rfl) w.heap.size w _ k _ (fun i j => F j i) (by rfl) hL2 (by omega) (by omega) po pc HS.out HAP.out (by rfl) ?_)
     intro v' w' hL'
     go_wp2
     go_roundw
     case rel => exact ⟨k + 1, by omega, by go_num, hL'⟩
     case measure => simp [intOf]; omega
  ·obtain rfl : k = m := by omega
   obtain ⟨lo, cm, rfl, hG⟩ := hL.grid
   go_wp2
   go_ret
   exact ⟨lo, cm, rfl, hG, hL.below⟩
set_option maxRecDepth 10000 in
set_option maxHeartbeats 1000000 in
theorem rapply_any (n m cm cv : Nat) (lo vo : Option Addr) (F : Nat → Nat → Int) (v : Nat → Int) (w : World) (h2 : n ≤ 6) (h4 : m ≤ 6) (hg : Grid w lo n cm m F) (hv : Sl w vo m cv v) (hF : B2 F) (bv : B64 v) :
  Calls Tryz.prog 41 #[.slice lo n cm, .slice vo m cv] w fun e w' => ∃ co cc, e = .returned (.tuple #[.slice co n cc, .bool (anyb (fun i => Qn.great (Qn.rne (dk (F i) v m) (2 ^ 20))) n)]) ∧ Own w.heap.size w w' (.slice co n cc) n (fun i => Qn.clamp (Qn.rne (dk (F i) v m) (2 ^ 20))) := by
 obtain ⟨A, C, h, hz⟩ := hg
 obtain ⟨x, hlo, hcl⟩ := h.get
 have l1 := h.le
 have l2 := h.cap
 have HLO := Hid.mkV hlo
 have HC := Hid.mkV hcl
 have HM : Hid (∀ i, i < n → ∀ W, Below w.heap.size w W → Calls Tryz.prog 99 #[.slice (A i) m (C i), .slice vo m cv, .int .i64 20] W fun e w' =>
   e = .returned (.tuple #[.int .i64 (Qn.clamp (Qn.rne (dk (F i) v m) (2 ^ 20))), .bool (Qn.great (Qn.rne (dk (F i) v m) (2 ^ 20)))]) ∧ Below W.heap.size W w') := fun i hi W b => ldot_sl (A i) vo m (C i) cv (F i) v 20 20 W rfl (by omega) ((hz i hi).keep b) (hv.keep b) (hF i) bv (by omega)
 obtain ⟨r, hr⟩ : ∃ r : Nat → Int, r = fun i => Qn.clamp (Qn.rne (dk (F i) v m) (2 ^ 20)) := ⟨_, rfl⟩
 obtain ⟨g, hg⟩ : ∃ g : Nat → Bool, g = fun i => Qn.great (Qn.rne (dk (F i) v m) (2 ^ 20)) := ⟨_, rfl⟩
 have HM' : Hid (∀ i, i < n → ∀ W, Below w.heap.size w W → Calls Tryz.prog 99 #[.slice (A i) m (C i), .slice vo m cv, .int .i64 20] W fun e w' =>
   e = .returned (.tuple #[.int .i64 (r i), .bool (g i)]) ∧ Below W.heap.size W w') := by rw [hr, hg]; exact HM
 rw [← hr, ← hg]
 clear hr hg HM h hlo hcl hz hv hF bv
 go_enter Tryz.func41, Tryz.ntmps41
 go_wp2
 go_loopw [6, 7, 8] (fun out an i wr => ∃ k : Nat, k ≤ n ∧ i = .int .i64 (k : Int) ∧ an = .bool (anyb g k) ∧ Own w.heap.size w wr out k r) (fun _ _ i _ => n - (intOf i).toNat)
 case atStart => exact ⟨0, by omega, rfl, rfl, Own.nil (Below.refl _ _) (Nat.le_refl _) _⟩
 case round =>
  obtain ⟨k, hk, rfl, rfl, hown⟩ := hrel
  by_cases h : k < n
  ·obtain rfl := HLO.out (by omega)
   have c1 := keep_cell hown.below (HC.out k h)
   have HA : Hid (anyb g (k + 1) = (anyb g k || g k)) := rfl
   have HCC := Hid.mkV (HM'.out k h _ hown.below)
   obtain ⟨R, hR⟩ : ∃ R, R = r k := ⟨_, rfl⟩
   obtain ⟨G, hG⟩ : ∃ G, G = g k := ⟨_, rfl⟩
   obtain ⟨T, hT⟩ : ∃ T, T = anyb g k := ⟨_, rfl⟩
   obtain ⟨ak, hak⟩ : ∃ ak, ak = A k := ⟨_, rfl⟩
   obtain ⟨ck, hck⟩ : ∃ ck, ck = C k := ⟨_, rfl⟩
   rw [← hR, ← hG, ← hak, ← hck] at HCC
   rw [← hak, ← hck] at c1
   rw [← hT, ← hG] at HA
   rw [← hT]
   have HR := Hid.mkV hR
   clear hR hG hT hak hck
   go_wp2_with fail
   refine HCC.out.mono ?_
   rintro e w2 ⟨rfl, k2⟩
   have hown2 := hown.keep k2
   cases T
   all_goals go_wp2_with (at_builtin; refine wpList_push (by rfl) (.tmp 26) (.tmp 28) (by rfl) w.heap.size w _ k r (by rfl) hown2 (by omega) R (by exact HR.out) (by rfl) ?_)
   all_goals intro v' w' hown'
   all_goals go_wp2
   all_goals go_roundw
   all_goals first
    | (simp [intOf]; omega)
    | exact ⟨k + 1, by omega, by go_num, by rw [HA.out]; first | rfl | simp, hown'⟩
  ·obtain rfl : k = n := by omega
   obtain ⟨co, cc, rfl, hs⟩ := hown.sl
   go_wp2
   go_ret2
   exact ⟨_, _, rfl, hown⟩
set_option maxRecDepth 10000 in
set_option maxHeartbeats 1000000 in
theorem rmul_any (n m q ca cb : Nat) (ao bo : Option Addr) (F G : Nat → Nat → Int) (w : World) (h1 : 1 ≤ n) (h2 : n ≤ 6) (h3 : 1 ≤ m) (h4 : m ≤ 6) (h5 : 1 ≤ q) (h6 : q ≤ 6) (ga : Grid w ao n ca m F) (gb : Grid w bo m cb q G) (hF : B2 F) (hG : B2 G) :
  Calls Tryz.prog 100 #[.slice ao n ca, .slice bo m cb] w fun e w' => ∃ lo cm, e = .returned (.tuple #[.slice lo n cm, .bool (any2 (fun i j => Qn.great (Qn.rne (dk (fun k => G k j) (F i) m) (2 ^ 20))) n q)]) ∧ Grid w' lo n cm q (fun i j => Qn.clamp (Qn.rne (dk (fun k => G k j) (F i) m) (2 ^ 20))) ∧ Below w.heap.size w w' := by
 obtain ⟨A, C, h, hz⟩ := ga
 obtain ⟨x, hlo, hcl⟩ := h.get
 obtain rfl := hlo (by omega)
 have l1 := h.le
 have l2 := h.cap
 have HC := Hid.mkV hcl
 have HT := Hid.mkV (rturn_any m q cb bo G w h3 h4 h5 h6 gb)
 have HM : Hid (∀ tb tc i, i < n → ∀ W, Below w.heap.size w W → Grid W tb q tc m (fun i j => G j i) → Calls Tryz.prog 41 #[.slice tb q tc, .slice (A i) m (C i)] W fun e w' =>
   ∃ co cc, e = .returned (.tuple #[.slice co q cc, .bool (anyb ((fun i j => Qn.great (Qn.rne (dk (fun k => G k j) (F i) m) (2 ^ 20))) i) q)]) ∧ Own W.heap.size W w' (.slice co q cc) q ((fun i j => Qn.clamp (Qn.rne (dk (fun k => G k j) (F i) m) (2 ^ 20))) i)) :=
  fun tb tc i hi W b gt => rapply_any q m tc (C i) tb (A i) (fun i j => G j i) (F i) W h6 h4 gt ((hz i hi).keep b) (fun i k => hG k i) (hF i)
 obtain ⟨R, hR⟩ : ∃ R : Nat → Nat → Int, R = fun i j => Qn.clamp (Qn.rne (dk (fun k => G k j) (F i) m) (2 ^ 20)) := ⟨_, rfl⟩
 obtain ⟨H, hH⟩ : ∃ H : Nat → Nat → Bool, H = fun i j => Qn.great (Qn.rne (dk (fun k => G k j) (F i) m) (2 ^ 20)) := ⟨_, rfl⟩
 rw [← hR, ← hH] at HM
 rw [← hR, ← hH]
 clear hR hH h hlo hcl hz gb hF hG
 go_enter Tryz.func100, Tryz.ntmps100
 go_wp2_with fail
 refine HT.out.mono ?_
 rintro e w1 ⟨tb, tc, rfl, gt, k1⟩
 clear HT
 have HGT := Hid.mkV gt
 clear gt
 go_wp2
 go_loopw [7, 8, 9] (fun out an i wr => ∃ k : Nat, k ≤ n ∧ i = .int .i64 (k : Int) ∧ an = .bool (any2 H k q) ∧ Lst w1.heap.size w1 wr out k q R) (fun _ _ i _ => n - (intOf i).toNat)
 case atStart => exact ⟨0, by omega, rfl, rfl, Lst.nil (Below.refl _ _) (Nat.le_refl _) _ _⟩
 case round =>
  rename World => wo
  obtain ⟨k, hk, rfl, rfl, hL⟩ := hrel
  have kk := below_tr k1 hL.below
  by_cases h : k < n
  ·have c1 := keep_cell kk (HC.out k h)
   have HA := Hid.mkV (any2_row H k q)
   have HCC := Hid.mkV (HM.out tb tc k h _ kk (HGT.out.keep hL.below))
   obtain ⟨g, hg⟩ : ∃ g, g = anyb (H k) q := ⟨_, rfl⟩
   obtain ⟨T, hT⟩ : ∃ T, T = any2 H k q := ⟨_, rfl⟩
   obtain ⟨ak, hak⟩ : ∃ ak, ak = A k := ⟨_, rfl⟩
   obtain ⟨ck, hck⟩ : ∃ ck, ck = C k := ⟨_, rfl⟩
   rw [← hg, ← hak, ← hck] at HCC
   rw [← hak, ← hck] at c1
   rw [← hT, ← hg] at HA
   rw [← hT]
   clear hg hT hak hck
   go_wp2_with fail
   refine HCC.out.mono ?_
   rintro e w2 ⟨co, cc, rfl, ho⟩
   have hL2 := hL.keep ho.below
   obtain ⟨co', cc', e1, s2, f2⟩ := own_fresh ho
   injection e1 with ea _ ec
   subst ea ec
   have HS := Hid.mkV s2
   have HAP := Hid.mkV (hL.apart (Nat.le_refl _) f2)
   clear s2 f2 ho
   cases T
   all_goals go_wp2_with (at_builtin; refine wpList_pushS (by rfl) (.tmp 29) (.tmp 31) (by rfl) w1.heap.size w1 _ k q R (by rfl) hL2 (by omega) (by omega) _ _ HS.out HAP.out (by rfl) ?_)
   all_goals intro v' w' hL'
   all_goals go_wp2
   all_goals go_roundw
   all_goals first
    | (simp [intOf]; omega)
    | exact ⟨k + 1, by omega, by go_num, by rw [← HA.out]; first | rfl | simp, hL'⟩
  ·obtain rfl : k = n := by omega
   obtain ⟨lo, cm, rfl, hG⟩ := hL.grid
   go_wp2
   go_ret2
   exact ⟨lo, cm, rfl, hG, kk⟩
end Go.Proofs.YtlomfjacgomhdaaGreatDoor
namespace Go.Proofs.YtlomfjacgomhdaaGreatDoor
open Go.RowKit Vc Mt Dt
set_option maxRecDepth 10000 in
set_option maxHeartbeats 1000000 in
theorem rmadd_no (n m ca cb : Nat) (ao bo : Option Addr) (F G : Nat → Nat → Int) (w : World) (h1 : 1 ≤ n) (h2 : n ≤ 6) (h3 : 1 ≤ m) (h4 : m ≤ 6) (ga : Grid w ao n ca m F) (gb : Grid w bo n cb m G) (hF : B2 F) (hG : B2 G) :
    Calls Tryz.prog 43 #[.slice ao n ca, .slice bo n cb, .bool false] w fun e w' => ∃ lo cm, e = .returned (.tuple #[.slice lo n cm, .bool (any2 (fun i j => Qn.great (F i j + G i j)) n m)]) ∧ Grid w' lo n cm m (fun i j => Qn.clamp (F i j + G i j)) ∧ Below w.heap.size w w' := by
  obtain ⟨A, C, h, hz⟩ := ga
  obtain ⟨x, hlo, hcl⟩ := h.get
  obtain rfl := hlo (by omega)
  have l1 := h.le
  have l2 := h.cap
  have HC := Hid.mkV hcl
  obtain ⟨A', C', h', hz'⟩ := gb
  obtain ⟨x', hlo', hcl'⟩ := h'.get
  obtain rfl := hlo' (by omega)
  have l1' := h'.le
  have l2' := h'.cap
  have HC' := Hid.mkV hcl'
  have HM : Hid (∀ i, i < n → ∀ W, Below w.heap.size w W → Calls Tryz.prog 101 #[.slice (A i) m (C i), .slice (A' i) m (C' i), .bool false] W fun e w' =>
      ∃ co cc, e = .returned (.tuple #[.slice co m cc, .bool (anyb ((fun i j => Qn.great (F i j + G i j)) i) m)]) ∧ Own W.heap.size W w' (.slice co m cc) m ((fun i j => Qn.clamp (F i j + G i j)) i)) :=
    fun i hi W b => radd_no_own m (C i) (C' i) (A i) (A' i) (F i) (G i) W h4 ((hz i hi).keep b) ((hz' i hi).keep b) (hF i) (hG i)
  obtain ⟨R, hR⟩ : ∃ R : Nat → Nat → Int, R = fun i j => Qn.clamp (F i j + G i j) := ⟨_, rfl⟩
  obtain ⟨H, hH⟩ : ∃ H : Nat → Nat → Bool, H = fun i j => Qn.great (F i j + G i j) := ⟨_, rfl⟩
  rw [← hR, ← hH] at HM
  rw [← hR, ← hH]
  clear hR hH h hlo hcl hz h' hlo' hcl' hz' hF hG
  go_enter Tryz.func43, Tryz.ntmps43
  go_wp2
  go_loopw [8, 9, 10] (fun out an i wr => ∃ k : Nat, k ≤ n ∧ i = .int .i64 (k : Int) ∧ an = .bool (any2 H k m) ∧ Lst w.heap.size w wr out k m R) (fun _ _ i _ => n - (intOf i).toNat)
  case atStart => exact ⟨0, by omega, rfl, rfl, Lst.nil (Below.refl _ _) (Nat.le_refl _) _ _⟩
  case round =>
    rename World => wo
    obtain ⟨k, hk, rfl, rfl, hL⟩ := hrel
    have kk := hL.below
    by_cases h : k < n
    · have c1 := keep_cell kk (HC.out k h)
      have c2 := keep_cell kk (HC'.out k h)
      have HA := Hid.mkV (any2_row H k m)
      have HCC := Hid.mkV (fun W (b : Below wo.heap.size wo W) => HM.out k h W (below_tr kk b))
      obtain ⟨g, hg⟩ : ∃ g, g = anyb (H k) m := ⟨_, rfl⟩
      obtain ⟨T, hT⟩ : ∃ T, T = any2 H k m := ⟨_, rfl⟩
      obtain ⟨ak, hak⟩ : ∃ ak, ak = A k := ⟨_, rfl⟩
      obtain ⟨ck, hck⟩ : ∃ ck, ck = C k := ⟨_, rfl⟩
      obtain ⟨bk, hbk⟩ : ∃ bk, bk = A' k := ⟨_, rfl⟩
      obtain ⟨dk', hdk⟩ : ∃ dk', dk' = C' k := ⟨_, rfl⟩
      rw [← hg, ← hak, ← hck, ← hbk, ← hdk] at HCC
      rw [← hak, ← hck] at c1
      rw [← hbk, ← hdk] at c2
      rw [← hT, ← hg] at HA
      rw [← hT]
      clear hg hT hak hck hbk hdk
      go_wp2
      go_region_held3 (fun w' => w'.cell? (x.add k) = some (.slice ak m ck) ∧ w'.cell? (x'.add k) = some (.slice bk m dk'))
        (first
          | (refine ⟨keep_cell (W := wo) ?_ c1, keep_cell (W := wo) ?_ c2⟩ <;> first | with_reducible exact Below.refl _ _ | with_reducible exact Vc.below_drew' _ | with_reducible exact kq))
        (first
          | (go_at_call 101; refine (HCC.out _ (Vc.below_drew' _)).mono ?_; rintro e w2 ⟨co, cc, rfl, ho⟩
             have kq : Below wo.heap.size wo w2 := below_tr (Vc.below_drew' _) ho.below
             have hL2 := hL.keep kq
             obtain ⟨co', cc', e1, s2, f2⟩ := own_fresh ho
             injection e1 with ea _ ec
             subst ea ec
             have HS := Hid.mkV s2
             have HAP := Hid.mkV (hL.apart (Vc.below_drew' _).size f2)
             clear s2 f2 ho))
      all_goals cases T
      all_goals go_wp2_with (at_builtin; refine wpList_pushS (by rfl) (.tmp 32) (.tmp 34) (by rfl) w.heap.size w _ k m R (by rfl) hL2 (by omega) (by omega) _ _ HS.out HAP.out (by rfl) ?_)
      all_goals intro v' w' hL'
      all_goals go_wp2
      all_goals go_roundw
      all_goals first
        | (simp [intOf]; omega)
        | exact ⟨k + 1, by omega, by go_num, by rw [← HA.out]; first | rfl | simp, hL'⟩
    · obtain rfl : k = n := by omega
      obtain ⟨lo, cm, rfl, hG⟩ := hL.grid
      go_wp2
      go_ret2
      exact ⟨lo, cm, rfl, hG, kk⟩
namespace Mt
theorem dk_duo (a b : Int) : dk (fun k => if k = 0 then a else b) (fun k => if k = 0 then 1 else 1) 2 = a + b := by
  show 0 + a * 1 + b * 1 = a + b
  omega
theorem sl_two {w : World} {x : Addr} {a b : Int} (h : w.cell? x = some (.int .i64 a)) (h2 : w.cell? (x.add 1) = some (.int .i64 b)) : Sl w (some x) 2 2 (fun k => if k = 0 then a else b) :=
  ⟨Nat.le_refl _, by omega, fun k hk => ⟨x, rfl, by
    match k, hk with
    | 0, _ => exact h
    | 1, _ => exact h2⟩⟩
end Mt
theorem rhalf_any (a b : Int) (x y : Addr) (w : World) (ca : w.cell? x = some (.int .i64 a)) (cb : w.cell? (x.add 1) = some (.int .i64 b)) (d0 : w.cell? y = some (.int .i64 1)) (d1 : w.cell? (y.add 1) = some (.int .i64 1)) (ha0 : -9223372036854775808 ≤ a) (ha1 : a ≤ 9223372036854775807) (hb0 : -9223372036854775808 ≤ b) (hb1 : b ≤ 9223372036854775807) :
    Calls Tryz.prog 99 #[.slice (some x) 2 2, .slice (some y) 2 2, .int .i64 1] w fun e w' => e = .returned (.tuple #[.int .i64 (Qn.clamp (Qn.rne (a + b) (2 ^ 1))), .bool (Qn.great (Qn.rne (a + b) (2 ^ 1)))]) ∧ Below w.heap.size w w' := by
  have h := ldot_sl (some x) (some y) 2 2 2 (fun k => if k = 0 then a else b) (fun k => if k = 0 then 1 else 1) 1 1 w rfl (by omega) (sl_two ca cb) (sl_two d0 d1) (fun k => by show _ ≤ (if k = 0 then a else b) ∧ (if k = 0 then a else b) ≤ _; split <;> exact ⟨by assumption, by assumption⟩) (fun k => by show _ ≤ (if k = 0 then (1 : Int) else 1) ∧ (if k = 0 then (1 : Int) else 1) ≤ _; split <;> omega) (by omega)
  rw [dk_duo a b] at h
  exact h
end Go.Proofs.YtlomfjacgomhdaaGreatDoor
namespace Go.Proofs.YtlomfjacgomhdaaGreatDoor
open Go.RowKit Vc Mt Dt
set_option maxRecDepth 10000 in
set_option maxHeartbeats 1000000 in
theorem reven_own (n cm : Nat) (lo : Option Addr) (F : Nat → Nat → Int) (w : World) (h1 : 1 ≤ n) (h2 : n ≤ 6) (hg : Grid w lo n cm n F) (hF : B2 F) :
    Calls Tryz.prog 44 #[.slice lo n cm] w fun e w' => ∃ L' cm' G' C', e = .returned (.tuple #[.slice (some ⟨L', 0, none⟩) n cm', .bool (any2 (fun i j => Qn.great (Qn.rne (F i j + F j i) (2 ^ 1))) n n)]) ∧ RwcAt w.heap.size w w' L' cm' G' C' n n (fun i j => Qn.clamp (Qn.rne (F i j + F j i) (2 ^ 1))) := by
  obtain ⟨A, C, h, hz⟩ := hg
  obtain ⟨x, hlo, hcl⟩ := h.get
  obtain rfl := hlo (by omega)
  have l1 := h.le
  have l2 := h.cap
  have HC := Hid.mkV hcl
  have HZ := Hid.mkV hz
  have HD := Hid.mkV (fun i j p q W ca cb d0 d1 => rhalf_any (F i j) (F j i) p q W ca cb d0 d1 (hF i j).1 (hF i j).2 (hF j i).1 (hF j i).2)
  obtain ⟨R, hR⟩ : ∃ R : Nat → Nat → Int, R = fun i j => Qn.clamp (Qn.rne (F i j + F j i) (2 ^ 1)) := ⟨_, rfl⟩
  obtain ⟨H, hH⟩ : ∃ H : Nat → Nat → Bool, H = fun i j => Qn.great (Qn.rne (F i j + F j i) (2 ^ 1)) := ⟨_, rfl⟩
  have HD' : Hid (∀ (i j : Nat) (p q : Addr) (W : World), W.cell? p = some (.int .i64 (F i j)) → W.cell? (p.add 1) = some (.int .i64 (F j i)) → W.cell? q = some (.int .i64 1) → W.cell? (q.add 1) = some (.int .i64 1) →
      Calls Tryz.prog 99 #[.slice (some p) 2 2, .slice (some q) 2 2, .int .i64 1] W fun e w' => e = .returned (.tuple #[.int .i64 (R i j), .bool (H i j)]) ∧ Below W.heap.size W w') := by rw [hR, hH]; exact HD.out
  rw [← hR, ← hH]
  clear hR hH HD h hlo hcl hz hF
  go_enter Tryz.func44, Tryz.ntmps44
  go_wp2
  go_loopw [4, 5, 6] (fun out an i wr => ∃ k : Nat, k ≤ n ∧ i = .int .i64 (k : Int) ∧ an = .bool (any2 H k n) ∧ Rwc w.heap.size w wr out k n R) (fun _ _ i _ => n - (intOf i).toNat)
  case atStart => exact ⟨0, by omega, rfl, rfl, Rwc.nil (Below.refl _ _) (Nat.le_refl _) _ _⟩
  case round =>
    rename World => wo
    obtain ⟨k, hk, rfl, rfl, hL⟩ := hrel
    have kk := hL.below
    by_cases h : k < n
    · go_wp2
      go_loopw [5, 7, 8] (fun an ps j ws => ∃ t : Nat, t ≤ n ∧ j = .int .i64 (t : Int) ∧ an = .bool (any2 H k n || anyb (H k) t) ∧ Own wo.heap.size wo ws ps t (R k)) (fun _ _ j _ => n - (intOf j).toNat)
      case atStart => exact ⟨0, by omega, rfl, by show _ = Value.bool (any2 H k n || false); rw [Bool.or_false], Own.nil (Below.refl _ _) (Nat.le_refl _) _⟩
      case round =>
        rename World => wi
        obtain ⟨t, ht, rfl, rfl, hown⟩ := hrel
        obtain ⟨T, hT⟩ : ∃ T, T = (any2 H k n || anyb (H k) t) := ⟨_, rfl⟩
        have kk2 := below_tr kk hown.below
        by_cases h5 : t < n
        · have c1 := keep_cell kk2 (HC.out k h)
          have c2 := keep_cell kk2 (HC.out t h5)
          obtain ⟨ya, hya, hyc⟩ := (HZ.out k h).get
          obtain ⟨yb, hyb, hyd⟩ := (HZ.out t h5).get
          have d1 := keep_cell kk2 (hyc t h5)
          have d2 := keep_cell kk2 (hyd k h)
          rw [hya (by omega)] at c1
          rw [hyb (by omega)] at c2
          have l5 := (HZ.out k h).le
          have l6 := (HZ.out k h).cap
          have l7 := (HZ.out t h5).le
          have l8 := (HZ.out t h5).cap
          have HA := Hid.mkV (any2_col H k t n)
          have HCC := Hid.mkV (HD'.out k t)
          obtain ⟨r, hr⟩ : ∃ r, r = R k t := ⟨_, rfl⟩
          obtain ⟨g, hg⟩ : ∃ g, g = H k t := ⟨_, rfl⟩
          obtain ⟨u, hu⟩ : ∃ u, u = F k t := ⟨_, rfl⟩
          obtain ⟨v, hv⟩ : ∃ v, v = F t k := ⟨_, rfl⟩
          obtain ⟨ck, hck⟩ : ∃ ck, ck = C k := ⟨_, rfl⟩
          obtain ⟨ct, hct⟩ : ∃ ct, ct = C t := ⟨_, rfl⟩
          rw [← hr, ← hg, ← hu, ← hv] at HCC
          rw [← hu] at d1
          rw [← hv] at d2
          rw [← hck] at c1 l5 l6
          rw [← hct] at c2 l7 l8
          rw [← hT, ← hg] at HA
          rw [← hT]
          have HR := Hid.mkV hr
          clear hr hg hu hv hck hct hT hya hyb hyc hyd
          go_upto_region 10 with fail
          go_cut [9, 10] (fun p q wx => p = .int .i64 r ∧ q = .bool g ∧ Below wi.heap.size wi wx)
          case first =>
            go_region_held3 (fun w' => w'.cell? (x.add k) = some (.slice (some ya) n ck) ∧ w'.cell? (x.add t) = some (.slice (some yb) n ct) ∧ w'.cell? (ya.add t) = some (.int .i64 u) ∧ w'.cell? (yb.add k) = some (.int .i64 v))
              (first
                | (refine ⟨keep_cell (W := wi) ?_ c1, keep_cell (W := wi) ?_ c2, keep_cell (W := wi) ?_ d1, keep_cell (W := wi) ?_ d2⟩ <;> first | with_reducible exact Below.refl _ _ | with_reducible exact Vc.below_drew' _ | with_reducible exact below_al (Vc.below_drew' _) _ | with_reducible exact below_al (below_al (Vc.below_drew' _) _) _ | with_reducible exact below_al (Below.refl _ _) _ | with_reducible exact (below_al (Below.refl _ _) _).drew | with_reducible exact (below_al (Vc.below_drew' _) _).drew | with_reducible exact below_al (below_al (Below.refl _ _) _) _ | with_reducible exact (below_al (below_al (Below.refl _ _) _) _).drew | with_reducible exact below_al (below_al (Below.refl _ _) _).drew _ | with_reducible exact (below_al (below_al (Below.refl _ _) _).drew _).drew | with_reducible exact (below_al (below_al (Vc.below_drew' _) _) _).drew | with_reducible exact below_al (below_al (Vc.below_drew' _) _).drew _ | with_reducible exact kq))
              (first
                | (go_at_call 99; refine (HCC.out _ _ _ (by go_simp) (by rw [Addr.add_lit]; go_simp) (by go_simp) (by rw [Addr.add_lit]; go_simp)).mono ?_; rintro e w2 ⟨rfl, k2⟩
                   have kq : Below wi.heap.size wi w2 := by refine below_tr ?_ k2; repeat (first | with_reducible exact Below.refl _ _ | with_reducible refine below_al ?_ _ | with_reducible refine Below.drew ?_)))
            all_goals go_wp2_with fail
            all_goals go_meet
            all_goals exact ⟨rfl, rfl, kq⟩
          case rest =>
            obtain ⟨rfl, rfl, kq⟩ := hcut
            have hown2 := hown.keep kq
            cases T
            all_goals go_wp2_with (at_builtin; refine wpList_push (by rfl) (.tmp 43) (.tmp 45) (by rfl) wo.heap.size wo _ t (R k) (by rfl) hown2 (by omega) r (by exact HR.out) (by rfl) ?_)
            all_goals intro v' w' hown'
            all_goals go_wp2
            all_goals go_roundw
            all_goals first
              | (simp [intOf]; omega)
              | exact ⟨t + 1, by omega, by go_num, by rw [HA.out]; first | rfl | simp, hown'⟩
        · obtain rfl : t = n := by omega
          obtain ⟨g0, pc, rfl, hgb, hpc, hpc2, hps⟩ := own_open hown (by omega)
          have HS := Hid.mkV hps
          have HB := Hid.mkV hown.below
          have HL := Hid.mkV hL
          rw [← hT]
          have HT := Hid.mkV hT
          clear hps hown hT
          go_wp2_with (at_builtin; refine wpList_pushC (by rfl) (.tmp 51) (.tmp 53) (by rfl) w.heap.size w _ k _ R (by rfl) HL.out HB.out (by omega) g0 pc HS.out ⟨hpc, hpc2⟩ hgb (by rfl) ?_)
          intro v' w' hL'
          go_wp2
          go_roundw
          case rel => exact ⟨k + 1, by omega, by go_num, by rw [HT.out, any2_row], hL'⟩
          case measure => simp [intOf]; omega
    · obtain rfl : k = n := by omega
      obtain ⟨L', cm', G', C', rfl, hA⟩ := hL.open (by omega)
      go_wp2
      go_ret2
      exact ⟨L', cm', G', C', rfl, hA⟩
end Go.Proofs.YtlomfjacgomhdaaGreatDoor
namespace Go.Proofs.YtlomfjacgomhdaaGreatDoor
open Go.RowKit Vc St Mt Dt
attribute [local go_sem ↓] Go.wp_at_zero Go.wp_at_succ
namespace Pr
def nY (F P : Nat → Nat → Int) : Nat → Nat → Int := fun i j => Qn.clamp (Qn.rne (dk (fun k => P k j) (F i) 6) (2 ^ 20))
def nZ (F P : Nat → Nat → Int) : Nat → Nat → Int := fun i j => Qn.clamp (Qn.rne (dk (fun k => F j k) (nY F P i) 6) (2 ^ 20))
def nW (F P Q : Nat → Nat → Int) : Nat → Nat → Int := fun i j => Qn.clamp (nZ F P i j + Q i j)
def nE (F P Q : Nat → Nat → Int) : Nat → Nat → Int := fun i j => Qn.clamp (Qn.rne (nW F P Q i j + nW F P Q j i) (2 ^ 1))
def oE (F P Q : Nat → Nat → Int) : Bool := any2 (fun i j => Qn.great (Qn.rne (nW F P Q i j + nW F P Q j i) (2 ^ 1))) 6 6
def nD (E : Nat → Nat → Int) (k : Nat) : Nat → Nat → Int := fun i j => if i = j ∧ i < k ∧ E i j < 0 then 0 else E i j
theorem nD_zero (E : Nat → Nat → Int) (i j : Nat) : E i j = nD E 0 i j := by unfold nD; rw [if_neg (by omega)]
theorem nD_skip (E : Nat → Nat → Int) (k : Nat) (h : ¬ E k k < 0) (i j : Nat) : nD E k i j = nD E (k + 1) i j := by
  unfold nD
  by_cases e : i = j ∧ i < k ∧ E i j < 0
  · rw [if_pos e, if_pos ⟨e.1, by omega, e.2.2⟩]
  · rw [if_neg e, if_neg]
    rintro ⟨a, b, c⟩
    by_cases q : i = k
    · subst q; subst a; exact h c
    · exact e ⟨a, by omega, c⟩
theorem nD_put (E : Nat → Nat → Int) (k : Nat) (h : E k k < 0) (i j : Nat) : put2 (nD E k) k k 0 i j = nD E (k + 1) i j := by
  unfold put2 nD
  by_cases q : i = k ∧ j = k
  · obtain ⟨rfl, rfl⟩ := q
    rw [if_pos ⟨rfl, rfl⟩, if_pos ⟨rfl, by omega, h⟩]
  · rw [if_neg q]
    by_cases e : i = j ∧ i < k ∧ E i j < 0
    · rw [if_pos e, if_pos ⟨e.1, by omega, e.2.2⟩]
    · rw [if_neg e, if_neg]
      rintro ⟨a, b, c⟩
      exact e ⟨a, by omega, c⟩
theorem nD_at (E : Nat → Nat → Int) (k : Nat) : nD E k k k = E k k := by unfold nD; rw [if_neg (by omega)]
theorem nD_end (E : Nat → Nat → Int) {i : Nat} (j : Nat) (hi : i < 6) : nD E 6 i j = if i = j ∧ E i j < 0 then 0 else E i j := by
  unfold nD
  by_cases e : i = j ∧ E i j < 0
  · rw [if_pos ⟨e.1, hi, e.2⟩, if_pos e]
  · rw [if_neg (fun q => e ⟨q.1, q.2.2⟩), if_neg e]
end Pr
open Pr
end Go.Proofs.YtlomfjacgomhdaaGreatDoor
namespace Go.Proofs.YtlomfjacgomhdaaGreatDoor
open Go.RowKit Vc St Mt Dt
attribute [local go_sem ↓] Go.wp_at_zero Go.wp_at_succ
open Pr
set_option maxRecDepth 10000 in
set_option maxHeartbeats 1000000 in
theorem rin12_any (z : Int) (w : World) : Calls Tryz.prog 63 #[.int .i64 z] w fun e w' => e = .returned (.bool (decide (InV z))) ∧ w' = w := by
  by_cases h1 : -4611686018427387903 ≤ z
  · by_cases h2 : z ≤ 4611686018427387903
    · have e0 : decide (InV z) = true := decide_eq_true ⟨h1, h2⟩
      have e1 : decide (z ≥ -4611686018427387903) = true := decide_eq_true h1
      have e2 : decide (z ≤ 4611686018427387903) = true := decide_eq_true h2
      rw [e0]
      go_enter Tryz.func63, Tryz.ntmps63
      go_wp2
      go_ret
      exact ⟨rfl, rfl⟩
    · have e0 : decide (InV z) = false := decide_eq_false (fun h => h2 h.2)
      have e1 : decide (z ≥ -4611686018427387903) = true := decide_eq_true h1
      have e2 : decide (z ≤ 4611686018427387903) = false := decide_eq_false h2
      rw [e0]
      go_enter Tryz.func63, Tryz.ntmps63
      go_wp2
      go_ret
      exact ⟨rfl, rfl⟩
  · have e0 : decide (InV z) = false := decide_eq_false (fun h => h1 h.1)
    have e1 : decide (z ≥ -4611686018427387903) = false := decide_eq_false h1
    rw [e0]
    go_enter Tryz.func63, Tryz.ntmps63
    go_wp2
    go_ret
    exact ⟨rfl, rfl⟩
set_option maxRecDepth 10000 in
set_option maxHeartbeats 1000000 in
theorem rsix12_not (n cm : Nat) (lo : Option Addr) (w : World) (h : Calls Tryz.prog 114 #[.slice lo n cm] w fun e w' => e = .returned (.bool false) ∧ Below w.heap.size w w') :
    Calls Tryz.prog 62 #[.slice lo n cm] w fun e w' => e = .returned (.bool false) ∧ Below w.heap.size w w' := by
  have H := Hid.mkQ h
  clear h
  go_enter Tryz.func62, Tryz.ntmps62
  go_wp2_with fail
  refine H.out.mono ?_
  rintro e w1 ⟨rfl, k1⟩
  go_wp2
  go_ret
  exact ⟨rfl, k1⟩
set_option maxRecDepth 10000 in
set_option maxHeartbeats 1000000 in
theorem rsix12_grid (n m cm : Nat) (lo : Option Addr) (F : Nat → Nat → Int) (w : World) (h1 : 1 ≤ n) (h2 : n ≤ 6) (h3 : 1 ≤ m) (h4 : m ≤ 6) (hF : Grid w lo n cm m F) :
    Calls Tryz.prog 62 #[.slice lo n cm] w fun e w' => e = .returned (.bool (decide (n = 6 ∧ m = 6))) ∧ Below w.heap.size w w' := by
  obtain ⟨A, C, hS, hR⟩ := hF
  have H := Hid.mkQ (rmay_yes n m cm lo A C w hS h1 h2 h3 h4)
  have HS := Hid.mkQ hS
  clear hS hR
  by_cases e6 : n = 6
  · subst e6
    by_cases m6 : m = 6
    · subst m6
      have e0 : decide ((6 : Nat) = 6 ∧ (6 : Nat) = 6) = true := by decide
      rw [e0]
      go_enter Tryz.func62, Tryz.ntmps62
      go_wp2_with fail
      refine H.out.mono ?_
      rintro e w1 ⟨rfl, k1⟩
      obtain ⟨x, hlo, hcl⟩ := (HS.out.keep k1).get
      obtain rfl := hlo (by omega)
      have c0 : w1.cell? x = some (.slice (A 0) 6 (C 0)) := hcl 0 (by omega)
      clear hcl hlo
      go_wp2
      go_ret
      exact ⟨rfl, k1⟩
    · have e0 : decide ((6 : Nat) = 6 ∧ m = 6) = false := decide_eq_false (fun h => m6 h.2)
      have e1 : ((m : Int) == 6) = false := by rw [beq_eq_false_iff_ne]; omega
      have e2 : decide ((m : Int) = 6) = false := decide_eq_false (by omega)
      rw [e0]
      go_enter Tryz.func62, Tryz.ntmps62
      go_wp2_with fail
      refine H.out.mono ?_
      rintro e w1 ⟨rfl, k1⟩
      obtain ⟨x, hlo, hcl⟩ := (HS.out.keep k1).get
      obtain rfl := hlo (by omega)
      have c0 : w1.cell? x = some (.slice (A 0) m (C 0)) := hcl 0 (by omega)
      clear hcl hlo
      go_wp2
      go_ret
      exact ⟨rfl, k1⟩
  · have e0 : decide (n = 6 ∧ m = 6) = false := decide_eq_false (fun h => e6 h.1)
    have e1 : ((n : Int) == 6) = false := by rw [beq_eq_false_iff_ne]; omega
    have e2 : decide ((n : Int) = 6) = false := decide_eq_false (by omega)
    rw [e0]
    go_enter Tryz.func62, Tryz.ntmps62
    go_wp2_with fail
    refine H.out.mono ?_
    rintro e w1 ⟨rfl, k1⟩
    go_wp2
    go_ret
    exact ⟨rfl, k1⟩
set_option maxRecDepth 10000 in
set_option maxHeartbeats 1000000 in
theorem rmay12_not (xo po : Option Addr) (n xc pc : Nat) (w : World) (h : ∀ W, Below w.heap.size w W → Calls Tryz.prog 62 #[.slice po n pc] W fun e w' => e = .returned (.bool false) ∧ Below W.heap.size W w') :
    Calls Tryz.prog 23 #[.agg #[.slice xo 6 xc, .slice po n pc]] w fun e w' => e = .returned (.bool false) ∧ Below w.heap.size w w' := by
  have m0 := crow_new w 25 [.slice xo 6 xc, .slice po n pc]
  have B0 : Below w.heap.size w (w.alloc (.cells [.slice xo 6 xc, .slice po n pc].toArray 25)) := below_al (Below.refl _ _) _
  have H := Hid.mkQ (h _ B0)
  obtain ⟨W, hW⟩ : ∃ W, W = w.alloc (.cells [.slice xo 6 xc, .slice po n pc].toArray 25) := ⟨_, rfl⟩
  rw [← hW] at m0 B0 H
  have HW := Hid.mkQ hW
  have c0 : W.cell? ⟨w.heap.size, 0, none⟩ = some (.slice xo 6 xc) := CRow.cell m0 (k := 0) rfl rfl
  have c1 : W.cell? ⟨w.heap.size, 1, none⟩ = some (.slice po n pc) := CRow.cell m0 (k := 1) rfl rfl
  clear hW h m0
  go_enter Tryz.func23, Tryz.ntmps23
  go_wp2_with (first | (rw [← HW.out]) | fail)
  refine H.out.mono ?_
  rintro e w1 ⟨rfl, k1⟩
  go_wp2
  go_ret
  exact ⟨rfl, below_tr B0 k1⟩
set_option maxRecDepth 10000 in
set_option maxHeartbeats 4000000 in
theorem rmay12_grid (b : Bool) (xo po : Option Addr) (xc pc : Nat) (X : Nat → Int) (P : Nat → Nat → Int) (w : World) (hX : Sl w xo 6 xc X) (hP : Grid w po 6 pc 6 P) (hb : b = true ↔ MayV X P) :
  Calls Tryz.prog 23 #[.agg #[.slice xo 6 xc, .slice po 6 pc]] w fun e w' => e = .returned (.bool b) ∧ Below w.heap.size w w' := by
 have m0 := crow_new w 25 [.slice xo 6 xc, .slice po 6 pc]
 have B0 : Below w.heap.size w (w.alloc (.cells [.slice xo 6 xc, .slice po 6 pc].toArray 25)) := below_al (Below.refl _ _) _
 obtain ⟨W, hW⟩ : ∃ W, W = w.alloc (.cells [.slice xo 6 xc, .slice po 6 pc].toArray 25) := ⟨_, rfl⟩
 rw [← hW] at m0 B0
 have HW := Hid.mkQ hW
 have x0 := hX.keep B0
 have p0 := hP.keep B0
 have H : Hid (Calls Tryz.prog 62 #[.slice po 6 pc] W fun e w' => e = .returned (.bool true) ∧ Below W.heap.size W w') := rsix12_grid 6 6 pc po P W (by omega) (by omega) (by omega) (by omega) p0
 have c0 : W.cell? ⟨w.heap.size, 0, none⟩ = some (.slice xo 6 xc) := CRow.cell m0 (k := 0) rfl rfl
 have c1 : W.cell? ⟨w.heap.size, 1, none⟩ = some (.slice po 6 pc) := CRow.cell m0 (k := 1) rfl rfl
 have HN : Hid (¬ MayV X P → b = false) := fun h => by
  cases b with
  | false => rfl
  | true => exact absurd (hb.1 rfl) h
 have HY : Hid (MayV X P → b = true) := fun h => hb.2 h
 have HM := Hid.mkQ m0
 have HX := Hid.mkQ x0
 have HP := Hid.mkQ p0
 clear hW m0 hX hP x0 p0 hb
 go_enter Tryz.func23, Tryz.ntmps23
 go_wp2_with (first | (rw [← HW.out]) | fail)
 refine H.out.mono ?_
 rintro e w1 ⟨rfl, k1⟩
 clear c0 c1 H
 go_wp2
 go_loopw [3] (fun v wr => ∃ k : Nat, k ≤ 6 ∧ v = .int .i64 (k : Int) ∧ Below W.heap.size W wr ∧ Hid (∀ i, i < k → InV (X i) ∧ 0 ≤ P i i ∧ ∀ j, j < 6 → InV (P i j) ∧ P i j = P j i)) (fun v _ => 6 - (intOf v).toNat)
 case atStart => exact ⟨0, by omega, rfl, k1, fun i hi => by omega⟩
 case round =>
  rename World => wo
  obtain ⟨k, hk, rfl, hB, hok⟩ := hrel
  by_cases h : k < 6
  ·have m1 := CRow.keep HM.out hB
   have c0 : wo.cell? ⟨w.heap.size, 0, none⟩ = some (.slice xo 6 xc) := CRow.cell m1 (k := 0) rfl rfl
   have c1 : wo.cell? ⟨w.heap.size, 1, none⟩ = some (.slice po 6 pc) := CRow.cell m1 (k := 1) rfl rfl
   have x1 := HX.out.keep hB
   obtain ⟨A, C, s1, r1⟩ := HP.out.keep hB
   obtain ⟨xa, hxa, hxc⟩ := x1.get
   obtain ⟨pa, hpa, hpc⟩ := s1.get
   obtain rfl := hxa (by omega)
   obtain rfl := hpa (by omega)
   have c2 := hxc k h
   have c3 := hpc k h
   obtain ⟨ra, hra, hrc⟩ := (r1 k h).get
   have c4 := hrc k h
   rw [hra (by omega)] at c3
   have l1 := x1.le
   have l2 := x1.cap
   have l3 := s1.le
   have l4 := s1.cap
   have l5 := (r1 k h).le
   have l6 := (r1 k h).cap
   obtain ⟨ck, hck⟩ : ∃ c, c = C k := ⟨_, rfl⟩
   rw [← hck] at c3 l5 l6
   have HIn := Hid.mkQ (rin12_any (X k) wo)
   obtain ⟨xk, hxk⟩ : ∃ z, z = X k := ⟨_, rfl⟩
   rw [← hxk] at c2 HIn
   obtain ⟨pk, hpk⟩ : ∃ z, z = P k k := ⟨_, rfl⟩
   rw [← hpk] at c4
   have EX := Hid.mkQ hxk
   have EP := Hid.mkQ hpk
   clear m1 x1 s1 r1 hxa hpa hxc hpc hra hrc hck hxk hpk
   go_wp2_with fail
   refine HIn.out.mono ?_
   rintro e w2 ⟨rfl, rfl⟩
   by_cases i1 : InV xk
   ·rw [decide_eq_true i1]
    by_cases i2 : pk < 0
    ·have d2 : decide (pk < 0) = true := decide_eq_true i2
     go_wp2
     go_ret
     exact ⟨by rw [HN.out (fun q => by have := (q k h).2.1; rw [← EP.out] at this; omega)]; rfl, below_tr B0 hB⟩
    ·have d2 : decide (pk < 0) = false := decide_eq_false i2
     have HI1 := Hid.mkQ i1
     clear i1
     go_wp2
     clear c2 c3 c4 l5 l6 HIn
     go_loopw [4] (fun v wr => ∃ j : Nat, j ≤ 6 ∧ v = .int .i64 (j : Int) ∧ Below W.heap.size W wr ∧ Hid (∀ i, i < j → InV (P k i) ∧ P k i = P i k)) (fun v _ => 6 - (intOf v).toNat)
     case atStart => exact ⟨0, by omega, rfl, hB, fun i hi => by omega⟩
     case round =>
      rename World => wi
      obtain ⟨j, hj, rfl, hB2, hok2⟩ := hrel
      clear c0 c1
      by_cases h5 : j < 6
      ·have m1 := CRow.keep HM.out hB2
       have c1 : wi.cell? ⟨w.heap.size, 1, none⟩ = some (.slice (some pa) 6 pc) := CRow.cell m1 (k := 1) rfl rfl
       obtain ⟨A, C, s1, r1⟩ := HP.out.keep hB2
       obtain ⟨pa', hpa, hpc⟩ := s1.get
       obtain rfl : pa = pa' := by have := hpa (by omega); injection this
       have c3 := hpc k h
       have c5 := hpc j h5
       obtain ⟨ra, hra, hrc⟩ := (r1 k h).get
       obtain ⟨sa, hsa, hsc⟩ := (r1 j h5).get
       have c4 := hrc j h5
       have c6 := hsc k h
       rw [hra (by omega)] at c3
       rw [hsa (by omega)] at c5
       have l5 := (r1 k h).le
       have l6 := (r1 k h).cap
       have l7 := (r1 j h5).le
       have l8 := (r1 j h5).cap
       obtain ⟨ck, hck⟩ : ∃ c, c = C k := ⟨_, rfl⟩
       rw [← hck] at c3 l5 l6
       obtain ⟨cj, hcj⟩ : ∃ c, c = C j := ⟨_, rfl⟩
       rw [← hcj] at c5 l7 l8
       obtain ⟨u, hu⟩ : ∃ z, z = P k j := ⟨_, rfl⟩
       rw [← hu] at c4
       obtain ⟨v, hv⟩ : ∃ z, z = P j k := ⟨_, rfl⟩
       rw [← hv] at c6
       have EU := Hid.mkQ hu
       have EV := Hid.mkQ hv
       have HIn2 : Hid (∀ W, Calls Tryz.prog 63 #[.int .i64 u] W fun e w' => e = .returned (.bool (decide (InV u))) ∧ w' = W) := fun W => rin12_any u W
       clear m1 s1 r1 hpa hpc hra hrc hsa hsc hck hcj hu hv
       by_cases i3 : InV u
       ·rw [decide_eq_true i3] at HIn2
        have HI3 := Hid.mkQ i3
        clear i3
        by_cases i4 : u = v
        ·subst i4
         go_wp2
         go_quiet (first | (go_at_call 63; refine Calls.quiet_of_same (HIn2.out _)))
         go_wp2
         go_roundw
         case rel => exact ⟨j + 1, by omega, by go_num, below_drewN hB2 _, fun q hq => by
           rcases Nat.lt_or_ge q j with c | c
           ·exact hok2.out q c
           ·obtain rfl : q = j := by omega
            rw [← EV.out, ← EU.out]
            exact ⟨HI3.out, rfl⟩⟩
         case measure => simp [intOf]; omega
        ·have d4 : decide (u = v) = false := decide_eq_false i4
         go_wp2
         go_quiet (first | (go_at_call 63; refine Calls.quiet_of_same (HIn2.out _)))
         go_wp2
         go_ret
         exact ⟨by rw [HN.out (fun q => by have := ((q k h).2.2 j h5).2; rw [← EU.out, ← EV.out] at this; exact i4 this)]; rfl, below_drewN (below_tr B0 hB2) _⟩
       ·rw [decide_eq_false i3] at HIn2
        have HI3 := Hid.mkQ i3
        clear i3
        go_wp2
        go_quiet (first | (go_at_call 63; refine Calls.quiet_of_same (HIn2.out _)))
        go_wp2
        go_ret
        exact ⟨by rw [HN.out (fun q => by have := ((q k h).2.2 j h5).1; rw [← EU.out] at this; exact HI3.out this)]; rfl, below_drewN (below_tr B0 hB2) _⟩
      ·obtain rfl : j = 6 := by omega
       go_wp2
       go_roundw
       case rel => exact ⟨k + 1, by omega, by go_num, hB2, fun q hq => by
         rcases Nat.lt_or_ge q k with c | c
         ·exact hok.out q c
         ·obtain rfl : q = k := by omega
          exact ⟨by rw [← EX.out]; exact HI1.out, by rw [← EP.out]; omega, fun j hj => hok2.out j hj⟩⟩
       case measure => simp [intOf]; omega
   ·rw [decide_eq_false i1]
    have HI1 := Hid.mkQ i1
    clear i1
    go_wp2
    go_ret
    exact ⟨by rw [HN.out (fun q => by have := (q k h).1; rw [← EX.out] at this; exact HI1.out this)]; rfl, below_tr B0 hB⟩
  ·obtain rfl : k = 6 := by omega
   go_wp2
   go_ret
   exact ⟨by rw [HY.out (fun q hq => hok.out q hq)]; rfl, below_tr B0 hB⟩
end Go.Proofs.YtlomfjacgomhdaaGreatDoor
namespace Go.Proofs.YtlomfjacgomhdaaGreatDoor
open Go.RowKit Vc Mt
attribute [local go_sem ↓] Go.wp_at_zero Go.wp_at_succ
set_option maxRecDepth 10000 in
set_option maxHeartbeats 1000000 in
theorem reye_own (n : Nat) (w : World) (h1 : 1 ≤ n) (h2 : n ≤ 6) :
    Calls Tryz.prog 40 #[.int .i64 (n : Int)] w fun e w' => ∃ L cm G, e = .returned (.slice (some ⟨L, 0, none⟩) n cm) ∧ RwsAt w.heap.size w w' L cm G n n eyeF := by
  obtain ⟨i0, hi, hz0, hz1, hz2⟩ := info_parts infoI64
  go_enter Tryz.func40, Tryz.ntmps40
  go_wp2
  go_loopw [3, 4] (fun out i wr => ∃ k : Nat, k ≤ n ∧ i = .int .i64 (k : Int) ∧ Rws w.heap.size w wr out k n eyeF) (fun _ i _ => n - (intOf i).toNat)
  case atStart => exact ⟨0, by omega, rfl, Rws.nil (Below.refl _ _) (Nat.le_refl _) _ _⟩
  case round =>
    rename World => wo
    obtain ⟨k, hk, rfl, hL⟩ := hrel
    by_cases h : k < n
    · go_wp2_with (at_make; refine wpList_make_full _ rfl _ _ 22 rfl wo.heap.size 2 i0 (.int .i64 0) 1 Tryz.underlying22 hi hz0 hz1 _ _ _ _ n rfl rfl (by omega) (by omega) (by rw [hz2]; omega) (by unfold maxLen; omega) (Nat.le_refl _) ?_)
      intro w0 hown0 hgrow0
      have hO0 := own_made hown0 hgrow0 (Nat.le_refl _)
      have c3 := hO0.cell h
      have f3 := hO0.free k
      have hO1 := (hO0.set k 1048576).congr (z' := eyeF k) (fun j _ => by unfold eyeF; by_cases e : j = k; (rw [if_pos e, if_pos e.symm]); (rw [if_neg e, if_neg (fun h => e h.symm)]))
      have hk1 := hO1.below
      have hr := own_whole hO1
      have HR := Hid.mkV hr
      have HK := Hid.mkV hk1
      have HL := Hid.mkV hL
      clear hown0 hgrow0 hO0 hO1 hL hr hk1
      go_wp2_with (at_builtin; refine wpList_pushR (by rfl) _ _ (by rfl) w.heap.size w _ k n eyeF (by rfl) HL.out HK.out (by omega) wo.heap.size HR.out (Nat.le_refl _) (by show Value.slice (some ⟨w0.heap.size, 0, none⟩) 1 1 = _; simp) ?_)
      intro v' w' hL'
      go_wp2
      go_roundw
      case rel => exact ⟨k + 1, by omega, by go_num, hL'⟩
      case measure => simp [intOf]; omega
    · obtain rfl : k = n := by omega
      obtain ⟨L, cm, G, rfl, hA⟩ := hL.open (by omega)
      go_wp2
      go_ret
      exact ⟨L, cm, G, rfl, hA⟩
end Go.Proofs.YtlomfjacgomhdaaGreatDoor
