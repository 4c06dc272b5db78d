/-
  Package like (layer 16): its contracts: who may be weighed, the likeliest one, weights, Weights.
-/
import Derived.Test.YtdgcnaijndocnaaGreatDoorLkA
import Derived.Test.YtdgcnaijndocnaaGreatDoorM29
import Derived.Test.YtdgcnaijndocnaaGreatDoorM9
import Derived.Test.YtdgcnaijndocnaaGreatDoorM21
import Derived.Deep.OwnRows
import Derived.RegionTactic
import Derived.ChangeAlike
import Derived.BigRegion
import Derived.Deep.DeepCutAuto
import Derived.Deep.CutRange
set_option linter.unusedSimpArgs false
set_option linter.unusedVariables false
namespace Go.Proofs.YtdgcnaijndocnaaGreatDoor
open Go.RowKit Vc Cn St Qn Lk Gw

namespace Lk
theorem great_no {n : Int} (h : -4611686018427387903 ≤ n ∧ n ≤ 4611686018427387903) : great n = false := by unfold great; rw [decide_eq_false (by omega), decide_eq_false (by omega)]; rfl
theorem great_yes {n : Int} (h : ¬ (-4611686018427387903 ≤ n ∧ n ≤ 4611686018427387903)) : great n = true := by
  unfold great
  by_cases q : n < -4611686018427387903
  · rw [decide_eq_true q, Bool.or_true]
  · rw [decide_eq_true (show 4611686018427387903 < n by omega), Bool.true_or]
theorem wo_none {l c : Nat → Int} {n k : Nat} (h : c k = 0) : wo l c n (k + 1) = wo l c n k := by
  show (wo l c n k || (!decide (c k = 0) && _)) = _
  rw [decide_eq_true h]; simp
theorem wo_more {l c : Nat → Int} {n k : Nat} (h : ¬ c k = 0) : wo l c n (k + 1) = (wo l c n k || great (l k - l (bl l c n).toNat)) := by
  show (wo l c n k || (!decide (c k = 0) && _)) = _
  rw [decide_eq_false h]; simp
end Lk

set_option maxRecDepth 10000 in
set_option maxHeartbeats 1000000 in
/-- May they be weighed? -/
theorem kmay_any (W : World) (lo co : Option Addr) (n cl m cc : Nat) (l c : Nat → Int) (hl : Sl W lo n cl l) (bl' : B64 l) (hc : Sl W co m cc c) (bc : B64 c) (b : Bool)
    (hy : b = true → n = m ∧ Ch m c 0 ∧ ∀ k, k < n → -4611686018427387903 ≤ l k ∧ l k ≤ 4611686018427387903) (hn : b = false → ¬ (n = m ∧ Ch m c 0 ∧ ∀ k, k < n → -4611686018427387903 ≤ l k ∧ l k ≤ 4611686018427387903)) :
    Calls Tryz.prog 38 #[.slice lo n cl, .slice co m cc] W fun e w' => e = .returned (.bool b) ∧ Below W.heap.size W w' := by
  have l1 := hl.le
  have l2 := hl.cap
  have l3 := hc.le
  have l4 := hc.cap
  by_cases hnm : n = m
  · subst hnm
    have HC := hideH (cn_check W co n cc c 0 hc bc (by omega) (by omega))
    obtain ⟨x, hao, hca⟩ := hl.get
    have HAO := hideH hao
    have HCA := hideH hca
    have HB := hideH bl'
    have HY := hideH hy
    have HN := hideH hn
    clear hao hca hl hc bl' bc hy hn
    go_enter Tryz.func38, Tryz.ntmps38
    go_wp2_with (go_at_call 92; refine HC.out.mono ?_; rintro e w1 ⟨ev, rfl, k1, ⟨hch, rfl⟩ | ⟨hch, rfl⟩⟩)
    · have HCH := hideH hch
      have HK := hideH k1
      clear k1 hch
      go_loopw [21] (fun i wr => ∃ k : Nat, k ≤ n ∧ i = .int .i64 (k : Int) ∧ wr = w1 ∧ Hid (∀ j, j < k → -4611686018427387903 ≤ l j ∧ l j ≤ 4611686018427387903)) (fun i _ => n - (intOf i).toNat)
      case atStart => exact ⟨0, by omega, rfl, rfl, fun j hj => by omega⟩
      case round =>
        obtain ⟨k, hk, rfl, rfl, hin⟩ := hrel
        by_cases h : k < n
        · obtain rfl := HAO.out (by omega)
          have ca' := keep_cell HK.out (HCA.out k h)
          have HQ := hideH (fun W => clamp_any (l k) W)
          by_cases q : -4611686018427387903 ≤ l k ∧ l k ≤ 4611686018427387903
          · have HZ' : Hid (∀ j, j < k + 1 → -4611686018427387903 ≤ l j ∧ l j ≤ 4611686018427387903) := fun j hj => by
              by_cases e : j = k
              · rw [e]; exact q
              · exact hin.out j (by omega)
            rw [great_no q] at HQ
            obtain ⟨P, hP⟩ : ∃ P, P = l k := ⟨_, rfl⟩
            rw [← hP] at ca' HQ
            obtain ⟨P', hP'⟩ : ∃ P', P' = clamp P := ⟨_, rfl⟩
            rw [← hP'] at HQ
            clear hP hP' hin q
            go_wp2_with (go_at_call 93; refine (HQ.out _).mono ?_; rintro e w' ⟨rfl, q⟩; obtain rfl := q.symm)
            go_roundw
            case rel => exact ⟨k + 1, by omega, by go_num, trivial, HZ'⟩
            case measure => simp [intOf]; omega
          · have hb : b = false := by
              cases hb : b with
              | false => rfl
              | true => exact absurd ((HY.out hb).2.2 k h) q
            subst hb
            rw [great_yes q] at HQ
            obtain ⟨P, hP⟩ : ∃ P, P = l k := ⟨_, rfl⟩
            rw [← hP] at ca' HQ
            obtain ⟨P', hP'⟩ : ∃ P', P' = clamp P := ⟨_, rfl⟩
            rw [← hP'] at HQ
            clear hP hP' hin q
            go_wp2_with (go_at_call 93; refine (HQ.out _).mono ?_; rintro e w' ⟨rfl, q⟩; obtain rfl := q.symm)
            go_ret
            exact ⟨rfl, HK.out⟩
        · obtain rfl : k = n := by omega
          have hb : b = true := by
            cases hb : b with
            | true => rfl
            | false => exact absurd ⟨trivial, HCH.out, hin.out⟩ (HN.out hb)
          subst hb
          go_wp2
          go_ret
          exact ⟨rfl, HK.out⟩
    · have hb : b = false := by
        cases hb : b with
        | false => rfl
        | true => exact absurd (HY.out hb).2.1 hch
      subst hb
      unfold errV
      go_wp2
      go_ret
      exact ⟨rfl, k1⟩
  · have hb : b = false := by
      cases hb : b with
      | false => rfl
      | true => exact absurd (hy hb).1 hnm
    subst hb
    have e1 : ((n : Int) == (m : Int)) = false := beq_eq_false_iff_ne.2 (fun q => hnm (by omega))
    have e2 : ((n : Int) != (m : Int)) = true := by rw [bne, e1]; rfl
    clear hl hc bl' bc hy hn
    go_enter Tryz.func38, Tryz.ntmps38
    go_wp2_with fail
    go_ret
    exact ⟨rfl, Below.refl _ _⟩

set_option maxRecDepth 10000 in
set_option maxHeartbeats 1000000 in
/-- The likeliest one. -/
theorem klikeliest_any (x y : Addr) (n ca cb : Nat) (l c : Nat → Int) (w : World) (h1 : n ≤ ca) (h2 : ca ≤ 9223372036854775807) (h3 : n ≤ cb) (h4 : cb ≤ 9223372036854775807) (hl : ∀ k, k < n → w.cell? (x.add k) = some (.int .i64 (l k))) (hc : ∀ k, k < n → w.cell? (y.add k) = some (.int .i64 (c k))) :
    Calls Tryz.prog 94 #[.slice (some x) n ca, .slice (some y) n cb] w fun e w' => e = .returned (.int .i64 (tp l c n)) ∧ w' = w := by
  have HL := hideH hl
  have HC := hideH hc
  obtain ⟨R, hR⟩ : ∃ R, R = tp l c n := ⟨_, rfl⟩
  rw [← hR]
  have HR := hideH hR
  clear hl hc hR
  go_enter Tryz.func94, Tryz.ntmps94
  go_wp2
  go_loopw [5, 10] (fun m i wr => ∃ k : Nat, k ≤ n ∧ i = .int .i64 (k : Int) ∧ m = .int .i64 (tp l c k) ∧ wr = w) (fun _ i _ => n - (intOf i).toNat)
  case atStart => exact ⟨0, by omega, rfl, rfl, rfl⟩
  case round =>
    obtain ⟨k, hk, rfl, rfl, rfl⟩ := hrel
    by_cases h : k < n
    · have c1 := HL.out k h
      have c2 := HC.out k h
      have HU1 : Hid (0 < c k → tp l c (k + 1) = max (tp l c k) (l k)) := tp_yes
      have HU2 : Hid (¬ 0 < c k → tp l c (k + 1) = tp l c k) := tp_no
      obtain ⟨P, hP⟩ : ∃ P, P = l k := ⟨_, rfl⟩
      obtain ⟨C, hC⟩ : ∃ P, P = c k := ⟨_, rfl⟩
      obtain ⟨T, hT⟩ : ∃ T, T = tp l c k := ⟨_, rfl⟩
      rw [← hP] at c1 HU1
      rw [← hC] at c2 HU1 HU2
      rw [← hT] at HU1 HU2 ⊢
      clear hP hT hC
      by_cases c0 : 0 < C
      · have e0 : decide (C > 0) = true := decide_eq_true c0
        have HU := hideH (HU1.out c0)
        clear HU1 HU2
        rcases Int.lt_or_le T P with c3 | c3
        · have e2 : max T P = P := by omega
          rw [e2] at HU
          go_wp2
          go_roundw
          case rel => exact ⟨k + 1, by omega, by go_num, by rw [HU.out], trivial⟩
          case measure => simp [intOf]; omega
        · have e2 : max T P = T := by omega
          rw [e2] at HU
          go_wp2
          go_roundw
          case rel => exact ⟨k + 1, by omega, by go_num, by rw [HU.out], trivial⟩
          case measure => simp [intOf]; omega
      · have e0 : decide (C > 0) = false := decide_eq_false c0
        have HU := hideH (HU2.out c0)
        clear HU1 HU2
        go_wp2
        go_roundw
        case rel => exact ⟨k + 1, by omega, by go_num, by rw [HU.out], trivial⟩
        case measure => simp [intOf]; omega
    · obtain rfl : k = n := by omega
      rw [← HR.out]
      go_wp2
      go_ret
      exact ⟨rfl, rfl⟩

set_option maxRecDepth 10000 in
set_option maxHeartbeats 2000000 in
/-- The weights. -/
theorem kweighed_any (x y : Addr) (n ca cb : Nat) (l c : Nat → Int) (w : World) (hm : MayL n l c 0) (h1 : n ≤ ca) (h2 : ca ≤ 9223372036854775807) (h3 : n ≤ cb) (h4 : cb ≤ 9223372036854775807) (hl : ∀ k, k < n → w.cell? (x.add k) = some (.int .i64 (l k))) (hc : ∀ k, k < n → w.cell? (y.add k) = some (.int .i64 (c k))) :
    Calls Tryz.prog 39 #[.slice (some x) n ca, .slice (some y) n cb] w fun e w' => ∃ g : Nat, e = .returned (.tuple #[.slice (some ⟨g, 0, none⟩) n n, .bool (wo l c n n)]) ∧ CRow w' g 2 (vals n (wz l c n)) ∧ w.heap.size ≤ g ∧ Below w.heap.size w w' := by
  have HK := hideH (klikeliest_any x y n ca cb l c w h1 h2 h3 h4 hl hc)
  rw [tp_is hm] at HK
  have hmi := makeI n hm.ch.four
  have HL := hideH hl
  have HC := hideH hc
  have HD : Hid (∀ k, k < n → c k ≠ 0 → clamp (l k - l (bl l c n).toNat) ≤ 0) := fun k hk h0 => d_neg hm hk h0
  have HE : Hid (∀ k, k < n → -4611686018427387903 ≤ l k ∧ l k ≤ 4611686018427387903) := hm.each
  have HN : Hid (∀ k, k < n → 0 ≤ c k ∧ c k ≤ 1073741824) := fun k hk => hm.ch.nn hk
  have HT : -4611686018427387903 ≤ l (bl l c n).toNat ∧ l (bl l c n).toNat ≤ 4611686018427387903 := hm.each _ (bl_in hm).2.1
  have HW : Hid (∀ k, k < n → wz l c n k = if c k = 0 then 0 else ex (clamp (l k - l (bl l c n).toNat)) * c k) := fun k hk => by
    unfold wz
    by_cases q : c k = 0
    · rw [if_pos (Or.inl q), if_pos q]
    · rw [if_neg (by omega), if_neg q]
  have HO1 : Hid (∀ k, c k = 0 → wo l c n (k + 1) = wo l c n k) := fun k h => wo_none h
  have HO2 : Hid (∀ k, ¬ c k = 0 → wo l c n (k + 1) = (wo l c n k || great (l k - l (bl l c n).toNat))) := fun k h => wo_more h
  have hm4 := hm.ch.four
  obtain ⟨T, hT⟩ : ∃ T, T = l (bl l c n).toNat := ⟨_, rfl⟩
  obtain ⟨O, hO⟩ : ∃ O, O = wo l c n := ⟨_, rfl⟩
  obtain ⟨Z, hZ⟩ : ∃ Z, Z = wz l c n := ⟨_, rfl⟩
  rw [← hT] at HK HD HT HW HO2
  rw [← hO] at HO1 HO2
  rw [← hZ] at HW
  have HO0 : Hid (O 0 = false) := by rw [hO]; rfl
  rw [← hO, ← hZ]
  have HA0 := hideH (crow_new w 2 (vals n (fun _ => 0)))
  have HB0 := hideH (below_al (Below.refl _ w) (.cells (vals n (fun _ => 0)).toArray 2))
  clear hT hO hZ hm hl hc
  go_enter Tryz.func39, Tryz.ntmps39
  go_wp2_with (go_at_call 94; refine HK.out.mono ?_; rintro e w' ⟨rfl, q⟩; obtain rfl := q.symm)
  go_loopw [7, 23] (fun o i wr => ∃ (k : Nat) (zo : Nat → Int), k ≤ n ∧ i = .int .i64 (k : Int) ∧ o = .bool (O k) ∧ (∀ j, j < k → zo j = Z j) ∧ (∀ j, k ≤ j → zo j = 0) ∧ CRow wr w.heap.size 2 (vals n zo) ∧ Below w.heap.size w wr) (fun _ i _ => n - (intOf i).toNat)
  case atStart => exact ⟨0, fun _ => 0, by omega, rfl, by rw [HO0.out], fun j hj => by omega, fun j hj => rfl, HA0.out, HB0.out⟩
  case round =>
    rename World => wr
    obtain ⟨k, zo, hk, rfl, rfl, hz1, hz2, nA, kr⟩ := hrel
    by_cases h : k < n
    · have c1 := keep_cell kr (HL.out k h)
      have c2 := keep_cell kr (HC.out k h)
      have HZ1 := hideH hz1
      have HZ2 := hideH hz2
      have HWk := hideH (HW.out k h)
      by_cases q : c k = 0
      · have HOk := hideH (HO1.out k q)
        rw [q] at c2
        rw [if_pos q] at HWk
        have HZ1' : Hid (∀ j, j < k + 1 → zo j = Z j) := fun j hj => by
          by_cases e : j = k
          · rw [e, HWk.out, HZ2.out k (Nat.le_refl _)]
          · exact HZ1.out j (by omega)
        have HZ2' : Hid (∀ j, k + 1 ≤ j → zo j = 0) := fun j hj => HZ2.out j (by omega)
        have HNA := hideH nA
        have HKR := hideH kr
        obtain ⟨P, hP⟩ : ∃ P, P = l k := ⟨_, rfl⟩
        rw [← hP] at c1
        clear hP hz1 hz2 nA kr q
        go_wp2
        go_roundw
        case rel => exact ⟨k + 1, zo, by omega, by go_num, by rw [HOk.out], HZ1'.out, HZ2'.out, HNA.out, HKR.out⟩
        case measure => simp [intOf]; omega
      · have HOk := hideH (HO2.out k q)
        rw [if_neg q] at HWk
        have hd := HD.out k h q
        have hl := HE.out k h
        have hcn := HN.out k h
        have hcl := clamp_bd (l k - T)
        have hex := ex_in hd
        have HS := hideH (fun W => qsub_any (l k) T W (by omega) (by omega) (by omega) (by omega))
        have HX := hideH (fun W => gexp_any (clamp (l k - T)) W hd (by omega))
        have hpr : 0 ≤ ex (clamp (l k - T)) * c k ∧ ex (clamp (l k - T)) * c k ≤ 1073741824 * 1073741824 := ⟨Int.mul_nonneg hex.1 hcn.1, Int.mul_le_mul hex.2 hcn.2 hcn.1 (by omega)⟩
        obtain ⟨P, hP⟩ : ∃ P, P = l k := ⟨_, rfl⟩
        obtain ⟨C, hC⟩ : ∃ C, C = c k := ⟨_, rfl⟩
        rw [← hP] at c1 HS HX HWk HOk hpr hd
        rw [← hC] at c2 HWk hpr q
        obtain ⟨E, hE⟩ : ∃ E, E = ex (clamp (P - T)) := ⟨_, rfl⟩
        obtain ⟨G, hG⟩ : ∃ G, G = great (P - T) := ⟨_, rfl⟩
        rw [← hE] at HX HWk hpr
        rw [← hG] at HS HOk
        obtain ⟨D, hD⟩ : ∃ D, D = clamp (P - T) := ⟨_, rfl⟩
        rw [← hD] at HS HX
        obtain ⟨M, hM⟩ : ∃ M, M = E * C := ⟨_, rfl⟩
        have HM : Hid (E * C = M) := hM.symm
        rw [← hM] at hpr HWk
        have e1 : (C == 0) = false := beq_eq_false_iff_ne.2 q
        have e2 : IntKind.i64.wrap (E * C) = M := by rw [HM.out, IntKind.wrap_i64]; omega
        have HZ1' : Hid (∀ j, j < k + 1 → (if j = k then M else zo j) = Z j) := fun j hj => by
          by_cases e : j = k
          · rw [if_pos e, e, HWk.out]
          · rw [if_neg e]; exact HZ1.out j (by omega)
        have HZ2' : Hid (∀ j, k + 1 ≤ j → (if j = k then M else zo j) = 0) := fun j hj => by rw [if_neg (by omega)]; exact HZ2.out j (by omega)
        have HNA := hideH nA
        have HKR := hideH kr
        have HZK := hideH (HZ2.out k (Nat.le_refl _))
        clear hP hC hE hG hD hM hz1 hz2 nA kr hl hcn hcl hex hd
        obtain ⟨B, hB⟩ : ∃ B, B = O k := ⟨_, rfl⟩
        rw [← hB] at HOk ⊢
        clear hB
        cases B
        all_goals
          go_wp2_with (first
            | (go_at_call 49; refine (HS.out _).mono ?_; rintro e w1 ⟨rfl, k1⟩; have n1 := CRow.keep HNA.out k1; have b1 := Below.trans HKR.out (k1.mono (HKR.out).size); have c3 := keep_cell k1 c2; clear c1 c2 k1)
            | (go_at_call 95; refine (HX.out _).mono ?_; rintro e w2 ⟨rfl, k2⟩; have n2 := CRow.keep n1 k2; have b2 := Below.trans b1 (k2.mono b1.size); have c4 := keep_cell k2 c3; have d1 := n2.cell (vals_at (z := zo) h) rfl; rw [HZK.out] at d1; have f1 := n2.free k; clear c3 k2 n1 b1))
          go_roundw
          case rel => exact ⟨k + 1, fun j => if j = k then M else zo j, by omega, by go_num, by rw [HOk.out]; rfl, HZ1'.out, HZ2'.out, by rw [← vals_set]; exact n2.set k _, b2.trans (St.below_set (B := w.heap.size) (w := w2) (x := ⟨w.heap.size, k, none⟩) b2.size (Nat.le_refl _) _)⟩
          case measure => simp [intOf]; omega
    · obtain rfl : n = k := by omega
      have e := vals_congr (n := n) (z := zo) (z' := Z) (fun j hj => hz1 j hj)
      rw [e] at nA
      clear hz1 hz2 e
      go_wp2
      go_ret2
      exact ⟨_, rfl, nA, Nat.le_refl _, kr⟩
end Go.Proofs.YtdgcnaijndocnaaGreatDoor
