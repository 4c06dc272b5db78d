/-
  Package chance (layer 14): a whole number by shares.
-/
import Derived.Test.YtlomfjacgomhdaaDoorCnI
import Derived.Test.YtlomfjacgomhdaaDoorQG
import Derived.Test.YtlomfjacgomhdaaDoorStA
import Derived.Deep.OwnRows
import Derived.RegionTactic
import Derived.ChangeAlike
import Derived.BigRegion
import Derived.Deep.DeepCutAuto
import Derived.Deep.CutRange
set_option linter.unusedSimpArgs false
set_option linter.unusedVariables false
namespace Go.Proofs.YtlomfjacgomhdaaDoor
open Go.RowKit Vc Cn St Qn

namespace Cn
/-- Numbers without a sign as values. -/
def valsU (n : Nat) (z : Nat → Int) : List Value := (List.range n).map fun k => Value.int .u64 (z k)
theorem valsU_len (n : Nat) (z : Nat → Int) : (valsU n z).length = n := by simp [valsU]
theorem valsU_at {n k : Nat} {z : Nat → Int} (h : k < n) : (valsU n z)[k]? = some (.int .u64 (z k)) := by simp [valsU, h]
theorem valsU_congr {n : Nat} {z z' : Nat → Int} (h : ∀ k, k < n → z k = z' k) : valsU n z = valsU n z' := by
  unfold valsU
  exact List.map_congr_left fun k hk => by rw [h k (List.mem_range.1 hk)]
theorem valsU_set (n j : Nat) (x : Int) (z : Nat → Int) : (valsU n z).set j (.int .u64 x) = valsU n (fun k => if k = j then x else z k) := by
  apply List.ext_getElem?
  intro i
  by_cases hi : i < n
  · rw [valsU_at hi, List.getElem?_set, valsU_len]
    by_cases e : j = i
    · subst e; simp [hi]
    · rw [if_neg e, valsU_at hi, if_neg (fun h => e h.symm)]
  · rw [List.getElem?_eq_none (by simp [valsU_len]; omega), List.getElem?_eq_none (by rw [valsU_len]; omega)]
theorem infoU64 : (Tryd.prog.info? 59).map (fun i => (i.zero, i.size, i.bytes)) = some (some (.int .u64 0), 1, 8) := by kernel_rfl
theorem makeI (n : Nat) (hn : n ≤ 4) (W : World) : (Instr.makeSlice 22 (.int .i64 (n : Int)) (.int .i64 (n : Int))).run Tryd.prog W = .ok (.slice (some ⟨W.heap.size, 0, none⟩) n n) (W.alloc (.cells (vals n (fun _ => 0)).toArray 2)) := by
  have h := Go.run_make_row' (P := Tryd.prog) 22 2 (.int .i64 0) 8 Tryd.underlying22 infoI64 rfl .i64 .i64 n (by omega) (by omega) W
  have e : madeCells #[Value.int .i64 0] n = (vals n (fun _ => 0)).toArray := by
    apply Array.ext'
    rw [toList_madeCells_one]
    apply List.ext_getElem?
    intro i
    by_cases hi : i < n
    · rw [List.toList_toArray, vals_at hi, List.getElem?_replicate, if_pos hi]
    · rw [List.toList_toArray, List.getElem?_eq_none (by simp; omega), List.getElem?_eq_none (by rw [vals_len]; omega)]
  rw [e] at h
  exact h
theorem makeU (n : Nat) (hn : n ≤ 4) (W : World) : (Instr.makeSlice 60 (.int .i64 (n : Int)) (.int .i64 (n : Int))).run Tryd.prog W = .ok (.slice (some ⟨W.heap.size, 0, none⟩) n n) (W.alloc (.cells (valsU n (fun _ => 0)).toArray 59)) := by
  have h := Go.run_make_row' (P := Tryd.prog) 60 59 (.int .u64 0) 8 Tryd.underlying60 infoU64 rfl .i64 .i64 n (by omega) (by omega) W
  have e : madeCells #[Value.int .u64 0] n = (valsU n (fun _ => 0)).toArray := by
    apply Array.ext'
    rw [toList_madeCells_one]
    apply List.ext_getElem?
    intro i
    by_cases hi : i < n
    · rw [List.toList_toArray, valsU_at hi, List.getElem?_replicate, if_pos hi]
    · rw [List.toList_toArray, List.getElem?_eq_none (by simp; omega), List.getElem?_eq_none (by rw [valsU_len]; omega)]
  rw [e] at h
  exact h
theorem tot_max {a : Nat → Int} {n : Nat} (ha : ∀ k, k < n → 0 ≤ a k ∧ a k ≤ 4611686018427387903) : ∀ {k : Nat}, k ≤ n → 0 ≤ tot a k ∧ tot a k ≤ 4611686018427387903 * k
  | 0, _ => ⟨Int.le_refl _, by show (0 : Int) ≤ _; omega⟩
  | k + 1, h => by
    have h1 := tot_max ha (k := k) (by omega)
    have h2 := ha k (by omega)
    show 0 ≤ tot a k + a k ∧ tot a k + a k ≤ _
    omega
/-- The words of a product by a sum that is no less than one of them. -/
theorem words_of {m x S : Int} (hm0 : 0 ≤ m) (hm1 : m ≤ 1073741824) (hx0 : 0 ≤ x) (hx : x ≤ S) (hS : 0 < S) (hS1 : S ≤ 18446744073709551615) :
    0 ≤ mi (m * x) ∧ mi (m * x) < S ∧ 0 ≤ lo (m * x) ∧ lo (m * x) ≤ 18446744073709551615 ∧ mi (m * x) * 18446744073709551616 + lo (m * x) = m * x ∧ 0 ≤ m * x / S ∧ m * x / S ≤ m ∧ 0 ≤ m * x % S ∧ m * x % S < S := by
  have h0 : 0 ≤ m * x := Int.mul_nonneg hm0 hx0
  have h1 : m * x ≤ 1073741824 * S := Int.mul_le_mul hm1 hx hx0 (by omega)
  have h2 : m * x ≤ m * S := Int.mul_le_mul_of_nonneg_left hx hm0
  have h3 : m * x / S ≤ m := by
    have := Int.ediv_le_ediv hS h2
    rw [Int.mul_ediv_cancel m (by omega)] at this
    exact this
  have h4 := Int.ediv_nonneg h0 (Int.le_of_lt hS)
  have h5 := Int.emod_nonneg (m * x) (by omega : S ≠ 0)
  have h6 := Int.emod_lt_of_pos (m * x) hS
  unfold mi lo
  refine ⟨?_, ?_, ?_, ?_, ?_, h4, h3, h5, h6⟩ <;> omega
end Cn

set_option maxRecDepth 10000 in
set_option maxHeartbeats 4000000 in
/-- A whole number by shares. -/
theorem cshares_any (m : Int) (ao : Option Addr) (n ca : Nat) (a : Nat → Int) (w : World) (ha : Sl w ao n ca a) (hn : n ≤ 4) (hm0 : 0 ≤ m) (hm1 : m ≤ 1073741824) (hz : ∀ k, k < n → 0 ≤ a k ∧ a k ≤ 4611686018427387903) (hS : 0 < tot a n) :
    Calls Tryd.prog 21 #[.int .i64 m, .slice ao n ca] w fun e w' => ∃ g : Nat, e = .returned (.slice (some ⟨g, 0, none⟩) n n) ∧ CRow w' g 2 (vals n (sh m a n)) ∧ w.heap.size ≤ g ∧ Below w.heap.size w w' := by
  have hn0 := n_pos hS
  obtain ⟨x, hao, hca⟩ := ha.get
  have l1 := ha.le
  have l2 := ha.cap
  obtain rfl := hao hn0
  have HC := hideH hca
  have HZ := hideH hz
  have HT : Hid (∀ k, k ≤ n → 0 ≤ tot a k ∧ tot a k ≤ 18446744073709551612) := fun k hk => by have := tot_max hz hk; omega
  have HS := hideH hS
  have HA : Hid (∀ k, k < n → a k ≤ tot a n) := fun k hk => tot_le_each (fun j hj => (hz j hj).1) hk
  have HN : Hid (∀ i, i < n → 0 ≤ a i) := fun i hi => (hz i hi).1
  clear ha hao hca hz hS
  go_enter Tryd.func21, Tryd.ntmps21
  go_wp2
  go_loopw [5, 20] (fun s i wr => ∃ k : Nat, k ≤ n ∧ i = .int .i64 (k : Int) ∧ s = .int .u64 (tot a k) ∧ w = wr) (fun _ i _ => n - (intOf i).toNat)
  case atStart => exact ⟨0, by omega, rfl, rfl, rfl⟩
  case round =>
    obtain ⟨k, hk, rfl, rfl, rfl⟩ := hrel
    by_cases h : k < n
    · have c1 := HC.out k h
      have hz := HZ.out k h
      have ht := HT.out k hk
      have ht' := HT.out (k + 1) h
      have HU : Hid (tot a (k + 1) = tot a k + a k) := rfl
      obtain ⟨P, hP⟩ : ∃ P, P = a k := ⟨_, rfl⟩
      obtain ⟨T, hT⟩ : ∃ T, T = tot a k := ⟨_, rfl⟩
      rw [← hP] at c1 HU hz
      rw [← hT] at HU ht ⊢
      rw [HU.out] at ht'
      clear hP hT
      have e1 : IntKind.u64.wrap P = P := by rw [IntKind.wrap_u64]; omega
      have e2 : IntKind.u64.wrap (T + P) = T + P := by rw [IntKind.wrap_u64]; omega
      go_wp2
      go_roundw
      case rel => exact ⟨k + 1, by omega, by go_num, by rw [HU.out], trivial⟩
      case measure => simp [intOf]; omega
    · obtain rfl : k = n := by omega
      have hSb := HT.out k (Nat.le_refl _)
      have hS0 := HS.out
      have HQ : Hid (∀ j, qt m a k j = m * a j / tot a k ∧ rt m a k j = m * a j % tot a k) := fun j => ⟨rfl, rfl⟩
      have HLF : Hid (m - tot (qt m a k) k = lf m a k ∧ 0 ≤ lf m a k ∧ lf m a k < k) := ⟨rfl, lf_in HS.out⟩
      have HQ0 : Hid (∀ j, j ≤ k → 0 ≤ tot (qt m a k) j ∧ tot (qt m a k) j ≤ m) := fun j hj => by
        have h1 := tot_nn (a := qt m a k) (n := j) (fun i hi => qt_nn hm0 HN.out HS.out (by omega))
        have h2 := tot_up' (a := qt m a k) (n := k) (k := j) (fun i hi => qt_nn hm0 HN.out HS.out hi) hj
        have h3 := (lf_in (m := m) HS.out).1
        unfold lf at h3
        omega
      obtain ⟨S, hS⟩ : ∃ S, S = tot a k := ⟨_, rfl⟩
      have HSS := hideH hS
      rw [← hS] at hSb hS0 HQ HA ⊢
      clear hS h hk
      have hmi := makeI k hn
      have hmu := makeU k hn
      have nA0 := (crow_new w 2 (vals k (fun _ => 0))).alloc (.cells (valsU k (fun _ => 0)).toArray 59)
      have nB0 := crow_new1 w (.cells (vals k (fun _ => 0)).toArray 2) 59 (valsU k (fun _ => 0))
      have nA1 := crow_new1 w (.cells (valsU k (fun _ => 0)).toArray 59) 2 (vals k (fun _ => 0))
      have nB1 := (crow_new w 59 (valsU k (fun _ => 0))).alloc (.cells (vals k (fun _ => 0)).toArray 2)
      have b0 := below_al (below_al (Below.refl _ w) (.cells (vals k (fun _ => 0)).toArray 2)) (.cells (valsU k (fun _ => 0)).toArray 59)
      have b1 := below_al (below_al (Below.refl _ w) (.cells (valsU k (fun _ => 0)).toArray 59)) (.cells (vals k (fun _ => 0)).toArray 2)
      go_upto_region 7 with fail
      go_cut [8, 9] (fun p q wx => ∃ a b : Nat, p = .slice (some ⟨a, 0, none⟩) k k ∧ q = .slice (some ⟨b, 0, none⟩) k k ∧ ¬ a = b ∧ CRow wx a 2 (vals k (fun _ => 0)) ∧ CRow wx b 59 (valsU k (fun _ => 0)) ∧ w.heap.size ≤ a ∧ w.heap.size ≤ b ∧ Below w.heap.size w wx)
      case first =>
        go_region
        all_goals go_wp2_with fail
        all_goals go_meet
        all_goals refine ⟨_, _, rfl, rfl, ?_⟩
        all_goals first
          | exact ⟨by omega, nA0, nB0, by omega, by omega, b0.drew⟩
          | exact ⟨by omega, nA1, nB1, by omega, by omega, b1.drew⟩
      rename World => wx
      obtain ⟨ga, gb, rfl, rfl, hab, nA, nB, za, zb, kc⟩ := hcut
      have hba : ¬ gb = ga := fun q => hab q.symm
      clear nA0 nB0 nA1 nB1 b0 b1 hmi hmu
      have HKC := hideH kc
      clear kc
      have HXA := hideH nA
      have HXB := hideH nB
      clear nA nB
      go_wp2
      go_loopw [10, 38] (fun l i wr => ∃ (j : Nat) (zo zc : Nat → Int), j ≤ k ∧ i = .int .i64 (j : Int) ∧ l = .int .i64 (m - tot (qt m a k) j) ∧ (∀ q, q < j → zo q = qt m a k q ∧ zc q = rt m a k q) ∧ CRow wr ga 2 (vals k zo) ∧ CRow wr gb 59 (valsU k zc) ∧ Below w.heap.size w wr) (fun _ i _ => k - (intOf i).toNat)
      case atStart => exact ⟨0, fun _ => 0, fun _ => 0, by omega, rfl, by show Value.int .i64 m = .int .i64 (m - 0); rw [Int.sub_zero], fun q hq => by omega, HXA.out, HXB.out, HKC.out⟩
      case round =>
        rename World => wl
        obtain ⟨j, zo, zc, hj, rfl, rfl, hzz, nA, nB, kl⟩ := hrel
        by_cases h : j < k
        · have c1 := keep_cell kl (HC.out j h)
          have hz := HZ.out j h
          have hq := HQ.out j
          have hq0 := HQ0.out j hj
          have hq1 := HQ0.out (j + 1) h
          have HU : Hid (tot (qt m a k) (j + 1) = tot (qt m a k) j + qt m a k j) := rfl
          have hw := words_of hm0 hm1 hz.1 (HA.out j h) hS0 (by omega)
          have HMul := hideH (fun W => mul64_any m (a j) hm0 (by omega) hz.1 (by omega) W)
          have HDiv := hideH (fun W => div64_any (mi (m * a j)) (lo (m * a j)) S W hw.1 hw.2.1 hw.2.2.1 hw.2.2.2.1 (by omega))
          rw [hw.2.2.2.2.1, ← hq.1, ← hq.2] at HDiv
          rw [← hq.1, ← hq.2] at hw
          have HZZ := hideH hzz
          obtain ⟨P, hP⟩ : ∃ P, P = a j := ⟨_, rfl⟩
          obtain ⟨Q, hQ⟩ : ∃ Q, Q = qt m a k j := ⟨_, rfl⟩
          obtain ⟨R, hR⟩ : ∃ R, R = rt m a k j := ⟨_, rfl⟩
          obtain ⟨T, hT⟩ : ∃ T, T = tot (qt m a k) j := ⟨_, rfl⟩
          obtain ⟨X, hX⟩ : ∃ X, X = mi (m * a j) := ⟨_, rfl⟩
          obtain ⟨Y, hY⟩ : ∃ Y, Y = lo (m * a j) := ⟨_, rfl⟩
          have HNX : Hid (∀ q, q < j + 1 → (if q = j then Q else zo q) = qt m a k q ∧ (if q = j then R else zc q) = rt m a k q) := fun q hq => by
            by_cases e : q = j
            · rw [if_pos e, if_pos e, e]; exact ⟨hQ, hR⟩
            · rw [if_neg e, if_neg e]; exact hzz q (by omega)
          rw [← hX, ← hY] at hw HDiv HMul
          rw [← hQ, ← hR] at hw HDiv
          rw [HU.out, ← hT, ← hQ] at hq1
          rw [← hT] at hq0
          rw [← hT, ← hQ] at HU
          rw [← hP] at c1 hz HMul
          rw [← hT]
          have hq2 := hw.2.2.2.2.2.1
          have hq3 := hw.2.2.2.2.2.2.1
          have hr0 := hw.2.2.2.2.2.2.2.1
          have hr1 := hw.2.2.2.2.2.2.2.2
          have d1 := nA.cell (vals_at (z := zo) h) rfl
          have d2 := nB.cell (valsU_at (z := zc) h) rfl
          have f1 := nA.free j
          have f2 := nB.free j
          have HM1 : Hid (∀ nd, CRow (((wl.drewN nd).setCell ⟨ga, j, none⟩ (.int .i64 Q)).setCell ⟨gb, j, none⟩ (.int .u64 R)) ga 2 (vals k (fun q => if q = j then Q else zo q))) := fun nd => by
            have h1 := ((nA.drewN nd).set j (.int .i64 Q)).other (p := ⟨gb, j, none⟩) (.int .u64 R) hab
            rw [vals_set] at h1; exact h1
          have HM2 : Hid (∀ nd, CRow (((wl.drewN nd).setCell ⟨ga, j, none⟩ (.int .i64 Q)).setCell ⟨gb, j, none⟩ (.int .u64 R)) gb 59 (valsU k (fun q => if q = j then R else zc q))) := fun nd => by
            have h1 := ((nB.drewN nd).other (p := ⟨ga, j, none⟩) (.int .i64 Q) hba).set j (.int .u64 R)
            rw [valsU_set] at h1; exact h1
          have HK : Hid (∀ nd, Below w.heap.size w (((wl.drewN nd).setCell ⟨ga, j, none⟩ (.int .i64 Q)).setCell ⟨gb, j, none⟩ (.int .u64 R))) := fun nd => by
            have h1 := Vc.below_drewN kl nd
            have s1 : w.heap.size ≤ (wl.drewN nd).heap.size := Nat.le_trans za (Nat.le_of_lt nA.lt)
            have h2 := St.below_set (B := w.heap.size) (w := wl.drewN nd) (x := ⟨ga, j, none⟩) s1 za (.int .i64 Q)
            exact (h1.trans h2).trans (St.below_set (Nat.le_trans s1 h2.size) zb (.int .u64 R))
          have e1 : IntKind.u64.wrap m = m := by rw [IntKind.wrap_u64]; omega
          have e2 : IntKind.u64.wrap P = P := by rw [IntKind.wrap_u64]; omega
          have e3 : IntKind.i64.wrap Q = Q := by rw [IntKind.wrap_i64]; omega
          have e4 : IntKind.i64.wrap (m - T - Q) = m - T - Q := by rw [IntKind.wrap_i64]; omega
          have HL : Hid (m - T - Q = m - (T + Q)) := by show m - T - Q = m - (T + Q); omega
          clear hP hQ hR hT hX hY hw hzz hq nA nB kl
          go_wp2_with (first
            | (go_at_call 30; refine (HMul.out _).mono ?_; rintro e w' ⟨rfl, q⟩; obtain rfl := q.symm)
            | (go_at_call 31; refine (HDiv.out _).mono ?_; rintro e w' ⟨rfl, nd, q⟩; obtain rfl := q))
          go_roundw
          case rel => exact ⟨j + 1, _, _, by omega, by go_num, by rw [HU.out, ← HL.out], HNX.out, HM1.out nd, HM2.out nd, HK.out nd⟩
          case measure => simp [intOf]; omega
        · obtain rfl : k = j := by omega
          have m1 : CRow wl ga 2 (vals k (giv k (qt m a k) (rt m a k) 0).1) := by
            have e := vals_congr (n := k) (z := zo) (z' := qt m a k) (fun q hq => (hzz q hq).1)
            rw [e] at nA; exact nA
          have m2 : CRow wl gb 59 (valsU k (giv k (qt m a k) (rt m a k) 0).2) := by
            have e := valsU_congr (n := k) (z := zc) (z' := rt m a k) (fun q hq => (hzz q hq).2)
            rw [e] at nB; exact nB
          have hl := HLF.out
          rw [hl.1]
          have HGI : Hid (∀ t : Nat, (t : Int) ≤ lf m a k → ∀ i, i < k → 0 ≤ (giv k (qt m a k) (rt m a k) t).1 i ∧ (giv k (qt m a k) (rt m a k) t).1 i ≤ m + 1) := fun t ht i hi => by
            have := giv_in HS.out hm0 HN.out ht hi
            omega
          have HSH : Hid (vals k (giv k (qt m a k) (rt m a k) (lf m a k).toNat).1 = vals k (sh m a k)) := vals_congr fun i hi => giv_sh HS.out hi
          obtain ⟨lv, hlv⟩ : ∃ lv, lv = lf m a k := ⟨_, rfl⟩
          rw [← hlv] at hl HGI HSH ⊢
          have hl0 := hl.2.1
          have hl1 := hl.2.2
          have HX1 := hideH m1
          have HX2 := hideH m2
          have HKL := hideH kl
          clear hzz nA nB m1 m2 hl hlv kl
          go_wp2
          go_loopw [75] (fun i wr => ∃ t : Nat, (t : Int) ≤ lv ∧ i = .int .i64 (t : Int) ∧ CRow wr ga 2 (vals k (giv k (qt m a k) (rt m a k) t).1) ∧ CRow wr gb 59 (valsU k (giv k (qt m a k) (rt m a k) t).2) ∧ Below w.heap.size w wr) (fun i _ => lv.toNat - (intOf i).toNat)
          case atStart => exact ⟨0, by omega, rfl, HX1.out, HX2.out, HKL.out⟩
          case round =>
            rename World => wq
            obtain ⟨t, ht, rfl, nA, nB, kq⟩ := hrel
            by_cases h : (t : Int) < lv
            · have hgi := HGI.out t ht
              have U1 : Hid ((giv k (qt m a k) (rt m a k) (t + 1)).1 = fun i => if i = mst (giv k (qt m a k) (rt m a k) t).2 k then (giv k (qt m a k) (rt m a k) t).1 i + 1 else (giv k (qt m a k) (rt m a k) t).1 i) := rfl
              have U2 : Hid ((giv k (qt m a k) (rt m a k) (t + 1)).2 = fun i => if i = mst (giv k (qt m a k) (rt m a k) t).2 k then 0 else (giv k (qt m a k) (rt m a k) t).2 i) := rfl
              obtain ⟨O, hO⟩ : ∃ O, O = (giv k (qt m a k) (rt m a k) t).1 := ⟨_, rfl⟩
              obtain ⟨Z, hZ⟩ : ∃ Z, Z = (giv k (qt m a k) (rt m a k) t).2 := ⟨_, rfl⟩
              rw [← hO] at nA hgi U1
              rw [← hZ] at nB U1 U2
              obtain ⟨k1, hk1⟩ : ∃ k1, k = k1 + 1 := ⟨k - 1, by omega⟩
              have hq : mst Z k < k := by rw [hk1]; have := mst_lt Z k1; omega
              have hs := mst_spec Z k1
              rw [← hk1] at hs
              have hmx : mx Z k = Z (mst Z k) := by rw [hk1]; exact mx_is Z k1
              have hcu : ∀ i, i < k → wq.cell? ((⟨gb, 0, none⟩ : Addr).add i) = some (.int .u64 (Z i)) := fun i hi => by rw [Addr.add_lit, Nat.zero_add]; exact nB.cell (valsU_at hi) rfl
              have HMx := hideH (cmaxU_any ⟨gb, 0, none⟩ k k Z wq hn0 (Nat.le_refl _) (by omega) hcu)
              have HIx := hideH (cindexU_any ⟨gb, 0, none⟩ k k Z (mx Z k) (mst Z k) wq hq (Nat.le_refl _) (by omega) hcu hmx.symm (fun i hi => by rw [hmx]; have := hs.2 i hi; omega))
              have hgq := hgi (mst Z k) hq
              obtain ⟨q, hqq⟩ : ∃ q, q = mst Z k := ⟨_, rfl⟩
              rw [← hqq] at hq HIx hgq U1 U2
              obtain ⟨M, hM⟩ : ∃ M, M = mx Z k := ⟨_, rfl⟩
              rw [← hM] at HMx HIx
              have d1 := nA.cell (vals_at (z := O) hq) rfl
              have d2 := nB.cell (valsU_at (z := Z) hq) rfl
              have f1 := nA.free q
              have f2 := nB.free q
              have HM1 : Hid (CRow ((wq.setCell ⟨ga, q, none⟩ (.int .i64 (O q + 1))).setCell ⟨gb, q, none⟩ (.int .u64 0)) ga 2 (vals k (giv k (qt m a k) (rt m a k) (t + 1)).1)) := by
                have h1 := (nA.set q (.int .i64 (O q + 1))).other (p := ⟨gb, q, none⟩) (.int .u64 0) hab
                rw [vals_set] at h1
                rw [U1.out]
                have e : (fun i => if i = q then O i + 1 else O i) = (fun i => if i = q then O q + 1 else O i) := funext fun i => by
                  by_cases e : i = q
                  · rw [if_pos e, if_pos e, e]
                  · rw [if_neg e, if_neg e]
                rw [e]; exact h1
              have HM2 : Hid (CRow ((wq.setCell ⟨ga, q, none⟩ (.int .i64 (O q + 1))).setCell ⟨gb, q, none⟩ (.int .u64 0)) gb 59 (valsU k (giv k (qt m a k) (rt m a k) (t + 1)).2)) := by
                have h1 := (nB.other (p := ⟨ga, q, none⟩) (.int .i64 (O q + 1)) hba).set q (.int .u64 0)
                rw [valsU_set] at h1
                rw [U2.out]; exact h1
              have HK : Hid (Below w.heap.size w ((wq.setCell ⟨ga, q, none⟩ (.int .i64 (O q + 1))).setCell ⟨gb, q, none⟩ (.int .u64 0))) := by
                have s1 : w.heap.size ≤ wq.heap.size := Nat.le_trans za (Nat.le_of_lt nA.lt)
                have h2 := St.below_set (B := w.heap.size) (w := wq) (x := ⟨ga, q, none⟩) s1 za (.int .i64 (O q + 1))
                exact (kq.trans h2).trans (St.below_set (Nat.le_trans s1 h2.size) zb (.int .u64 0))
              obtain ⟨V, hV⟩ : ∃ V, V = O q := ⟨_, rfl⟩
              rw [← hV] at d1 HM1 HM2 HK hgq
              have e1 : IntKind.i64.wrap (V + 1) = V + 1 := by rw [IntKind.wrap_i64]; omega
              clear hV hM hqq hs hmx hcu hgi hO hZ U1 U2 nA nB kq hk1
              go_wp2_with (first
                | (go_at_call 33; refine HMx.out.mono ?_; rintro e w' ⟨rfl, q⟩; obtain rfl := q.symm)
                | (go_at_call 32; refine HIx.out.mono ?_; rintro e w' ⟨rfl, q⟩; obtain rfl := q.symm))
              go_roundw
              case rel => exact ⟨t + 1, by omega, by go_num, HM1.out, HM2.out, HK.out⟩
              case measure => simp [intOf]; omega
            · have e1 : t = lv.toNat := by omega
              subst e1
              rw [HSH.out] at nA
              go_wp2
              go_ret
              exact ⟨ga, rfl, nA, za, kq⟩
end Go.Proofs.YtlomfjacgomhdaaDoor
