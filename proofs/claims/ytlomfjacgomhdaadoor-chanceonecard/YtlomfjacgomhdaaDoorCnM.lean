/-
  Package chance (layer 14): Of, Mix: the contracts that the laws' walks ask for; all of them.
-/
import Derived.Test.YtlomfjacgomhdaaDoorCnK
import Derived.Test.YtlomfjacgomhdaaDoorButA
set_option linter.unusedSimpArgs false
set_option linter.unusedVariables false
namespace Go.Proofs.YtlomfjacgomhdaaDoor
open Go.RowKit Vc Cn St Qn Ld

set_option maxRecDepth 10000 in
set_option maxHeartbeats 2000000 in
theorem cof_err (W : World) (ao : Option Addr) (n ca : Nat) (z : Nat → Int) (fl : Int) (ha : Sl W ao n ca z) (hno : ¬ MayW n z fl) :
    Calls Tryd.prog 6 #[.slice ao n ca, .int .i64 fl] W fun e w' => e = .returned (.tuple #[.slice none 0 0, errV 1]) ∧ w' = W := by
  have l1 := ha.le
  have l2 := ha.cap
  by_cases hm : 1 ≤ n ∧ n ≤ 4
  · have HM := hideH (fun W => cmany_yes (n : Int) W (by omega) (by omega))
    by_cases hw : ∀ k, k < n → 0 ≤ z k ∧ z k ≤ 4611686018427387903
    · have HW := hideH (cwithin_any 0 4611686018427387903 ao n ca z W ha true (fun _ => hw) (fun q => by cases q))
      have HF := hideH (fun W => cfloor_no fl W (fun q => hno ⟨hm.1, hm.2, q.1, q.2, hw⟩))
      clear ha hno hw
      go_enter Tryd.func6, Tryd.ntmps6
      go_wp2_with (first
        | (go_at_call 18; refine (HM.out _).mono ?_; rintro e w' ⟨rfl, q⟩; obtain rfl := q.symm)
        | (go_at_call 19; refine HW.out.mono ?_; rintro e w' ⟨rfl, q⟩; obtain rfl := q.symm)
        | (go_at_call 20; refine (HF.out _).mono ?_; rintro e w' ⟨rfl, q⟩; obtain rfl := q.symm))
      go_ret2
      exact ⟨rfl, rfl⟩
    · have HW := hideH (cwithin_any 0 4611686018427387903 ao n ca z W ha false (fun q => by cases q) (fun _ => Classical.byContradiction fun q => hw fun k hk => Classical.byContradiction fun q' => q ⟨k, hk, q'⟩))
      clear ha hno hw
      go_enter Tryd.func6, Tryd.ntmps6
      go_wp2_with (first
        | (go_at_call 18; refine (HM.out _).mono ?_; rintro e w' ⟨rfl, q⟩; obtain rfl := q.symm)
        | (go_at_call 19; refine HW.out.mono ?_; rintro e w' ⟨rfl, q⟩; obtain rfl := q.symm))
      go_ret2
      exact ⟨rfl, rfl⟩
  · have HM := hideH (fun W => cmany_no (n : Int) W (by omega))
    clear ha hno
    go_enter Tryd.func6, Tryd.ntmps6
    go_wp2_with (go_at_call 18; refine (HM.out _).mono ?_; rintro e w' ⟨rfl, q⟩; obtain rfl := q.symm)
    go_ret2
    exact ⟨rfl, rfl⟩

set_option maxRecDepth 10000 in
set_option maxHeartbeats 2000000 in
theorem cn_of : COf := by
  intro W ao n ca z fl ha hb hf0 hf1
  by_cases hmay : MayW n z fl
  · obtain ⟨h1, h4, hfl, hfh, hz⟩ := hmay
    have HMAY := hideH (MayW.mk h1 h4 hfl hfh hz)
    have l1 := ha.le
    have l2 := ha.cap
    have HM := hideH (fun W => cmany_yes (n : Int) W (by omega) (by omega))
    have HF := hideH (fun W => cfloor_yes fl W hfl hfh)
    have HW := hideH (cwithin_any 0 4611686018427387903 ao n ca z W ha true (fun _ => hz) (fun q => by cases q))
    by_cases ht : tot z n = 0
    · have HW0 := hideH (cwithin_any 0 0 ao n ca z W ha true (fun _ k hk => by have := tot_zero (fun j hj => (hz j hj).1) ht hk; omega) (fun q => by cases q))
      have HT := hideH ht
      clear ha hb hz ht
      go_enter Tryd.func6, Tryd.ntmps6
      go_wp2_with (first
        | (go_at_call 18; refine (HM.out _).mono ?_; rintro e w' ⟨rfl, q⟩; obtain rfl := q.symm)
        | (go_at_call 19; (first | (with_reducible refine HW.out.mono ?_) | (with_reducible refine HW0.out.mono ?_)); rintro e w' ⟨rfl, q⟩; obtain rfl := q.symm)
        | (go_at_call 20; refine (HF.out _).mono ?_; rintro e w' ⟨rfl, q⟩; obtain rfl := q.symm))
      go_ret2
      exact ⟨_, 0, _, errV 11, rfl, Below.refl _ _, Sl.none _ _, Or.inr (Or.inl ⟨HMAY.out, HT.out, rfl, rfl⟩)⟩
    · have htp : 0 < tot z n := by have := tot_nn (a := z) (n := n) (fun k hk => (hz k hk).1); omega
      have HW0 := hideH (cwithin_any 0 0 ao n ca z W ha false (fun q => by cases q) (fun _ => Classical.byContradiction fun q => ht (by
        rw [tot_congr (b := fun _ => 0) (fun k hk => Classical.byContradiction fun q' => q ⟨k, hk, fun c => q' (by omega)⟩), tot_const, Int.zero_mul])))
      have HT := hideH htp
      have hF4 := mul_four hfl hfh h4
      have HSh := hideH (cshares_any (1073741824 - fl * (n : Int)) ao n ca z W ha h4 (by omega) (by omega) hz htp)
      have HB : Hid (∀ j, j < n → 0 ≤ sh (1073741824 - fl * (n : Int)) z n j ∧ sh (1073741824 - fl * (n : Int)) z n j ≤ 1073741824) := fun j hj => by
        have q1 := sh_nn (m := 1073741824 - fl * (n : Int)) (by omega) (fun i hi => (hz i hi).1) htp hj
        have q2 := sh_le (m := 1073741824 - fl * (n : Int)) (by omega) (fun i hi => (hz i hi).1) htp hj
        omega
      obtain ⟨F, hF⟩ : ∃ F, fl * (n : Int) = F := ⟨_, rfl⟩
      rw [hF] at hF4 HSh HB
      obtain ⟨s, hs⟩ : ∃ s, s = sh (1073741824 - F) z n := ⟨_, rfl⟩
      rw [← hs] at HSh HB
      have HSS : Hid (s = sh (1073741824 - fl * (n : Int)) z n) := by rw [hF]; exact hs
      have e1 : IntKind.i64.wrap (fl * (n : Int)) = F := by rw [hF, IntKind.wrap_i64]; omega
      have e2 : IntKind.i64.wrap (1073741824 - F) = 1073741824 - F := by rw [IntKind.wrap_i64]; omega
      clear ha hb hz ht htp hF hs
      go_enter Tryd.func6, Tryd.ntmps6
      go_wp2_with (first
        | (go_at_call 18; refine (HM.out _).mono ?_; rintro e w' ⟨rfl, q⟩; obtain rfl := q.symm)
        | (go_at_call 19; (first | (with_reducible refine HW.out.mono ?_) | (with_reducible refine HW0.out.mono ?_)); rintro e w' ⟨rfl, q⟩; obtain rfl := q.symm)
        | (go_at_call 20; refine (HF.out _).mono ?_; rintro e w' ⟨rfl, q⟩; obtain rfl := q.symm)
        | (go_at_call 21; refine HSh.out.mono ?_; rintro e w1 ⟨g, rfl, c1, hg, k1⟩; have HC1 := hideH c1; have HK1 := hideH k1; clear c1 k1))
      go_loopw [35] (fun i wr => ∃ (k : Nat) (zo : Nat → Int), k ≤ n ∧ i = .int .i64 (k : Int) ∧ (∀ j, j < k → zo j = s j + fl) ∧ (∀ j, k ≤ j → zo j = s j) ∧ CRow wr g 2 (vals n zo) ∧ Below W.heap.size W wr) (fun i _ => n - (intOf i).toNat)
      case atStart => exact ⟨0, s, by omega, rfl, fun j hj => by omega, fun j hj => rfl, HC1.out, HK1.out⟩
      case round =>
        rename World => wr
        obtain ⟨k, zo, hk, rfl, hz1, hz2, nA, kr⟩ := hrel
        by_cases h : k < n
        · have d1 := nA.cell (vals_at (z := zo) h) rfl
          rw [hz2 k (Nat.le_refl _)] at d1
          have f1 := nA.free k
          have hbk := HB.out k h
          have m1 := nA.set k (.int .i64 (s k + fl))
          rw [vals_set] at m1
          have HM1 := hideH m1
          have HK := hideH (kr.trans (St.below_set (B := W.heap.size) (w := wr) (x := ⟨g, k, none⟩) kr.size hg (.int .i64 (s k + fl))))
          have HZ1 : Hid (∀ j, j < k + 1 → (if j = k then s k + fl else zo j) = s j + fl) := fun j hj => by
            by_cases e : j = k
            · rw [if_pos e, e]
            · rw [if_neg e]; exact hz1 j (by omega)
          have HZ2 : Hid (∀ j, k + 1 ≤ j → (if j = k then s k + fl else zo j) = s j) := fun j hj => by
            rw [if_neg (by omega)]; exact hz2 j (by omega)
          obtain ⟨V, hV⟩ : ∃ V, V = s k := ⟨_, rfl⟩
          rw [← hV] at d1 hbk HM1 HK HZ1 HZ2
          have e3 : IntKind.i64.wrap (V + fl) = V + fl := by rw [IntKind.wrap_i64]; omega
          clear m1 nA kr hz1 hz2 hV
          go_wp2
          go_roundw
          case rel => exact ⟨k + 1, _, by omega, by go_num, HZ1.out, HZ2.out, HM1.out, HK.out⟩
          case measure => simp [intOf]; omega
        · obtain rfl : n = k := by omega
          go_wp2
          go_ret2
          refine ⟨_, n, _, .nilIface, rfl, kr, (crow_sl nA h4).congr (fun j hj => ?_), Or.inr (Or.inr ⟨HMAY.out, HT.out, rfl, rfl⟩)⟩
          rw [hz1 j hj, HSS.out]
  · refine (cof_err W ao n ca z fl ha hmay).mono ?_
    rintro e w' ⟨rfl, rfl⟩
    exact ⟨_, 0, _, errV 1, rfl, Below.refl _ _, Sl.none _ _, Or.inl ⟨hmay, rfl, rfl⟩⟩

namespace Cn
theorem part_in {z : Nat → Int} {R : Nat → Nat → Int} {n i j : Nat} (hz : ∀ k, k < i → 0 ≤ z k ∧ z k ≤ 1073741824) (hR : ∀ k, k < i → 0 ≤ R k j ∧ R k j ≤ 1073741824) : 0 ≤ tot (fun k => z k * R k j) i ∧ tot (fun k => z k * R k j) i ≤ 1152921504606846976 * i := by
  induction i with
  | zero => exact ⟨Int.le_refl _, by show (0 : Int) ≤ _; omega⟩
  | succ i ih =>
    have h1 := ih (fun k hk => hz k (by omega)) (fun k hk => hR k (by omega))
    have h2 := hz i (by omega)
    have h3 := hR i (by omega)
    have h4 : 0 ≤ z i * R i j := Int.mul_nonneg h2.1 h3.1
    have h5 : z i * R i j ≤ 1073741824 * 1073741824 := Int.mul_le_mul h2.2 h3.2 h3.1 (by omega)
    show 0 ≤ tot (fun k => z k * R k j) i + z i * R i j ∧ tot (fun k => z k * R k j) i + z i * R i j ≤ _
    omega
end Cn

set_option maxRecDepth 10000 in
set_option maxHeartbeats 4000000 in
theorem cn_mix : CMix := by
  intro W ao lo n ca m cm z A L C R ha hb hl hr hrb
  have l1 := ha.le
  have l2 := ha.cap
  have l3 := hl.le
  have l4 := hl.cap
  by_cases hc : Ch n z 0
  · have HA := hideH (careChances_any 0 ao n ca z W ha (by omega) (by omega) true (fun _ => hc) (fun q => by cases q))
    by_cases hmn : m = n
    · subst hmn
      have h1 := hc.one
      have h4 := hc.four
      obtain ⟨x, hao, hca⟩ := ha.get
      obtain ⟨y, hlo, hcl⟩ := hl.get
      obtain rfl := hao (by omega)
      obtain rfl := hlo (by omega)
      have hmi := makeI m h4
      have HC := hideH hc
      have HZ : Hid (∀ k, k < m → 0 ≤ z k ∧ z k ≤ 1073741824) := fun k hk => hc.nn hk
      have HX := hideH hca
      have HY := hideH hcl
      have HR := hideH hr
      have HLX : Hid (∀ {k : Nat}, ¬ ((x.add k).block = W.heap.size)) := by
        intro k
        have q := World.block_lt_of_cell? W _ (hca 0 (by omega))
        rw [addr_block] at q ⊢; omega
      have HLT : Hid (∀ i, i < m → ∀ xr, A i = some xr → L i = m → ∀ {k : Nat}, ¬ ((xr.add k).block = W.heap.size)) := by
        intro i hi xr hxr hL k
        obtain ⟨y', e1, e2⟩ := (hr i hi).at' 0 (by omega)
        rw [hxr] at e1
        cases e1
        have q := World.block_lt_of_cell? W _ e2
        rw [addr_block] at q ⊢; omega
      have HN0 := hideH (crow_new W 2 (vals m (fun _ => 0)))
      have HB0 := hideH (below_al (Below.refl _ W) (.cells (vals m (fun _ => 0)).toArray 2))
      clear hb hao hlo hca hcl hrb ha hl hr hc
      go_enter Tryd.func16, Tryd.ntmps16
      go_wp2_with (go_at_call 24; refine HA.out.mono ?_; rintro e w' ⟨rfl, q⟩; obtain rfl := q.symm)
      go_loopw [27] (fun iv wr => ∃ (i : Nat) (zo : Nat → Int), i ≤ m ∧ iv = .int .i64 (i : Int) ∧ (∀ j, j < m → zo j = tot (fun q => z q * R q j) i) ∧ (∀ q, q < i → L q = m ∧ Ch m (R q) 0) ∧ CRow wr W.heap.size 2 (vals m zo) ∧ Below W.heap.size W wr) (fun iv _ => m - (intOf iv).toNat)
      case atStart => exact ⟨0, fun _ => 0, by omega, rfl, fun j hj => rfl, fun q hq => by omega, HN0.out, HB0.out⟩
      case round =>
        rename World => wr
        obtain ⟨i, zo, hi, rfl, hzo, hok, nA, kr⟩ := hrel
        by_cases h : i < m
        · have c1 := keep_cell kr (HY.out i h)
          have sR := (HR.out i h).keep kr
          have lR1 := sR.le
          have lR2 := sR.cap
          by_cases hL : L i = m
          · by_cases hch : Ch m (R i) 0
            · rw [hL] at c1 sR lR1
              have HA2 := hideH (careChances_any 0 (A i) m (C i) (R i) wr sR (by omega) (by omega) true (fun _ => hch) (fun q => by cases q))
              obtain ⟨xr, hxr, hcr⟩ := sR.get
              have hxr' := hxr (by omega)
              rw [hxr'] at c1 HA2
              obtain ⟨cc, hcc⟩ : ∃ cc, cc = C i := ⟨_, rfl⟩
              rw [← hcc] at c1 HA2 lR1 lR2
              have HCR := hideH hcr
              have HCH : Hid (∀ k, k < m → 0 ≤ R i k ∧ R i k ≤ 1073741824) := fun k hk => hch.nn hk
              have HXI := hideH (keep_cell kr (HX.out i h))
              have HOK' : Hid (∀ q, q < i + 1 → L q = m ∧ Ch m (R q) 0) := fun q hq => by
                by_cases e : q = i
                · rw [e]; exact ⟨hL, hch⟩
                · exact hok q (by omega)
              have HPB : Hid (∀ j, j < m → 0 ≤ tot (fun q => z q * R q j) i ∧ tot (fun q => z q * R q j) i ≤ 3458764513820540928) := fun j hj => by
                have := part_in (n := m) (i := i) (j := j) (R := R) (fun k hk => HZ.out k (by omega)) (fun k hk => (hok k hk).2.nn hj)
                omega
              have hzi := HZ.out i h
              have HNE : Hid (∀ {k : Nat}, ¬ ((xr.add k).block = W.heap.size)) := HLT.out i h xr hxr' hL
              have HNX : Hid (∀ {k : Nat}, ¬ ((x.add k).block = W.heap.size)) := HLX.out
              have HZO := hideH hzo
              have HNA := hideH nA
              have HKR := hideH kr
              clear hcr hxr hxr' hcc sR hch hok hzo nA kr hL
              go_wp2_with (go_at_call 24; refine HA2.out.mono ?_; rintro e w' ⟨rfl, q⟩; obtain rfl := q.symm)
              go_loopw [45] (fun jv wi => ∃ (j : Nat) (zi : Nat → Int), j ≤ m ∧ jv = .int .i64 (j : Int) ∧ (∀ q, q < j → zi q = tot (fun p => z p * R p q) i + z i * R i q) ∧ (∀ q, j ≤ q → q < m → zi q = tot (fun p => z p * R p q) i) ∧ CRow wi W.heap.size 2 (vals m zi) ∧ But (fun b => b = W.heap.size) wr wi) (fun jv _ => m - (intOf jv).toNat)
              case atStart => exact ⟨0, zo, by omega, rfl, fun q hq => by omega, fun q _ hq => HZO.out q hq, HNA.out, But.refl _ _⟩
              case round =>
                rename World => wi
                obtain ⟨j, zi, hj, rfl, hz1, hz2, nA, ki⟩ := hrel
                by_cases h' : j < m
                · have c2 := ki.cell (HCR.out j h') (HNE.out)
                  have c3 := ki.cell HXI.out (HNX.out)
                  have d1 := nA.cell (vals_at (z := zi) h') rfl
                  rw [hz2 j (Nat.le_refl _) h'] at d1
                  have f1 := nA.free j
                  have hR := HCH.out j h'
                  have hT := HPB.out j h'
                  have p0 : 0 ≤ z i * R i j := Int.mul_nonneg hzi.1 hR.1
                  have p1 : z i * R i j ≤ 1073741824 * 1073741824 := Int.mul_le_mul hzi.2 hR.2 hR.1 (by omega)
                  have m1 := nA.set j (.int .i64 (tot (fun p => z p * R p j) i + z i * R i j))
                  rw [vals_set] at m1
                  have HM1 := hideH m1
                  have HK := hideH (ki.set (p := ⟨W.heap.size, j, none⟩) (.int .i64 (tot (fun p => z p * R p j) i + z i * R i j)) rfl)
                  have HZ1 : Hid (∀ q, q < j + 1 → (if q = j then tot (fun p => z p * R p j) i + z i * R i j else zi q) = tot (fun p => z p * R p q) i + z i * R i q) := fun q hq => by
                    by_cases e : q = j
                    · rw [if_pos e, e]
                    · rw [if_neg e]; exact hz1 q (by omega)
                  have HZ2 : Hid (∀ q, j + 1 ≤ q → q < m → (if q = j then tot (fun p => z p * R p j) i + z i * R i j else zi q) = tot (fun p => z p * R p q) i) := fun q hq hq' => by
                    rw [if_neg (by omega)]; exact hz2 q (by omega) hq'
                  obtain ⟨T, hT'⟩ : ∃ T, T = tot (fun p => z p * R p j) i := ⟨_, rfl⟩
                  obtain ⟨X, hX'⟩ : ∃ X, X = z i * R i j := ⟨_, rfl⟩
                  rw [← hX'] at HM1 HK HZ1 HZ2 p0 p1
                  rw [← hT'] at d1 HM1 HK HZ1 HZ2 hT
                  obtain ⟨Y, hY'⟩ : ∃ Y, Y = z i := ⟨_, rfl⟩
                  obtain ⟨V, hV'⟩ : ∃ V, V = R i j := ⟨_, rfl⟩
                  rw [← hY'] at c3 hX'
                  rw [← hV'] at c2 hX'
                  have e1 : IntKind.i64.wrap (Y * V) = X := by rw [← hX', IntKind.wrap_i64]; omega
                  have e2 : IntKind.i64.wrap (T + X) = T + X := by rw [IntKind.wrap_i64]; omega
                  clear m1 nA ki hz1 hz2 hT' hX' hY' hV' p0 p1 hR
                  go_upto_region 12 with fail
                  go_region
                  all_goals go_wp2
                  all_goals go_roundw
                  all_goals first
                    | (case rel => exact ⟨j + 1, _, by omega, by go_num, HZ1.out, HZ2.out, HM1.out.drew, HK.out.drew⟩)
                    | (case measure => simp [intOf]; omega)
                · obtain rfl : m = j := by omega
                  have kb := ki.below HKR.out (by have := HNA.out.lt; omega) (fun b hb => by omega)
                  go_wp2
                  go_roundw
                  case rel => exact ⟨i + 1, zi, by omega, by go_num, fun q hq => by rw [hz1 q hq]; rfl, HOK'.out, nA, kb⟩
                  case measure => simp [intOf]; omega
            · rw [hL] at c1 sR lR1
              have HA2 := hideH (careChances_any 0 (A i) m (C i) (R i) wr sR (by omega) (by omega) false (fun q => by cases q) (fun _ => hch))
              have HE : Hid (¬ MayX m z m L R) := fun q => hch (q.row i h).2
              have HKR := hideH kr
              clear sR hch hok hzo nA kr hL
              go_wp2_with (go_at_call 24; refine HA2.out.mono ?_; rintro e w' ⟨rfl, q⟩; obtain rfl := q.symm)
              go_ret2
              exact ⟨_, 0, _, errV 1, rfl, HKR.out, Sl.none _ _, Or.inl ⟨HE.out, rfl, rfl⟩⟩
          · have e1 : (((L i : Nat) : Int) != ((m : Nat) : Int)) = true := by rw [bne_iff_ne]; omega
            have HE : Hid (¬ MayX m z m L R) := fun q => hL (q.row i h).1
            have HKR := hideH kr
            clear sR hok hzo nA kr hL
            go_wp2
            go_ret2
            exact ⟨_, 0, _, errV 1, rfl, HKR.out, Sl.none _ _, Or.inl ⟨HE.out, rfl, rfl⟩⟩
        · obtain rfl : m = i := by omega
          have may : MayX m z m L R := ⟨HC.out, rfl, hok⟩
          have e : vals m zo = vals m (mxw m z R) := vals_congr fun j hj => hzo j hj
          rw [e] at nA
          have HSh := hideH (cshares_any 1073741824 _ m m (mxw m z R) wr (crow_sl nA h4) h4 (by omega) (by omega) (fun k hk => ⟨mxw_nn may hk, by have := mxw_le may hk; omega⟩) (by rw [mxw_tot may]; omega))
          have HMAY := hideH may
          have HKR := hideH kr
          clear hzo hok e nA kr may
          go_wp2_with fail
          refine HSh.out.mono ?_
          rintro e w1 ⟨g, rfl, c1, hg, k1⟩
          go_wp2
          go_ret2
          exact ⟨_, m, _, .nilIface, rfl, below_tr HKR.out k1, crow_sl c1 h4, Or.inr ⟨HMAY.out, rfl, rfl⟩⟩
    · have HE : Hid (¬ MayX n z m L R) := fun q => hmn q.rows
      have e1 : (((m : Nat) : Int) != ((n : Nat) : Int)) = true := by rw [bne_iff_ne]; omega
      clear ha hb hl hr hrb hc hmn
      go_enter Tryd.func16, Tryd.ntmps16
      go_wp2_with (go_at_call 24; refine HA.out.mono ?_; rintro e w' ⟨rfl, q⟩; obtain rfl := q.symm)
      go_ret2
      exact ⟨_, 0, _, errV 1, rfl, Below.refl _ _, Sl.none _ _, Or.inl ⟨HE.out, rfl, rfl⟩⟩
  · have HA := hideH (careChances_any 0 ao n ca z W ha (by omega) (by omega) false (fun q => by cases q) (fun _ => hc))
    have HE : Hid (¬ MayX n z m L R) := fun q => hc q.ch
    clear ha hb hl hr hrb hc
    go_enter Tryd.func16, Tryd.ntmps16
    go_wp2_with (go_at_call 24; refine HA.out.mono ?_; rintro e w' ⟨rfl, q⟩; obtain rfl := q.symm)
    go_ret2
    exact ⟨_, 0, _, errV 1, rfl, Below.refl _ _, Sl.none _ _, Or.inl ⟨HE.out, rfl, rfl⟩⟩
/-- What package chance answers. -/
theorem chancePkg : Pkg := ⟨cn_of, cn_even, cn_check, cn_mix, cn_most⟩
end Go.Proofs.YtlomfjacgomhdaaDoor
