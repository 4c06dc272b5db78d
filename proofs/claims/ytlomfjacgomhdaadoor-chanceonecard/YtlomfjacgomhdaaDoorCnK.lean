/-
  Package chance (layer 14): Even, Of, Check, Mix, Most: the contracts that the laws' walks ask for.
-/
import Derived.Test.YtlomfjacgomhdaaDoorCnJ
set_option linter.unusedSimpArgs false
set_option linter.unusedVariables false
namespace Go.Proofs.YtlomfjacgomhdaaDoor
open Go.RowKit Vc Cn St Qn

namespace Cn
theorem crow_sl {w : World} {g n : Nat} {z : Nat → Int} (h : CRow w g 2 (vals n z)) (hn : n ≤ 4) : Sl w (some ⟨g, 0, none⟩) n n z :=
  ⟨Nat.le_refl _, by omega, fun k hk => ⟨_, rfl, by rw [Addr.add_lit, Nat.zero_add]; exact h.cell (vals_at hk) rfl⟩⟩
theorem tot_zero {a : Nat → Int} {n : Nat} (h0 : ∀ k, k < n → 0 ≤ a k) (h : tot a n = 0) {k : Nat} (hk : k < n) : a k = 0 := by
  have := tot_le_each h0 hk
  have := h0 k hk
  omega
end Cn

set_option maxRecDepth 10000 in
set_option maxHeartbeats 2000000 in
theorem cn_most : CMost := by
  intro W ao n ca z ha hb
  by_cases hm : 1 ≤ n ∧ n ≤ 4
  · have HM := hideH (fun W => cmany_yes (n : Int) W (by omega) (by omega))
    obtain ⟨x, hao, hca⟩ := ha.get
    have l1 := ha.le
    have l2 := ha.cap
    obtain rfl := hao (by omega)
    obtain ⟨n1, hn1⟩ : ∃ n1, n = n1 + 1 := ⟨n - 1, by omega⟩
    have hq : mst z n < n := by rw [hn1]; have := mst_lt z n1; omega
    have hs := mst_spec z n1
    rw [← hn1] at hs
    have hmx : mx z n = z (mst z n) := by rw [hn1]; exact mx_is z n1
    have HMx := hideH (cmaxI_any x n ca z W (by omega) l1 l2 hca)
    have HIx := hideH (cindexI_any x n ca z (mx z n) (mst z n) W hq l1 l2 hca hmx.symm (fun i hi => by rw [hmx]; have := hs.2 i hi; omega))
    obtain ⟨iq, hqq⟩ : ∃ q, q = mst z n := ⟨_, rfl⟩
    rw [← hqq] at hq HIx
    have HQQ := hideH hqq
    obtain ⟨M, hM⟩ : ∃ M, M = mx z n := ⟨_, rfl⟩
    rw [← hM] at HMx HIx
    clear hM hqq hmx hs hca ha hao hb hn1
    go_enter Tryd.func10, Tryd.ntmps10
    go_wp2_with (first
      | (go_at_call 18; refine (HM.out _).mono ?_; rintro e w' ⟨rfl, q⟩; obtain rfl := q.symm)
      | (go_at_call 26; refine HMx.out.mono ?_; rintro e w' ⟨rfl, q⟩; obtain rfl := q.symm)
      | (go_at_call 25; refine HIx.out.mono ?_; rintro e w' ⟨rfl, q⟩; obtain rfl := q.symm))
    go_ret2
    exact ⟨iq, .nilIface, rfl, Below.refl _ _, Or.inr ⟨hm.1, hm.2, HQQ.out, rfl⟩⟩
  · have HM := hideH (fun W => cmany_no (n : Int) W (by omega))
    have l1 := ha.le
    have l2 := ha.cap
    clear ha hb
    go_enter Tryd.func10, Tryd.ntmps10
    go_wp2_with (go_at_call 18; refine (HM.out _).mono ?_; rintro e w' ⟨rfl, q⟩; obtain rfl := q.symm)
    go_ret2
    exact ⟨0, errV 1, rfl, Below.refl _ _, Or.inl ⟨hm, rfl, rfl⟩⟩

set_option maxRecDepth 10000 in
set_option maxHeartbeats 2000000 in
theorem cn_check : CCheck := by
  intro W ao n ca z fl ha hb hf0 hf1
  by_cases hf : 0 ≤ fl ∧ fl ≤ 67108864
  · have HF := hideH (fun W => cfloor_yes fl W hf.1 hf.2)
    by_cases hc : Ch n z fl
    · have HA := hideH (careChances_any fl ao n ca z W ha hf.1 hf.2 true (fun _ => hc) (fun q => by cases q))
      have l1 := ha.le
      have l2 := ha.cap
      have HC := hideH hc
      clear ha hb hc
      go_enter Tryd.func9, Tryd.ntmps9
      go_wp2_with (first
        | (go_at_call 20; refine (HF.out _).mono ?_; rintro e w' ⟨rfl, q⟩; obtain rfl := q.symm)
        | (go_at_call 24; refine HA.out.mono ?_; rintro e w' ⟨rfl, q⟩; obtain rfl := q.symm))
      go_ret
      exact ⟨.nilIface, rfl, Below.refl _ _, Or.inl ⟨HC.out, rfl⟩⟩
    · have HA := hideH (careChances_any fl ao n ca z W ha hf.1 hf.2 false (fun q => by cases q) (fun _ => hc))
      have l1 := ha.le
      have l2 := ha.cap
      have HC := hideH hc
      clear ha hb hc
      go_enter Tryd.func9, Tryd.ntmps9
      go_wp2_with (first
        | (go_at_call 20; refine (HF.out _).mono ?_; rintro e w' ⟨rfl, q⟩; obtain rfl := q.symm)
        | (go_at_call 24; refine HA.out.mono ?_; rintro e w' ⟨rfl, q⟩; obtain rfl := q.symm))
      go_ret
      exact ⟨errV 1, rfl, Below.refl _ _, Or.inr ⟨HC.out, rfl⟩⟩
  · have HF := hideH (fun W => cfloor_no fl W hf)
    have HC : Hid (¬ Ch n z fl) := fun q => hf ⟨q.lo, q.hi⟩
    have l1 := ha.le
    have l2 := ha.cap
    clear ha hb
    go_enter Tryd.func9, Tryd.ntmps9
    go_wp2_with (go_at_call 20; refine (HF.out _).mono ?_; rintro e w' ⟨rfl, q⟩; obtain rfl := q.symm)
    go_ret
    exact ⟨errV 1, rfl, Below.refl _ _, Or.inr ⟨HC.out, rfl⟩⟩

set_option maxRecDepth 10000 in
set_option maxHeartbeats 2000000 in
theorem cn_even : CEven := by
  intro W n hn0 hn1
  by_cases hm : 1 ≤ n ∧ n ≤ 4
  · obtain ⟨N, rfl⟩ := Int.eq_ofNat_of_zero_le (by omega : 0 ≤ n)
    have HM := hideH (fun W => cmany_yes (N : Int) W hm.1 hm.2)
    have hmi := makeI N (by omega)
    have n0 := crow_new W 2 (vals N (fun _ => 0))
    have b0 := below_al (Below.refl _ W) (.cells (vals N (fun _ => 0)).toArray 2)
    have HN0 := hideH n0
    have HB0 := hideH b0
    have HSh : Hid (∀ w, CRow w W.heap.size 2 (vals N (fun _ => 1)) → Calls Tryd.prog 21 #[.int .i64 1073741824, .slice (some ⟨W.heap.size, 0, none⟩) N N] w fun e w' => ∃ g : Nat, e = .returned (.slice (some ⟨g, 0, none⟩) N N) ∧ CRow w' g 2 (vals N (sh 1073741824 (fun _ => 1) N)) ∧ w.heap.size ≤ g ∧ Below w.heap.size w w') := fun w h => cshares_any 1073741824 _ N N (fun _ => 1) w (crow_sl h (by omega)) (by omega) (by omega) (by omega) (fun k hk => ⟨by omega, by omega⟩) (by rw [tot_const]; omega)
    clear n0 b0
    go_enter Tryd.func8, Tryd.ntmps8
    go_wp2_with (go_at_call 18; refine (HM.out _).mono ?_; rintro e w' ⟨rfl, q⟩; obtain rfl := q.symm)
    go_loopw [14] (fun i wr => ∃ (k : Nat) (zo : Nat → Int), k ≤ N ∧ i = .int .i64 (k : Int) ∧ (∀ j, j < k → zo j = 1) ∧ CRow wr W.heap.size 2 (vals N zo) ∧ Below W.heap.size W wr) (fun i _ => N - (intOf i).toNat)
    case atStart => exact ⟨0, fun _ => 0, by omega, rfl, fun j hj => by omega, HN0.out, HB0.out⟩
    case round =>
      rename World => wr
      obtain ⟨k, zo, hk, rfl, hzo, nA, kr⟩ := hrel
      by_cases h : k < N
      · have d1 := nA.cell (vals_at (z := zo) h) rfl
        have f1 := nA.free k
        have m1 := nA.set k (.int .i64 1)
        rw [vals_set] at m1
        have HM1 := hideH m1
        have HK := hideH (kr.trans (St.below_set (B := W.heap.size) (w := wr) (x := ⟨W.heap.size, k, none⟩) kr.size (Nat.le_refl _) (.int .i64 1)))
        have HZ : Hid (∀ j, j < k + 1 → (if j = k then 1 else zo j) = 1) := fun j hj => by
          by_cases e : j = k
          · rw [if_pos e]
          · rw [if_neg e]; exact hzo j (by omega)
        clear m1 nA kr hzo
        go_wp2
        go_roundw
        case rel => exact ⟨k + 1, _, by omega, by go_num, HZ.out, HM1.out, HK.out⟩
        case measure => simp [intOf]; omega
      · obtain rfl : N = k := by omega
        have e := vals_congr (n := N) (z := zo) (z' := fun _ => 1) hzo
        rw [e] at nA
        clear e hzo
        go_wp2_with fail
        refine (HSh.out _ nA).mono ?_
        rintro e w1 ⟨g, rfl, c1, hg, k1⟩
        go_wp2
        go_ret2
        exact ⟨_, N, _, .nilIface, rfl, below_tr kr k1, crow_sl c1 (by omega), Or.inr ⟨hm.1, hm.2, rfl, rfl⟩⟩
  · have HM := hideH (fun W => cmany_no n W hm)
    go_enter Tryd.func8, Tryd.ntmps8
    go_wp2_with (go_at_call 18; refine (HM.out _).mono ?_; rintro e w' ⟨rfl, q⟩; obtain rfl := q.symm)
    go_ret2
    exact ⟨_, 0, _, errV 1, rfl, Below.refl _ _, Sl.none _ _, Or.inl ⟨hm, rfl, rfl⟩⟩
end Go.Proofs.YtlomfjacgomhdaaDoor
