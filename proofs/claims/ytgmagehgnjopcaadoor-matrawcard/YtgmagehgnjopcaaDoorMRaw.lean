/-
  What is proved: whatever rows, columns and numbers it is given, the law MatRaw of layer 8 returns true, ends without a panic, and leaves what was there as it was; its condition: the library's variable errors.errorType holds what the program's text lays there, which the card ties. (By py/MRaw.py.)
-/
import Derived.Test.YtgmagehgnjopcaaDoorMtK
import Derived.Test.YtgmagehgnjopcaaDoorMtG
import Derived.Test.YtgmagehgnjopcaaDoorErrA
import Derived.Test.YtgmagehgnjopcaaDoorFMatRaw
import Derived.Deep.CutRange
import Derived.Deep.DeepCutAuto
set_option linter.unusedSimpArgs false
set_option linter.unusedVariables false
namespace Go.Proofs.YtgmagehgnjopcaaDoor
open Go.RowKit Vc Mt Qn Dt

namespace Mt
/-- Are the first k numbers 0, from place p on? -/
def fz (p : Int) (z : Nat → Int) : Nat → Bool
  | 0 => true
  | k + 1 => fz p z k && (decide ((k : Int) < p) || z k == 0)
theorem fz_true {p : Int} {z : Nat → Int} : ∀ {t : Nat}, fz p z t = true ↔ ∀ k, k < t → (k : Int) < p ∨ z k = 0
  | 0 => ⟨fun _ k hk => by omega, fun _ => rfl⟩
  | t + 1 => by
    unfold fz
    rw [Bool.and_eq_true, fz_true, Bool.or_eq_true, decide_eq_true_iff, beq_iff_eq]
    refine ⟨fun h k hk => ?_, fun h => ⟨fun k hk => h k (by omega), h t (by omega)⟩⟩
    rcases Nat.lt_or_ge k t with c | c
    · exact h.1 k c
    · obtain rfl : k = t := by omega
      exact h.2
theorem fz_false {p : Int} {z : Nat → Int} {k t : Nat} (h : fz p z k = false) (hk : k ≤ t) : fz p z t = false := by
  cases e : fz p z t with
  | false => rfl
  | true =>
    have := fz_true.2 (fun j hj => fz_true.1 e j (by omega) : ∀ j, j < k → (j : Int) < p ∨ z j = 0)
    rw [h] at this; cases this
/-- May the sizes be? -/
def so (r c : Int) : Bool := decide (1 ≤ r ∧ r ≤ 6 ∧ 1 ≤ c ∧ c ≤ 6)
theorem may_iff {r c : Int} {z : Nat → Int} : May r c z ↔ (so r c && fz (r * c) z 36) = true := by
  rw [Bool.and_eq_true]
  unfold so
  rw [decide_eq_true_iff, fz_true]
  constructor
  · rintro ⟨n, m, rfl, rfl, h1, h2, h3, h4, h5⟩
    refine ⟨⟨by omega, by omega, by omega, by omega⟩, fun k hk => ?_⟩
    by_cases e : n * m ≤ k
    · exact Or.inr (h5 k e hk)
    · left
      have : ((n * m : Nat) : Int) = (n : Int) * m := by push_cast; rfl
      omega
  · rintro ⟨⟨h1, h2, h3, h4⟩, h5⟩
    obtain ⟨n, rfl⟩ : ∃ n : Nat, r = n := ⟨r.toNat, by omega⟩
    obtain ⟨m, rfl⟩ : ∃ m : Nat, c = m := ⟨c.toNat, by omega⟩
    refine ⟨n, m, rfl, rfl, by omega, by omega, by omega, by omega, fun k h6 h7 => ?_⟩
    rcases h5 k h7 with e | e
    · have : ((n * m : Nat) : Int) = (n : Int) * m := by push_cast; rfl
      omega
    · exact e
theorem may_mvals {r c : Int} {z : Nat → Int} (h : May r c z) : ∃ (n m : Nat) (F : Nat → Nat → Int), r = n ∧ c = m ∧ 1 ≤ n ∧ n ≤ 6 ∧ 1 ≤ m ∧ m ≤ 6 ∧ mvals r c z = mvals n m (mz n m F) := by
  obtain ⟨n, m, rfl, rfl, h1, h2, h3, h4, h5⟩ := h
  refine ⟨n, m, fun i j => z (i * m + j), rfl, rfl, h1, h2, h3, h4, mvals_congr fun k hk => ?_⟩
  unfold mz mpart
  by_cases e : k < n * m
  · rw [if_pos e]
    have := Nat.div_add_mod k m
    show z k = z (k / m * m + k % m)
    rw [Nat.mul_comm (k / m) m, this]
  · rw [if_neg e]
    exact h5 k (by omega) hk
end Mt

theorem isrow4 {w : World} {a : Option Addr} {len cap : Nat} {z : List Int} (h : FMatRaw.IsRow .i64 w a len cap z) : Sl w a len cap (fun k => z.getD k 0) := by
  rcases h with ⟨rfl, rfl, rfl, rfl⟩ | ⟨x, rfl, h1, h2, h3, h4, h5⟩
  · exact Sl.none _ _
  · exact ⟨h1, h2, fun k hk => ⟨x, rfl, h4 k (by omega)⟩⟩

set_option maxRecDepth 20000 in
set_option maxHeartbeats 4000000 in
theorem mraw_any (r c : Int) (vo : Option Addr) (l cv : Nat) (v : Nat → Int) (w : World) (hr0 : -9223372036854775808 ≤ r) (hr1 : r ≤ 9223372036854775807) (hc0 : -9223372036854775808 ≤ c) (hc1 : c ≤ 9223372036854775807) (hv : Sl w vo l cv v) (hE : ErrTab w) :
    Calls Tryd.prog 5 #[.int .i64 r, .int .i64 c, .slice vo l cv] w fun e w' => e = .returned (.bool true) ∧ Below w.heap.size w w' := by
  obtain ⟨x, hvo, hcv⟩ := hv.get
  have l1 := hv.le
  have l2 := hv.cap
  have HVO := Hid.mkV hvo
  have HCV := Hid.mkV hcv
  obtain ⟨z, hz⟩ : ∃ z : Nat → Int, z = fun k => if k < l then v k else 0 := ⟨_, rfl⟩
  have HZ := Hid.mkV hz
  have HE := Hid.mkV hE
  obtain ⟨g, hg⟩ : ∃ g, g = w.heap.size := ⟨_, rfl⟩
  have HG := Hid.mkV hg
  clear hv hvo hcv hz hE hg
  go_enter Tryd.func5, Tryd.ntmps5
  go_upto_region 1 with fail
  go_cut [7] (fun p wx => p = .pointer (some ⟨g, 0, none⟩) ∧ MRow wx g r c (fun _ => 0) ∧ Below w.heap.size w wx)
  case first =>
    go_wp2_with (first
      | (refine wpList_build2 rfl _ _ (by rfl) _ _ (by rfl) (by rfl) ?_)
      | (rw [zeroM]; refine wpList_storeNew rfl _ _ (by rfl) _ _ _ _ (by rfl) (by rfl) ?_; intro w1 m1 k1)
      | fail)
    go_meet
    exact ⟨by rw [HG.out], by rw [HG.out]; exact m1, k1⟩
  case rest =>
  obtain ⟨rfl, m1, k1⟩ := hcut
  go_step
  go_step
  go_cut [8] (fun _ wx => MRow wx g r c z ∧ Below w.heap.size w wx)
  case first =>
    go_wp2
    go_loopw [8] (fun i wr => ∃ k : Nat, k ≤ l ∧ k ≤ 36 ∧ i = .int .i64 (k : Int) ∧ MRow wr g r c (fun j => if j < k then v j else 0) ∧ Below w.heap.size w wr) (fun i _ => 36 - (intOf i).toNat)
    case atStart => exact ⟨0, by omega, by omega, rfl, m1, k1⟩
    case round =>
      rename World => wo
      obtain ⟨k, hk, hk2, rfl, mk, kB⟩ := hrel
      by_cases h : k < l
      · have e1 : decide ((k : Int) < (l : Int)) = true := decide_eq_true (by omega)
        by_cases h2 : k < 36
        · have e2 : decide ((k : Int) < 36) = true := decide_eq_true (by omega)
          obtain rfl := HVO.out (by omega)
          have c1 := keep_cell kB (HCV.out k h)
          have c2 := mk.cell h2 (show 2 + k = k + 2 by omega)
          have f2 := mk.free (2 + k)
          have HMK := Hid.mkV mk
          obtain ⟨V, hV⟩ : ∃ V, V = v k := ⟨_, rfl⟩
          rw [← hV] at c1
          have HV := Hid.mkV hV
          clear mk hV
          go_wp2
          go_roundw
          case rel =>
            refine ⟨k + 1, by omega, by omega, by go_num, (HMK.out.set k V (by omega)).congr (fun j _ => ?_), kB.trans (below_setM kB.size (by show w.heap.size ≤ g; rw [HG.out]; exact Nat.le_refl _) _)⟩
            by_cases e : j = k
            · rw [if_pos e, if_pos (by omega), e, HV.out]
            · rw [if_neg e]
              by_cases e2 : j < k
              · rw [if_pos e2, if_pos (by omega)]
              · rw [if_neg e2, if_neg (by omega)]
          case measure => simp [intOf]; omega
        · have e2 : decide ((k : Int) < 36) = false := decide_eq_false (by omega)
          go_wp2
          go_meet
          exact ⟨mk.congr (fun j hj => by rw [HZ.out]; show (if j < k then v j else 0) = if j < l then v j else 0; rw [if_pos (by omega), if_pos (by omega)]), kB⟩
      · have e1 : decide ((k : Int) < (l : Int)) = false := decide_eq_false (by omega)
        go_wp2
        go_meet
        exact ⟨mk.congr (fun j hj => by rw [HZ.out]; show (if j < k then v j else 0) = if j < l then v j else 0; rw [show k = l by omega]), kB⟩
  case rest =>
    obtain ⟨m2, k2⟩ := hcut
    rename World => w2
    have HM2 := Hid.mkV m2
    have HK2 := Hid.mkV k2
    clear m1 k1
    go_upto_region 6 with fail
    go_cut [9] (fun f wx => f = .bool (so r c) ∧ w2 = wx)
    case first =>
      by_cases h1 : 1 ≤ r
      · have e1 : decide (r ≥ 1) = true := decide_eq_true h1
        by_cases h2 : r ≤ 6
        · have e2 : decide (r ≤ 6) = true := decide_eq_true h2
          by_cases h3 : 1 ≤ c
          · have e3 : decide (c ≥ 1) = true := decide_eq_true h3
            by_cases h4 : c ≤ 6
            · have e4 : decide (c ≤ 6) = true := decide_eq_true h4
              have e5 : so r c = true := decide_eq_true ⟨h1, h2, h3, h4⟩
              go_wp2
              go_meet
              exact ⟨by rw [e5], rfl⟩
            · have e4 : decide (c ≤ 6) = false := decide_eq_false h4
              have e5 : so r c = false := decide_eq_false (fun h => h4 h.2.2.2)
              go_wp2
              go_meet
              exact ⟨by rw [e5], rfl⟩
          · have e3 : decide (c ≥ 1) = false := decide_eq_false h3
            have e5 : so r c = false := decide_eq_false (fun h => h3 h.2.2.1)
            go_wp2
            go_meet
            exact ⟨by rw [e5], rfl⟩
        · have e2 : decide (r ≤ 6) = false := decide_eq_false h2
          have e5 : so r c = false := decide_eq_false (fun h => h2 h.2.1)
          go_wp2
          go_meet
          exact ⟨by rw [e5], rfl⟩
      · have e1 : decide (r ≥ 1) = false := decide_eq_false h1
        have e5 : so r c = false := decide_eq_false (fun h => h1 h.1)
        go_wp2
        go_meet
        exact ⟨by rw [e5], rfl⟩
    case rest =>
      obtain ⟨rfl, rfl⟩ := hcut
      go_step
      go_step
      obtain ⟨fb, hfb⟩ : ∃ fb, fb = (so r c && fz (r * c) z 36) := ⟨_, rfl⟩
      have HFB := Hid.mkV hfb
      clear hfb
      go_cut [9, 10] (fun f _ wx => f = .bool fb ∧ w2 = wx)
      case first =>
        go_wp2
        go_loopw [9, 10] (fun f i wr => ∃ k : Nat, k ≤ 36 ∧ i = .int .i64 (k : Int) ∧ f = .bool (so r c && fz (r * c) z k) ∧ wr = w2) (fun _ i _ => 36 - (intOf i).toNat)
        case atStart => exact ⟨0, by omega, rfl, by show _ = Value.bool (so r c && true); rw [Bool.and_true], rfl⟩
        case round =>
          obtain ⟨k, hk, rfl, rfl, rfl⟩ := hrel
          obtain ⟨T, hT⟩ : ∃ T, T = (so r c && fz (r * c) z k) := ⟨_, rfl⟩
          rw [← hT]
          by_cases h : k < 36
          · have e1 : decide ((k : Int) < 36) = true := decide_eq_true (by omega)
            cases T
            · have HT := Hid.mkV hT
              clear hT
              go_wp2
              go_meet
              refine ⟨?_, rfl⟩
              rw [HFB.out]
              have e := HT.out
              cases es : so r c with
              | false => rfl
              | true =>
                rw [es] at e
                rw [fz_false (show fz (r * c) z k = false from e.symm) hk]
                rfl
            · have hb : so r c = true ∧ fz (r * c) z k = true := by
                have := hT.symm
                rw [Bool.and_eq_true] at this
                exact this
              have HB := Hid.mkV hb
              obtain ⟨P, hP⟩ : ∃ P, P = r * c := ⟨_, rfl⟩
              have ew : IntKind.i64.wrap (r * c) = P := by
                have hs := hb.1
                unfold so at hs
                rw [decide_eq_true_iff] at hs
                obtain ⟨n, hn⟩ : ∃ n : Nat, r = n := ⟨r.toNat, by omega⟩
                obtain ⟨m, hm⟩ : ∃ m : Nat, c = m := ⟨c.toNat, by omega⟩
                have h36 : n * m ≤ 36 := size_le (by omega) (by omega)
                have hc : ((n * m : Nat) : Int) = (n : Int) * m := by push_cast; rfl
                rw [hP, hn, hm, ← hc, IntKind.wrap_i64]
                omega
              have HP := Hid.mkV hP
              clear hb hT hP
              by_cases hp : (k : Int) < P
              · have e2 : decide ((k : Int) < P) = true := decide_eq_true hp
                go_wp2
                go_roundw
                case rel =>
                  refine ⟨k + 1, by omega, by go_num, ?_, trivial⟩
                  show _ = Value.bool (so r c && (fz (r * c) z k && (decide ((k : Int) < r * c) || z k == 0)))
                  rw [HB.out.1, HB.out.2, ← HP.out, e2]
                  rfl
                case measure => simp [intOf]; omega
              · have e2 : decide ((k : Int) < P) = false := decide_eq_false hp
                have cc := HM2.out.cell h (show 2 + k = k + 2 by omega)
                obtain ⟨y, hy⟩ : ∃ y, y = z k := ⟨_, rfl⟩
                rw [← hy] at cc
                have HY := Hid.mkV hy
                clear hp hy
                obtain ⟨t, ht⟩ : ∃ t, t = (y == 0) := ⟨_, rfl⟩
                have et := ht.symm
                have HTt := Hid.mkV ht
                clear ht
                cases t
                all_goals go_wp2
                all_goals go_roundw
                all_goals first
                  | (simp [intOf]; omega)
                  | (refine ⟨k + 1, by omega, by go_num, ?_, trivial⟩
                     show _ = Value.bool (so r c && (fz (r * c) z k && (decide ((k : Int) < r * c) || z k == 0)))
                     rw [HB.out.1, HB.out.2, ← HP.out, e2, ← HY.out, ← HTt.out]
                     rfl)
          · obtain rfl : k = 36 := by omega
            have e1 : decide (((36 : Nat) : Int) < 36) = false := by decide
            have HT := Hid.mkV hT
            clear hT
            go_wp2
            go_meet
            exact ⟨by rw [HFB.out, ← HT.out], rfl⟩
      case rest =>
        obtain ⟨rfl, rfl⟩ := hcut
        cases fb
        · have hM : ¬ May r c z := fun h => by
            have := may_iff.1 h
            rw [← HFB.out] at this
            cases this
          have K0 := HK2.out
          have m0 := HM2.out
          have HN := Hid.mkV hM
          clear hM
          go_wp2_with (first
            | (refine wpList_loadM (by rfl) _ (by rfl) _ _ _ _ (by rfl) (by with_reducible exact m0) ?_)
            | fail)
          refine (check_not _ HN.out).mono ?_
          rintro e wa ⟨rfl, ka⟩
          have K1 := below_tr K0 ka
          have m1 := m0.keep ka
          go_wp2_with fail
          refine (num_err 1 _ (HE.out.below K1)).mono ?_
          rintro e wb ⟨rfl, kb⟩
          have K2 := below_tr K1 kb
          have m2 := m1.keep kb
          clear K0 K1 m0 m1 ka kb
          go_wp2_with (first
            | (refine wpList_loadM (by rfl) _ (by rfl) _ _ _ _ (by rfl) (by with_reducible exact m2) ?_)
            | fail)
          refine (mat_not r c 0 0 z _ HN.out).mono ?_
          rintro e wx1 ⟨rfl, kx1⟩
          have KX1 := below_tr K2 kx1
          have mx1 := m2.keep kx1
          clear K2 m2 kx1
          have KM1 := KX1
          have mm1 := mx1
          clear KX1 mx1
          go_wp2_with (first
            | (refine wpList_loadM (by rfl) _ (by rfl) _ _ _ _ (by rfl) (by with_reducible exact mm1) ?_)
            | fail)
          refine (mrow_not r c 0 z _ HN.out).mono ?_
          rintro e wx2 ⟨rfl, kx2⟩
          have KX2 := below_tr KM1 kx2
          have mx2 := mm1.keep kx2
          clear KM1 mm1 kx2
          have KM2 := KX2
          have mm2 := mx2
          clear KX2 mx2
          go_wp2_with (first
            | (refine wpList_loadM (by rfl) _ (by rfl) _ _ _ _ (by rfl) (by with_reducible exact mm2) ?_)
            | fail)
          refine (mturn_not r c z _ HN.out).mono ?_
          rintro e wx3 ⟨rfl, kx3⟩
          have KX3 := below_tr KM2 kx3
          have mx3 := mm2.keep kx3
          clear KM2 mm2 kx3
          go_wp2_with (first
            | (rw [zeroM]; refine wpList_storeNew rfl _ _ (by rfl) _ _ _ _ (by rfl) (by rfl) ?_; intro wm3 nm3 km3; have KM3 := below_tr KX3 km3; have mm3 := mx3.keep km3; clear nm3 KX3 mx3)
            | (refine wpList_loadM (by rfl) _ (by rfl) _ _ _ _ (by rfl) (by with_reducible exact mm3) ?_)
            | fail)
          refine (madd_no r c r c z z _ (Or.inl HN.out)).mono ?_
          rintro e wx4 ⟨rfl, kx4⟩
          have KX4 := below_tr KM3 kx4
          have mx4 := mm3.keep kx4
          clear KM3 mm3 kx4
          go_wp2_with (first
            | (rw [zeroM]; refine wpList_storeNew rfl _ _ (by rfl) _ _ _ _ (by rfl) (by rfl) ?_; intro wm4 nm4 km4; have KM4 := below_tr KX4 km4; have mm4 := mx4.keep km4; clear nm4 KX4 mx4)
            | (refine wpList_loadM (by rfl) _ (by rfl) _ _ _ _ (by rfl) (by with_reducible exact mm4) ?_)
            | fail)
          refine (msub_no r c r c z z _ (Or.inl HN.out)).mono ?_
          rintro e wx5 ⟨rfl, kx5⟩
          have KX5 := below_tr KM4 kx5
          have mx5 := mm4.keep kx5
          clear KM4 mm4 kx5
          go_wp2_with (first
            | (rw [zeroM]; refine wpList_storeNew rfl _ _ (by rfl) _ _ _ _ (by rfl) (by rfl) ?_; intro wm5 nm5 km5; have KM5 := below_tr KX5 km5; have mm5 := mx5.keep km5; clear nm5 KX5 mx5)
            | (refine wpList_loadM (by rfl) _ (by rfl) _ _ _ _ (by rfl) (by with_reducible exact mm5) ?_)
            | fail)
          refine (mmul_no r c r c z z _ (Or.inl HN.out)).mono ?_
          rintro e wx6 ⟨rfl, kx6⟩
          have KX6 := below_tr KM5 kx6
          have mx6 := mm5.keep kx6
          clear KM5 mm5 kx6
          go_wp2_with (first
            | (rw [zeroM]; refine wpList_storeNew rfl _ _ (by rfl) _ _ _ _ (by rfl) (by rfl) ?_; intro wm6 nm6 km6; have KM6 := below_tr KX6 km6; have mm6 := mx6.keep km6; clear nm6 KX6 mx6)
            | (refine wpList_loadM (by rfl) _ (by rfl) _ _ _ _ (by rfl) (by with_reducible exact mm6) ?_)
            | fail)
          refine (mapply_no r c z none 0 0 _ (by omega) (Or.inl HN.out)).mono ?_
          rintro e wx7 ⟨rfl, kx7⟩
          have KX7 := below_tr KM6 kx7
          have mx7 := mm6.keep kx7
          clear KM6 mm6 kx7
          have KM7 := KX7
          have mm7 := mx7
          clear KX7 mx7
          go_wp2_with (first
            | (refine wpList_loadM (by rfl) _ (by rfl) _ _ _ _ (by rfl) (by with_reducible exact mm7) ?_)
            | fail)
          refine (meven_no r c z _ (Or.inl HN.out)).mono ?_
          rintro e wx8 ⟨rfl, kx8⟩
          have KX8 := below_tr KM7 kx8
          have mx8 := mm7.keep kx8
          clear KM7 mm7 kx8
          go_wp2_with (first
            | (rw [zeroM]; refine wpList_storeNew rfl _ _ (by rfl) _ _ _ _ (by rfl) (by rfl) ?_; intro wm8 nm8 km8; have KM8 := below_tr KX8 km8; have mm8 := mx8.keep km8; clear nm8 KX8 mx8)
            | fail)
          refine (num_err 1 _ (HE.out.below KM8)).mono ?_
          rintro e wn1 ⟨rfl, kn1⟩
          have KK1 := below_tr KM8 kn1
          clear KM8 mm8 kn1
          go_wp2_with fail
          refine (num_err 1 _ (HE.out.below KK1)).mono ?_
          rintro e wn2 ⟨rfl, kn2⟩
          have KK2 := below_tr KK1 kn2
          clear KK1 kn2
          go_wp2_with fail
          refine (num_err 1 _ (HE.out.below KK2)).mono ?_
          rintro e wn3 ⟨rfl, kn3⟩
          have KK3 := below_tr KK2 kn3
          clear KK2 kn3
          go_wp2_with fail
          refine (num_err 1 _ (HE.out.below KK3)).mono ?_
          rintro e wn4 ⟨rfl, kn4⟩
          have KK4 := below_tr KK3 kn4
          clear KK3 kn4
          go_wp2_with fail
          refine (num_err 1 _ (HE.out.below KK4)).mono ?_
          rintro e wn5 ⟨rfl, kn5⟩
          have KK5 := below_tr KK4 kn5
          clear KK4 kn5
          go_wp2_with fail
          refine (num_err 1 _ (HE.out.below KK5)).mono ?_
          rintro e wn6 ⟨rfl, kn6⟩
          have KK6 := below_tr KK5 kn6
          clear KK5 kn6
          go_wp2_with fail
          refine (num_err 1 _ (HE.out.below KK6)).mono ?_
          rintro e wn7 ⟨rfl, kn7⟩
          have KK7 := below_tr KK6 kn7
          clear KK6 kn7
          go_wp2_with fail
          refine (num_err 1 _ (HE.out.below KK7)).mono ?_
          rintro e wn8 ⟨rfl, kn8⟩
          have KK8 := below_tr KK7 kn8
          clear KK7 kn8
          go_wp2_with fail
          refine (msure_any _).mono ?_
          rintro e ws ⟨rfl, ks⟩
          go_wp2
          go_ret
          exact ⟨rfl, below_tr KK8 ks⟩
        · obtain ⟨n, m, F, rfl, rfl, h1, h2, h3, h4, hmv⟩ := may_mvals (may_iff.2 (show (so r c && fz (r * c) z 36) = true by rw [← HFB.out]))
          have m0 : MRow w2 g n m (mz n m F) := by
            have h := HM2.out
            unfold MRow at h ⊢
            rw [← hmv]
            exact h
          have K0 := HK2.out
          clear hmv HFB HM2
          go_wp2_with (first
            | (refine wpList_loadM (by rfl) _ (by rfl) _ _ _ _ (by rfl) (by with_reducible exact m0) ?_)
            | fail)
          refine (check_may _ (may_mz h1 h2 h3 h4)).mono ?_
          rintro e wa ⟨rfl, ka⟩
          have K1 := below_tr K0 ka
          have m1 := m0.keep ka
          clear m0 K0
          go_wp2_with (first
            | (refine wpList_loadM (by rfl) _ (by rfl) _ _ _ _ (by rfl) (by with_reducible exact m1) ?_)
            | fail)
          refine (rowsOf_any n m F _ h1 h2 h3 h4).mono ?_
          rintro e wb ⟨lo, cm, rfl, hG, kb⟩
          have K2 := below_tr K1 kb
          clear hG
          go_wp2_with fail
          refine (msure_any _).mono ?_
          rintro e wc ⟨rfl, kc⟩
          go_wp2
          go_ret
          exact ⟨rfl, below_tr K2 kc⟩

theorem mraw_walk : FMatRaw.Walk := by
  intro a0 a1 a2 len2 cap2 z2 w h0 h1 h2 hE
  have b0 := bounds_i64 h0
  have b1 := bounds_i64 h1
  exact mraw_any a0 a1 a2 len2 cap2 _ w b0.1 b0.2 b1.1 b1.2 (isrow4 h2) hE

/-- The law MatRaw, of any input. -/
theorem matraw_holds : Rows.MatRawCardSaid := FMatRaw.card mraw_walk

end Go.Proofs.YtgmagehgnjopcaaDoor
