/-
  What is proved: whatever weights and floor it is given, the law ChanceOne of layer 14 returns true, ends without a panic, and leaves what was there as it was; its condition: the library's variable errors.errorType holds what the program's text lays there, which the card ties.
-/
import Derived.Test.YtlomfjacgomhdaaDoorCnQ
import Derived.Test.YtlomfjacgomhdaaDoorCnO
import Derived.Test.YtlomfjacgomhdaaDoorCnS
import Derived.Test.YtlomfjacgomhdaaDoorFChanceOne
import Derived.Deep.DeepCutAuto
import Derived.Deep.CutRange
set_option linter.unusedSimpArgs false
set_option linter.unusedVariables false
namespace Go.Proofs.YtlomfjacgomhdaaDoor
open Go.RowKit Vc Cn Ls Mt
attribute [local go_sem ↓] Go.wp_at_zero Go.wp_at_succ

namespace Cn
theorem isrow1 {w : World} {a : Option Addr} {len cap : Nat} {z : List Int} (h : FChanceOne.IsRow .i64 w a len cap z) : Sl w a len cap (fun k => z.getD k 0) ∧ B64 (fun k => z.getD k 0) := by
  rcases h with ⟨rfl, rfl, rfl, rfl⟩ | ⟨x, rfl, h1, h2, h3, h4, h5⟩
  · exact ⟨Sl.none _ _, fun k => by simp⟩
  · refine ⟨⟨h1, h2, fun k hk => ⟨x, rfl, h4 k (by omega)⟩⟩, ?_⟩
    intro k
    show _ ≤ z.getD k 0 ∧ z.getD k 0 ≤ _
    by_cases hk : k < z.length
    · have e : z.getD k 0 = z[k] := by simp [List.getD, List.getElem?_eq_getElem hk]
      rw [e]
      exact bounds_i64 (h5 _ (List.getElem_mem hk))
    · have e : z.getD k 0 = 0 := by simp [List.getD, List.getElem?_eq_none (Nat.le_of_not_lt hk)]
      rw [e]; omega
/-- A slice's numbers beyond its end don't matter. -/
def cut (n : Nat) (s : Nat → Int) : Nat → Int := fun k => if k < n then s k else 0
theorem cut_sl {w : World} {ao : Option Addr} {n ca : Nat} {s : Nat → Int} (h : Sl w ao n ca s) : Sl w ao n ca (cut n s) := h.congr fun k hk => by unfold cut; rw [if_pos hk]
theorem cut_b64 {n : Nat} {s : Nat → Int} (h : ∀ k, k < n → 0 ≤ s k ∧ s k ≤ 1073741824) : B64 (cut n s) := fun k => by
  show _ ≤ (if k < n then s k else 0) ∧ (if k < n then s k else 0) ≤ _
  by_cases e : k < n
  · rw [if_pos e]; have := h k e; omega
  · rw [if_neg e]; omega
theorem cut_ch {n : Nat} {s : Nat → Int} {fl : Int} (h : Ch n s fl) : Ch n (cut n s) fl :=
  ⟨h.one, h.four, h.lo, h.hi, fun k hk => by unfold cut; rw [if_pos hk]; exact h.each k hk, by rw [tot_congr (b := s) (fun k hk => by unfold cut; rw [if_pos hk])]; exact h.sum⟩
end Cn

set_option maxRecDepth 20000 in
set_option maxHeartbeats 4000000 in
theorem cone_any (P : Pkg) (ao : Option Addr) (n ca : Nat) (z : Nat → Int) (fl : Int) (w : World) (hs : Sl w ao n ca z) (hz : B64 z) (f0 : -9223372036854775808 ≤ fl) (f1 : fl ≤ 9223372036854775807) (hE : ErrTab w) :
    Calls Tryd.prog 5 #[.slice ao n ca, .int .i64 fl] w fun e w' => e = .returned (.bool true) ∧ Below w.heap.size w w' := by
  have H1 := hideQ (P.of w ao n ca z fl hs hz f0 f1)
  have HSu := hideQ (csure_any P)
  have HCk := hideQ P.check
  have HMx := hideQ P.mix
  have HE := hideQ hE
  have l1 := hs.le
  have l2 := hs.cap
  obtain ⟨x, hao, hc⟩ := hs.get
  have HAO := hideQ hao
  have HC := hideQ hc
  clear hs hz hE hao hc
  go_enter Tryd.func5, Tryd.ntmps5
  go_wp2_with fail
  refine (H1.out).mono ?_
  rintro e w1 ⟨vo, vn, vc, ev, rfl, k1, s1, A1⟩
  clear H1
  rcases A1 with ⟨h, rfl, rfl⟩ | ⟨h, h0, rfl, rfl⟩ | ⟨h, h0, rfl, rfl⟩
  · clear h s1 HAO HC HCk HMx
    unfold errV
    go_wp2_with fail
    refine (num_err 1 _ (HE.out.below k1)).mono ?_
    rintro e y1 ⟨rfl, q1⟩
    go_wp2_with fail
    refine (HSu.out _).mono ?_
    rintro e y2 ⟨rfl, q2⟩
    go_wp2
    go_ret
    exact ⟨rfl, below_tr (below_tr k1 q1) q2⟩
  · clear h h0 s1 HAO HC HCk HMx
    unfold errV
    go_wp2_with fail
    refine (num_err 11 _ (HE.out.below k1)).mono ?_
    rintro e y1 ⟨rfl, q1⟩
    go_wp2_with fail
    refine (num_err 11 _ (HE.out.below (below_tr k1 q1))).mono ?_
    rintro e y2 ⟨rfl, q2⟩
    go_wp2_with fail
    refine (HSu.out _).mono ?_
    rintro e y3 ⟨rfl, q3⟩
    go_wp2
    go_ret
    exact ⟨rfl, below_tr (below_tr (below_tr k1 q1) q2) q3⟩
  · have hch := oc_ch h h0
    have hin := fun k hk => oc_in h h0 (k := k) hk
    have hmo := fun i j hi hj hij => oc_mono h h0 (i := i) (j := j) hi hj hij
    have hn1 := h.one
    have hn4 := h.four
    have s1 : Sl w1 vo vn vc (oc fl z vn) := s1
    obtain ⟨s, hsd⟩ : ∃ q, q = oc fl z vn := ⟨_, rfl⟩
    rw [← hsd] at hch s1
    have hin : ∀ k, k < vn → 0 ≤ s k ∧ s k ≤ 1073741824 := fun k hk => by rw [hsd]; exact hin k hk
    have hmo : ∀ i j, i < vn → j < vn → z j < z i → s j ≤ s i := fun i j hi hj hij => by rw [hsd]; exact hmo i j hi hj hij
    have HCH := hideQ hch
    have HIN := hideQ hin
    have HMO := hideQ hmo
    have S1 := hideQ s1
    have l3 := s1.le
    have l4 := s1.cap
    obtain ⟨y, hvo, hy⟩ := s1.get
    obtain rfl := hvo (by omega)
    have HY := hideQ hy
    have hyl : y.block < w1.heap.size := World.block_lt_of_cell? w1 _ (by have q := hy 0 (by omega); exact q)
    obtain rfl := HAO.out (by omega)
    have D0 := hideQ (HCk.out w1 (some y) vn vc (cut vn s) fl (cut_sl s1) (cut_b64 hin) f0 f1)
    clear hsd hch hin hmo s1 h h0 hvo hy HCk HAO
    go_wp2_with fail
    refine (D0.out).mono ?_
    rintro e w2 ⟨ev, rfl, k2, A2⟩
    rcases A2 with ⟨_, rfl⟩ | ⟨q, _⟩
    · clear D0
      have K2 := below_tr k1 k2
      go_wp2
      go_loopw [7, 8, 9] (fun vK vB i wq => ∃ k : Nat, k ≤ vn ∧ i = .int .i64 (k : Int) ∧ Dup w2.heap.size w2 wq vK vB k k vn own1 (.slice (some y) vn vc)) (fun _ _ i _ => vn - (intOf i).toNat)
      case atStart => exact ⟨0, by omega, rfl, Dup.nil (Below.refl _ _) (Nat.le_refl _) _ _ _⟩
      case round =>
        rename World => wq
        obtain ⟨k, hk, rfl, hD⟩ := hrel
        by_cases h : k < vn
        · have HD := hideQ hD
          have B2 := hD.below
          have kn : (k : Int) < vn := by omega
          clear hD
          go_wp2
          go_loopw [10] (fun jv wi => ∃ j : Nat, j ≤ vn ∧ jv = .int .i64 (j : Int) ∧ Below wq.heap.size wq wi) (fun jv _ => vn - (intOf jv).toNat)
          case atStart => exact ⟨0, by omega, rfl, Below.refl _ _⟩
          case round =>
            rename World => wi
            obtain ⟨j, hj, rfl, Bi⟩ := hrel
            by_cases hjn : j < vn
            · have B3 := (HD.out.keep Bi).below
              have K3 := below_tr K2 B3
              have ci := keep_cell K3 (HC.out k h)
              have cj := keep_cell K3 (HC.out j hjn)
              have B4 := below_tr k2 B3
              have ai := keep_cell B4 (HY.out k h)
              have aj := keep_cell B4 (HY.out j hjn)
              have hm := HMO.out k j h hjn
              have jn : (j : Int) < vn := by omega
              obtain ⟨zi, hzi⟩ : ∃ q, q = z k := ⟨_, rfl⟩
              obtain ⟨zj, hzj⟩ : ∃ q, q = z j := ⟨_, rfl⟩
              obtain ⟨si, hsi⟩ : ∃ q, q = s k := ⟨_, rfl⟩
              obtain ⟨sj, hsj⟩ : ∃ q, q = s j := ⟨_, rfl⟩
              rw [← hzi] at ci hm
              rw [← hzj] at cj hm
              rw [← hsi] at ai hm
              rw [← hsj] at aj hm
              clear hzi hzj hsi hsj B3 K3 B4
              by_cases c : zj < zi
              · have hle : ¬ si < sj := by have := hm c; omega
                clear hm
                go_wp2
                go_quiet (fail)
                go_wp2
                go_roundw
                case rel => exact ⟨j + 1, by omega, by go_num, Vc.below_drewN Bi _⟩
                case measure => simp [intOf]; omega
              · have cd : decide (zj < zi) = false := decide_eq_false c
                clear hm
                go_wp2
                go_quiet (fail)
                go_wp2
                go_roundw
                case rel => exact ⟨j + 1, by omega, by go_num, Vc.below_drewN Bi _⟩
                case measure => simp [intOf]; omega
            · obtain rfl : vn = j := by omega
              have HD3 := hideQ (HD.out.keep Bi)
              clear Bi HD B2
              obtain ⟨i0, hi0, hz0, hz1, hz2⟩ := info_parts infoI64
              go_upto_region 15 with fail
              go_cut [11] (fun r wx => ∃ g : Nat, r = .slice (some ⟨g, 0, none⟩) vn vn ∧ wi.heap.size ≤ g ∧ Own wi.heap.size wi wx (.slice (some ⟨g, 0, none⟩) vn vn) vn (fun _ => 0))
              case first =>
                go_wp2_with (first
                  | (refine wpList_make_full _ rfl _ _ _ (by rfl) wi.heap.size 2 i0 (.int .i64 0) 1 Tryd.underlying22 hi0 hz0 hz1 .i64 .i64 _ _ vn (by rfl) (by rfl) (by rfl) (by rfl) (by rw [hz2]; omega) (by unfold maxLen; omega) (Nat.le_refl _) ?_; intro w3 o3 g3)
                  | fail)
                go_meet
                exact ⟨_, rfl, Nat.le_refl _, own_made (by rw [Nat.mul_one] at o3; exact o3) g3 (Nat.le_refl _)⟩
              rename World => wx
              obtain ⟨gr, rfl, hgr, ow⟩ := hcut
              have fr := ow.free k
              have cr := ow.cell (j := k) h
              have ow2 := ow.set k 1073741824
              have ow3 := ow2.congr (z' := own1 k) (fun j _ => rfl)
              have D3 := HD3.out.keep ow3.below
              obtain ⟨_, _, ee, sr⟩ := ow3.sl
              cases ee
              have hrn := HD3.out.apart hgr
              obtain ⟨wy, hwy⟩ : ∃ q, q = wx.setCell ⟨gr, k, none⟩ (.int .i64 1073741824) := ⟨_, rfl⟩
              rw [← hwy] at D3 sr
              have HWY := hideQ hwy
              have HD4 := hideQ D3
              have HSR := hideQ sr
              have HRN : Hid (∀ x, some (⟨gr, 0, none⟩ : Addr) = some x → Value.ownBlock u7 ≠ some x.block ∧ Value.ownBlock u8 ≠ some x.block) := fun x hx => by cases hx; exact hrn
              clear ow ow2 ow3 D3 sr hrn HD3 hi0 hz0 hz1 hz2 hwy
              go_upto_region 17 with fail
              rw [← HWY.out]
              go_wp2_with (first
                | (at_builtin; refine dupK rfl _ _ (by rfl) w2.heap.size w2 _ _ k k vn own1 _ (by rfl) HD4.out (by omega) (by omega) _ _ HSR.out HRN.out (by rfl) ?_; intro g4 c4 w4 D4)
                | (at_builtin; refine dupB rfl _ _ (by rfl) w2.heap.size w2 _ _ (k + 1) k vn own1 _ _ _ (by rfl) D4 (by omega) (by omega) (by rfl) ?_; intro g5 c5 w5 D5)
                | fail)
              go_roundw
              case rel => exact ⟨k + 1, by omega, by go_num, D5⟩
              case measure => simp [intOf]; omega
        · obtain rfl : vn = k := by omega
          have B2 := hD.below
          have S2 := S1.out.keep (below_tr k2 B2)
          obtain ⟨lo, cm, rfl, A, C, ga, gb⟩ := hD.gridK
          obtain ⟨lo2, cm2, rfl, A2, C2, ga2, gb2⟩ := hD.gridB S2 (fun x hx => by cases hx; exact Nat.lt_of_lt_of_le hyl k2.size)
          have b64s := cut_b64 HIN.out
          have K3 := below_tr K2 B2
          have M1 := hideQ (HMx.out wq (some y) lo vn vc vn cm (cut vn s) A (fun _ => vn) C own1 (cut_sl S2) b64s ga gb (fun i k => by show _ ≤ (if k = i then (1073741824 : Int) else 0) ∧ (if k = i then (1073741824 : Int) else 0) ≤ _; split <;> omega))
          have M2 := hideQ (fun W (b : Below wq.heap.size wq W) => HMx.out W (some y) lo2 vn vc vn cm2 (cut vn s) A2 (fun _ => vn) C2 (fun _ => cut vn s) ((cut_sl S2).keep b) b64s (ga2.keep b) (fun i hi => ((cut_sl (gb2 i hi)).keep b)) (fun _ => b64s))
          have hcc := cut_ch HCH.out
          have HC1 := hideQ (same_may hcc)
          have HC2 := hideQ (rows_may hcc)
          have HS1 : Hid (∀ j, j < vn → sh 1073741824 (mxw vn (cut vn s) own1) vn j = s j) := fun j hj => by rw [same_sh hcc hj]; unfold cut; rw [if_pos hj]
          have HS2 : Hid (∀ j, j < vn → sh 1073741824 (mxw vn (cut vn s) (fun _ => cut vn s)) vn j = s j) := fun j hj => by rw [rows_sh hcc hj]; unfold cut; rw [if_pos hj]
          have HSS := hideQ S2
          clear hD S2 ga gb ga2 gb2 b64s hcc B2 K2 HMx HC
          go_wp2_with fail
          refine (M1.out).mono ?_
          rintro e w3 ⟨bo, bn, bc, fv, rfl, k3, t3, A3⟩
          rcases A3 with ⟨q, _⟩ | ⟨_, rfl, rfl⟩
          · exact absurd HC1.out q
          · have t3 := t3.congr HS1.out
            have K4 := below_tr K3 k3
            go_wp2_with fail
            refine (M2.out _ k3).mono ?_
            rintro e w4 ⟨bo2, bn2, bc2, fv2, rfl, k4, t4, A4⟩
            rcases A4 with ⟨q, _⟩ | ⟨_, rfl, rfl⟩
            · exact absurd HC2.out q
            · have t4 := t4.congr HS2.out
              have K5 := below_tr K4 k4
              have k34 := below_tr k3 k4
              have u3 := t3.keep k4
              have u0 := HSS.out.keep k34
              clear t3 M1 M2 HS1 HS2 HC1 HC2
              go_wp2_with fail
              refine (nums_yes _ _ _ _ _ _ _ u3 u0).mono ?_
              rintro e w5 ⟨rfl, k5⟩
              have K6 := below_tr K5 k5
              have u4 := t4.keep k5
              have u1 := u0.keep k5
              clear u3 u0 t4
              go_wp2_with fail
              refine (nums_yes _ _ _ _ _ _ _ u4 u1).mono ?_
              rintro e w6 ⟨rfl, k6⟩
              have K7 := below_tr K6 k6
              go_wp2_with fail
              refine (HSu.out _).mono ?_
              rintro e w7 ⟨rfl, k7⟩
              go_wp2
              go_ret
              exact ⟨rfl, below_tr K7 k7⟩
    · exact absurd (cut_ch HCH.out) q

theorem cone_walk (P : Pkg) : FChanceOne.Walk := by
  intro a0 len0 cap0 z0 fl w h0 hf hE
  obtain ⟨s0, b0⟩ := isrow1 h0
  have b1 := bounds_i64 hf
  exact cone_any P a0 len0 cap0 _ fl w s0 b0 b1.1 b1.2 hE
end Go.Proofs.YtlomfjacgomhdaaDoor
