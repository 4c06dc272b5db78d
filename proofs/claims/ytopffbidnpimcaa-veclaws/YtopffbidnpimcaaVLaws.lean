/-
  What is proved: whatever two slices of numbers and number it is given, the law VecLaws of layer 7 returns true, ends without a panic, and leaves what was there as it was; no condition.
-/
import Derived.Test.YtopffbidnpimcaaVcS
import Derived.Test.YtopffbidnpimcaaVcF
import Derived.Test.YtopffbidnpimcaaFVecLaws
import Derived.Deep.RegionHeld3
import Derived.BigRegion
import Derived.Deep.CutRange
import Derived.Deep.DeepCutAuto
set_option linter.unusedSimpArgs false
set_option linter.unusedVariables false
namespace Go.Proofs.Ytopffbidnpimcaa
open Go.RowKit Vc Qn Dt

namespace Vc
theorem isrow3 {w : World} {a : Option Addr} {len cap : Nat} {z : List Int} (h : FVecLaws.IsRow .i64 w a len cap z) : Sl w a len cap (fun k => z.getD k 0) ∧ B64 (fun k => z.getD k 0) := by
  rcases h with ⟨rfl, rfl, rfl, rfl⟩ | ⟨x, rfl, h1, h2, h3, h4, h5⟩
  · exact ⟨Sl.none _ _, fun k => by simp⟩
  · refine ⟨⟨h1, h2, fun k hk => ⟨x, rfl, h4 k (by omega)⟩⟩, fun k => ?_⟩
    show _ ≤ z.getD k 0 ∧ z.getD k 0 ≤ _
    by_cases hk : k < z.length
    · have e : z.getD k 0 = z[k] := by simp [List.getD, List.getElem?_eq_getElem hk]
      rw [e]
      exact bounds_i64 (h5 _ (List.getElem_mem hk))
    · have e : z.getD k 0 = 0 := by simp [List.getD, List.getElem?_eq_none (Nat.le_of_not_lt hk)]
      rw [e]; omega
theorem rne_ge {s m d : Int} (hd : 0 < d) (h : m * d ≤ s) : m ≤ rne s d := by
  have h1 : m ≤ s / d := (Int.le_ediv_iff_mul_le hd).2 h
  unfold rne
  split <;> omega
theorem rne_le {s m d : Int} (hd : 0 < d) (h : s ≤ m * d) : rne s d ≤ m := by
  have e := Int.emod_add_mul_ediv s d
  have r0 := Int.emod_nonneg s (show d ≠ 0 by omega)
  have h1 : s / d ≤ m := by
    rw [← Int.mul_ediv_cancel m (show d ≠ 0 by omega)]
    exact Int.ediv_le_ediv hd h
  unfold rne
  split
  · exact h1
  · rename_i hc
    rcases Int.lt_or_eq_of_le h1 with h2 | h2
    · omega
    · exfalso
      rw [h2, Int.mul_comm d m] at e
      omega
theorem join_mid {x y K : Int} (h0 : 0 ≤ K) (h1 : K ≤ 1073741824) : min x y ≤ rne (0 + x * K + y * (1073741824 - K)) (2 ^ 30) ∧ rne (0 + x * K + y * (1073741824 - K)) (2 ^ 30) ≤ max x y := by
  have e : (2 : Int) ^ 30 = 1073741824 := by decide
  rw [e, Int.mul_sub]
  rcases Int.le_total x y with h | h
  · have a1 := Int.mul_nonneg (show 0 ≤ y - x by omega) h0
    have a2 := Int.mul_nonneg (show 0 ≤ y - x by omega) (show 0 ≤ 1073741824 - K by omega)
    rw [Int.sub_mul] at a1
    rw [Int.sub_mul, Int.mul_sub, Int.mul_sub] at a2
    have b1 : x ≤ rne (0 + x * K + (y * 1073741824 - y * K)) 1073741824 := rne_ge (by omega) (by omega)
    have b2 : rne (0 + x * K + (y * 1073741824 - y * K)) 1073741824 ≤ y := rne_le (by omega) (by omega)
    omega
  · have a1 := Int.mul_nonneg (show 0 ≤ x - y by omega) h0
    have a2 := Int.mul_nonneg (show 0 ≤ x - y by omega) (show 0 ≤ 1073741824 - K by omega)
    rw [Int.sub_mul] at a1
    rw [Int.sub_mul, Int.mul_sub, Int.mul_sub] at a2
    have b1 : y ≤ rne (0 + x * K + (y * 1073741824 - y * K)) 1073741824 := rne_ge (by omega) (by omega)
    have b2 : rne (0 + x * K + (y * 1073741824 - y * K)) 1073741824 ≤ x := rne_le (by omega) (by omega)
    omega
theorem clamp_id {x : Int} (h0 : -4611686018427387903 ≤ x) (h1 : x ≤ 4611686018427387903) : clamp x = x ∧ great x = false := by
  unfold clamp great
  rw [if_neg (by omega), if_neg (by omega), decide_eq_false (by omega), decide_eq_false (by omega)]
  exact ⟨rfl, rfl⟩
theorem mxs_mid {x y z : Nat → Int} : ∀ {n : Nat}, (∀ k, k < n → min (x k) (y k) ≤ z k ∧ z k ≤ max (x k) (y k)) → (∀ k, -1152921504606846976 < x k ∧ x k < 1152921504606846976) → (∀ k, -1152921504606846976 < y k ∧ y k < 1152921504606846976) → mxs z n ≤ max (mxs x n) (mxs y n)
  | 0, _, _, _ => by unfold mxs; omega
  | n + 1, h, hx, hy => by
    have ih := mxs_mid (n := n) (fun k hk => h k (by omega)) hx hy
    have h1 := h n (by omega)
    have h2 := hx n
    have h3 := hy n
    unfold mxs
    rw [(clamp_id (x := z n) (by omega) (by omega)).1, (clamp_id (x := x n) (by omega) (by omega)).1, (clamp_id (x := y n) (by omega) (by omega)).1]
    omega
theorem tmod_bd (a : Int) {m : Int} (hm : 0 < m) : -m < a.tmod m ∧ a.tmod m < m := by
  rcases Int.le_total 0 a with h | h
  · rw [Int.tmod_eq_emod_of_nonneg h]
    have := Int.emod_nonneg a (show m ≠ 0 by omega)
    have := Int.emod_lt_of_pos a hm
    omega
  · have h2 : a.tmod m = -((-a).tmod m) := by rw [Int.neg_tmod]; omega
    rw [h2, Int.tmod_eq_emod_of_nonneg (by omega)]
    have := Int.emod_nonneg (-a) (show m ≠ 0 by omega)
    have := Int.emod_lt_of_pos (-a) hm
    omega
end Vc

set_option maxRecDepth 10000 in
set_option maxHeartbeats 2000000 in
theorem vlaws_neg (la lb n ca cb : Nat) (ao bo : Option Addr) (za zb zx zy : Nat → Int) (c k0 K K2 : Int) (w : World) (hn : n = min (min la lb) 6) (ha : Sl w ao la ca za) (hb : Sl w bo lb cb zb) (hzx : ∀ k, zx k = (za k).tmod 1152921504606846976) (hzy : ∀ k, zy k = (zb k).tmod 1152921504606846976)
    (e0 : c.tmod 1073741824 = k0) (hneg : k0 < 0) (hK : -k0 = K) (K0 : 0 ≤ K) (K1 : K < 1073741824) (hK2 : 1073741824 - K = K2) :
    Calls Try.prog 3 #[.slice ao la ca, .slice bo lb cb, .int .i64 c] w fun e w' => e = .returned (.bool true) ∧ Below w.heap.size w w' := by
  have bX : ∀ k, -1152921504606846976 < zx k ∧ zx k < 1152921504606846976 := fun k => by rw [hzx k]; exact tmod_bd _ (by omega)
  have bY : ∀ k, -1152921504606846976 < zy k ∧ zy k < 1152921504606846976 := fun k => by rw [hzy k]; exact tmod_bd _ (by omega)
  have HA : Hid (∀ W ox cx oy cy, Sl W ox n cx zx → Sl W oy n cy zy → Calls Try.prog 4 #[.slice ox n cx, .slice oy n cy] W fun e w' => ∃ co cc, e = .returned (.tuple #[.slice co n cc, .bool false, .nilIface]) ∧ Sl w' co n cc (fun k => zx k + zy k) ∧ Below W.heap.size W w') := by
    intro W ox cx oy cy s1 s2
    refine (vadd_any n cx cy ox oy zx zy W (by omega) s1 s2 (fun k => by have := bX k; omega) (fun k => by have := bY k; omega)).mono ?_
    rintro e w' ⟨co, cc, rfl, hs, kk⟩
    have e1 : anyb (fun k => great (zx k + zy k)) n = false := anyb_false.2 fun k _ => (clamp_id (by have := bX k; have := bY k; omega) (by have := bX k; have := bY k; omega)).2
    exact ⟨co, cc, by rw [e1], hs.congr (fun k _ => (clamp_id (by have := bX k; have := bY k; omega) (by have := bX k; have := bY k; omega)).1), kk⟩
  have HS : Hid (∀ W ox cx oy cy, Sl W ox n cx (fun k => zx k + zy k) → Sl W oy n cy zy → Calls Try.prog 5 #[.slice ox n cx, .slice oy n cy] W fun e w' => ∃ co cc, e = .returned (.tuple #[.slice co n cc, .bool false, .nilIface]) ∧ Sl w' co n cc zx ∧ Below W.heap.size W w') := by
    intro W ox cx oy cy s1 s2
    refine (vsub_any n cx cy ox oy (fun k => zx k + zy k) zy W (by omega) s1 s2 (fun k => by have := bX k; have := bY k; show _ ≤ zx k + zy k ∧ zx k + zy k ≤ _; omega) (fun k => by have := bY k; omega)).mono ?_
    rintro e w' ⟨co, cc, rfl, hs, kk⟩
    have hc : ∀ k, clamp (zx k + zy k - zy k) = zx k ∧ great (zx k + zy k - zy k) = false := fun k => by
      have h1 := bX k
      rw [show zx k + zy k - zy k = zx k by omega]
      exact clamp_id (by omega) (by omega)
    have e1 : anyb (fun k => great ((fun k => zx k + zy k) k - zy k)) n = false := anyb_false.2 fun k _ => (hc k).2
    exact ⟨co, cc, by rw [e1], hs.congr (fun k _ => (hc k).1), kk⟩
  obtain ⟨zj, hzj⟩ : ∃ zj : Nat → Int, zj = fun k => rne (0 + zx k * K + zy k * K2) (2 ^ 30) := ⟨_, rfl⟩
  have hj : ∀ k, min (zx k) (zy k) ≤ zj k ∧ zj k ≤ max (zx k) (zy k) := fun k => by rw [hzj, ← hK2]; exact join_mid K0 (by omega)
  have HJ : Hid (∀ W x ho ox cx oy cy, W.cell? x = some (.slice ox n cx) → W.cell? (x.add 1) = some (.slice oy n cy) → Sl W ox n cx zx → Sl W oy n cy zy → Sl W ho 2 2 (fun k => if k = 0 then K else K2) →
      Calls Try.prog 7 #[.slice (some x) 2 2, .slice ho 2 2] W fun e w' => ∃ co cc, e = .returned (.tuple #[.slice co n cc, .bool false, .nilIface]) ∧ Sl w' co n cc zj ∧ Below W.heap.size W w') := by
    intro W x ho ox cx oy cy c0 c1 s1 s2 s3
    refine (vjoin_any n (some x) ho 2 2 2 _ _ (fun j k => if j = 0 then zx k else zy k) _ W ((Sls.two c0 c1).len (fun j _ => by split <;> rfl)) (fun j hj => ?_) (by omega) (by omega) (by omega) s3 (fun j k => ?_) (fun j => ?_)).mono ?_
    · match j, hj with
      | 0, _ => exact s1
      | 1, _ => exact s2
    · have := bX k; have := bY k
      show _ ≤ (if j = 0 then zx k else zy k) ∧ (if j = 0 then zx k else zy k) ≤ _
      split <;> omega
    · show _ ≤ (if j = 0 then K else K2) ∧ (if j = 0 then K else K2) ≤ _
      split <;> omega
    · rintro e w' ⟨co, cc, rfl, hs, kk⟩
      have hc : ∀ p, clamp (rne (dk (fun k => (fun j k => if j = 0 then zx k else zy k) k p) (fun k => if k = 0 then K else K2) 2) (2 ^ 30)) = zj p ∧ great (rne (dk (fun k => (fun j k => if j = 0 then zx k else zy k) k p) (fun k => if k = 0 then K else K2) 2) (2 ^ 30)) = false := fun p => by
        have e2 : rne (dk (fun k => (fun j k => if j = 0 then zx k else zy k) k p) (fun k => if k = 0 then K else K2) 2) (2 ^ 30) = zj p := by rw [hzj]; rfl
        rw [e2]
        have := hj p; have := bX p; have := bY p
        exact clamp_id (by omega) (by omega)
      have e1 : anyb (fun p => great (rne (dk (fun k => (fun j k => if j = 0 then zx k else zy k) k p) (fun k => if k = 0 then K else K2) 2) (2 ^ 30))) n = false := anyb_false.2 fun p _ => (hc p).2
      exact ⟨co, cc, by rw [e1], hs.congr (fun p _ => (hc p).1), kk⟩
  have HMX := Hid.mkV (mxs_mid (n := n) (fun k _ => hj k) bX bY)
  have HBX := Hid.mkV bX
  have HBY := Hid.mkV bY
  have HJB := Hid.mkV hj
  have HMB := Hid.mkV (fun z : Nat → Int => Vc.mxs_bd z n)
  obtain ⟨xa, hao, hca⟩ := ha.get
  obtain ⟨xb, hbo, hcb⟩ := hb.get
  have l1 := ha.le
  have l2 := ha.cap
  have l3 := hb.le
  have l4 := hb.cap
  have n1 : n ≤ la := by omega
  have n2 : n ≤ lb := by omega
  have n3 : n ≤ 6 := by omega
  have HAO := Hid.mkV hao
  have HBO := Hid.mkV hbo
  have HCA := Hid.mkV hca
  have HCB := Hid.mkV hcb
  have HZX := Hid.mkV hzx
  have HZY := Hid.mkV hzy
  have HN := Hid.mkV hn
  clear hn ha hb hao hbo hca hcb hzx hzy bX bY hj hzj
  go_enter Try.func3, Try.ntmps3
  go_upto_region 1 with fail
  go_cut [7] (fun v wx => v = .int .i64 (n : Int) ∧ w = wx)
  case first =>
    go_wp2
    all_goals go_meet
    all_goals exact ⟨by congr 1; have := HN.out; omega, rfl⟩
  case rest =>
    obtain ⟨rfl, rfl⟩ := hcut
    go_wp2
    go_loopw [8, 9, 10] (fun vx vy i wr => ∃ k : Nat, k ≤ n ∧ i = .int .i64 (k : Int) ∧ Two w.heap.size w wr vx k zx vy k zy) (fun _ _ i _ => n - (intOf i).toNat)
    case atStart => exact ⟨0, by omega, rfl, ⟨Own.nil (Below.refl _ _) (Nat.le_refl _) _, Own.nil (Below.refl _ _) (Nat.le_refl _) _, fun g h => by cases h⟩⟩
    case round =>
      rename World => wo
      obtain ⟨k, hk, rfl, hT⟩ := hrel
      by_cases h : k < n
      · obtain rfl := HAO.out (by omega)
        obtain rfl := HBO.out (by omega)
        have C1 := HCA.out k (by omega)
        have C2 := HCB.out k (by omega)
        have c1 := keep_cell hT.x.below C1
        have c2 := keep_cell hT.x.below C2
        have e1 := HZX.out k
        have e2 := HZY.out k
        have bx := tmod_bd (za k) (show (0 : Int) < 1152921504606846976 by omega)
        have bY := tmod_bd (zb k) (show (0 : Int) < 1152921504606846976 by omega)
        obtain ⟨P, hP⟩ : ∃ P, P = za k := ⟨_, rfl⟩
        obtain ⟨Q, hQ⟩ : ∃ Q, Q = zb k := ⟨_, rfl⟩
        obtain ⟨X, hX⟩ : ∃ X, X = zx k := ⟨_, rfl⟩
        obtain ⟨Y, hY⟩ : ∃ Y, Y = zy k := ⟨_, rfl⟩
        rw [← hP] at c1 C1 e1 bx
        rw [← hQ] at c2 C2 e2 bY
        rw [← hX] at e1
        rw [← hY] at e2
        have HX := Hid.mkV hX
        have HY := Hid.mkV hY
        have f1 := e1.symm
        have f2 := e2.symm
        rw [f1] at bx
        rw [f2] at bY
        have g1 : IntKind.i64.wrap X = X := by rw [IntKind.wrap_i64]; omega
        have g2 : IntKind.i64.wrap Y = Y := by rw [IntKind.wrap_i64]; omega
        clear hP hQ hX hY e1 e2
        go_wp2
        have i1 : (k : Int) < (la : Int) := by omega
        have i2 : (k : Int) < (lb : Int) := by omega
        have i3 : (0 : Int) ≤ (k : Int) := by omega
        go_region_held3 (fun w' => w'.cell? (xa.add k) = some (.int .i64 P) ∧ w'.cell? (xb.add k) = some (.int .i64 Q)) (first
            | with_reducible exact ⟨c1, c2⟩
            | with_reducible exact ⟨keep_cell t2.x.below C1, keep_cell t2.x.below C2⟩
            | with_reducible exact ⟨keep_cell t1.x.below C1, keep_cell t1.x.below C2⟩
            | with_reducible exact ⟨keep_cell (t1.alloc _).x.below C1, keep_cell (t1.alloc _).x.below C2⟩
            | with_reducible exact ⟨keep_cell hT.drew.x.below C1, keep_cell hT.drew.x.below C2⟩
            | with_reducible exact ⟨keep_cell (hT.alloc _).x.below C1, keep_cell (hT.alloc _).x.below C2⟩
            | with_reducible exact ⟨keep_cell (hT.alloc _).drew.x.below C1, keep_cell (hT.alloc _).drew.x.below C2⟩
            | with_reducible exact ⟨keep_cell ((hT.alloc _).drew.alloc _).x.below C1, keep_cell ((hT.alloc _).drew.alloc _).x.below C2⟩
            | with_reducible exact ⟨keep_cell ((hT.alloc _).alloc _).x.below C1, keep_cell ((hT.alloc _).alloc _).x.below C2⟩
            | with_reducible exact ⟨keep_cell ((hT.alloc _).alloc _).drew.x.below C1, keep_cell ((hT.alloc _).alloc _).drew.x.below C2⟩
            | go_keep)
          (first
            | (refine step_x (by rfl) (.tmp 32) (.tmp 38) (by rfl) (B := w.heap.size) (w0 := w) (vx := u8) (vy := u9) (nx := k) (ny := k) (zx := zx) (zy := zy) (by repeat (first | with_reducible exact hT | with_reducible exact t1 | with_reducible exact t2 | with_reducible refine Two.alloc ?_ _ | with_reducible refine Two.drew ?_)) (by rfl) (by omega) (y := X) (by rfl) (by repeat (first | (with_reducible refine pend_at (B := w.heap.size) (w0 := w) (vx := u8) (nx := k) (ny := k) (zx := zx) (zy := zy) ?_ _ (by simp)) | (with_reducible refine pend_at (B := w.heap.size) (w0 := w) (vx := v1) (nx := k + 1) (ny := k) (zx := zx) (zy := zy) ?_ _ (by simp)) | with_reducible exact hT | with_reducible exact t1 | with_reducible refine Two.alloc ?_ _ | with_reducible refine Two.drew ?_ | with_reducible refine Pend.alloc ?_ _ | with_reducible refine Pend.drew ?_ | with_reducible refine p1 _ _ ?_)) (by exact HX.out) ?_; intro v1 w1 t1 p1)
            | (refine step_y (by rfl) (.tmp 40) (.tmp 46) (by rfl) (B := w.heap.size) (w0 := w) (vx := v1) (vy := u9) (nx := k + 1) (ny := k) (zx := zx) (zy := zy) (by repeat (first | with_reducible exact hT | with_reducible exact t1 | with_reducible exact t2 | with_reducible refine Two.alloc ?_ _ | with_reducible refine Two.drew ?_)) (by rfl) (by omega) (y := Y) (by rfl) (by repeat (first | (with_reducible refine pend_at (B := w.heap.size) (w0 := w) (vx := u8) (nx := k) (ny := k) (zx := zx) (zy := zy) ?_ _ (by simp)) | (with_reducible refine pend_at (B := w.heap.size) (w0 := w) (vx := v1) (nx := k + 1) (ny := k) (zx := zx) (zy := zy) ?_ _ (by simp)) | with_reducible exact hT | with_reducible exact t1 | with_reducible refine Two.alloc ?_ _ | with_reducible refine Two.drew ?_ | with_reducible refine Pend.alloc ?_ _ | with_reducible refine Pend.drew ?_ | with_reducible refine p1 _ _ ?_)) (by exact HY.out) ?_; intro v2 w2 t2 p2))
        all_goals go_wp2
        all_goals go_roundw
        all_goals first
          | (simp [intOf]; omega)
          | exact ⟨k + 1, by omega, by go_num, t2⟩
          | trace_state
      · obtain rfl : k = n := by omega
        obtain ⟨ox, cx, e1, sx⟩ := hT.x.sl
        obtain ⟨oy, cy, e2, sy⟩ := hT.y.sl
        have K3 := hT.x.below
        subst e1 e2
        clear hT HAO HBO HCA HCB HZX HZY
        have m1 := sx.le
        have m2 := sx.cap
        have m3 := sy.le
        have m4 := sy.cap
        go_wp2_with fail
        refine (HA.out _ _ _ _ _ sx sy).mono ?_
        rintro e w4 ⟨os, cs, rfl, ss, k4⟩
        have sx4 := sx.keep k4
        have sy4 := sy.keep k4
        have K4 := below_tr K3 k4
        clear sx sy k4 K3
        go_wp2_with fail
        refine (HS.out _ _ _ _ _ ss sy4).mono ?_
        rintro e w5 ⟨od, cd, rfl, sd, k5⟩
        have sx5 := sx4.keep k5
        have sy5 := sy4.keep k5
        have K5 := below_tr K4 k5
        clear sx4 sy4 k5 K4 ss
        go_wp2_with fail
        refine (nums_yes _ _ _ _ _ _ _ sd sx5).mono ?_
        rintro e w6 ⟨rfl, k6⟩
        have sx6 := sx5.keep k6
        have sy6 := sy5.keep k6
        have K6 := below_tr K5 k6
        clear sx5 sy5 k6 K5 sd
        go_wp2_with fail
        refine (HJ.out _ _ _ ox cx oy cy (by go_simp) (by rw [Addr.add_lit]; go_simp) (sx6.keep (below_al (below_al (Below.refl _ _) _) _)) (sy6.keep (below_al (below_al (Below.refl _ _) _) _)) (Sl.duo (by go_simp) (by rw [Addr.add_lit]; go_simp))).mono ?_
        rintro e w7 ⟨oj, cj, rfl, sj, k7'⟩
        have k7 := below_tr (below_al (below_al (Below.refl _ _) _) _) k7'
        have sx7 := sx6.keep k7
        have sy7 := sy6.keep k7
        have K7 := below_tr K6 k7
        clear sx6 sy6 k7 k7' K6
        have m5 := sj.le
        have m6 := sj.cap
        obtain ⟨xx, hxo, hxc⟩ := sx7.get
        obtain ⟨xy, hyo, hyc⟩ := sy7.get
        obtain ⟨xj, hjo, hjc⟩ := sj.get
        have HXO := Hid.mkV hxo
        have HXC := Hid.mkV hxc
        have HYO := Hid.mkV hyo
        have HYC := Hid.mkV hyc
        have HJO := Hid.mkV hjo
        have HJC := Hid.mkV hjc
        have HX7 := Hid.mkV sx7
        have HY7 := Hid.mkV sy7
        have HJ7 := Hid.mkV sj
        clear hxo hxc hyo hyc hjo hjc sx7 sy7 sj
        go_wp2
        go_loopw [21] (fun i wr => ∃ t : Nat, t ≤ k ∧ i = .int .i64 (t : Int) ∧ Below w7.heap.size w7 wr) (fun i _ => k - (intOf i).toNat)
        case atStart => exact ⟨0, by omega, rfl, Below.refl _ _⟩
        case round =>
          rename World => w8
          obtain ⟨t, ht, rfl, k8⟩ := hrel
          by_cases h2 : t < k
          · obtain rfl := HXO.out (by omega)
            obtain rfl := HYO.out (by omega)
            obtain rfl := HJO.out (by omega)
            have d1 := keep_cell k8 (HXC.out t h2)
            have d2 := keep_cell k8 (HYC.out t h2)
            have d3 := keep_cell k8 (HJC.out t h2)
            have b1 := HBX.out t
            have b2 := HBY.out t
            have b3 := HJB.out t
            obtain ⟨X, hX⟩ : ∃ X, X = zx t := ⟨_, rfl⟩
            obtain ⟨Y, hY⟩ : ∃ Y, Y = zy t := ⟨_, rfl⟩
            obtain ⟨J, hJ⟩ : ∃ J, J = zj t := ⟨_, rfl⟩
            rw [← hX] at d1 b1 b3
            rw [← hY] at d2 b2 b3
            rw [← hJ] at d3 b3
            have i1 : (t : Int) < (k : Int) := by omega
            have i2 : (0 : Int) ≤ (t : Int) := by omega
            clear hX hY hJ
            rcases Int.lt_or_le X Y with hXY | hXY
            · have f1 : decide (J < X - 1) = false := decide_eq_false (by omega)
              have f2 : decide (J > Y + 1) = false := decide_eq_false (by omega)
              have f3 : IntKind.i64.wrap (X - 1) = X - 1 := by rw [IntKind.wrap_i64]; omega
              have f4 : IntKind.i64.wrap (Y + 1) = Y + 1 := by rw [IntKind.wrap_i64]; omega
              have f5 : min X Y = X := by omega
              have f6 : max X Y = Y := by omega
              clear b3
              go_wp2
              go_quiet (fail)
              go_wp2
              go_roundw
              case rel => exact ⟨t + 1, by omega, by go_num, Vc.below_drewN k8 _⟩
              case measure => simp [intOf]; omega
            · have f1 : decide (J < Y - 1) = false := decide_eq_false (by omega)
              have f2 : decide (J > X + 1) = false := decide_eq_false (by omega)
              have f3 : IntKind.i64.wrap (Y - 1) = Y - 1 := by rw [IntKind.wrap_i64]; omega
              have f4 : IntKind.i64.wrap (X + 1) = X + 1 := by rw [IntKind.wrap_i64]; omega
              rcases Int.lt_or_le Y X with hYX | hYX
              · have f5 : min X Y = Y := by omega
                have f6 : max X Y = X := by omega
                clear b3 hXY
                go_wp2
                go_quiet (fail)
                go_wp2
                go_roundw
                case rel => exact ⟨t + 1, by omega, by go_num, Vc.below_drewN k8 _⟩
                case measure => simp [intOf]; omega
              · obtain rfl : X = Y := by omega
                clear b3 hXY hYX
                go_wp2
                go_quiet (fail)
                go_wp2
                go_roundw
                case rel => exact ⟨t + 1, by omega, by go_num, Vc.below_drewN k8 _⟩
                case measure => simp [intOf]; omega
          · obtain rfl : t = k := by omega
            have K8 := below_tr K7 k8
            have S1 := Hid.mkV (vsize_any t cj oj zj w8 (HJ7.out.keep k8))
            have S2 := Hid.mkV (vsize_any t cx ox zx w8 (HX7.out.keep k8))
            have S3 := Hid.mkV (vsize_any t cy oy zy w8 (HY7.out.keep k8))
            have q1 := HMB.out zx
            have q2 := HMB.out zy
            have q3 := HMB.out zj
            have q4 := HMX.out
            obtain ⟨MX, hMX⟩ : ∃ M, M = Vc.mxs zx t := ⟨_, rfl⟩
            obtain ⟨MY, hMY⟩ : ∃ M, M = Vc.mxs zy t := ⟨_, rfl⟩
            obtain ⟨MJ, hMJ⟩ : ∃ M, M = Vc.mxs zj t := ⟨_, rfl⟩
            rw [← hMX] at S2 q1 q4
            rw [← hMY] at S3 q2 q4
            rw [← hMJ] at S1 q3 q4
            clear hMX hMY hMJ HMX
            rcases Int.lt_or_le MX MY with hm | hm
            · have f1 : decide (MJ ≤ MY + 1) = true := decide_eq_true (by omega)
              have f2 : max MX MY = MY := by omega
              clear q4
              go_wp2_with fail
              refine S1.out.mono ?_
              rintro e w9 ⟨rfl, rfl⟩
              go_wp2_with fail
              refine S2.out.mono ?_
              rintro e w10 ⟨rfl, rfl⟩
              go_wp2_with fail
              refine S3.out.mono ?_
              rintro e w11 ⟨rfl, rfl⟩
              go_wp2_with fail
              refine (vsure_any _).mono ?_
              rintro e w12 ⟨rfl, k12⟩
              go_wp2
              go_ret
              exact ⟨rfl, below_tr K8 k12⟩
            · have f1 : decide (MJ ≤ MX + 1) = true := decide_eq_true (by omega)
              have f2 : max MX MY = MX := by omega
              clear q4 hm
              go_wp2_with fail
              refine S1.out.mono ?_
              rintro e w9 ⟨rfl, rfl⟩
              go_wp2_with fail
              refine S2.out.mono ?_
              rintro e w10 ⟨rfl, rfl⟩
              go_wp2_with fail
              refine S3.out.mono ?_
              rintro e w11 ⟨rfl, rfl⟩
              go_wp2_with fail
              refine (vsure_any _).mono ?_
              rintro e w12 ⟨rfl, k12⟩
              go_wp2
              go_ret
              exact ⟨rfl, below_tr K8 k12⟩

set_option maxRecDepth 10000 in
set_option maxHeartbeats 2000000 in
theorem vlaws_pos (la lb n ca cb : Nat) (ao bo : Option Addr) (za zb zx zy : Nat → Int) (c k0 K K2 : Int) (w : World) (hn : n = min (min la lb) 6) (ha : Sl w ao la ca za) (hb : Sl w bo lb cb zb) (hzx : ∀ k, zx k = (za k).tmod 1152921504606846976) (hzy : ∀ k, zy k = (zb k).tmod 1152921504606846976)
    (e0 : c.tmod 1073741824 = k0) (hpos : 0 ≤ K) (hK : k0 = K) (K0 : 0 ≤ K) (K1 : K < 1073741824) (hK2 : 1073741824 - K = K2) :
    Calls Try.prog 3 #[.slice ao la ca, .slice bo lb cb, .int .i64 c] w fun e w' => e = .returned (.bool true) ∧ Below w.heap.size w w' := by
  subst hK
  have bX : ∀ k, -1152921504606846976 < zx k ∧ zx k < 1152921504606846976 := fun k => by rw [hzx k]; exact tmod_bd _ (by omega)
  have bY : ∀ k, -1152921504606846976 < zy k ∧ zy k < 1152921504606846976 := fun k => by rw [hzy k]; exact tmod_bd _ (by omega)
  have HA : Hid (∀ W ox cx oy cy, Sl W ox n cx zx → Sl W oy n cy zy → Calls Try.prog 4 #[.slice ox n cx, .slice oy n cy] W fun e w' => ∃ co cc, e = .returned (.tuple #[.slice co n cc, .bool false, .nilIface]) ∧ Sl w' co n cc (fun k => zx k + zy k) ∧ Below W.heap.size W w') := by
    intro W ox cx oy cy s1 s2
    refine (vadd_any n cx cy ox oy zx zy W (by omega) s1 s2 (fun k => by have := bX k; omega) (fun k => by have := bY k; omega)).mono ?_
    rintro e w' ⟨co, cc, rfl, hs, kk⟩
    have e1 : anyb (fun k => great (zx k + zy k)) n = false := anyb_false.2 fun k _ => (clamp_id (by have := bX k; have := bY k; omega) (by have := bX k; have := bY k; omega)).2
    exact ⟨co, cc, by rw [e1], hs.congr (fun k _ => (clamp_id (by have := bX k; have := bY k; omega) (by have := bX k; have := bY k; omega)).1), kk⟩
  have HS : Hid (∀ W ox cx oy cy, Sl W ox n cx (fun k => zx k + zy k) → Sl W oy n cy zy → Calls Try.prog 5 #[.slice ox n cx, .slice oy n cy] W fun e w' => ∃ co cc, e = .returned (.tuple #[.slice co n cc, .bool false, .nilIface]) ∧ Sl w' co n cc zx ∧ Below W.heap.size W w') := by
    intro W ox cx oy cy s1 s2
    refine (vsub_any n cx cy ox oy (fun k => zx k + zy k) zy W (by omega) s1 s2 (fun k => by have := bX k; have := bY k; show _ ≤ zx k + zy k ∧ zx k + zy k ≤ _; omega) (fun k => by have := bY k; omega)).mono ?_
    rintro e w' ⟨co, cc, rfl, hs, kk⟩
    have hc : ∀ k, clamp (zx k + zy k - zy k) = zx k ∧ great (zx k + zy k - zy k) = false := fun k => by
      have h1 := bX k
      rw [show zx k + zy k - zy k = zx k by omega]
      exact clamp_id (by omega) (by omega)
    have e1 : anyb (fun k => great ((fun k => zx k + zy k) k - zy k)) n = false := anyb_false.2 fun k _ => (hc k).2
    exact ⟨co, cc, by rw [e1], hs.congr (fun k _ => (hc k).1), kk⟩
  obtain ⟨zj, hzj⟩ : ∃ zj : Nat → Int, zj = fun k => rne (0 + zx k * k0 + zy k * K2) (2 ^ 30) := ⟨_, rfl⟩
  have hj : ∀ k, min (zx k) (zy k) ≤ zj k ∧ zj k ≤ max (zx k) (zy k) := fun k => by rw [hzj, ← hK2]; exact join_mid K0 (by omega)
  have HJ : Hid (∀ W x ho ox cx oy cy, W.cell? x = some (.slice ox n cx) → W.cell? (x.add 1) = some (.slice oy n cy) → Sl W ox n cx zx → Sl W oy n cy zy → Sl W ho 2 2 (fun k => if k = 0 then k0 else K2) →
      Calls Try.prog 7 #[.slice (some x) 2 2, .slice ho 2 2] W fun e w' => ∃ co cc, e = .returned (.tuple #[.slice co n cc, .bool false, .nilIface]) ∧ Sl w' co n cc zj ∧ Below W.heap.size W w') := by
    intro W x ho ox cx oy cy c0 c1 s1 s2 s3
    refine (vjoin_any n (some x) ho 2 2 2 _ _ (fun j k => if j = 0 then zx k else zy k) _ W ((Sls.two c0 c1).len (fun j _ => by split <;> rfl)) (fun j hj => ?_) (by omega) (by omega) (by omega) s3 (fun j k => ?_) (fun j => ?_)).mono ?_
    · match j, hj with
      | 0, _ => exact s1
      | 1, _ => exact s2
    · have := bX k; have := bY k
      show _ ≤ (if j = 0 then zx k else zy k) ∧ (if j = 0 then zx k else zy k) ≤ _
      split <;> omega
    · show _ ≤ (if j = 0 then k0 else K2) ∧ (if j = 0 then k0 else K2) ≤ _
      split <;> omega
    · rintro e w' ⟨co, cc, rfl, hs, kk⟩
      have hc : ∀ p, clamp (rne (dk (fun k => (fun j k => if j = 0 then zx k else zy k) k p) (fun k => if k = 0 then k0 else K2) 2) (2 ^ 30)) = zj p ∧ great (rne (dk (fun k => (fun j k => if j = 0 then zx k else zy k) k p) (fun k => if k = 0 then k0 else K2) 2) (2 ^ 30)) = false := fun p => by
        have e2 : rne (dk (fun k => (fun j k => if j = 0 then zx k else zy k) k p) (fun k => if k = 0 then k0 else K2) 2) (2 ^ 30) = zj p := by rw [hzj]; rfl
        rw [e2]
        have := hj p; have := bX p; have := bY p
        exact clamp_id (by omega) (by omega)
      have e1 : anyb (fun p => great (rne (dk (fun k => (fun j k => if j = 0 then zx k else zy k) k p) (fun k => if k = 0 then k0 else K2) 2) (2 ^ 30))) n = false := anyb_false.2 fun p _ => (hc p).2
      exact ⟨co, cc, by rw [e1], hs.congr (fun p _ => (hc p).1), kk⟩
  have HMX := Hid.mkV (mxs_mid (n := n) (fun k _ => hj k) bX bY)
  have HBX := Hid.mkV bX
  have HBY := Hid.mkV bY
  have HJB := Hid.mkV hj
  have HMB := Hid.mkV (fun z : Nat → Int => Vc.mxs_bd z n)
  obtain ⟨xa, hao, hca⟩ := ha.get
  obtain ⟨xb, hbo, hcb⟩ := hb.get
  have l1 := ha.le
  have l2 := ha.cap
  have l3 := hb.le
  have l4 := hb.cap
  have n1 : n ≤ la := by omega
  have n2 : n ≤ lb := by omega
  have n3 : n ≤ 6 := by omega
  have HAO := Hid.mkV hao
  have HBO := Hid.mkV hbo
  have HCA := Hid.mkV hca
  have HCB := Hid.mkV hcb
  have HZX := Hid.mkV hzx
  have HZY := Hid.mkV hzy
  have HN := Hid.mkV hn
  clear hn ha hb hao hbo hca hcb hzx hzy bX bY hj hzj
  go_enter Try.func3, Try.ntmps3
  go_upto_region 1 with fail
  go_cut [7] (fun v wx => v = .int .i64 (n : Int) ∧ w = wx)
  case first =>
    go_wp2
    all_goals go_meet
    all_goals exact ⟨by congr 1; have := HN.out; omega, rfl⟩
  case rest =>
    obtain ⟨rfl, rfl⟩ := hcut
    go_wp2
    go_loopw [8, 9, 10] (fun vx vy i wr => ∃ k : Nat, k ≤ n ∧ i = .int .i64 (k : Int) ∧ Two w.heap.size w wr vx k zx vy k zy) (fun _ _ i _ => n - (intOf i).toNat)
    case atStart => exact ⟨0, by omega, rfl, ⟨Own.nil (Below.refl _ _) (Nat.le_refl _) _, Own.nil (Below.refl _ _) (Nat.le_refl _) _, fun g h => by cases h⟩⟩
    case round =>
      rename World => wo
      obtain ⟨k, hk, rfl, hT⟩ := hrel
      by_cases h : k < n
      · obtain rfl := HAO.out (by omega)
        obtain rfl := HBO.out (by omega)
        have C1 := HCA.out k (by omega)
        have C2 := HCB.out k (by omega)
        have c1 := keep_cell hT.x.below C1
        have c2 := keep_cell hT.x.below C2
        have e1 := HZX.out k
        have e2 := HZY.out k
        have bx := tmod_bd (za k) (show (0 : Int) < 1152921504606846976 by omega)
        have bY := tmod_bd (zb k) (show (0 : Int) < 1152921504606846976 by omega)
        obtain ⟨P, hP⟩ : ∃ P, P = za k := ⟨_, rfl⟩
        obtain ⟨Q, hQ⟩ : ∃ Q, Q = zb k := ⟨_, rfl⟩
        obtain ⟨X, hX⟩ : ∃ X, X = zx k := ⟨_, rfl⟩
        obtain ⟨Y, hY⟩ : ∃ Y, Y = zy k := ⟨_, rfl⟩
        rw [← hP] at c1 C1 e1 bx
        rw [← hQ] at c2 C2 e2 bY
        rw [← hX] at e1
        rw [← hY] at e2
        have HX := Hid.mkV hX
        have HY := Hid.mkV hY
        have f1 := e1.symm
        have f2 := e2.symm
        rw [f1] at bx
        rw [f2] at bY
        have g1 : IntKind.i64.wrap X = X := by rw [IntKind.wrap_i64]; omega
        have g2 : IntKind.i64.wrap Y = Y := by rw [IntKind.wrap_i64]; omega
        clear hP hQ hX hY e1 e2
        go_wp2
        have i1 : (k : Int) < (la : Int) := by omega
        have i2 : (k : Int) < (lb : Int) := by omega
        have i3 : (0 : Int) ≤ (k : Int) := by omega
        go_region_held3 (fun w' => w'.cell? (xa.add k) = some (.int .i64 P) ∧ w'.cell? (xb.add k) = some (.int .i64 Q)) (first
            | with_reducible exact ⟨c1, c2⟩
            | with_reducible exact ⟨keep_cell t2.x.below C1, keep_cell t2.x.below C2⟩
            | with_reducible exact ⟨keep_cell t1.x.below C1, keep_cell t1.x.below C2⟩
            | with_reducible exact ⟨keep_cell (t1.alloc _).x.below C1, keep_cell (t1.alloc _).x.below C2⟩
            | with_reducible exact ⟨keep_cell hT.drew.x.below C1, keep_cell hT.drew.x.below C2⟩
            | with_reducible exact ⟨keep_cell (hT.alloc _).x.below C1, keep_cell (hT.alloc _).x.below C2⟩
            | with_reducible exact ⟨keep_cell (hT.alloc _).drew.x.below C1, keep_cell (hT.alloc _).drew.x.below C2⟩
            | with_reducible exact ⟨keep_cell ((hT.alloc _).drew.alloc _).x.below C1, keep_cell ((hT.alloc _).drew.alloc _).x.below C2⟩
            | with_reducible exact ⟨keep_cell ((hT.alloc _).alloc _).x.below C1, keep_cell ((hT.alloc _).alloc _).x.below C2⟩
            | with_reducible exact ⟨keep_cell ((hT.alloc _).alloc _).drew.x.below C1, keep_cell ((hT.alloc _).alloc _).drew.x.below C2⟩
            | go_keep)
          (first
            | (refine step_x (by rfl) (.tmp 32) (.tmp 38) (by rfl) (B := w.heap.size) (w0 := w) (vx := u8) (vy := u9) (nx := k) (ny := k) (zx := zx) (zy := zy) (by repeat (first | with_reducible exact hT | with_reducible exact t1 | with_reducible exact t2 | with_reducible refine Two.alloc ?_ _ | with_reducible refine Two.drew ?_)) (by rfl) (by omega) (y := X) (by rfl) (by repeat (first | (with_reducible refine pend_at (B := w.heap.size) (w0 := w) (vx := u8) (nx := k) (ny := k) (zx := zx) (zy := zy) ?_ _ (by simp)) | (with_reducible refine pend_at (B := w.heap.size) (w0 := w) (vx := v1) (nx := k + 1) (ny := k) (zx := zx) (zy := zy) ?_ _ (by simp)) | with_reducible exact hT | with_reducible exact t1 | with_reducible refine Two.alloc ?_ _ | with_reducible refine Two.drew ?_ | with_reducible refine Pend.alloc ?_ _ | with_reducible refine Pend.drew ?_ | with_reducible refine p1 _ _ ?_)) (by exact HX.out) ?_; intro v1 w1 t1 p1)
            | (refine step_y (by rfl) (.tmp 40) (.tmp 46) (by rfl) (B := w.heap.size) (w0 := w) (vx := v1) (vy := u9) (nx := k + 1) (ny := k) (zx := zx) (zy := zy) (by repeat (first | with_reducible exact hT | with_reducible exact t1 | with_reducible exact t2 | with_reducible refine Two.alloc ?_ _ | with_reducible refine Two.drew ?_)) (by rfl) (by omega) (y := Y) (by rfl) (by repeat (first | (with_reducible refine pend_at (B := w.heap.size) (w0 := w) (vx := u8) (nx := k) (ny := k) (zx := zx) (zy := zy) ?_ _ (by simp)) | (with_reducible refine pend_at (B := w.heap.size) (w0 := w) (vx := v1) (nx := k + 1) (ny := k) (zx := zx) (zy := zy) ?_ _ (by simp)) | with_reducible exact hT | with_reducible exact t1 | with_reducible refine Two.alloc ?_ _ | with_reducible refine Two.drew ?_ | with_reducible refine Pend.alloc ?_ _ | with_reducible refine Pend.drew ?_ | with_reducible refine p1 _ _ ?_)) (by exact HY.out) ?_; intro v2 w2 t2 p2))
        all_goals go_wp2
        all_goals go_roundw
        all_goals first
          | (simp [intOf]; omega)
          | exact ⟨k + 1, by omega, by go_num, t2⟩
          | trace_state
      · obtain rfl : k = n := by omega
        obtain ⟨ox, cx, e1, sx⟩ := hT.x.sl
        obtain ⟨oy, cy, e2, sy⟩ := hT.y.sl
        have K3 := hT.x.below
        subst e1 e2
        clear hT HAO HBO HCA HCB HZX HZY
        have m1 := sx.le
        have m2 := sx.cap
        have m3 := sy.le
        have m4 := sy.cap
        go_wp2_with fail
        refine (HA.out _ _ _ _ _ sx sy).mono ?_
        rintro e w4 ⟨os, cs, rfl, ss, k4⟩
        have sx4 := sx.keep k4
        have sy4 := sy.keep k4
        have K4 := below_tr K3 k4
        clear sx sy k4 K3
        go_wp2_with fail
        refine (HS.out _ _ _ _ _ ss sy4).mono ?_
        rintro e w5 ⟨od, cd, rfl, sd, k5⟩
        have sx5 := sx4.keep k5
        have sy5 := sy4.keep k5
        have K5 := below_tr K4 k5
        clear sx4 sy4 k5 K4 ss
        go_wp2_with fail
        refine (nums_yes _ _ _ _ _ _ _ sd sx5).mono ?_
        rintro e w6 ⟨rfl, k6⟩
        have sx6 := sx5.keep k6
        have sy6 := sy5.keep k6
        have K6 := below_tr K5 k6
        clear sx5 sy5 k6 K5 sd
        go_wp2_with fail
        refine (HJ.out _ _ _ ox cx oy cy (by go_simp) (by rw [Addr.add_lit]; go_simp) (sx6.keep (below_al (below_al (Below.refl _ _) _) _)) (sy6.keep (below_al (below_al (Below.refl _ _) _) _)) (Sl.duo (by go_simp) (by rw [Addr.add_lit]; go_simp))).mono ?_
        rintro e w7 ⟨oj, cj, rfl, sj, k7'⟩
        have k7 := below_tr (below_al (below_al (Below.refl _ _) _) _) k7'
        have sx7 := sx6.keep k7
        have sy7 := sy6.keep k7
        have K7 := below_tr K6 k7
        clear sx6 sy6 k7 k7' K6
        have m5 := sj.le
        have m6 := sj.cap
        obtain ⟨xx, hxo, hxc⟩ := sx7.get
        obtain ⟨xy, hyo, hyc⟩ := sy7.get
        obtain ⟨xj, hjo, hjc⟩ := sj.get
        have HXO := Hid.mkV hxo
        have HXC := Hid.mkV hxc
        have HYO := Hid.mkV hyo
        have HYC := Hid.mkV hyc
        have HJO := Hid.mkV hjo
        have HJC := Hid.mkV hjc
        have HX7 := Hid.mkV sx7
        have HY7 := Hid.mkV sy7
        have HJ7 := Hid.mkV sj
        clear hxo hxc hyo hyc hjo hjc sx7 sy7 sj
        go_wp2
        go_loopw [21] (fun i wr => ∃ t : Nat, t ≤ k ∧ i = .int .i64 (t : Int) ∧ Below w7.heap.size w7 wr) (fun i _ => k - (intOf i).toNat)
        case atStart => exact ⟨0, by omega, rfl, Below.refl _ _⟩
        case round =>
          rename World => w8
          obtain ⟨t, ht, rfl, k8⟩ := hrel
          by_cases h2 : t < k
          · obtain rfl := HXO.out (by omega)
            obtain rfl := HYO.out (by omega)
            obtain rfl := HJO.out (by omega)
            have d1 := keep_cell k8 (HXC.out t h2)
            have d2 := keep_cell k8 (HYC.out t h2)
            have d3 := keep_cell k8 (HJC.out t h2)
            have b1 := HBX.out t
            have b2 := HBY.out t
            have b3 := HJB.out t
            obtain ⟨X, hX⟩ : ∃ X, X = zx t := ⟨_, rfl⟩
            obtain ⟨Y, hY⟩ : ∃ Y, Y = zy t := ⟨_, rfl⟩
            obtain ⟨J, hJ⟩ : ∃ J, J = zj t := ⟨_, rfl⟩
            rw [← hX] at d1 b1 b3
            rw [← hY] at d2 b2 b3
            rw [← hJ] at d3 b3
            have i1 : (t : Int) < (k : Int) := by omega
            have i2 : (0 : Int) ≤ (t : Int) := by omega
            clear hX hY hJ
            rcases Int.lt_or_le X Y with hXY | hXY
            · have f1 : decide (J < X - 1) = false := decide_eq_false (by omega)
              have f2 : decide (J > Y + 1) = false := decide_eq_false (by omega)
              have f3 : IntKind.i64.wrap (X - 1) = X - 1 := by rw [IntKind.wrap_i64]; omega
              have f4 : IntKind.i64.wrap (Y + 1) = Y + 1 := by rw [IntKind.wrap_i64]; omega
              have f5 : min X Y = X := by omega
              have f6 : max X Y = Y := by omega
              clear b3
              go_wp2
              go_quiet (fail)
              go_wp2
              go_roundw
              case rel => exact ⟨t + 1, by omega, by go_num, Vc.below_drewN k8 _⟩
              case measure => simp [intOf]; omega
            · have f1 : decide (J < Y - 1) = false := decide_eq_false (by omega)
              have f2 : decide (J > X + 1) = false := decide_eq_false (by omega)
              have f3 : IntKind.i64.wrap (Y - 1) = Y - 1 := by rw [IntKind.wrap_i64]; omega
              have f4 : IntKind.i64.wrap (X + 1) = X + 1 := by rw [IntKind.wrap_i64]; omega
              rcases Int.lt_or_le Y X with hYX | hYX
              · have f5 : min X Y = Y := by omega
                have f6 : max X Y = X := by omega
                clear b3 hXY
                go_wp2
                go_quiet (fail)
                go_wp2
                go_roundw
                case rel => exact ⟨t + 1, by omega, by go_num, Vc.below_drewN k8 _⟩
                case measure => simp [intOf]; omega
              · obtain rfl : X = Y := by omega
                clear b3 hXY hYX
                go_wp2
                go_quiet (fail)
                go_wp2
                go_roundw
                case rel => exact ⟨t + 1, by omega, by go_num, Vc.below_drewN k8 _⟩
                case measure => simp [intOf]; omega
          · obtain rfl : t = k := by omega
            have K8 := below_tr K7 k8
            have S1 := Hid.mkV (vsize_any t cj oj zj w8 (HJ7.out.keep k8))
            have S2 := Hid.mkV (vsize_any t cx ox zx w8 (HX7.out.keep k8))
            have S3 := Hid.mkV (vsize_any t cy oy zy w8 (HY7.out.keep k8))
            have q1 := HMB.out zx
            have q2 := HMB.out zy
            have q3 := HMB.out zj
            have q4 := HMX.out
            obtain ⟨MX, hMX⟩ : ∃ M, M = Vc.mxs zx t := ⟨_, rfl⟩
            obtain ⟨MY, hMY⟩ : ∃ M, M = Vc.mxs zy t := ⟨_, rfl⟩
            obtain ⟨MJ, hMJ⟩ : ∃ M, M = Vc.mxs zj t := ⟨_, rfl⟩
            rw [← hMX] at S2 q1 q4
            rw [← hMY] at S3 q2 q4
            rw [← hMJ] at S1 q3 q4
            clear hMX hMY hMJ HMX
            rcases Int.lt_or_le MX MY with hm | hm
            · have f1 : decide (MJ ≤ MY + 1) = true := decide_eq_true (by omega)
              have f2 : max MX MY = MY := by omega
              clear q4
              go_wp2_with fail
              refine S1.out.mono ?_
              rintro e w9 ⟨rfl, rfl⟩
              go_wp2_with fail
              refine S2.out.mono ?_
              rintro e w10 ⟨rfl, rfl⟩
              go_wp2_with fail
              refine S3.out.mono ?_
              rintro e w11 ⟨rfl, rfl⟩
              go_wp2_with fail
              refine (vsure_any _).mono ?_
              rintro e w12 ⟨rfl, k12⟩
              go_wp2
              go_ret
              exact ⟨rfl, below_tr K8 k12⟩
            · have f1 : decide (MJ ≤ MX + 1) = true := decide_eq_true (by omega)
              have f2 : max MX MY = MX := by omega
              clear q4 hm
              go_wp2_with fail
              refine S1.out.mono ?_
              rintro e w9 ⟨rfl, rfl⟩
              go_wp2_with fail
              refine S2.out.mono ?_
              rintro e w10 ⟨rfl, rfl⟩
              go_wp2_with fail
              refine S3.out.mono ?_
              rintro e w11 ⟨rfl, rfl⟩
              go_wp2_with fail
              refine (vsure_any _).mono ?_
              rintro e w12 ⟨rfl, k12⟩
              go_wp2
              go_ret
              exact ⟨rfl, below_tr K8 k12⟩

theorem vlaws_walk : FVecLaws.Walk := by
  intro a0 len0 cap0 z0 a1 len1 cap1 z1 c w h0 h1 wc
  obtain ⟨s0, q0⟩ := isrow3 h0
  obtain ⟨s1, q1⟩ := isrow3 h1
  have hb := tmod_bd c (show (0 : Int) < 1073741824 by omega)
  rcases Int.lt_or_le (c.tmod 1073741824) 0 with hk | hk
  · exact vlaws_neg len0 len1 _ cap0 cap1 a0 a1 _ _ (fun k => (z0.getD k 0).tmod 1152921504606846976) (fun k => (z1.getD k 0).tmod 1152921504606846976) c _ _ _ w rfl s0 s1 (fun _ => rfl) (fun _ => rfl) rfl hk rfl (by omega) (by omega) rfl
  · exact vlaws_pos len0 len1 _ cap0 cap1 a0 a1 _ _ (fun k => (z0.getD k 0).tmod 1152921504606846976) (fun k => (z1.getD k 0).tmod 1152921504606846976) c _ _ _ w rfl s0 s1 (fun _ => rfl) (fun _ => rfl) rfl hk rfl hk (by omega) rfl

/-- The law VecLaws, of any input. -/
theorem veclaws_holds : Rows.VecLawsSaid := FVecLaws.row vlaws_walk

end Go.Proofs.Ytopffbidnpimcaa
