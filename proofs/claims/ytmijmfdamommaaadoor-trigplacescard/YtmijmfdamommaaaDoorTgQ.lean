/-
  Angle of the document's answer of layer 5 (radomeref05); and that no angle is beyond a quarter.
-/
import Derived.Test.YtmijmfdamommaaaDoorTgG
import Derived.Test.YtmijmfdamommaaaDoorTgR
import Derived.Test.YtmijmfdamommaaaDoorTgBar
set_option linter.unusedSimpArgs false
set_option linter.unusedVariables false
namespace Go.Proofs.YtmijmfdamommaaaDoor
open Go.RowKit Tg
attribute [local go_sem ↓] Go.wp_at_zero Go.wp_at_succ

namespace Tg
theorem rd_in {z : Int} (h0 : -607395 ≤ z) (h1 : z ≤ 1152921504606846976 + 607395) : 0 ≤ rd z ∧ rd z ≤ 1073741824 := by
  have : 0 ≤ Qn.rne z 1073741824 ∧ Qn.rne z 1073741824 ≤ 1073741824 := by
    unfold Qn.rne; split <;> omega
  unfold rd Qn.clamp
  split
  · omega
  · split <;> omega
/-- The angle from the y axis is no more than a quarter. -/
theorem axis_in {x y : Int} (hx0 : 0 ≤ x) (hx1 : x ≤ 4611686018427387903) (hy0 : 0 ≤ y) (hy1 : y ≤ 4611686018427387903) (h : 1 ≤ x ∨ 1 ≤ y) : 0 ≤ axis x y ∧ axis x y ≤ 1073741824 := by
  have hb := bl_bd hy0 hy1 hx0 hx1 h.symm
  have mx := mv_bd hx0 hb.2.2.2.2 hb.2.1
  have my := mv_bd hy0 hb.2.2.2.1 hb.2.1
  have hge : 576460752303423488 ≤ mv (bl y x) y ∨ 576460752303423488 ≤ mv (bl y x) x := by
    rcases Int.le_total x y with c | c
    · rw [show max y x = y by omega] at hb
      exact .inl (mv_ge hb.2.2.1 hb.1 hb.2.1)
    · rw [show max y x = x by omega] at hb
      exact .inr (mv_ge hb.2.2.1 hb.1 hb.2.1)
  have := place_ends my.1 mx.1 hge
  exact rd_in this.1 this.2

theorem fl_ge60 {L j : Nat} {n : Int} (h1 : 2 ^ (L - 1) ≤ n) (hj : j < L - 60) : 1152921504606846976 ≤ fl n j := by
  unfold fl
  refine Int.le_ediv_of_mul_le (Int.pow_pos (by omega)) (Int.le_trans ?_ h1)
  have e : (1152921504606846976 : Int) * 2 ^ j = 2 ^ (60 + j) := by rw [Int.pow_add]; rfl
  rw [e]
  have : (2 : Nat) ^ (60 + j) ≤ 2 ^ (L - 1) := Nat.pow_le_pow_right (by omega) (by omega)
  have e1 : (2 : Int) ^ (60 + j) = ((2 ^ (60 + j) : Nat) : Int) := by simp
  have e2 : (2 : Int) ^ (L - 1) = ((2 ^ (L - 1) : Nat) : Int) := by simp
  rw [e1, e2]; omega
theorem fl_lt60 {L : Nat} {n : Int} (h1 : n < 2 ^ L) : fl n (L - 60) < 1152921504606846976 := by
  unfold fl
  refine Int.ediv_lt_of_lt_mul (Int.pow_pos (by omega)) (Int.lt_of_lt_of_le h1 ?_)
  have e : (1152921504606846976 : Int) * 2 ^ (L - 60) = 2 ^ (60 + (L - 60)) := by rw [Int.pow_add]; rfl
  rw [e]
  have : (2 : Nat) ^ L ≤ 2 ^ (60 + (L - 60)) := Nat.pow_le_pow_right (by omega) (by omega)
  have e1 : (2 : Int) ^ (60 + (L - 60)) = ((2 ^ (60 + (L - 60)) : Nat) : Int) := by simp
  have e2 : (2 : Int) ^ L = ((2 ^ L : Nat) : Int) := by simp
  rw [e1, e2]; omega
theorem mv_split (L : Nat) (n : Int) : fl n (L - 60) * 2 ^ (60 - L) = mv L n := by
  unfold mv fl
  split
  · rename_i h
    rw [show L - 60 = 0 by omega, Int.pow_zero, Int.ediv_one]
  · rename_i h
    rw [show 60 - L = 0 by omega, Int.pow_zero, Int.mul_one]
theorem up_lt {L j : Nat} {n : Int} (h1 : n < 2 ^ L) (h0 : 0 ≤ n) (hj : j < 60 - L) : fl n (L - 60) * 2 ^ j < 576460752303423488 := by
  have e : L - 60 = 0 := by omega
  rw [e]
  unfold fl
  rw [Int.pow_zero, Int.ediv_one]
  have hp : (0 : Int) < 2 ^ j := Int.pow_pos (by omega)
  refine Int.lt_of_lt_of_le (Int.mul_lt_mul_of_pos_right h1 hp) ?_
  rw [← Int.pow_add]
  have : (2 : Nat) ^ (L + j) ≤ 2 ^ 59 := Nat.pow_le_pow_right (by omega) (by omega)
  have e1 : (2 : Int) ^ (L + j) = ((2 ^ (L + j) : Nat) : Int) := by simp
  rw [e1]; omega
end Tg

theorem rabs_any (n : Int) (w : World) (h0 : -4611686018427387903 ≤ n) (h1 : n ≤ 4611686018427387903) :
    Calls Tryd.prog 38 #[.int .i64 n] w fun e w' => e = .returned (.int .i64 (n.natAbs : Int)) ∧ w' = w := by
  obtain ⟨A, hA⟩ : ∃ A : Int, A = (n.natAbs : Int) := ⟨_, rfl⟩
  rw [← hA]
  by_cases h : n < 0
  · have e : -n = A := by omega
    clear hA
    go_enter Tryd.func38, Tryd.ntmps38
    go_wp2
    go_ret
    exact ⟨Dec.ret_int (by omega), rfl⟩
  · have e : n = A := by omega
    clear hA
    go_enter Tryd.func38, Tryd.ntmps38
    go_wp2
    go_ret
    exact ⟨Dec.ret_int (by omega), rfl⟩

set_option maxRecDepth 10000 in
set_option maxHeartbeats 2000000 in
theorem rangle_any (x y : Int) (w : World) (h0 : -4611686018427387903 ≤ x) (h1 : x ≤ 4611686018427387903) (g0 : -4611686018427387903 ≤ y) (g1 : y ≤ 4611686018427387903) (hne : ¬ (x = 0 ∧ y = 0)) :
    Calls Tryd.prog 17 #[.int .i64 x, .int .i64 y] w fun e w' => e = .returned (.int .i64 (dir x y (axis (x.natAbs : Int) (y.natAbs : Int)))) ∧ Below w.heap.size w w' := by
  have hN := axis_in (x := (x.natAbs : Int)) (y := (y.natAbs : Int)) (by omega) (by omega) (by omega) (by omega) (by omega)
  have hok := pbeg_ok (x := (x.natAbs : Int)) (y := (y.natAbs : Int)) (by omega) (by omega) (by omega) (by omega) (by omega)
  have hb := bl_bd (x := (y.natAbs : Int)) (y := (x.natAbs : Int)) (by omega) (by omega) (by omega) (by omega) (by omega)
  have HX := hide (fun W => rabs_any x W h0 h1)
  have HY := hide (fun W => rabs_any y W g0 g1)
  have bx : 0 ≤ (x.natAbs : Int) ∧ (x.natAbs : Int) ≤ 4611686018427387903 := by omega
  have by' : 0 ≤ (y.natAbs : Int) ∧ (y.natAbs : Int) ≤ 4611686018427387903 := by omega
  have hne1 : 1 ≤ (y.natAbs : Int) ∨ 1 ≤ (x.natAbs : Int) := by omega
  have hA : axis (x.natAbs : Int) (y.natAbs : Int) = rd (vst (pbeg (x.natAbs : Int) (y.natAbs : Int)) 40).z := rfl
  obtain ⟨X, hX⟩ : ∃ X : Int, X = (x.natAbs : Int) := ⟨_, rfl⟩
  obtain ⟨Y, hY⟩ : ∃ Y : Int, Y = (y.natAbs : Int) := ⟨_, rfl⟩
  rw [← hX, ← hY] at hN hok hA ⊢
  rw [← hX, ← hY] at hb
  rw [← hX, ← hY] at hne1
  rw [← hX] at HX bx
  rw [← hY] at HY by'
  clear hX hY
  obtain ⟨N, hNe⟩ : ∃ N, N = axis X Y := ⟨_, rfl⟩
  rw [← hNe] at hN hA ⊢
  clear hNe
  have HA := hide hA
  clear hA
  obtain ⟨L, hL⟩ : ∃ L, L = bl Y X := ⟨_, rfl⟩
  have hs0 : pbeg X Y = ⟨mv L Y, mv L X, 0⟩ := by rw [hL]; rfl
  rw [← hL] at hb
  clear hL
  rw [hs0] at hok HA
  clear hs0
  have mx := mv_bd bx.1 hb.2.2.2.2 hb.2.1
  have my := mv_bd by'.1 hb.2.2.2.1 hb.2.1
  have mge : 576460752303423488 ≤ mv L Y ∨ 576460752303423488 ≤ mv L X := by
    rcases Int.le_total X Y with c | c
    · rw [show max Y X = Y by omega] at hb
      exact .inl (mv_ge hb.2.2.1 hb.1 hb.2.1)
    · rw [show max Y X = X by omega] at hb
      exact .inr (mv_ge hb.2.2.1 hb.1 hb.2.1)
  have big : Hid (∀ j, j < L - 60 → 1152921504606846976 ≤ fl Y j ∨ 1152921504606846976 ≤ fl X j) := by
    refine hide fun j hj => ?_
    rcases Int.le_total X Y with c | c
    · rw [show max Y X = Y by omega] at hb
      exact .inl (fl_ge60 hb.2.2.1 hj)
    · rw [show max Y X = X by omega] at hb
      exact .inr (fl_ge60 hb.2.2.1 hj)
  have small : Hid (fl Y (L - 60) < 1152921504606846976 ∧ fl X (L - 60) < 1152921504606846976) := hide ⟨fl_lt60 hb.2.2.2.1, fl_lt60 hb.2.2.2.2⟩
  have up : Hid (∀ j, j < 60 - L → fl Y (L - 60) * 2 ^ j < 576460752303423488 ∧ fl X (L - 60) * 2 ^ j < 576460752303423488) := hide fun j hj => ⟨up_lt hb.2.2.2.1 by'.1 hj, up_lt hb.2.2.2.2 bx.1 hj⟩
  have ends : Hid (fl Y (L - 60) * 2 ^ (60 - L) = mv L Y ∧ fl X (L - 60) * 2 ^ (60 - L) = mv L X) := hide ⟨mv_split L Y, mv_split L X⟩
  have MG := hide mge
  have fb : Hid (∀ j, (0 ≤ fl Y j ∧ fl Y j ≤ 4611686018427387903) ∧ 0 ≤ fl X j ∧ fl X j ≤ 4611686018427387903) := by
    refine hide fun j => ?_
    have a := fl_pos j by'.1
    have b := fl_pos j bx.1
    have c : fl Y j ≤ Y := Int.ediv_le_self _ by'.1
    have d : fl X j ≤ X := Int.ediv_le_self _ bx.1
    omega
  clear mge hb
  go_enter Tryd.func17, Tryd.ntmps17
  go_wp2_with fail
  refine (HY.out _).mono ?_
  rintro e w1 ⟨rfl, rfl⟩
  go_wp2_with fail
  refine (HX.out _).mono ?_
  rintro e w1 ⟨rfl, rfl⟩
  go_wp2
  go_loopw [5, 6] (fun u v wr => ∃ j : Nat, j ≤ L - 60 ∧ u = .int .i64 (fl Y j) ∧ v = .int .i64 (fl X j) ∧ wr = w1) (fun u v _ => (intOf u).toNat + (intOf v).toNat)
  case atStart => exact ⟨0, by omega, by rw [fl_zero], by rw [fl_zero], rfl⟩
  case round =>
    obtain ⟨j, hj, rfl, rfl, rfl⟩ := hrel
    have b := fb.out j
    by_cases hj2 : j < L - 60
    · have c := big.out j hj2
      have S1 := hide (fl_succ Y j)
      have S2 := hide (fl_succ X j)
      obtain ⟨u, hu⟩ : ∃ u, u = fl Y j := ⟨_, rfl⟩
      obtain ⟨v, hv⟩ : ∃ v, v = fl X j := ⟨_, rfl⟩
      rw [← hu] at b c S1 ⊢
      rw [← hv] at b c S2 ⊢
      clear hu hv
      have du : u.tdiv 2 = u / 2 := Int.tdiv_eq_ediv_of_nonneg b.1.1
      have dv : v.tdiv 2 = v / 2 := Int.tdiv_eq_ediv_of_nonneg b.2.1
      by_cases cu : 1152921504606846976 ≤ u
      · go_wp2
        go_roundw
        case rel => exact ⟨j + 1, by omega, by rw [S1.out], by rw [S2.out], trivial⟩
        case measure => simp [intOf]; omega
      · have cv : 1152921504606846976 ≤ v := by omega
        go_wp2
        go_roundw
        case rel => exact ⟨j + 1, by omega, by rw [S1.out], by rw [S2.out], trivial⟩
        case measure => simp [intOf]; omega
    · obtain rfl : j = L - 60 := by omega
      have sm := small.out
      obtain ⟨U, hU⟩ : ∃ U, U = fl Y (L - 60) := ⟨_, rfl⟩
      obtain ⟨V, hV⟩ : ∃ V, V = fl X (L - 60) := ⟨_, rfl⟩
      have UV : Hid (L < 60 → 1 ≤ U ∨ 1 ≤ V) := hide fun h => by
        rw [hU, hV, show L - 60 = 0 by omega, fl_zero, fl_zero]; exact hne1
      rw [← hU] at b sm up ends ⊢
      rw [← hV] at b sm up ends ⊢
      clear hU hV small big fb hj hj2
      have c1 : ¬ 1152921504606846976 ≤ U := by omega
      have c2 : ¬ 1152921504606846976 ≤ V := by omega
      go_wp2
      go_loopw [5, 6] (fun u v ws => ∃ j : Nat, j ≤ 60 - L ∧ u = .int .i64 (U * 2 ^ j) ∧ v = .int .i64 (V * 2 ^ j) ∧ ws = wr) (fun u v _ => (4611686018427387904 - (intOf u) - (intOf v)).toNat)
      case atStart => exact ⟨0, by omega, by rw [Int.pow_zero, Int.mul_one], by rw [Int.pow_zero, Int.mul_one], rfl⟩
      case round =>
        obtain ⟨j, hj, rfl, rfl, rfl⟩ := hrel
        by_cases hj2 : j < 60 - L
        · have c := up.out j hj2
          have hp : (0 : Int) < 2 ^ j := Int.pow_pos (by omega)
          have uv := UV.out (by omega)
          have S1 : Hid (U * 2 ^ (j + 1) = 2 * (U * 2 ^ j)) := hide (by rw [Int.pow_succ]; grind)
          have S2 : Hid (V * 2 ^ (j + 1) = 2 * (V * 2 ^ j)) := hide (by rw [Int.pow_succ]; grind)
          have u0 : 0 ≤ U * 2 ^ j := Int.mul_nonneg b.1.1 (by omega)
          have v0 : 0 ≤ V * 2 ^ j := Int.mul_nonneg b.2.1 (by omega)
          have uv1 : 1 ≤ U * 2 ^ j ∨ 1 ≤ V * 2 ^ j := by
            rcases uv with h | h
            · exact .inl (Int.mul_pos (by omega) hp)
            · exact .inr (Int.mul_pos (by omega) hp)
          obtain ⟨u, hu⟩ : ∃ u, u = U * 2 ^ j := ⟨_, rfl⟩
          obtain ⟨v, hv⟩ : ∃ v, v = V * 2 ^ j := ⟨_, rfl⟩
          rw [← hu] at c S1 u0 uv1 ⊢
          rw [← hv] at c S2 v0 uv1 ⊢
          clear hu hv uv hp
          go_wp2
          go_roundw
          case rel => exact ⟨j + 1, by omega, by rw [S1.out], by rw [S2.out], trivial⟩
          case measure => simp [intOf]; omega
        · obtain rfl : j = 60 - L := by omega
          rw [ends.out.1, ends.out.2]
          have mg := MG.out
          clear ends MG UV up hj hj2 c1 c2 sm b
          obtain ⟨u, hu⟩ : ∃ u, u = mv L Y := ⟨_, rfl⟩
          obtain ⟨v, hv⟩ : ∃ v, v = mv L X := ⟨_, rfl⟩
          rw [← hu] at my mg HA hok ⊢
          rw [← hv] at mx mg HA hok ⊢
          clear hu hv
          have hc : ¬ (u < 576460752303423488 ∧ v < 576460752303423488) := by omega
          have done : ∀ (a : Bool), (if u < 576460752303423488 then decide (v < 576460752303423488) else false) = false := fun _ => by
            split
            · exact decide_eq_false (by omega)
            · rfl
          by_cases cu : u < 576460752303423488
          · have cv : ¬ v < 576460752303423488 := by omega
            clear done hc mg
            go_wp2_with fail
            refine (angles_any _).mono ?_
            rintro e w2 ⟨⟨rfl, hA⟩, k1⟩
            go_wp2
            go_loopw [5, 6, 7, 9] (fun a b z i wt => ∃ k : Nat, k ≤ 40 ∧ i = .int .i64 (k : Int) ∧ a = .int .i64 (vst ⟨u, v, 0⟩ k).x ∧ b = .int .i64 (vst ⟨u, v, 0⟩ k).y ∧ z = .int .i64 (vst ⟨u, v, 0⟩ k).z ∧ wt = w2) (fun _ _ _ i _ => 40 - (intOf i).toNat)
            case atStart => exact ⟨0, by omega, rfl, rfl, rfl, rfl, rfl⟩
            case round =>
              obtain ⟨k, hk, rfl, rfl, rfl, rfl, rfl⟩ := hrel
              have ok := hok.vst hk
              have bd := ok.bd hk
              by_cases h40 : k < 40
              · have ca := hA k h40
                have ab := ang_bd h40
                have okl := (ok.lf h40).bd (by omega)
                have okr := (ok.rt h40).bd (by omega)
                have hr : 0 < (vst ⟨u, v, 0⟩ k).y → vst ⟨u, v, 0⟩ (k + 1) = rt k (vst ⟨u, v, 0⟩ k) := fun h => if_pos h
                have hl : ¬ 0 < (vst ⟨u, v, 0⟩ k).y → vst ⟨u, v, 0⟩ (k + 1) = lf k (vst ⟨u, v, 0⟩ k) := fun h => if_neg h
                have HL := hide hl
                have HR := hide hr
                clear hl hr ok hA HA hok
                obtain ⟨s, hs⟩ : ∃ s, s = vst ⟨u, v, 0⟩ k := ⟨_, rfl⟩
                rw [← hs] at bd okl okr HL HR ⊢
                clear hs
                obtain ⟨p, q, z⟩ := s
                simp only [lf, rt] at okl okr bd HL HR ⊢
                by_cases hz : 0 < q
                · have hz2 : ¬ q ≤ 0 := by omega
                  go_wp2_with fail
                  refine (rturn_r p q k _ (by omega) (by omega) (by omega) (by omega) (by omega) (by omega) (by omega) (by omega) (by omega)).mono ?_
                  rintro e w3 ⟨rfl, rfl⟩
                  go_wp2
                  go_roundw
                  case rel => exact ⟨k + 1, by omega, by go_num, by rw [HR.out hz], by rw [HR.out hz], by rw [HR.out hz], trivial⟩
                  case measure => simp [intOf]; omega
                · have hz2 : q ≤ 0 := by omega
                  go_wp2_with fail
                  refine (rturn_l p q k _ (by omega) (by omega) (by omega) (by omega) (by omega) (by omega) (by omega) (by omega) (by omega)).mono ?_
                  rintro e w3 ⟨rfl, rfl⟩
                  go_wp2
                  go_roundw
                  case rel => exact ⟨k + 1, by omega, by go_num, by rw [HL.out hz], by rw [HL.out hz], by rw [HL.out hz], trivial⟩
                  case measure => simp [intOf]; omega
              · obtain rfl : k = 40 := by omega
                have HM := hide (fun W => rround_any (vst ⟨u, v, 0⟩ 40).z W (by omega) (by omega))
                have er : rr (vst ⟨u, v, 0⟩ 40).z = N := HA.out.symm
                rw [er] at HM
                clear er HA hok ok bd hA
                go_wp2_with fail
                refine (HM.out _).mono ?_
                rintro e w4 ⟨rfl, k4⟩
                have kk := below_tr k1 k4
                clear HM
                by_cases c : 0 ≤ x
                · by_cases d : 0 ≤ y
                  · go_wp2
                    go_ret
                    exact ⟨Dec.ret_int (by rw [dir, if_pos (by omega), if_pos (by omega)]), kk⟩
                  · go_wp2
                    go_ret
                    exact ⟨Dec.ret_int (by rw [dir, if_pos (by omega), if_neg (by omega)]), kk⟩
                · by_cases d : y < 0
                  · go_wp2
                    go_ret
                    exact ⟨Dec.ret_int (by rw [dir, if_neg (by omega), if_pos (by omega)]), kk⟩
                  · have hm : (4294967296 - N).tmod 4294967296 = (4294967296 - N) % 4294967296 := Int.tmod_eq_emod_of_nonneg (by omega)
                    go_wp2
                    go_ret
                    exact ⟨Dec.ret_int (by rw [dir, if_neg (by omega), if_neg (by omega)]; omega), kk⟩
          · clear done hc mg
            go_wp2_with fail
            refine (angles_any _).mono ?_
            rintro e w2 ⟨⟨rfl, hA⟩, k1⟩
            go_wp2
            go_loopw [5, 6, 7, 9] (fun a b z i wt => ∃ k : Nat, k ≤ 40 ∧ i = .int .i64 (k : Int) ∧ a = .int .i64 (vst ⟨u, v, 0⟩ k).x ∧ b = .int .i64 (vst ⟨u, v, 0⟩ k).y ∧ z = .int .i64 (vst ⟨u, v, 0⟩ k).z ∧ wt = w2) (fun _ _ _ i _ => 40 - (intOf i).toNat)
            case atStart => exact ⟨0, by omega, rfl, rfl, rfl, rfl, rfl⟩
            case round =>
              obtain ⟨k, hk, rfl, rfl, rfl, rfl, rfl⟩ := hrel
              have ok := hok.vst hk
              have bd := ok.bd hk
              by_cases h40 : k < 40
              · have ca := hA k h40
                have ab := ang_bd h40
                have okl := (ok.lf h40).bd (by omega)
                have okr := (ok.rt h40).bd (by omega)
                have hr : 0 < (vst ⟨u, v, 0⟩ k).y → vst ⟨u, v, 0⟩ (k + 1) = rt k (vst ⟨u, v, 0⟩ k) := fun h => if_pos h
                have hl : ¬ 0 < (vst ⟨u, v, 0⟩ k).y → vst ⟨u, v, 0⟩ (k + 1) = lf k (vst ⟨u, v, 0⟩ k) := fun h => if_neg h
                have HL := hide hl
                have HR := hide hr
                clear hl hr ok hA HA hok
                obtain ⟨s, hs⟩ : ∃ s, s = vst ⟨u, v, 0⟩ k := ⟨_, rfl⟩
                rw [← hs] at bd okl okr HL HR ⊢
                clear hs
                obtain ⟨p, q, z⟩ := s
                simp only [lf, rt] at okl okr bd HL HR ⊢
                by_cases hz : 0 < q
                · have hz2 : ¬ q ≤ 0 := by omega
                  go_wp2_with fail
                  refine (rturn_r p q k _ (by omega) (by omega) (by omega) (by omega) (by omega) (by omega) (by omega) (by omega) (by omega)).mono ?_
                  rintro e w3 ⟨rfl, rfl⟩
                  go_wp2
                  go_roundw
                  case rel => exact ⟨k + 1, by omega, by go_num, by rw [HR.out hz], by rw [HR.out hz], by rw [HR.out hz], trivial⟩
                  case measure => simp [intOf]; omega
                · have hz2 : q ≤ 0 := by omega
                  go_wp2_with fail
                  refine (rturn_l p q k _ (by omega) (by omega) (by omega) (by omega) (by omega) (by omega) (by omega) (by omega) (by omega)).mono ?_
                  rintro e w3 ⟨rfl, rfl⟩
                  go_wp2
                  go_roundw
                  case rel => exact ⟨k + 1, by omega, by go_num, by rw [HL.out hz], by rw [HL.out hz], by rw [HL.out hz], trivial⟩
                  case measure => simp [intOf]; omega
              · obtain rfl : k = 40 := by omega
                have HM := hide (fun W => rround_any (vst ⟨u, v, 0⟩ 40).z W (by omega) (by omega))
                have er : rr (vst ⟨u, v, 0⟩ 40).z = N := HA.out.symm
                rw [er] at HM
                clear er HA hok ok bd hA
                go_wp2_with fail
                refine (HM.out _).mono ?_
                rintro e w4 ⟨rfl, k4⟩
                have kk := below_tr k1 k4
                clear HM
                by_cases c : 0 ≤ x
                · by_cases d : 0 ≤ y
                  · go_wp2
                    go_ret
                    exact ⟨Dec.ret_int (by rw [dir, if_pos (by omega), if_pos (by omega)]), kk⟩
                  · go_wp2
                    go_ret
                    exact ⟨Dec.ret_int (by rw [dir, if_pos (by omega), if_neg (by omega)]), kk⟩
                · by_cases d : y < 0
                  · go_wp2
                    go_ret
                    exact ⟨Dec.ret_int (by rw [dir, if_neg (by omega), if_pos (by omega)]), kk⟩
                  · have hm : (4294967296 - N).tmod 4294967296 = (4294967296 - N) % 4294967296 := Int.tmod_eq_emod_of_nonneg (by omega)
                    go_wp2
                    go_ret
                    exact ⟨Dec.ret_int (by rw [dir, if_neg (by omega), if_neg (by omega)]; omega), kk⟩
end Go.Proofs.YtmijmfdamommaaaDoor
