/-
  The direction of a place: moved up, turned step by step.
-/
import Derived.Test.YtmijmfdamommaaaDoorTgF
import Derived.Test.YtmijmfdamommaaaDoorQL
set_option linter.unusedSimpArgs false
set_option linter.unusedVariables false
namespace Go.Proofs.YtmijmfdamommaaaDoor
open Go.RowKit Tg Qn
attribute [local go_sem ↓] Go.wp_at_zero Go.wp_at_succ

namespace Tg
/-- A number of so many bits, moved so that it has sixty. -/
def mv (L : Nat) (n : Int) : Int := if L ≤ 60 then n * 2 ^ (60 - L) else n / 2 ^ (L - 60)
theorem bitLen_bd : ∀ (k m : Nat), m < 2 ^ k → k ≤ 63 → 1 ≤ m → 1 ≤ Lib.bitLen m ∧ Lib.bitLen m ≤ k ∧ 2 ^ (Lib.bitLen m - 1) ≤ m ∧ m < 2 ^ (Lib.bitLen m)
  | 0, m, h, _, h1 => absurd h (by omega)
  | k + 1, m, h, hk, h1 => by
    have hb : m < 2 ^ 64 := Nat.lt_of_lt_of_le h (Nat.pow_le_pow_right (by omega) (by omega))
    have e := Lib.bitLen_half m (by omega) hb
    by_cases h2 : m = 1
    · subst h2
      have : Lib.bitLen 1 = 1 := by decide
      rw [this]; omega
    · have hp : 2 ^ (k + 1) = 2 ^ k * 2 := Nat.pow_succ 2 k
      have ih := bitLen_bd k (m / 2) (by omega) (by omega) (by omega)
      obtain ⟨L, hL⟩ : ∃ L, L = Lib.bitLen (m / 2) := ⟨_, rfl⟩
      rw [← hL] at ih e
      rw [e]
      have p1 : 2 ^ (1 + L) = 2 ^ L * 2 := by rw [Nat.add_comm]; exact Nat.pow_succ 2 L
      have p2 : 2 ^ (1 + L - 1) = 2 ^ (L - 1) * 2 := by rw [show 1 + L - 1 = (L - 1) + 1 by omega]; exact Nat.pow_succ 2 (L - 1)
      rw [p1, p2]
      omega
/-- What is moved has sixty bits at most. -/
theorem mv_bd {L : Nat} {n : Int} (h0 : 0 ≤ n) (h1 : n < 2 ^ L) (hL : L ≤ 62) : 0 ≤ mv L n ∧ mv L n < 1152921504606846976 := by
  unfold mv
  split
  · rename_i h
    have hp : (0 : Int) < 2 ^ (60 - L) := Int.pow_pos (by omega)
    have e : (2 : Int) ^ L * 2 ^ (60 - L) = 1152921504606846976 := by
      rw [← Int.pow_add, show L + (60 - L) = 60 by omega]; decide
    refine ⟨Int.mul_nonneg h0 (by omega), ?_⟩
    rw [← e]
    exact Int.mul_lt_mul_of_pos_right h1 hp
  · rename_i h
    have hp : (0 : Int) < 2 ^ (L - 60) := Int.pow_pos (by omega)
    have e : (1152921504606846976 : Int) * 2 ^ (L - 60) = 2 ^ L := by
      rw [show (1152921504606846976 : Int) = 2 ^ 60 by decide, ← Int.pow_add, show 60 + (L - 60) = L by omega]
    exact ⟨Int.ediv_nonneg h0 (by omega), Int.ediv_lt_of_lt_mul hp (by rw [e]; exact h1)⟩
theorem mv_ge {L : Nat} {n : Int} (h1 : 2 ^ (L - 1) ≤ n) (hL1 : 1 ≤ L) (hL : L ≤ 62) : 576460752303423488 ≤ mv L n := by
  unfold mv
  split
  · rename_i h
    have hp : (0 : Int) < 2 ^ (60 - L) := Int.pow_pos (by omega)
    have e : (2 : Int) ^ (L - 1) * 2 ^ (60 - L) = 576460752303423488 := by
      rw [← Int.pow_add, show L - 1 + (60 - L) = 59 by omega]; decide
    rw [← e]
    exact Int.mul_le_mul_of_nonneg_right h1 (by omega)
  · rename_i h
    have hp : (0 : Int) < 2 ^ (L - 60) := Int.pow_pos (by omega)
    have e : (576460752303423488 : Int) * 2 ^ (L - 60) = 2 ^ (L - 1) := by
      rw [show (576460752303423488 : Int) = 2 ^ 59 by decide, ← Int.pow_add, show 59 + (L - 60) = L - 1 by omega]
    exact Int.le_ediv_of_mul_le hp (by rw [e]; exact h1)
/-- How many bits the greater of two has. -/
def bl (x y : Int) : Nat := Lib.bitLen (max x y).toNat
theorem bl_bd {x y : Int} (hx0 : 0 ≤ x) (hx1 : x ≤ 4611686018427387903) (hy0 : 0 ≤ y) (hy1 : y ≤ 4611686018427387903) (h : 1 ≤ x ∨ 1 ≤ y) :
    1 ≤ bl x y ∧ bl x y ≤ 62 ∧ 2 ^ (bl x y - 1) ≤ max x y ∧ x < 2 ^ bl x y ∧ y < 2 ^ bl x y := by
  have hb := bitLen_bd 62 (max x y).toNat (by omega) (by omega) (by omega)
  unfold bl
  obtain ⟨L, hL⟩ : ∃ L, L = Lib.bitLen (max x y).toNat := ⟨_, rfl⟩
  rw [← hL] at hb ⊢
  have e1 : (2 : Int) ^ (L - 1) = ((2 ^ (L - 1) : Nat) : Int) := by simp
  have e2 : (2 : Int) ^ L = ((2 ^ L : Nat) : Int) := by simp
  rw [e1, e2]
  omega
end Tg

set_option maxHeartbeats 1000000 in
theorem raised_any (x y : Int) (w : World) (hx0 : 0 ≤ x) (hx1 : x ≤ 4611686018427387903) (hy0 : 0 ≤ y) (hy1 : y ≤ 4611686018427387903) (h : 1 ≤ x ∨ 1 ≤ y) :
    Calls Tryd.prog 60 #[.int .u64 x, .int .u64 y] w fun e w' => e = .returned (.agg #[.int .i64 (mv (bl x y) x), .int .i64 (mv (bl x y) y)]) ∧ Below w.heap.size w w' := by
  have hb := bl_bd hx0 hx1 hy0 hy1 h
  have HL : Hid (∀ W, Calls Tryd.prog 84 #[.int .u64 (max x y)] W fun e w' => e = .returned (.int .i64 ((bl x y : Nat) : Int)) ∧ w' = W) := hide (fun W => len64_int (max x y) W (by omega) (by omega))
  have mx := mv_bd hx0 hb.2.2.2.1 hb.2.1
  have my := mv_bd hy0 hb.2.2.2.2 hb.2.1
  have b1 := hb.1
  have b2 := hb.2.1
  clear hb h
  obtain ⟨L, hL⟩ : ∃ L, L = bl x y := ⟨_, rfl⟩
  rw [← hL] at HL mx my b1 b2 ⊢
  clear hL
  obtain ⟨M, hM⟩ : ∃ M, max x y = M := ⟨_, rfl⟩
  rw [hM] at HL
  obtain ⟨X, hX⟩ : ∃ X, X = mv L x := ⟨_, rfl⟩
  obtain ⟨Y, hY⟩ : ∃ Y, Y = mv L y := ⟨_, rfl⟩
  rw [← hX] at mx ⊢
  rw [← hY] at my ⊢
  unfold mv at hX hY
  have R0 : RowP (w.alloc (.cells #[.int .i64 0, .int .i64 0] 79)) w.heap.size 0 0 := rowP_new w _ _
  by_cases hl : L ≤ 60
  · rw [if_pos hl] at hX hY
    obtain ⟨k, hk⟩ : ∃ k : Nat, k = 60 - L := ⟨_, rfl⟩
    rw [← hk] at hX hY
    have hk1 : 60 - (L : Int) = (k : Int) := by omega
    have hk2 : (0 : Int) ≤ (k : Int) := by omega
    have hk3 : (k : Int) ≤ 60 := by omega
    clear hk
    obtain ⟨D, hD⟩ : ∃ D, (2 : Int) ^ k = D := ⟨_, rfl⟩
    rw [hD] at hX hY
    have hX' : x * D = X := hX.symm
    have hY' : y * D = Y := hY.symm
    clear hX hY
    go_enter Tryd.func60, Tryd.ntmps60
    go_wp2_with fail
    refine (HL.out _).mono ?_
    rintro e w1 ⟨rfl, rfl⟩
    go_wp2
    go_region
    go_wp2
    exact bodyPost_ret (v := .agg #[.int .i64 X, .int .i64 Y]) (results_P Tryd.results60 _ _ w.heap.size _ _ rfl (rowP_new w _ _).drew) rfl ⟨rfl, (below_al (Below.refl _ _) _).drew⟩
  · rw [if_neg hl] at hX hY
    obtain ⟨k, hk⟩ : ∃ k : Nat, k = L - 60 := ⟨_, rfl⟩
    rw [← hk] at hX hY
    have hk1 : 60 - (L : Int) = -(k : Int) := by omega
    have hk2 : (1 : Int) ≤ (k : Int) := by omega
    have hk3 : (k : Int) ≤ 2 := by omega
    clear hk
    obtain ⟨D, hD⟩ : ∃ D, (2 : Int) ^ k = D := ⟨_, rfl⟩
    rw [hD] at hX hY
    have hX' : x / D = X := hX.symm
    have hY' : y / D = Y := hY.symm
    clear hX hY
    go_enter Tryd.func60, Tryd.ntmps60
    go_wp2_with fail
    refine (HL.out _).mono ?_
    rintro e w1 ⟨rfl, rfl⟩
    go_wp2
    go_region
    go_wp2
    exact bodyPost_ret (v := .agg #[.int .i64 X, .int .i64 Y]) (results_P Tryd.results60 _ _ w.heap.size _ _ rfl (rowP_new w _ _).drew) rfl ⟨rfl, (below_al (Below.refl _ _) _).drew⟩

namespace Tg
/-- Where a place's steps begin. -/
def pbeg (x y : Int) : St := ⟨mv (bl y x) y, mv (bl y x) x, 0⟩
theorem pbeg_ok {x y : Int} (hx0 : 0 ≤ x) (hx1 : x ≤ 4611686018427387903) (hy0 : 0 ≤ y) (hy1 : y ≤ 4611686018427387903) (h : 1 ≤ x ∨ 1 ≤ y) : Ok 0 (pbeg x y) := by
  have : gr 0 = 1152921504606846976 := rfl
  have : zs 0 = 576460752303423488 := rfl
  have hb := bl_bd hy0 hy1 hx0 hx1 h.symm
  have mx := mv_bd hx0 hb.2.2.2.2 hb.2.1
  have my := mv_bd hy0 hb.2.2.2.1 hb.2.1
  constructor <;> simp only [pbeg] <;> omega
/-- The angle from the y axis. -/
def axis (x y : Int) : Int := rd (vst (pbeg x y) 40).z
end Tg

set_option maxRecDepth 10000 in
set_option maxHeartbeats 1000000 in
theorem axis_any (x y : Int) (w : World) (hT : AngTab w) (hx0 : 0 ≤ x) (hx1 : x ≤ 4611686018427387903) (hy0 : 0 ≤ y) (hy1 : y ≤ 4611686018427387903) (h : 1 ≤ x ∨ 1 ≤ y) (hn0 : 0 ≤ axis x y) (hn1 : axis x y ≤ 1073741824) :
    Calls Tryd.prog 30 #[.int .u64 x, .int .u64 y] w fun e w' => e = .returned (.int .u32 (axis x y)) ∧ Below w.heap.size w w' := by
  have HR := hide (fun W => raised_any y x W hy0 hy1 hx0 hx1 h.symm)
  have hok := pbeg_ok hx0 hx1 hy0 hy1 h
  obtain ⟨s0, hs0⟩ : ∃ s, s = pbeg x y := ⟨_, rfl⟩
  have HR' : Hid (∀ W, Calls Tryd.prog 60 #[.int .u64 y, .int .u64 x] W fun e w' => e = .returned (.agg #[.int .i64 s0.x, .int .i64 s0.y]) ∧ Below W.heap.size W w') := by rw [hs0]; exact HR
  have hz0 : s0.z = 0 := by rw [hs0]; rfl
  obtain ⟨N, hN⟩ : ∃ N, N = axis x y := ⟨_, rfl⟩
  rw [← hN] at hn0 hn1 ⊢
  unfold axis at hN
  rw [← hs0] at hok hN
  have HN := hide hN
  clear hs0 HR hN h
  go_enter Tryd.func30, Tryd.ntmps30
  go_wp2_with fail
  refine (HR'.out _).mono ?_
  rintro e w1 ⟨rfl, k1⟩
  have hT1 := hT.below k1
  go_wp2_with (first | (refine wpList_loadTab rfl _ rfl rfl (hT1.below (below_al (Below.refl _ _) _)) ?_))
  go_loopw [6, 13] (fun z i wr => ∃ k : Nat, k ≤ 40 ∧ i = .int .i64 (k : Int) ∧ z = .int .i64 (vst s0 k).z ∧ RowP wr w1.heap.size (vst s0 k).x (vst s0 k).y ∧ Below w.heap.size w wr) (fun _ i _ => 40 - (intOf i).toNat)
  case atStart => exact ⟨0, by omega, rfl, by rw [← hz0]; rfl, rowP_new w1 _ _, below_al k1 _⟩
  case round =>
    obtain ⟨k, hk, rfl, rfl, hP, hbel⟩ := hrel
    have ok := hok.vst hk
    have bd := ok.bd hk
    by_cases h40 : k < 40
    · have hidx := fun (w : World) => run_angle w h40
      have ab := ang_bd h40
      have okl := (ok.lf h40).bd (by omega)
      have okr := (ok.rt h40).bd (by omega)
      have hr : 0 < (vst s0 k).y → vst s0 (k + 1) = rt k (vst s0 k) := fun h => if_pos h
      have hl : ¬ 0 < (vst s0 k).y → vst s0 (k + 1) = lf k (vst s0 k) := fun h => if_neg h
      have HL := hide hl
      have HR := hide hr
      clear hl hr ok
      obtain ⟨s, hs⟩ : ∃ s, s = vst s0 k := ⟨_, rfl⟩
      rw [← hs] at bd okl okr HL HR hP ⊢
      clear hs
      obtain ⟨x, y, z⟩ := s
      simp only [lf, rt] at okl okr bd HL HR hP ⊢
      have c1 := hP.c1
      by_cases hz : 0 < y
      · go_wp2_with (first | (refine wpList_loadP rfl (.tmp 5) rfl _ _ _ rfl hP ?_))
        refine (clock_any x y k _ (by omega) (by omega) (by omega) (by omega) (by omega)).mono ?_
        rintro e w2 ⟨rfl, k2⟩
        have hP1 := hP.keep k2
        go_wp2_with (first | (refine wpList_storeP rfl (.tmp 5) (.tmp 22) rfl _ _ _ _ _ rfl rfl hP1 ?_))
        go_roundw
        case rel =>
          refine ⟨k + 1, by omega, by go_num, ?_, ?_, belowRow (below_tr hbel k2) (Below.size k1) _⟩
          · rw [HR.out hz]
          · rw [HR.out hz]; exact hP1.row _ _
        case measure => simp [intOf]; omega
      · go_wp2_with (first | (refine wpList_loadP rfl (.tmp 5) rfl _ _ _ rfl hP ?_))
        refine (anti_any x y k _ (by omega) (by omega) (by omega) (by omega) (by omega)).mono ?_
        rintro e w2 ⟨rfl, k2⟩
        have hP1 := hP.keep k2
        go_wp2_with (first | (refine wpList_storeP rfl (.tmp 5) (.tmp 28) rfl _ _ _ _ _ rfl rfl hP1 ?_))
        go_roundw
        case rel =>
          refine ⟨k + 1, by omega, by go_num, ?_, ?_, belowRow (below_tr hbel k2) (Below.size k1) _⟩
          · rw [HL.out hz]
          · rw [HL.out hz]; exact hP1.row _ _
        case measure => simp [intOf]; omega
    · obtain rfl : k = 40 := by omega
      have HM := hide (fun W => moved62 (vst s0 40).z W (by omega) (by omega))
      rw [← HN.out] at HM
      go_wp2_with fail
      refine (HM.out _).mono ?_
      rintro e w2 ⟨rfl, k2⟩
      go_wp2
      go_ret
      exact ⟨rfl, below_tr hbel k2⟩

namespace Tg
theorem ret_un {a b : Int} (h : b = a) : Ending.returned (.tuple #[.int .u32 a, .nilIface]) = .returned (.tuple #[.int .u32 b, .nilIface]) := by rw [h]
/-- The direction of a place. -/
def dir (x y n : Int) : Int := if 0 ≤ x then (if 0 ≤ y then n else 2147483648 - n) else (if y < 0 then 2147483648 + n else (4294967296 - n) % 4294967296)
end Tg

set_option maxHeartbeats 1000000 in
/-- Angle of a place that may be. -/
theorem angle_any (x y : Int) (w : World) (hT : AngTab w) (h0 : -4611686018427387903 ≤ x) (h1 : x ≤ 4611686018427387903) (g0 : -4611686018427387903 ≤ y) (g1 : y ≤ 4611686018427387903) (hne : ¬ (x = 0 ∧ y = 0))
    (hn0 : 0 ≤ axis (x.natAbs : Int) (y.natAbs : Int)) (hn1 : axis (x.natAbs : Int) (y.natAbs : Int) ≤ 1073741824) :
    Calls Tryd.prog 14 #[.int .i64 x, .int .i64 y] w fun e w' => e = .returned (.tuple #[.int .u32 (dir x y (axis (x.natAbs : Int) (y.natAbs : Int))), .nilIface]) ∧ Below w.heap.size w w' := by
  have hx : Qn.great x = false := by unfold Qn.great; rw [decide_eq_false (by omega), decide_eq_false (by omega)]; rfl
  have hy : Qn.great y = false := by unfold Qn.great; rw [decide_eq_false (by omega), decide_eq_false (by omega)]; rfl
  have HA := hide (fun W (hW : AngTab W) => axis_any (x.natAbs : Int) (y.natAbs : Int) W hW (by omega) (by omega) (by omega) (by omega) (by omega) hn0 hn1)
  have HX := hide (fun W => tsize_any x W h0 h1)
  have HY := hide (fun W => tsize_any y W g0 g1)
  obtain ⟨N, hN⟩ : ∃ N, N = axis (x.natAbs : Int) (y.natAbs : Int) := ⟨_, rfl⟩
  rw [← hN] at hn0 hn1 HA ⊢
  clear hN
  have hd : ∀ v, v = dir x y N → (∃ d, d = v) := fun v _ => ⟨v, rfl⟩
  obtain ⟨R, hR⟩ : ∃ R, R = dir x y N := ⟨_, rfl⟩
  rw [← hR]
  have RR : Hid (R = dir x y N) := hide hR
  clear hd hR
  by_cases hx0 : x = 0
  · subst hx0
    have hy0 : ¬ y = 0 := fun h => hne ⟨rfl, h⟩
    go_enter Tryd.func14, Tryd.ntmps14
    go_wp2_with fail
    refine (great_any 0 _).mono ?_
    rintro e w1 ⟨rfl, rfl⟩
    rw [hx]
    go_wp2_with fail
    refine (great_any y _).mono ?_
    rintro e w1 ⟨rfl, rfl⟩
    rw [hy]
    go_wp2_with fail
    refine (HX.out _).mono ?_
    rintro e w1 ⟨rfl, rfl⟩
    go_wp2_with fail
    refine (HY.out _).mono ?_
    rintro e w1 ⟨rfl, rfl⟩
    go_wp2_with fail
    refine (HA.out _ hT).mono ?_
    rintro e w1 ⟨rfl, k1⟩
    by_cases c : 0 ≤ y
    · go_wp2
      go_ret2
      exact ⟨by rw [RR.out, dir, if_pos (by omega), if_pos (by omega)]; rfl, k1⟩
    · go_wp2
      go_ret2
      exact ⟨by rw [RR.out, dir, if_pos (by omega), if_neg (by omega)]; rfl, k1⟩
  · go_enter Tryd.func14, Tryd.ntmps14
    go_wp2_with fail
    refine (great_any x _).mono ?_
    rintro e w1 ⟨rfl, rfl⟩
    rw [hx]
    go_wp2_with fail
    refine (great_any y _).mono ?_
    rintro e w1 ⟨rfl, rfl⟩
    rw [hy]
    go_wp2_with fail
    refine (HX.out _).mono ?_
    rintro e w1 ⟨rfl, rfl⟩
    go_wp2_with fail
    refine (HY.out _).mono ?_
    rintro e w1 ⟨rfl, rfl⟩
    go_wp2_with fail
    refine (HA.out _ hT).mono ?_
    rintro e w1 ⟨rfl, k1⟩
    by_cases c : 0 ≤ x
    · by_cases d : 0 ≤ y
      · go_wp2
        go_ret2
        exact ⟨by rw [RR.out, dir, if_pos (by omega), if_pos (by omega)]; rfl, k1⟩
      · go_wp2
        go_ret2
        exact ⟨by rw [RR.out, dir, if_pos (by omega), if_neg (by omega)]; rfl, k1⟩
    · by_cases d : y < 0
      · go_wp2
        go_ret2
        exact ⟨by rw [RR.out, dir, if_neg (by omega), if_pos (by omega)]; rfl, k1⟩
      · have hw : IntKind.u32.wrap (-N) = (4294967296 - N) % 4294967296 := by rw [IntKind.wrap_u32]; omega
        go_wp2
        go_ret2
        exact ⟨ret_un (by rw [RR.out, dir, if_neg (by omega), if_neg (by omega)]; omega), k1⟩
end Go.Proofs.YtmijmfdamommaaaDoor
