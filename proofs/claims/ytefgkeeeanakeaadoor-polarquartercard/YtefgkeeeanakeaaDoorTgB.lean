/-
  The sine and the cosine of a direction: the steps of package trig.
-/
import Derived.Test.YtefgkeeeanakeaaDoorTgA
import Derived.Test.YtefgkeeeanakeaaDoorTgTab
import Derived.Test.YtefgkeeeanakeaaDoorQJ
import Derived.Laws.BitsAllLaws
set_option linter.unusedSimpArgs false
set_option linter.unusedVariables false
namespace Go.Proofs.YtefgkeeeanakeaaDoor
open Go.RowKit Tg
attribute [local go_sem ↓] Go.wp_at_zero Go.wp_at_succ

namespace Tg
/-- By two to the power of thirty, rounded, bounded. -/
def rd (n : Int) : Int := Qn.clamp (Qn.rne n 1073741824)
theorem hide {p : Prop} (h : p) : Hid p := h
end Tg

set_option maxHeartbeats 400000 in
theorem moved_any (a : Int) (f : Nat) (w : World) (hf : f = 60 ∨ f = 62) (ha0 : -9223372036854775808 ≤ a) (ha1 : a ≤ 9223372036854775807) :
    Calls Tryd.prog 57 #[.int .i64 a, .int .i64 f, .int .i64 ((f - 30 : Nat) : Int)] w fun e w' => e = .returned (.int .i64 (rd a)) ∧ Below w.heap.size w w' := by
  have hc := qmove_any a f (f - 30)
  have e1 : f - 30 - f = 0 := by omega
  have e2 : f - (f - 30) = 30 := by omega
  rw [e1, e2, Int.pow_zero, Int.mul_one, show (2 : Int) ^ 30 = 1073741824 by decide] at hc
  have HC := hide hc
  clear hc e1 e2
  go_enter Tryd.func57, Tryd.ntmps57
  go_wp2_with fail
  refine (HC.out _ ha0 ha1 (by omega) (by omega)).mono ?_
  rintro e w1 ⟨rfl, k1⟩
  go_wp2
  go_ret
  exact ⟨rfl, k1⟩

theorem moved60 (a : Int) (w : World) (ha0 : -9223372036854775808 ≤ a) (ha1 : a ≤ 9223372036854775807) :
    Calls Tryd.prog 57 #[.int .i64 a, .int .i64 60, .int .i64 30] w fun e w' => e = .returned (.int .i64 (rd a)) ∧ Below w.heap.size w w' := moved_any a 60 w (.inl rfl) ha0 ha1
theorem moved62 (a : Int) (w : World) (ha0 : -9223372036854775808 ≤ a) (ha1 : a ≤ 9223372036854775807) :
    Calls Tryd.prog 57 #[.int .i64 a, .int .i64 62, .int .i64 32] w fun e w' => e = .returned (.int .i64 (rd a)) ∧ Below w.heap.size w w' := moved_any a 62 w (.inr rfl) ha0 ha1

namespace Tg
/-- Where a direction's steps begin. -/
def beg (t : Int) : St := ⟨495056041134655927, 495056041134655927, t % 1073741824 * 1073741824 - 576460752303423488⟩
theorem beg_ok (t : Int) : Ok 0 (beg t) := by
  have : gr 0 = 1152921504606846976 := rfl
  have : zs 0 = 576460752303423488 := rfl
  constructor <;> simp only [beg] <;> omega
theorem and_u32 (t : Int) (h0 : 0 ≤ t) (h1 : t ≤ 4294967295) : bits .and .u32 t 1073741823 = t % 1073741824 := by
  obtain ⟨A, rfl⟩ := Int.eq_ofNat_of_zero_le h0
  have g1 : (BitVec.ofInt 32 (A : Int)).toNat = A := by rw [BitVec.ofInt_natCast, BitVec.toNat_ofNat]; exact Nat.mod_eq_of_lt (by omega)
  have g2 : (BitVec.ofInt 32 1073741823).toNat = 1073741823 := by rfl
  show IntKind.u32.wrap ((BitVec.ofInt 32 (A : Int) &&& BitVec.ofInt 32 1073741823).toNat : Int) = _
  rw [BitVec.toNat_and, g1, g2, show 1073741823 = 2 ^ 30 - 1 by decide, Nat.and_two_pow_sub_one_eq_mod, IntKind.wrap_u32]
  omega
end Tg

set_option maxRecDepth 10000 in
set_option maxHeartbeats 1000000 in
theorem first_any (t : Int) (w : World) (hT : AngTab w) (h0 : 0 ≤ t) (h1 : t ≤ 4294967295) :
    Calls Tryd.prog 40 #[.int .u32 t] w fun e w' => e = .returned (.tuple #[.int .i64 (rd (bst (beg t) 40).y), .int .i64 (rd (bst (beg t) 40).x)]) ∧ Below w.heap.size w w' := by
  have a1 := and_u32 t h0 h1
  go_enter Tryd.func40, Tryd.ntmps40
  go_wp2_with (first | (refine wpList_loadTab rfl _ rfl rfl (hT.below (below_al (Below.refl _ _) _)) ?_))
  go_loopw [5, 15] (fun z i wr => ∃ k : Nat, k ≤ 40 ∧ i = .int .i64 (k : Int) ∧ z = .int .i64 (bst (beg t) k).z ∧ RowP wr w.heap.size (bst (beg t) k).x (bst (beg t) k).y ∧ Below w.heap.size w wr) (fun _ i _ => 40 - (intOf i).toNat)
  case atStart => exact ⟨0, by omega, rfl, rfl, rowP_new w _ _, below_al (Below.refl _ _) _⟩
  case round =>
    obtain ⟨k, hk, rfl, rfl, hP, hbel⟩ := hrel
    have ok := (beg_ok t).bst hk
    have bd := ok.bd hk
    by_cases h40 : k < 40
    · have hidx := fun (w : World) => run_angle w h40
      have ab := ang_bd h40
      have okl := (ok.lf h40).bd (by omega)
      have okr := (ok.rt h40).bd (by omega)
      have hl : 0 ≤ (bst (beg t) k).z → bst (beg t) (k + 1) = lf k (bst (beg t) k) := fun h => if_pos h
      have hr : ¬ 0 ≤ (bst (beg t) k).z → bst (beg t) (k + 1) = rt k (bst (beg t) k) := fun h => if_neg h
      have HL := hide hl
      have HR := hide hr
      clear hl hr ok
      obtain ⟨s, hs⟩ : ∃ s, s = bst (beg t) k := ⟨_, rfl⟩
      rw [← hs] at bd okl okr HL HR hP ⊢
      clear hs
      obtain ⟨x, y, z⟩ := s
      simp only [lf, rt] at okl okr bd HL HR hP ⊢
      by_cases hz : 0 ≤ z
      · go_wp2_with (first | (refine wpList_loadP rfl (.tmp 4) rfl _ _ _ rfl hP ?_))
        refine (anti_any x y k _ (by omega) (by omega) (by omega) (by omega) (by omega)).mono ?_
        rintro e w1 ⟨rfl, k1⟩
        have hP1 := hP.keep k1
        go_wp2_with (first | (refine wpList_storeP rfl (.tmp 4) (.tmp 23) rfl _ _ _ _ _ rfl rfl hP1 ?_))
        go_roundw
        case rel =>
          refine ⟨k + 1, by omega, by go_num, ?_, ?_, belowRow (below_tr hbel k1) (Nat.le_refl _) _⟩
          · rw [HL.out hz]
          · rw [HL.out hz]; exact hP1.row _ _
        case measure => simp [intOf]; omega
      · go_wp2_with (first | (refine wpList_loadP rfl (.tmp 4) rfl _ _ _ rfl hP ?_))
        refine (clock_any x y k _ (by omega) (by omega) (by omega) (by omega) (by omega)).mono ?_
        rintro e w1 ⟨rfl, k1⟩
        have hP1 := hP.keep k1
        go_wp2_with (first | (refine wpList_storeP rfl (.tmp 4) (.tmp 29) rfl _ _ _ _ _ rfl rfl hP1 ?_))
        go_roundw
        case rel =>
          refine ⟨k + 1, by omega, by go_num, ?_, ?_, belowRow (below_tr hbel k1) (Nat.le_refl _) _⟩
          · rw [HR.out hz]
          · rw [HR.out hz]; exact hP1.row _ _
        case measure => simp [intOf]; omega
    · obtain rfl : k = 40 := by omega
      obtain ⟨x, hx⟩ : ∃ x, x = (bst (beg t) 40).x := ⟨_, rfl⟩
      obtain ⟨y, hy⟩ : ∃ y, y = (bst (beg t) 40).y := ⟨_, rfl⟩
      rw [← hx, ← hy] at bd hP
      have c0 := hP.c0
      have c1 := hP.c1
      have HX := hide hx
      have HY := hide hy
      clear hx hy
      go_wp2
      go_region_with (go_at_call 57; refine (moved60 _ _ (by omega) (by omega)).mono ?_; rintro e w1 ⟨rfl, hb⟩; (try (have hc := keep_cell hb c0; have hd := keep_cell hb c1)))
      all_goals go_wp2
      all_goals go_ret2
      all_goals (rw [HX.out, HY.out]; exact ⟨rfl, below_tr (below_tr hbel.drew ‹Below wr.drew.heap.size wr.drew _›) hb⟩)

namespace Tg
/-- The sine and the cosine. -/
def sn (t : Int) : Int := rd (bst (beg t) 40).y
def cs (t : Int) : Int := rd (bst (beg t) 40).x
theorem rd_bd {n : Int} (h0 : -5600000000000000000 ≤ n) (h1 : n ≤ 5600000000000000000) : -5215406418 ≤ rd n ∧ rd n ≤ 5215406418 := by
  have : -5215406418 ≤ Qn.rne n 1073741824 ∧ Qn.rne n 1073741824 ≤ 5215406418 := by
    unfold Qn.rne; split <;> omega
  unfold rd Qn.clamp
  split
  · omega
  · split <;> omega
theorem sn_bd (t : Int) : -5215406418 ≤ sn t ∧ sn t ≤ 5215406418 := by
  have h := ((beg_ok t).bst (k := 40) (by omega)).bd (by omega)
  exact rd_bd h.2.1.1 h.2.1.2
theorem cs_bd (t : Int) : -5215406418 ≤ cs t ∧ cs t ≤ 5215406418 := by
  have h := ((beg_ok t).bst (k := 40) (by omega)).bd (by omega)
  exact rd_bd h.1.1 h.1.2
/-- Of a whole turn. -/
def sine (t : Int) : Int := if t < 1073741824 then sn t else if t < 2147483648 then cs t else if t < 3221225472 then -sn t else -cs t
def cosine (t : Int) : Int := if t < 1073741824 then cs t else if t < 2147483648 then -sn t else if t < 3221225472 then -cs t else sn t
theorem sine_bd (t : Int) : -5215406418 ≤ sine t ∧ sine t ≤ 5215406418 := by
  have := sn_bd t
  have := cs_bd t
  unfold sine; split
  · omega
  · split
    · omega
    · split <;> omega
theorem cosine_bd (t : Int) : -5215406418 ≤ cosine t ∧ cosine t ≤ 5215406418 := by
  have := sn_bd t
  have := cs_bd t
  unfold cosine; split
  · omega
  · split
    · omega
    · split <;> omega
end Tg

set_option maxHeartbeats 1000000 in
theorem both_any (t : Int) (w : World) (hT : AngTab w) (h0 : 0 ≤ t) (h1 : t ≤ 4294967295) :
    Calls Tryd.prog 25 #[.int .u32 t] w fun e w' => e = .returned (.tuple #[.int .i64 (sine t), .int .i64 (cosine t)]) ∧ Below w.heap.size w w' := by
  have hs := sn_bd t
  have hc := cs_bd t
  have HF := hide (first_any t w hT h0 h1)
  obtain ⟨s, es⟩ : ∃ s, s = sn t := ⟨_, rfl⟩
  obtain ⟨c, ec⟩ : ∃ c, c = cs t := ⟨_, rfl⟩
  have HF' : Hid (Calls Tryd.prog 40 #[.int .u32 t] w fun e w' => e = .returned (.tuple #[.int .i64 s, .int .i64 c]) ∧ Below w.heap.size w w') := by
    rw [es, ec]; exact HF
  have E1 : t < 1073741824 → sine t = s ∧ cosine t = c := fun h => by unfold sine cosine; rw [if_pos h, if_pos h]; exact ⟨es.symm, ec.symm⟩
  have E2 : ¬ t < 1073741824 → t < 2147483648 → sine t = c ∧ cosine t = -s := fun h h2 => by unfold sine cosine; rw [if_neg h, if_neg h, if_pos h2, if_pos h2, es, ec]; exact ⟨rfl, rfl⟩
  have E3 : ¬ t < 1073741824 → ¬ t < 2147483648 → t < 3221225472 → sine t = -s ∧ cosine t = -c := fun h h2 h3 => by unfold sine cosine; rw [if_neg h, if_neg h, if_neg h2, if_neg h2, if_pos h3, if_pos h3, es, ec]; exact ⟨rfl, rfl⟩
  have E4 : ¬ t < 1073741824 → ¬ t < 2147483648 → ¬ t < 3221225472 → sine t = -c ∧ cosine t = s := fun h h2 h3 => by unfold sine cosine; rw [if_neg h, if_neg h, if_neg h2, if_neg h2, if_neg h3, if_neg h3, es, ec]; exact ⟨rfl, rfl⟩
  rw [← es] at hs
  rw [← ec] at hc
  clear HF es ec
  rcases Int.lt_or_le t 1073741824 with h | h
  · rw [(E1 h).1, (E1 h).2]
    clear E1 E2 E3 E4
    go_enter Tryd.func25, Tryd.ntmps25
    go_wp2_with fail
    refine HF'.out.mono ?_
    rintro e w1 ⟨rfl, k1⟩
    go_wp2
    go_ret2
    exact ⟨rfl, k1⟩
  rcases Int.lt_or_le t 2147483648 with h2 | h2
  · rw [(E2 (by omega) h2).1, (E2 (by omega) h2).2]
    clear E1 E2 E3 E4
    go_enter Tryd.func25, Tryd.ntmps25
    go_wp2_with fail
    refine HF'.out.mono ?_
    rintro e w1 ⟨rfl, k1⟩
    go_wp2
    go_ret2
    exact ⟨rfl, k1⟩
  rcases Int.lt_or_le t 3221225472 with h3 | h3
  · rw [(E3 (by omega) (by omega) h3).1, (E3 (by omega) (by omega) h3).2]
    clear E1 E2 E3 E4
    go_enter Tryd.func25, Tryd.ntmps25
    go_wp2_with fail
    refine HF'.out.mono ?_
    rintro e w1 ⟨rfl, k1⟩
    go_wp2
    go_ret2
    exact ⟨rfl, k1⟩
  · rw [(E4 (by omega) (by omega) (by omega)).1, (E4 (by omega) (by omega) (by omega)).2]
    clear E1 E2 E3 E4
    go_enter Tryd.func25, Tryd.ntmps25
    go_wp2_with fail
    refine HF'.out.mono ?_
    rintro e w1 ⟨rfl, k1⟩
    go_wp2
    go_ret2
    exact ⟨rfl, k1⟩

theorem great_any (x : Int) (w : World) :
    Calls Tryd.prog 24 #[.int .i64 x] w fun e w' => e = .returned (.bool (Qn.great x)) ∧ w' = w := by
  go_enter Tryd.func24, Tryd.ntmps24
  go_wp2_with fail
  refine (clamp_any x _).mono ?_
  rintro e w1 ⟨rfl, rfl⟩
  go_wp2
  go_ret
  exact ⟨rfl, rfl⟩

set_option maxHeartbeats 400000 in
theorem part_any (a b : Int) (w : World) (ha0 : -9223372036854775808 ≤ a) (ha1 : a ≤ 9223372036854775807) (hb0 : -9223372036854775808 ≤ b) (hb1 : b ≤ 9223372036854775807) :
    Calls Tryd.prog 26 #[.int .i64 a, .int .i64 b] w fun e w' => e = .returned (.int .i64 (Qn.clamp (Qn.rne (a * b) (2 ^ 30)))) ∧ Below w.heap.size w w' := by
  have HC := hide (qmul_any a b 30 w ha0 ha1 hb0 hb1 (by omega))
  go_enter Tryd.func26, Tryd.ntmps26
  go_wp2_with fail
  refine HC.out.mono ?_
  rintro e w1 ⟨rfl, k1⟩
  go_wp2
  go_ret
  exact ⟨rfl, k1⟩

set_option maxHeartbeats 400000 in
theorem place_any (t far : Int) (w : World) (hT : AngTab w) (h0 : 0 ≤ t) (h1 : t ≤ 4294967295) (hf0 : 0 ≤ far) (hf1 : far ≤ 4611686018427387903) :
    Calls Tryd.prog 16 #[.int .u32 t, .int .i64 far] w fun e w' => e = .returned (.tuple #[.int .i64 (Qn.clamp (Qn.rne (far * sine t) (2 ^ 30))), .int .i64 (Qn.clamp (Qn.rne (far * cosine t) (2 ^ 30))), .nilIface]) ∧ Below w.heap.size w w' := by
  have hg : Qn.great far = false := by unfold Qn.great; rw [decide_eq_false (by omega), decide_eq_false (by omega)]; rfl
  have hs := sine_bd t
  have hc := cosine_bd t
  have HB := hide (both_any t w hT h0 h1)
  obtain ⟨s, es⟩ : ∃ s, s = sine t := ⟨_, rfl⟩
  obtain ⟨c, ec⟩ : ∃ c, c = cosine t := ⟨_, rfl⟩
  rw [← es] at hs HB ⊢
  rw [← ec] at hc HB ⊢
  clear es ec
  go_enter Tryd.func16, Tryd.ntmps16
  go_wp2_with fail
  refine (great_any far _).mono ?_
  rintro e w1 ⟨rfl, rfl⟩
  rw [hg]
  go_wp2_with fail
  refine HB.out.mono ?_
  rintro e w1 ⟨rfl, k1⟩
  go_wp2_with fail
  refine (part_any far s _ (by omega) (by omega) (by omega) (by omega)).mono ?_
  rintro e w2 ⟨rfl, k2⟩
  go_wp2_with fail
  refine (part_any far c _ (by omega) (by omega) (by omega) (by omega)).mono ?_
  rintro e w3 ⟨rfl, k3⟩
  go_wp2
  go_ret3
  exact ⟨rfl, below_tr (below_tr k1 k2) k3⟩

set_option maxHeartbeats 400000 in
theorem place_err (t far : Int) (w : World) (hf : far < 0 ∨ 4611686018427387903 < far) :
    Calls Tryd.prog 16 #[.int .u32 t, .int .i64 far] w fun e w' => e = .returned (.tuple #[.int .i64 0, .int .i64 0, .iface 54 (.int .i64 1)]) ∧ Below w.heap.size w w' := by
  rcases hf with h | h
  · go_enter Tryd.func16, Tryd.ntmps16
    go_wp2
    go_ret3
    exact ⟨rfl, Below.refl _ _⟩
  · have hg : Qn.great far = true := by unfold Qn.great; rw [decide_eq_true (by omega : far > 4611686018427387903)]; rfl
    go_enter Tryd.func16, Tryd.ntmps16
    go_wp2_with fail
    refine (great_any far _).mono ?_
    rintro e w1 ⟨rfl, rfl⟩
    rw [hg]
    go_wp2
    go_ret3
    exact ⟨rfl, Below.refl _ _⟩
end Go.Proofs.YtefgkeeeanakeaaDoor
