/-
  Package grow: product, moved, powerOfLess, fromOneToTwo, logFromOne, Exp, Log, Decay.
-/
import Derived.Test.YtjhjboplbliggaaDoorGwMath
import Derived.Test.YtjhjboplbliggaaDoorQJ
set_option linter.unusedSimpArgs false
set_option linter.unusedVariables false
namespace Go.Proofs.YtjhjboplbliggaaDoor
open Go.RowKit Qn
attribute [local go_sem ↓] Go.wp_at_zero Go.wp_at_succ

theorem Hid.mkA {p : Prop} (h : p) : Hid p := h

set_option maxHeartbeats 200000 in
theorem gprod_any (a b : Int) (p : Nat) (w : World) (ha0 : -9223372036854775808 ≤ a) (ha1 : a ≤ 9223372036854775807) (hb0 : -9223372036854775808 ≤ b) (hb1 : b ≤ 9223372036854775807) (hp : p ≤ 62) :
    Calls Tryd.prog 22 #[.int .i64 a, .int .i64 b, .int .i64 p] w fun e w' => e = .returned (.int .i64 (clamp (rne (a * b) (2 ^ p)))) ∧ Below w.heap.size w w' := by
  go_enter Tryd.func22, Tryd.ntmps22
  go_wp2_with fail
  refine (qmul_any a b p _ ha0 ha1 hb0 hb1 hp).mono ?_
  rintro e w1 ⟨rfl, k1⟩
  go_wp2
  go_ret
  exact ⟨rfl, k1⟩
set_option maxHeartbeats 200000 in
theorem gmoved_any (a : Int) (f t : Nat) (w : World) (ha0 : -9223372036854775808 ≤ a) (ha1 : a ≤ 9223372036854775807) (hf : f ≤ 62) (ht : t ≤ 62) :
    Calls Tryd.prog 17 #[.int .i64 a, .int .i64 f, .int .i64 t] w fun e w' => e = .returned (.int .i64 (clamp (rne (a * 2 ^ (t - f)) (2 ^ (f - t))))) ∧ Below w.heap.size w w' := by
  go_enter Tryd.func17, Tryd.ntmps17
  go_wp2_with fail
  refine (qmove_any a f t _ ha0 ha1 hf ht).mono ?_
  rintro e w1 ⟨rfl, k1⟩
  go_wp2
  go_ret
  exact ⟨rfl, k1⟩
/-- A product by 2^50. -/
theorem gtim_any (a b : Int) (w : World) (ha0 : -9223372036854775808 ≤ a) (ha1 : a ≤ 9223372036854775807) (hb0 : -9223372036854775808 ≤ b) (hb1 : b ≤ 9223372036854775807) :
    Calls Tryd.prog 22 #[.int .i64 a, .int .i64 b, .int .i64 50] w fun e w' => e = .returned (.int .i64 (Gw.tim a b)) ∧ Below w.heap.size w w' :=
  gprod_any a b 50 w ha0 ha1 hb0 hb1 (by omega)

set_option maxHeartbeats 400000 in
theorem gpow_any (r : Int) (w : World) (h0 : 0 ≤ r) (h1 : r ≤ 1125899906842624) :
    Calls Tryd.prog 18 #[.int .i64 r] w fun e w' => e = .returned (.int .i64 (Gw.ps r 21)) ∧ Below w.heap.size w w' := by
  go_enter Tryd.func18, Tryd.ntmps18
  go_wp2
  go_loopw [3, 4, 5] (fun s t n wr => ∃ j : Nat, j ≤ 20 ∧ n = .int .i64 ((j : Int) + 1) ∧ s = .int .i64 (Gw.ps r (j + 1)) ∧ t = .int .i64 (Gw.tp r j) ∧ Below w.heap.size w wr) (fun _ _ n _ => 21 - (intOf n).toNat)
  case atStart => exact ⟨0, by omega, rfl, by rw [Gw.ps_one], rfl, Below.refl _ _⟩
  case round =>
    obtain ⟨j, hj, rfl, rfl, rfl, hB⟩ := hrel
    by_cases hjk : j < 20
    · have bt := Gw.tp_bd h0 h1 j
      have bt' := Gw.tp_bd h0 h1 (j + 1)
      have bs := Gw.ps_bd h0 h1 (j + 1)
      have bq := (Gw.tim_eq (b := -r) bt.1 bt.2 (by omega) (by omega) (by omega)).2
      have HS := Hid.mkA (Gw.ps_step r (j + 1))
      have HT : Gw.tp r (j + 1) = (Gw.tim (Gw.tp r j) (-r)).tdiv ((j : Int) + 1) := by rw [Gw.tp]; congr 1
      obtain ⟨T, hT⟩ : ∃ T, T = Gw.tp r j := ⟨_, rfl⟩
      obtain ⟨T', hT'⟩ : ∃ T, T = Gw.tp r (j + 1) := ⟨_, rfl⟩
      obtain ⟨Sm, hS⟩ : ∃ S, S = Gw.ps r (j + 1) := ⟨_, rfl⟩
      rw [← hT'] at HT HS bt'
      rw [← hT] at HT bt bq
      rw [← hS] at HS bs
      rw [← hT, ← hS]
      have HC := Hid.mkA (fun W => gtim_any T (-r) W (by omega) (by omega) (by omega) (by omega))
      obtain ⟨q, hq⟩ : ∃ q, q = Gw.tim T (-r) := ⟨_, rfl⟩
      rw [← hq] at HT bq HC
      have hT2 : q.tdiv ((j : Int) + 1) = T' := HT.symm
      clear HT hq hT hS
      have HT' := Hid.mkA hT'
      clear hT'
      go_wp2_with fail
      refine (HC.out _).mono ?_
      rintro e w1 ⟨rfl, k1⟩
      go_wp2
      all_goals go_roundw
      case rel => exact ⟨j + 1, by omega, by go_num, by rw [HS.out], by rw [HT'.out], below_tr hB k1⟩
      case measure => simp [intOf]; omega
    · obtain rfl : j = 20 := by omega
      go_wp2
      go_ret
      exact ⟨rfl, hB⟩
end Go.Proofs.YtjhjboplbliggaaDoor
