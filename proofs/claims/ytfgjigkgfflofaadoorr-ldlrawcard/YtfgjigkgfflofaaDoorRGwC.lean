/-
  Package grow: logFromOne, Log.
-/
import Derived.Test.YtfgjigkgfflofaaDoorRGwB
set_option linter.unusedSimpArgs false
set_option linter.unusedVariables false
namespace Go.Proofs.YtfgjigkgfflofaaDoorR
open Go.RowKit Qn
attribute [local go_sem ↓] Go.wp_at_zero Go.wp_at_succ

namespace Gw
theorem s0_div {m : Int} (h0 : 1125899906842624 ≤ m) (h1 : m < 2251799813685248) :
    signed (m - 1125899906842624) (m + 1125899906842624) (clamp (rne (((m - 1125899906842624).natAbs : Int) * 2 ^ 50) ((m + 1125899906842624).natAbs : Int))) = s0 m := by
  have e1 : ((m - 1125899906842624).natAbs : Int) = m - 1125899906842624 := by omega
  have e2 : ((m + 1125899906842624).natAbs : Int) = m + 1125899906842624 := by omega
  rw [e1, e2]
  have b := s0_bd h0 h1
  have hc : clamp (s0 m) = s0 m := (clamp_small (n := s0 m) (A := 562949953421312) (by omega) (by omega) (by omega)).1
  show signed _ _ (clamp (s0 m)) = s0 m
  rw [hc]
  unfold signed
  rw [decide_eq_false (by omega), decide_eq_false (by omega)]
  rfl
end Gw

set_option maxHeartbeats 400000 in
theorem glogone_any (m : Int) (w : World) (h0 : 1125899906842624 ≤ m) (h1 : m < 2251799813685248) :
    Calls Tryd.prog 43 #[.int .i64 m] w fun e w' => e = .returned (.int .i64 (2 * Gw.ls m 20)) ∧ Below w.heap.size w w' := by
  have bs := Gw.s0_bd h0 h1
  have HD := Hid.mkA (fun W => qdiv_any (m - 1125899906842624) (m + 1125899906842624) 50 W (by omega) (by omega) (by omega) (by omega) (by omega) (by omega))
  rw [Gw.s0_div h0 h1] at HD
  obtain ⟨gr, hgr⟩ : ∃ g, g = great (rne (((m - 1125899906842624).natAbs : Int) * 2 ^ 50) ((m + 1125899906842624).natAbs : Int)) := ⟨_, rfl⟩
  rw [← hgr] at HD
  clear hgr
  have bq := Gw.sq_bd h0 h1
  have HQ := Hid.mkA (fun W => gtim_any (Gw.s0 m) (Gw.s0 m) W (by omega) (by omega) (by omega) (by omega))
  have HU := Hid.mkA (fun n => Gw.us_bd h0 h1 n)
  have HLs := Hid.mkA (fun n => Gw.ls_bd h0 h1 n)
  have hu0 : Gw.us m 0 = Gw.s0 m := rfl
  have HUs : Hid (∀ n, Gw.us m (n + 1) = Gw.tim (Gw.us m n) (Gw.tim (Gw.s0 m) (Gw.s0 m))) := Hid.mkA (fun n => rfl)
  obtain ⟨q, hq⟩ : ∃ q, q = Gw.tim (Gw.s0 m) (Gw.s0 m) := ⟨_, rfl⟩
  obtain ⟨s, hs⟩ : ∃ s, s = Gw.s0 m := ⟨_, rfl⟩
  rw [← hq] at bq HQ HUs
  rw [← hs] at bs HD HQ hu0
  have HU0 := Hid.mkA hu0
  clear hq hs hu0
  go_enter Tryd.func43, Tryd.ntmps43
  go_wp2_with fail
  refine (HD.out _).mono ?_
  rintro e w1 ⟨rfl, k1⟩
  go_wp2_with fail
  refine (HQ.out _).mono ?_
  rintro e w2 ⟨rfl, k2⟩
  have K2 := below_tr k1 k2
  clear k1 k2 HD HQ
  go_wp2
  go_loopw [7, 8, 23] (fun a p n wr => ∃ j : Nat, j ≤ 20 ∧ n = .int .i64 (j : Int) ∧ a = .int .i64 (Gw.ls m j) ∧ p = .int .i64 (Gw.us m j) ∧ Below w.heap.size w wr) (fun _ _ n _ => 20 - (intOf n).toNat)
  case atStart => exact ⟨0, by omega, rfl, rfl, by rw [HU0.out], K2⟩
  case round =>
    obtain ⟨j, hj, rfl, rfl, rfl, hB⟩ := hrel
    have bu := HU.out j
    have bl := HLs.out j
    by_cases hjk : j < 20
    · have bl' := HLs.out (j + 1)
      have bt := Gw.tdiv_bd (2 * j + 1) bu.1 bu.2
      have HS := Hid.mkA (Gw.ls_step m j)
      have HN := HUs.out j
      have HC := Hid.mkA (fun W => gtim_any (Gw.us m j) q W (by omega) (by omega) (by omega) (by omega))
      rw [← HN] at HC
      obtain ⟨u, hu⟩ : ∃ u, u = Gw.us m j := ⟨_, rfl⟩
      obtain ⟨u', hu'⟩ : ∃ u, u = Gw.us m (j + 1) := ⟨_, rfl⟩
      obtain ⟨a, ha⟩ : ∃ a, a = Gw.ls m j := ⟨_, rfl⟩
      rw [← hu] at bu bt HS HC
      rw [← hu'] at HC
      rw [← ha] at bl HS
      rw [← hu, ← ha]
      have e1 : (2 * (j : Int) + 1) = ((2 * j + 1 : Nat) : Int) := by omega
      rw [← e1] at bt HS
      obtain ⟨t, ht⟩ : ∃ t, u.tdiv (2 * (j : Int) + 1) = t := ⟨_, rfl⟩
      rw [ht] at bt HS
      have HU' := Hid.mkA hu'
      clear e1 HN hu hu' ha bl'
      go_wp2_with fail
      refine (HC.out _).mono ?_
      rintro e w3 ⟨rfl, k3⟩
      go_wp2
      all_goals go_roundw
      case rel => exact ⟨j + 1, by omega, by go_num, by rw [HS.out], by rw [HU'.out], below_tr hB k3⟩
      case measure => simp [intOf]; omega
    · obtain rfl : j = 20 := by omega
      go_wp2
      go_ret
      exact ⟨rfl, hB⟩

set_option maxHeartbeats 400000 in
theorem glog_any (x : Int) (b : Nat) (w : World) (h0 : 1 ≤ x) (h1 : x ≤ 4611686018427387903) (hb : b ≤ 62) :
    Calls Tryd.prog 21 #[.int .i64 x, .int .i64 b] w fun e w' => e = .returned (.tuple #[.int .i64 (Gw.lgb x (Gw.dn x) b), .nilIface]) ∧ Below w.heap.size w w' := by
  have hd := Gw.dn_ok h0 h1
  have bm := Gw.mo_bd hd
  obtain ⟨d0, d1, _, _⟩ := hd
  have HF := Hid.mkA (fun W => gfrom_any x W h0 h1)
  have HO := Hid.mkA (fun W => glogone_any (Gw.mo x (Gw.dn x)) W bm.1 bm.2)
  have bi := Gw.lg_in bm.1 bm.2 (e := Gw.dn x - (b : Int) + 50) (by omega) (by omega)
  have bl := Gw.lg_bd bm.1 bm.2 (e := Gw.dn x - (b : Int) + 50) (by omega) (by omega)
  have bs := Gw.ls_bd bm.1 bm.2 20
  have HM := Hid.mkA (fun W => gmoved_any (2 * Gw.ls (Gw.mo x (Gw.dn x)) 20 + (Gw.dn x - (b : Int) + 50) * 780414346020670) 50 20 W (by omega) (by omega) (by omega) (by omega))
  have hv : clamp (rne ((2 * Gw.ls (Gw.mo x (Gw.dn x)) 20 + (Gw.dn x - (b : Int) + 50) * 780414346020670) * 2 ^ (20 - 50)) (2 ^ (50 - 20))) = Gw.lgb x (Gw.dn x) b := by
    rw [show 20 - 50 = 0 from rfl, Int.pow_zero, Int.mul_one, show 50 - 20 = 30 from rfl]
    exact (Gw.clamp_small bl.1 bl.2 (by omega)).1
  rw [hv] at HM
  obtain ⟨V, hV⟩ : ∃ V, V = Gw.lgb x (Gw.dn x) b := ⟨_, rfl⟩
  rw [← hV] at HM ⊢
  obtain ⟨S, hS⟩ : ∃ S, S = Gw.ls (Gw.mo x (Gw.dn x)) 20 := ⟨_, rfl⟩
  rw [← hS] at HM HO bi bs
  obtain ⟨m, hm⟩ : ∃ m, m = Gw.mo x (Gw.dn x) := ⟨_, rfl⟩
  rw [← hm] at HO HF
  obtain ⟨d, hd⟩ : ∃ d, d = Gw.dn x := ⟨_, rfl⟩
  rw [← hd] at HF HM bi d0 d1
  clear hV hS hm hd hv bl bm
  have c1 : decide (x < 1) = false := decide_eq_false (by omega)
  have c2 : decide (4611686018427387903 < x) = false := decide_eq_false (by omega)
  have c3 : decide ((b : Int) < 0) = false := decide_eq_false (by omega)
  have c4 : decide (62 < (b : Int)) = false := decide_eq_false (by omega)
  go_enter Tryd.func21, Tryd.ntmps21
  go_wp2_with fail
  refine (HF.out _).mono ?_
  rintro e w1 ⟨rfl, rfl⟩
  go_wp2_with fail
  refine (HO.out _).mono ?_
  rintro e w2 ⟨rfl, k2⟩
  go_wp2_with fail
  refine (HM.out _).mono ?_
  rintro e w3 ⟨rfl, k3⟩
  go_wp2
  go_ret2
  exact ⟨rfl, below_tr k2 k3⟩

set_option maxHeartbeats 400000 in
theorem glog_err (x b : Int) (w : World) (h : x < 1 ∨ 4611686018427387903 < x ∨ b < 0 ∨ 62 < b) :
    Calls Tryd.prog 21 #[.int .i64 x, .int .i64 b] w fun e w' => e = .returned (.tuple #[.int .i64 0, .iface 39 (.int .i64 1)]) ∧ Below w.heap.size w w' := by
  by_cases c1 : x < 1
  · go_enter Tryd.func21, Tryd.ntmps21
    go_wp2
    go_ret2
    exact ⟨rfl, Below.refl _ _⟩
  · by_cases c2 : 4611686018427387903 < x
    · go_enter Tryd.func21, Tryd.ntmps21
      go_wp2
      go_ret2
      exact ⟨rfl, Below.refl _ _⟩
    · by_cases c3 : b < 0
      · go_enter Tryd.func21, Tryd.ntmps21
        go_wp2
        go_ret2
        exact ⟨rfl, Below.refl _ _⟩
      · have c4 : 62 < b := by omega
        clear h
        go_enter Tryd.func21, Tryd.ntmps21
        go_wp2
        go_ret2
        exact ⟨rfl, Below.refl _ _⟩
end Go.Proofs.YtfgjigkgfflofaaDoorR
