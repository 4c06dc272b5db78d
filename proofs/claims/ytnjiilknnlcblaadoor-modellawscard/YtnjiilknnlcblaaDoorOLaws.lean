/-
  What is proved: whatever model, time and other time it is given, the law ModelLaws of layer 11 returns true, ends without a panic, and leaves what was there as it was; its condition: the variables errors.errorType and trig.angles hold what they are laid with.
-/
import Derived.Test.YtnjiilknnlcblaaDoorM20
import Derived.Test.YtnjiilknnlcblaaDoorVcB
import Derived.Test.YtnjiilknnlcblaaDoorErrA
import Derived.Test.YtnjiilknnlcblaaDoorM16
import Derived.Test.YtnjiilknnlcblaaDoorFModelLaws
import Derived.Deep.DeepCutAuto
import Derived.Deep.CutRange
import Derived.RegionTactic
import Derived.ChangeAlike
import Derived.BigRegion
set_option linter.unusedSimpArgs false
set_option linter.unusedVariables false
namespace Go.Proofs.YtnjiilknnlcblaaDoor
open Go.RowKit Vc St Qn Dt Tg Ld Mt Mo
attribute [local go_sem ↓] Go.wp_at_zero Go.wp_at_succ

namespace Mo
theorem litP : (#[.int .i64 5242880, .int .i64 0, .int .i64 0, .int .i64 (-7340032), .int .i64 0, .int .i64 0] : Array Value) = (vals 6 plc).toArray := rfl
theorem sl_plc (w : World) : Sl (w.alloc (.cells (vals 6 plc).toArray 2)) (some ⟨w.heap.size, 0, none⟩) 6 6 plc :=
  ⟨Nat.le_refl _, by decide, fun k hk => ⟨_, rfl, by rw [Addr.add_lit, Nat.zero_add]; exact CRow.cell (crow_new w 2 (vals 6 plc)) (vals_at hk) rfl⟩⟩
end Mo

set_option maxRecDepth 20000 in
set_option maxHeartbeats 2000000 in
theorem olaws_bad (K R N d more : Int) (w : World) (hE : ErrTab w) (hA : AngTab w) (h : ¬ MayM K R N ∨ ¬ MayT d) :
    Calls Tryd.prog 3 #[.agg #[.int .i64 K, .int .i64 R, .int .i64 N], .int .i64 d, .int .i64 more] w fun e w' => e = .returned (.bool true) ∧ Below w.heap.size w w' := by
  have HE := hide hE
  have HA := hide hA
  have HN := hide (fun W => model_noise_no K R N d W h)
  have m0 := crow_new w 23 [.int .i64 K, .int .i64 R, .int .i64 N]
  have KK0 := below_al (Below.refl _ w) (.cells [.int .i64 K, .int .i64 R, .int .i64 N].toArray 23)
  clear hE hA h
  go_enter Tryd.func3, Tryd.ntmps3
  go_wp2_with (first
    | ((with_reducible show wpList _ _ _ _ _ _); refine St.wpList_load isRm (by rfl) _ (by rfl) _ _ (by rfl) (by with_reducible exact m0) rfl ?_)
    | fail)
  refine (give_any K R N _).mono ?_
  rintro e wq1 ⟨rfl, kq1⟩
  have KK1 := below_tr KK0 kq1
  have m_1 := CRow.keep m0 kq1
  clear KK0 m0
  go_wp2_with (first
    | fail)
  refine (HN.out _).mono ?_
  rintro e wq2 ⟨rfl, kq2⟩
  have KK2 := below_tr KK1 kq2
  clear KK1
  go_wp2_with (first
    | ((with_reducible show wpList _ _ _ _ _ _); rw [zeroM]; refine Mt.wpList_storeNew rfl _ _ (by rfl) _ _ _ _ (by rfl) (by rfl) ?_; intro ws3 ns3 ks3; have KK3 := below_tr KK2 ks3; clear KK2)
    | fail)
  refine (num_err 1 _ (HE.out.below KK3)).mono ?_
  rintro e wq4 ⟨rfl, kq4⟩
  have KK4 := below_tr KK3 kq4
  clear KK3
  go_wp2_with (first
    | fail)
  refine (mosure_any _ (HA.out.below KK4)).mono ?_
  rintro e wq5 ⟨rfl, kq5⟩
  have KK5 := below_tr KK4 kq5
  clear KK4
  go_wp2
  go_ret
  exact ⟨rfl, KK5⟩

set_option maxRecDepth 20000 in
set_option maxHeartbeats 8000000 in
theorem olaws_good (K R N d more : Int) (w : World) (hE : ErrTab w) (hA : AngTab w) (hM : MayM K R N) (hT : MayT d) :
    Calls Tryd.prog 3 #[.agg #[.int .i64 K, .int .i64 R, .int .i64 N], .int .i64 d, .int .i64 more] w fun e w' => e = .returned (.bool true) ∧ Below w.heap.size w w' := by
  have HA := hide hA
  have HN := hide (fun e (h : MayT e) W => model_noise_yes K R N e W hM h)
  have HS := hide (fun W (h : AngTab W) => model_step_yes K R N d W h hM hT)
  have HU := hide (fun W => mturn_any 6 6 (tw (nz K d N)) W (by omega) (by omega) (by omega) (by omega))
  rw [nz_turn] at HU
  have HP := hide (fun vo W (hv : Sl W vo 6 6 plc) => mapply_any 6 6 6 vo (stepF K R d) plc W (by omega) (by omega) (by omega) (by omega) (step_b2 hM hT) hv plc_bd)
  have HPV := hide (fun i hi => app_plc (d := d) hM i hi)
  have HD := hide (fun e (h : MayT e) (hde : d ≤ e) i => nz_dia K hT h hM.1 hde i)
  obtain ⟨z, hz⟩ : ∃ z, z = mz 6 6 (tw (nz K d N)) := ⟨_, rfl⟩
  have HN1 := hide (HN.out d hT)
  rw [← hz] at HU HN1
  have Hz := hide hz
  obtain ⟨sz, hsz⟩ : ∃ z, z = mz 6 6 (stepF K R d) := ⟨_, rfl⟩
  rw [← hsz] at HS HP
  have Hsz := hide hsz
  have HMM := hide hM
  have HTT := hide hT
  obtain ⟨t0, t1⟩ := id hT
  have m0 := crow_new w 23 [.int .i64 K, .int .i64 R, .int .i64 N]
  have KK0 := below_al (Below.refl _ w) (.cells [.int .i64 K, .int .i64 R, .int .i64 N].toArray 23)
  clear hE hA hz hsz hM hT
  go_enter Tryd.func3, Tryd.ntmps3
  go_wp2_with (first
    | ((with_reducible show wpList _ _ _ _ _ _); refine St.wpList_load isRm (by rfl) _ (by rfl) _ _ (by rfl) (by with_reducible exact m0) rfl ?_)
    | fail)
  refine (give_any K R N _).mono ?_
  rintro e wq1 ⟨rfl, kq1⟩
  have KK1 := below_tr KK0 kq1
  have m_1 := CRow.keep m0 kq1
  clear KK0 m0
  go_wp2_with (first
    | fail)
  refine (HN1.out _).mono ?_
  rintro e wq2 ⟨rfl, kq2⟩
  have KK2 := below_tr KK1 kq2
  have m_2 := CRow.keep m_1 kq2
  clear KK1 m_1
  go_wp2_with (first
    | ((with_reducible show wpList _ _ _ _ _ _); rw [zeroM]; refine Mt.wpList_storeNew rfl _ _ (by rfl) _ _ _ _ (by rfl) (by rfl) ?_; intro ws3 ns3 ks3; have KK3 := below_tr KK2 ks3; have m_3 := CRow.keep m_2 ks3; clear KK2 m_2)
    | ((with_reducible show wpList _ _ _ _ _ _); refine Hk.loadM _ (by with_reducible rfl) _ _ _ _ (by rfl) (by with_reducible exact ns3) (by kernel_rfl) ?_)
    | fail)
  refine (HU.out _).mono ?_
  rintro e wq4 ⟨rfl, kq4⟩
  have KK4 := below_tr KK3 kq4
  have m_4 := CRow.keep m_3 kq4
  have n_4 := ns3.keep kq4
  clear KK3 m_3 ns3
  go_upto_region 6 with (first
    | ((with_reducible show wpList _ _ _ _ _ _); rw [zeroM]; refine Mt.wpList_storeNew rfl _ _ (by rfl) _ _ _ _ (by rfl) (by rfl) ?_; intro ws5 ns5 ks5; have KK5 := below_tr KK4 ks5; have m_5 := CRow.keep m_4 ks5; have n_5 := n_4.keep ks5; clear KK4 m_4 n_4)
    | fail)
  have HD1 : Hid (67108864 - d = 67108864 - d) := rfl
  have wd : IntKind.i64.wrap (67108864 - d) = 67108864 - d := by rw [IntKind.wrap_i64]; omega
  go_cut [66] (fun v wx => v = .bool (decide (0 ≤ more ∧ more ≤ 67108864 - d)) ∧ wx = ws5)
  case first =>
    rcases Int.lt_or_le more 0 with h | h
    · have e : decide (0 ≤ more ∧ more ≤ 67108864 - d) = false := decide_eq_false (by omega)
      go_wp2
      go_meet
      exact ⟨by rw [e], rfl⟩
    · rcases Int.lt_or_le (67108864 - d) more with h2 | h2
      · have e : decide (0 ≤ more ∧ more ≤ 67108864 - d) = false := decide_eq_false (by omega)
        have e2 : decide (more ≤ 67108864 - d) = false := decide_eq_false (by omega)
        go_wp2
        go_meet
        exact ⟨by rw [e], rfl⟩
      · have e : decide (0 ≤ more ∧ more ≤ 67108864 - d) = true := decide_eq_true ⟨h, h2⟩
        go_wp2
        go_meet
        exact ⟨by rw [e], rfl⟩
  obtain ⟨rfl, rfl⟩ := hcut
  go_upto_if 66 with fail
  have wa : 0 ≤ more ∧ more ≤ 67108864 - d → IntKind.i64.wrap (d + more) = d + more := fun h => by rw [IntKind.wrap_i64]; omega
  go_cut [12] (fun v wx => ∃ e, v = .int .i64 e ∧ d ≤ e ∧ MayT e ∧ wx = wc)
  case first =>
    by_cases h : 0 ≤ more ∧ more ≤ 67108864 - d
    · have e : decide (0 ≤ more ∧ more ≤ 67108864 - d) = true := decide_eq_true h
      have wa' := wa h
      clear wa
      go_wp2
      go_meet
      exact ⟨d + more, rfl, by omega, ⟨by omega, by omega⟩, rfl⟩
    · have e : decide (0 ≤ more ∧ more ≤ 67108864 - d) = false := decide_eq_false h
      clear wa
      go_wp2
      go_meet
      exact ⟨d, rfl, by omega, ⟨by omega, by omega⟩, rfl⟩
  obtain ⟨e, rfl, hde, hTe, rfl⟩ := hcut
  have HN2 := hide (HN.out e hTe)
  obtain ⟨kz, hkz⟩ : ∃ z, z = mz 6 6 (tw (nz K e N)) := ⟨_, rfl⟩
  rw [← hkz] at HN2
  have HDe := hide (HD.out e hTe hde)
  have HKz : Hid (∀ i, i < 6 → z (7 * i) ≤ kz (7 * i) ∧ 16 ≤ z (7 * i)) := fun i hi => by
    rw [Hz.out, hkz, dia _ hi, dia _ hi]; exact HDe.out i
  clear wa wd HD1 HN HD HDe hkz hTe hde
  go_wp2_with (first
    | ((with_reducible show wpList _ _ _ _ _ _); refine St.wpList_load isRm (by rfl) _ (by rfl) _ _ (by rfl) (by with_reducible exact m_5) rfl ?_)
    | fail)
  refine (give_any K R N _).mono ?_
  rintro e wq6 ⟨rfl, kq6⟩
  have KK6 := below_tr KK5 kq6
  have m_6 := CRow.keep m_5 kq6
  have n_6 := n_5.keep kq6
  have t_6 := ns5.keep kq6
  clear KK5 m_5 n_5 ns5
  go_wp2_with (first
    | fail)
  refine (HN2.out _).mono ?_
  rintro e wq7 ⟨rfl, kq7⟩
  have KK7 := below_tr KK6 kq7
  have m_7 := CRow.keep m_6 kq7
  have n_7 := n_6.keep kq7
  have t_7 := t_6.keep kq7
  clear KK6 m_6 n_6 t_6
  go_wp2_with (first
    | ((with_reducible show wpList _ _ _ _ _ _); rw [zeroM]; refine Mt.wpList_storeNew rfl _ _ (by rfl) _ _ _ _ (by rfl) (by rfl) ?_; intro ws8 ns8 ks8; have KK8 := below_tr KK7 ks8; have m_8 := CRow.keep m_7 ks8; have n_8 := n_7.keep ks8; have t_8 := t_7.keep ks8; clear KK7 m_7 n_7 t_7)
    | ((with_reducible show wpList _ _ _ _ _ _); refine St.wpList_load isRm (by rfl) _ (by rfl) _ _ (by rfl) (by with_reducible exact m_8) rfl ?_)
    | fail)
  refine (give_any K R N _).mono ?_
  rintro e wq9 ⟨rfl, kq9⟩
  have KK9 := below_tr KK8 kq9
  have m_9 := CRow.keep m_8 kq9
  have n_9 := n_8.keep kq9
  have t_9 := t_8.keep kq9
  have k_9 := ns8.keep kq9
  clear KK8 m_8 n_8 t_8 ns8
  go_wp2_with (first
    | fail)
  refine (HS.out _ (HA.out.below KK9)).mono ?_
  rintro e wq10 ⟨rfl, kq10⟩
  have KK10 := below_tr KK9 kq10
  have m_10 := CRow.keep m_9 kq10
  have n_10 := n_9.keep kq10
  have t_10 := t_9.keep kq10
  have k_10 := k_9.keep kq10
  clear KK9 m_9 n_9 t_9 k_9
  go_upto_region 12 with (first
    | ((with_reducible show wpList _ _ _ _ _ _); rw [zeroM]; refine Mt.wpList_storeNew rfl _ _ (by rfl) _ _ _ _ (by rfl) (by rfl) ?_; intro ws11 ns11 ks11; have KK11 := below_tr KK10 ks11; have m_11 := CRow.keep m_10 ks11; have n_11 := n_10.keep ks11; have t_11 := t_10.keep ks11; have k_11 := k_10.keep ks11; clear KK10 m_10 n_10 t_10 k_10)
    | ((with_reducible show wpList _ _ _ _ _ _); refine Hk.loadM _ (by with_reducible rfl) _ _ _ _ (by rfl) (by with_reducible exact t_11) (by kernel_rfl) ?_)
    | ((with_reducible show wpList _ _ _ _ _ _); refine Hk.loadM _ (by with_reducible rfl) _ _ _ _ (by rfl) (by with_reducible exact n_11) (by kernel_rfl) ?_)
    | ((with_reducible show wpList _ _ _ _ _ _); refine Hk.neM _ _ _ (by with_reducible rfl) _ _ _ (by rfl) (by rfl) (by kernel_rfl) ?_)
    | fail)
  have HK := hide KK11
  have HRn := hide n_11
  have HRk := hide k_11
  have HRs := hide ns11
  have HRm := hide m_11
  clear KK11 n_11 k_11 ns11 m_11 t_11 HN1 HN2 HU HS
  go_wp2
  go_loopw [19] (fun v wr => ∃ i : Nat, i ≤ 6 ∧ v = .int .i64 (i : Int) ∧ Below ws11.heap.size ws11 wr) (fun v _ => 6 - (intOf v).toNat)
  case atStart => exact ⟨0, by omega, rfl, Below.refl _ _⟩
  case round =>
    rename World => wo
    obtain ⟨i, hi, rfl, hb⟩ := hrel
    by_cases h : i < 6
    · obtain ⟨q, hq⟩ : ∃ q, q = 7 * i := ⟨_, rfl⟩
      have q36 : q < 36 := by omega
      have wq : IntKind.i64.wrap (7 * (i : Int)) = (q : Int) := by rw [IntKind.wrap_i64, hq]; omega
      have hv := HKz.out i h
      rw [← hq] at hv
      have ck := (HRk.out.keep hb).cell q36 (o := 2 + q) (by omega)
      have cn := (HRn.out.keep hb).cell q36 (o := 2 + q) (by omega)
      obtain ⟨X, hX⟩ : ∃ X, kz q = X := ⟨_, rfl⟩
      obtain ⟨Y, hY⟩ : ∃ X, z q = X := ⟨_, rfl⟩
      rw [hX] at ck hv
      rw [hY] at cn hv
      have d1 : decide (X < Y) = false := decide_eq_false (by omega)
      have d2 : decide (Y < 16) = false := decide_eq_false (by omega)
      have q36' : (q : Int) < 36 := by omega
      clear hq hv hX hY
      go_wp2
      go_quiet (fail)
      go_wp2
      go_roundw
      case rel => exact ⟨i + 1, by omega, by go_num, Vc.below_drewN hb _⟩
      case measure => simp [intOf]; omega
    · obtain rfl : i = 6 := by omega
      have m6 := CRow.keep HRm.out hb
      have s6 := HRs.out.keep hb
      have K6 := below_tr HK.out hb
      have A6 := below_al (Below.refl _ wo) (.cells (vals 6 plc).toArray 2)
      have sl6 := sl_plc wo
      have m7 := CRow.keep m6 A6
      have K7 := below_tr K6 A6
      obtain ⟨W6, hW6⟩ : ∃ W, W = wo.alloc (.cells (vals 6 plc).toArray 2) := ⟨_, rfl⟩
      rw [← hW6] at sl6 m7 K7
      have HW6 := hide hW6
      clear hW6 m6 K6 A6
      go_wp2_with (first
        | ((with_reducible show wpList _ _ _ _ _ _); refine Hk.loadM _ (by with_reducible rfl) _ _ _ _ (by rfl) (by with_reducible exact s6) (by kernel_rfl) ?_)
        | fail)
      rw [litP, ← HW6.out]
      refine (HP.out _ _ sl6).mono ?_
      rintro _ w7 ⟨co, cc, rfl, hv, hf, k7⟩
      have sv := hv.congr (z' := plc) (fun k hk => HPV.out k hk)
      have m8 := CRow.keep m7 k7
      have K8 := below_tr K7 k7
      have A8 := below_al (Below.refl _ w7) (.cells (vals 6 plc).toArray 2)
      have sl8 := sl_plc w7
      have sv8 := sv.keep A8
      have m9 := CRow.keep m8 A8
      have K9 := below_tr K8 A8
      obtain ⟨W8, hW8⟩ : ∃ W, W = w7.alloc (.cells (vals 6 plc).toArray 2) := ⟨_, rfl⟩
      rw [← hW8] at sl8 sv8 m9 K9
      have HW8 := hide hW8
      clear hW8 m7 K7 m8 K8 A8 sv hv hf k7 s6 HP HPV HW6 sl6
      go_wp2_with fail
      rw [litP, ← HW8.out]
      refine (nums_yes _ _ 6 _ 6 plc _ sv8 sl8).mono ?_
      rintro _ w9 ⟨rfl, k9⟩
      have m10 := CRow.keep m9 k9
      have K10 := below_tr K9 k9
      have c0 : w9.cell? ⟨w.heap.size, 0, none⟩ = some (.int .i64 K) := CRow.cell m10 (k := 0) rfl rfl
      have c1 : w9.cell? ⟨w.heap.size, 1, none⟩ = some (.int .i64 R) := CRow.cell m10 (k := 1) rfl rfl
      have c2 : w9.cell? ⟨w.heap.size, 2, none⟩ = some (.int .i64 N) := CRow.cell m10 (k := 2) rfl rfl
      clear m9 K9 k9 sv8 sl8 HW8
      by_cases hK : K < 2
      · have dK : decide (K < 2) = true := decide_eq_true hK
        go_wp2_with fail
        refine (mosure_any _ (HA.out.below K10)).mono ?_
        rintro _ w11 ⟨rfl, k11⟩
        go_wp2
        go_ret
        exact ⟨rfl, below_tr K10 k11⟩
      · have dK : decide (K < 2) = false := decide_eq_false hK
        have hMR : MayR R := by
          obtain ⟨_, ⟨q, _⟩ | ⟨_, q⟩⟩ := HMM.out
          · exact absurd q (by rintro (q | q) <;> omega)
          · exact q
        have M2 : MayM 2 R N := ⟨HMM.out.1, .inr ⟨.inl rfl, hMR⟩⟩
        have M3 : MayM 3 R N := ⟨HMM.out.1, .inr ⟨.inr rfl, hMR⟩⟩
        have HS2 := hide (fun W (h : AngTab W) => model_step_yes 2 R N d W h M2 HTT.out)
        have HS3 := hide (fun W (h : AngTab W) => model_step_yes 3 R N d W h M3 HTT.out)
        have HMu := hide (fun W => mmul_any 6 6 6 (stepF 2 R d) (stepF 3 R d) W (by omega) (by omega) (by omega) (by omega) (by omega) (by omega) (step_b2 M2 HTT.out) (step_b2 M3 HTT.out))
        obtain ⟨xz, hxz⟩ : ∃ z, z = mz 6 6 (stepF 2 R d) := ⟨_, rfl⟩
        obtain ⟨yz, hyz⟩ : ∃ z, z = mz 6 6 (stepF 3 R d) := ⟨_, rfl⟩
        obtain ⟨pz, hpz⟩ : ∃ z, z = mz 6 6 (fun i j => clamp (mulR (stepF 2 R d) (stepF 3 R d) 6 i j)) := ⟨_, rfl⟩
        obtain ⟨pb, hpb⟩ : ∃ p, p = any2 (fun i j => great (mulR (stepF 2 R d) (stepF 3 R d) 6 i j)) 6 6 := ⟨_, rfl⟩
        rw [← hxz] at HS2
        rw [← hyz] at HS3
        rw [← hxz, ← hyz, ← hpz, ← hpb] at HMu
        have HU2 : Hid (∀ r c : Nat, r < 2 → c < 2 → ∃ x, pz (18 * r + 3 * c + 7) = x ∧ -16 ≤ x - (if r = c then 1048576 else 0) ∧ x - (if r = c then 1048576 else 0) ≤ 16) := fun r c hr hc => by
          rw [hpz, vel_at _ hr hc]
          exact undo_near R d hr hc
        clear hxz hyz hpz hpb M2 M3 hMR hK
        go_upto_region 22 with fail
        go_cut [23, 24] (fun p q wx => ∃ ga gb : Nat, p = .pointer (some ⟨ga, 0, none⟩) ∧ q = .pointer (some ⟨gb, 0, none⟩) ∧ ga ≠ gb ∧ CRow wx ga 23 [.int .i64 K, .int .i64 R, .int .i64 N] ∧ CRow wx gb 23 [.int .i64 K, .int .i64 R, .int .i64 N] ∧ w9.heap.size ≤ ga ∧ w9.heap.size ≤ gb ∧ Below w9.heap.size w9 wx)
        case first =>
          have x0 : ((w9.alloc (Obj.cells #[.int .i64 0, .int .i64 0, .int .i64 0] 23)).alloc (Obj.cells #[.int .i64 0, .int .i64 0, .int .i64 0] 23)).cell? ⟨w.heap.size, 0, none⟩ = some (.int .i64 K) := keep_cell (below_al (below_al (Below.refl _ _) _) _) c0
          have y0 : (w9.alloc (Obj.cells #[.int .i64 0, .int .i64 0, .int .i64 0] 23)).cell? ⟨w.heap.size, 0, none⟩ = some (.int .i64 K) := keep_cell (below_al (Below.refl _ _) _) c0
          have x1 : ((w9.alloc (Obj.cells #[.int .i64 0, .int .i64 0, .int .i64 0] 23)).alloc (Obj.cells #[.int .i64 0, .int .i64 0, .int .i64 0] 23)).cell? ⟨w.heap.size, 1, none⟩ = some (.int .i64 R) := keep_cell (below_al (below_al (Below.refl _ _) _) _) c1
          have y1 : (w9.alloc (Obj.cells #[.int .i64 0, .int .i64 0, .int .i64 0] 23)).cell? ⟨w.heap.size, 1, none⟩ = some (.int .i64 R) := keep_cell (below_al (Below.refl _ _) _) c1
          have x2 : ((w9.alloc (Obj.cells #[.int .i64 0, .int .i64 0, .int .i64 0] 23)).alloc (Obj.cells #[.int .i64 0, .int .i64 0, .int .i64 0] 23)).cell? ⟨w.heap.size, 2, none⟩ = some (.int .i64 N) := keep_cell (below_al (below_al (Below.refl _ _) _) _) c2
          have y2 : (w9.alloc (Obj.cells #[.int .i64 0, .int .i64 0, .int .i64 0] 23)).cell? ⟨w.heap.size, 2, none⟩ = some (.int .i64 N) := keep_cell (below_al (Below.refl _ _) _) c2
          have lt9 : w.heap.size < w9.heap.size := CRow.lt m10
          go_region
          all_goals go_wp2
          all_goals go_meet
          all_goals first
            | exact ⟨w9.heap.size, w9.heap.size + 1, rfl, rfl, by omega, ((crow_new w9 _ [.int .i64 K, .int .i64 R, .int .i64 N]).alloc _).drew, (crow_new1 w9 (.cells [.int .i64 K, .int .i64 R, .int .i64 N].toArray 23) _ [.int .i64 K, .int .i64 R, .int .i64 N]).drew, by omega, by omega, (below_al (below_al (Below.refl _ _) _) _).drew⟩
            | exact ⟨w9.heap.size + 1, w9.heap.size, rfl, rfl, by omega, (crow_new1 w9 (.cells [.int .i64 K, .int .i64 R, .int .i64 N].toArray 23) _ [.int .i64 K, .int .i64 R, .int .i64 N]).drew, ((crow_new w9 _ [.int .i64 K, .int .i64 R, .int .i64 N]).alloc _).drew, by omega, by omega, (below_al (below_al (Below.refl _ _) _) _).drew⟩
        obtain ⟨ga, gb, rfl, rfl, hab, ra, rb, la, lb, kc⟩ := hcut
        have na : w.heap.size ≠ ga := by have := CRow.lt m10; omega
        have nb : w.heap.size ≠ gb := by have := CRow.lt m10; omega
        have K11 := below_tr K10 kc
        have lw : w.heap.size ≤ w9.heap.size := K10.size
        clear c0 c1 c2 m10 K10 kc
        have a0 : wc.cell? ⟨ga, 0, none⟩ = some (.int .i64 K) := CRow.cell ra (k := 0) rfl rfl
        have b0 : wc.cell? ⟨gb, 0, none⟩ = some (.int .i64 K) := CRow.cell rb (k := 0) rfl rfl
        have fa := CRow.free ra 0
        have fb := CRow.free rb 0
        have ra1 : CRow (wc.setCell ⟨ga, 0, none⟩ (.int .i64 2)) ga 23 [.int .i64 2, .int .i64 R, .int .i64 N] := CRow.set ra 0 _
        have rb1 := CRow.other rb (p := ⟨ga, 0, none⟩) (.int .i64 2) (fun e => hab e.symm)
        have b1 : (wc.setCell ⟨ga, 0, none⟩ (.int .i64 2)).cell? ⟨gb, 0, none⟩ = some (.int .i64 K) := CRow.cell rb1 (k := 0) rfl rfl
        have fb1 := CRow.free rb1 0
        have rb2 : CRow ((wc.setCell ⟨ga, 0, none⟩ (.int .i64 2)).setCell ⟨gb, 0, none⟩ (.int .i64 3)) gb 23 [.int .i64 3, .int .i64 R, .int .i64 N] := CRow.set rb1 0 _
        have ra2 := CRow.other ra1 (p := ⟨gb, 0, none⟩) (.int .i64 3) hab
        have K12 := (K11.setCell (p := ⟨ga, 0, none⟩) (by show w.heap.size ≤ ga; omega) (.int .i64 2)).setCell (p := ⟨gb, 0, none⟩) (by show w.heap.size ≤ gb; omega) (.int .i64 3)
        clear ra rb ra1 rb1 K11
        go_wp2_with (first
          | ((with_reducible show wpList _ _ _ _ _ _); refine St.wpList_load isRm (by rfl) _ (by rfl) _ _ (by rfl) (by with_reducible exact ra2) rfl ?_)
          | fail)
        refine (give_any 2 R N _).mono ?_
        rintro e wq1 ⟨rfl, kq1⟩
        have KK1 := below_tr K12 kq1
        have b_1 := CRow.keep rb2 kq1
        clear K12 rb2
        go_wp2_with (first
          | fail)
        refine (HS2.out _ (HA.out.below KK1)).mono ?_
        rintro e wq2 ⟨rfl, kq2⟩
        have KK2 := below_tr KK1 kq2
        have b_2 := CRow.keep b_1 kq2
        clear KK1 b_1
        go_wp2_with (first
          | ((with_reducible show wpList _ _ _ _ _ _); rw [zeroM]; refine Mt.wpList_storeNew rfl _ _ (by rfl) _ _ _ _ (by rfl) (by rfl) ?_; intro ws3 ns3 ks3; have KK3 := below_tr KK2 ks3; have b_3 := CRow.keep b_2 ks3; clear KK2 b_2)
          | ((with_reducible show wpList _ _ _ _ _ _); refine St.wpList_load isRm (by rfl) _ (by rfl) _ _ (by rfl) (by with_reducible exact b_3) rfl ?_)
          | fail)
        refine (give_any 3 R N _).mono ?_
        rintro e wq4 ⟨rfl, kq4⟩
        have KK4 := below_tr KK3 kq4
        have x_4 := ns3.keep kq4
        clear KK3 ns3
        go_wp2_with (first
          | fail)
        refine (HS3.out _ (HA.out.below KK4)).mono ?_
        rintro e wq5 ⟨rfl, kq5⟩
        have KK5 := below_tr KK4 kq5
        have x_5 := x_4.keep kq5
        clear KK4 x_4
        go_wp2_with (first
          | ((with_reducible show wpList _ _ _ _ _ _); rw [zeroM]; refine Mt.wpList_storeNew rfl _ _ (by rfl) _ _ _ _ (by rfl) (by rfl) ?_; intro ws6 ns6 ks6; have KK6 := below_tr KK5 ks6; have x_6 := x_5.keep ks6; clear KK5 x_5)
          | ((with_reducible show wpList _ _ _ _ _ _); refine Hk.loadM _ (by with_reducible rfl) _ _ _ _ (by rfl) (by with_reducible exact x_6) (by kernel_rfl) ?_)
          | ((with_reducible show wpList _ _ _ _ _ _); refine Hk.loadM _ (by with_reducible rfl) _ _ _ _ (by rfl) (by with_reducible exact ns6) (by kernel_rfl) ?_)
          | fail)
        refine (HMu.out _).mono ?_
        rintro e wq7 ⟨rfl, kq7⟩
        have KK7 := below_tr KK6 kq7
        clear KK6
        go_upto_region 29 with (first
          | ((with_reducible show wpList _ _ _ _ _ _); rw [zeroM]; refine Mt.wpList_storeNew rfl _ _ (by rfl) _ _ _ _ (by rfl) (by rfl) ?_; intro ws8 ns8 ks8; have KK8 := below_tr KK7 ks8; clear KK7)
          | fail)
        have Kz := KK8
        have rz := ns8
        clear KK8 ns8 HS2 HS3 HMu
        cases pb with
        | true =>
          go_wp2
          go_loopw [34] (fun v wr => v = .int .i64 0 ∧ wr = ws8) (fun _ _ => 0)
          case atStart => exact ⟨rfl, rfl⟩
          case round =>
            obtain ⟨rfl, rfl⟩ := hrel
            go_wp2_with fail
            refine (mosure_any _ (HA.out.below Kz)).mono ?_
            rintro _ w11 ⟨rfl, k11⟩
            go_wp2
            go_ret
            exact ⟨rfl, below_tr Kz k11⟩
        | false =>
          go_wp2
          go_loopw [34] (fun v wr => ∃ r : Nat, r ≤ 2 ∧ v = .int .i64 (r : Int) ∧ wr = ws8) (fun v _ => 2 - (intOf v).toNat)
          case atStart => exact ⟨0, by omega, rfl, rfl⟩
          case round =>
            obtain ⟨r, hr, rfl, rfl⟩ := hrel
            by_cases h2 : r < 2
            · go_wp2
              go_loopw [35] (fun v wx => ∃ c : Nat, c ≤ 2 ∧ v = .int .i64 (c : Int) ∧ wx = wr) (fun v _ => 2 - (intOf v).toNat)
              case atStart => exact ⟨0, by omega, rfl, rfl⟩
              case round =>
                obtain ⟨c, hc, rfl, rfl⟩ := hrel
                by_cases h3 : c < 2
                · obtain ⟨X, hX, x0, x1⟩ := HU2.out r c h2 h3
                  obtain ⟨R3, hR3⟩ : ∃ x : Int, x = 3 * (r : Int) := ⟨_, rfl⟩
                  have eR3 : 3 * (r : Int) = R3 := hR3.symm
                  have fR3 : IntKind.i64.wrap (3 * (r : Int)) = R3 := by rw [IntKind.wrap_i64, hR3]; omega
                  obtain ⟨R4, hR4⟩ : ∃ x : Int, x = 1 + R3 := ⟨_, rfl⟩
                  have eR4 : 1 + R3 = R4 := hR4.symm
                  have fR4 : IntKind.i64.wrap (1 + R3) = R4 := by rw [IntKind.wrap_i64, hR4]; omega
                  obtain ⟨R5, hR5⟩ : ∃ x : Int, x = R4 * 6 := ⟨_, rfl⟩
                  have eR5 : R4 * 6 = R5 := hR5.symm
                  have fR5 : IntKind.i64.wrap (R4 * 6) = R5 := by rw [IntKind.wrap_i64, hR5]; omega
                  obtain ⟨R6, hR6⟩ : ∃ x : Int, x = R5 + 1 := ⟨_, rfl⟩
                  have eR6 : R5 + 1 = R6 := hR6.symm
                  have fR6 : IntKind.i64.wrap (R5 + 1) = R6 := by rw [IntKind.wrap_i64, hR6]; omega
                  obtain ⟨C3, hC3⟩ : ∃ x : Int, x = 3 * (c : Int) := ⟨_, rfl⟩
                  have eC3 : 3 * (c : Int) = C3 := hC3.symm
                  have fC3 : IntKind.i64.wrap (3 * (c : Int)) = C3 := by rw [IntKind.wrap_i64, hC3]; omega
                  obtain ⟨Q, hQ⟩ : ∃ x : Nat, x = 18 * r + 3 * c + 7 := ⟨_, rfl⟩
                  have eQ : R6 + C3 = (Q : Int) := by omega
                  have fQ : IntKind.i64.wrap (R6 + C3) = (Q : Int) := by rw [IntKind.wrap_i64]; omega
                  rw [← hQ] at hX
                  have Q36 : Q < 36 := by omega
                  have Q36' : (Q : Int) < 36 := by omega
                  have cz := rz.cell (k := Q) Q36 (o := 2 + Q) (by omega)
                  rw [hX] at cz
                  clear hX hR3 hR4 hR5 hR6 hC3 hQ
                  by_cases hrc : r = c
                  · have eb : ((r : Int) == (c : Int)) = true := by rw [beq_iff_eq]; omega
                    rw [if_pos hrc] at x0 x1
                    obtain ⟨D, hD⟩ : ∃ x : Int, x = X - 1048576 := ⟨_, rfl⟩
                    have fD : IntKind.i64.wrap (X - 1048576) = D := by rw [IntKind.wrap_i64, hD]; omega
                    have d1 : decide (D < -16) = false := decide_eq_false (by omega)
                    have d2 : decide (16 < D) = false := decide_eq_false (by omega)
                    clear hD x0 x1 hrc
                    go_wp2
                    go_roundw
                    case rel => exact ⟨c + 1, by omega, by go_num, trivial⟩
                    case measure => simp [intOf]; omega
                  · have eb : ((r : Int) == (c : Int)) = false := beq_eq_false_iff_ne.2 (by omega)
                    rw [if_neg hrc] at x0 x1
                    have d1 : decide (X < -16) = false := decide_eq_false (by omega)
                    have d2 : decide (16 < X) = false := decide_eq_false (by omega)
                    clear x0 x1 hrc
                    go_wp2
                    go_roundw
                    case rel => exact ⟨c + 1, by omega, by go_num, trivial⟩
                    case measure => simp [intOf]; omega
                · obtain rfl : c = 2 := by omega
                  go_wp2
                  go_roundw
                  case rel => exact ⟨r + 1, by omega, by go_num, trivial⟩
                  case measure => simp [intOf]; omega
            · obtain rfl : r = 2 := by omega
              go_wp2_with fail
              refine (mosure_any _ (HA.out.below Kz)).mono ?_
              rintro _ w11 ⟨rfl, k11⟩
              go_wp2
              go_ret
              exact ⟨rfl, below_tr Kz k11⟩

theorem laws_walk : FModelLaws.Walk := by
  intro K R N d more w w0 w1 w2 w3 w4 hE hA
  by_cases hM : MayM K R N
  · by_cases hT : MayT d
    · exact olaws_good K R N d more w hE hA hM hT
    · exact olaws_bad K R N d more w hE hA (.inr hT)
  · exact olaws_bad K R N d more w hE hA (.inl hM)

theorem modelLaws_card : Rows.ModelLawsCardSaid := FModelLaws.card laws_walk
end Go.Proofs.YtnjiilknnlcblaaDoor
