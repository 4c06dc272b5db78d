/-
  What is proved: whatever model, time and kind it is given, the law ModelSteps of layer 11 returns true, ends without a panic, and leaves what was there as it was; its condition: the variables errors.errorType and trig.angles hold what they are laid with.
-/
import Derived.Test.YtnjiilknnlcblaaGreatDoorM23
import Derived.Test.YtnjiilknnlcblaaGreatDoorM29
import Derived.Test.YtnjiilknnlcblaaGreatDoorM18
import Derived.Test.YtnjiilknnlcblaaGreatDoorRegM
import Derived.Test.YtnjiilknnlcblaaGreatDoorErrA
import Derived.Test.YtnjiilknnlcblaaGreatDoorM19
import Derived.Test.YtnjiilknnlcblaaGreatDoorFModelSteps
import Derived.Deep.DeepCutAuto
import Derived.Deep.CutRange
set_option linter.unusedSimpArgs false
set_option linter.unusedVariables false
namespace Go.Proofs.YtnjiilknnlcblaaGreatDoor
open Go.RowKit Vc St Qn Dt Tg Ld Mt Mo
attribute [local go_sem ↓] Go.wp_at_zero Go.wp_at_succ

set_option maxRecDepth 20000 in
set_option maxHeartbeats 4000000 in
theorem osteps_time (K R N d kd : Int) (w : World) (hE : ErrTab w) (hA : AngTab w) (h : MayM K R N) (hT : ¬ MayT d) :
    Calls Tryz.prog 3 #[.agg #[.int .i64 K, .int .i64 R, .int .i64 N], .int .i64 d, .int .i64 kd] w fun e w' => e = .returned (.bool true) ∧ Below w.heap.size w w' := by
  have HE := hide hE
  have HA := hide hA
  have HS := hide (fun W => model_step_no K R N d W (.inr hT))
  have HN := hide (fun W => model_noise_no K R N d W (.inr hT))
  have HNa := hide (fun W => name_any kd W)
  have HNb := hide (fun W => dname_any kd W)
  obtain ⟨nv, hnv⟩ : ∃ s : ByteArray, nm kd = .string s := ⟨_, rfl⟩
  rw [hnv] at HNa HNb
  have dT : decide (1 ≤ d ∧ d ≤ 67108864) = false := decide_eq_false (fun q => hT ⟨q.1, q.2⟩)
  have HTi := hide (fun W => dtime_any d W)
  rw [dT] at HTi
  clear dT
  have m0 := crow_new w 23 [.int .i64 K, .int .i64 R, .int .i64 N]
  have KK0 := below_al (Below.refl _ w) (.cells [.int .i64 K, .int .i64 R, .int .i64 N].toArray 23)
  clear hE hA hnv
  go_enter Tryz.func3, Tryz.ntmps3
  go_wp2_with (first
    | ((with_reducible show wpList _ _ _ _ _ _); refine St.wpList_load isRm (by rfl) _ (by rfl) _ _ (by rfl) (by with_reducible exact m0) rfl ?_)
    | fail)
  refine (give_any K R N _).mono ?_
  rintro e wq1 ⟨rfl, kq1⟩
  have KK1 := below_tr KK0 kq1
  have m_1 := CRow.keep m0 kq1
  clear KK0 m0
  go_wp2_with (first
    | fail)
  refine (HS.out _).mono ?_
  rintro e wq2 ⟨rfl, kq2⟩
  have KK2 := below_tr KK1 kq2
  have m_2 := CRow.keep m_1 kq2
  clear KK1 m_1
  go_wp2_with (first
    | ((with_reducible show wpList _ _ _ _ _ _); rw [zeroM]; refine Mt.wpList_storeNew rfl _ _ (by rfl) _ _ _ _ (by rfl) (by rfl) ?_; intro ws3 ns3 ks3; have KK3 := below_tr KK2 ks3; have m_3 := CRow.keep m_2 ks3; clear KK2 m_2)
    | ((with_reducible show wpList _ _ _ _ _ _); refine St.wpList_load isRm (by rfl) _ (by rfl) _ _ (by rfl) (by with_reducible exact m_3) rfl ?_)
    | fail)
  refine (give_any K R N _).mono ?_
  rintro e wq4 ⟨rfl, kq4⟩
  have KK4 := below_tr KK3 kq4
  have m_4 := CRow.keep m_3 kq4
  have s_4 := ns3.keep kq4
  clear KK3 m_3 ns3
  go_wp2_with (first
    | fail)
  refine (HN.out _).mono ?_
  rintro e wq5 ⟨rfl, kq5⟩
  have KK5 := below_tr KK4 kq5
  have m_5 := CRow.keep m_4 kq5
  have s_5 := s_4.keep kq5
  clear KK4 m_4 s_4
  go_wp2_with (first
    | ((with_reducible show wpList _ _ _ _ _ _); rw [zeroM]; refine Mt.wpList_storeNew rfl _ _ (by rfl) _ _ _ _ (by rfl) (by rfl) ?_; intro ws6 ns6 ks6; have KK6 := below_tr KK5 ks6; have m_6 := CRow.keep m_5 ks6; have s_6 := s_5.keep ks6; clear KK5 m_5 s_5)
    | ((with_reducible show wpList _ _ _ _ _ _); refine St.wpList_load isRm (by rfl) _ (by rfl) _ _ (by rfl) (by with_reducible exact m_6) rfl ?_)
    | fail)
  refine (dmay_yes K R N _ h).mono ?_
  rintro e wq7 ⟨rfl, kq7⟩
  have KK7 := below_tr KK6 kq7
  have m_7 := CRow.keep m_6 kq7
  have s_7 := s_6.keep kq7
  have n_7 := ns6.keep kq7
  clear KK6 m_6 s_6 ns6
  go_wp2_with (first
    | ((with_reducible show wpList _ _ _ _ _ _); refine St.wpList_load isRm (by rfl) _ (by rfl) _ _ (by rfl) (by with_reducible exact m_7) rfl ?_)
    | fail)
  refine (give_any K R N _).mono ?_
  rintro e wq8 ⟨rfl, kq8⟩
  have KK8 := below_tr KK7 kq8
  have s_8 := s_7.keep kq8
  have n_8 := n_7.keep kq8
  clear KK7 s_7 n_7
  go_wp2_with (first
    | fail)
  refine (mcheck_yes K R N _ h).mono ?_
  rintro e wq9 ⟨rfl, kq9⟩
  have KK9 := below_tr KK8 kq9
  have s_9 := s_8.keep kq9
  have n_9 := n_8.keep kq9
  clear KK8 s_8 n_8
  go_wp2_with (first
    | fail)
  refine (HNa.out _).mono ?_
  rintro e wq10 ⟨rfl, kq10⟩
  have KK10 := below_tr KK9 kq10
  have s_10 := s_9.keep kq10
  have n_10 := n_9.keep kq10
  clear KK9 s_9 n_9
  go_wp2_with (first
    | fail)
  refine (HNb.out _).mono ?_
  rintro e wq11 ⟨rfl, kq11⟩
  have KK11 := below_tr KK10 kq11
  have s_11 := s_10.keep kq11
  have n_11 := n_10.keep kq11
  clear KK10 s_10 n_10
  go_wp2_with (first
    | fail)
  refine (HTi.out _).mono ?_
  rintro e wq12 ⟨rfl, kq12⟩
  have KK12 := below_tr KK11 kq12
  have s_12 := s_11.keep kq12
  have n_12 := n_11.keep kq12
  clear KK11 s_11 n_11
  go_wp2_with (first
    | fail)
  refine (num_err 1 _ (HE.out.below KK12)).mono ?_
  rintro e wq13 ⟨rfl, kq13⟩
  have KK13 := below_tr KK12 kq13
  have s_13 := s_12.keep kq13
  have n_13 := n_12.keep kq13
  clear KK12 s_12 n_12
  go_wp2_with (first
    | fail)
  refine (num_err 1 _ (HE.out.below KK13)).mono ?_
  rintro e wq14 ⟨rfl, kq14⟩
  have KK14 := below_tr KK13 kq14
  have s_14 := s_13.keep kq14
  have n_14 := n_13.keep kq14
  clear KK13 s_13 n_13
  go_wp2_with (first
    | ((with_reducible show wpList _ _ _ _ _ _); refine Hk.loadM _ (by with_reducible rfl) _ _ _ _ (by rfl) (by with_reducible exact s_14) (by kernel_rfl) ?_)
    | ((with_reducible show wpList _ _ _ _ _ _); refine Hk.loadM _ (by with_reducible rfl) _ _ _ _ (by rfl) (by with_reducible exact n_14) (by kernel_rfl) ?_)
    | ((with_reducible show wpList _ _ _ _ _ _); refine Hk.eqM _ _ _ (by with_reducible rfl) _ _ _ (by rfl) (by rfl) (by kernel_rfl) ?_)
    | ((with_reducible show wpList _ _ _ _ _ _); refine Hk.build0 (by with_reducible rfl) (by kernel_rfl) ?_)
    | fail)
  refine (mosure_any _ (HA.out.below KK14)).mono ?_
  rintro e wq15 ⟨rfl, kq15⟩
  have KK15 := below_tr KK14 kq15
  clear KK14
  go_wp2
  go_ret
  exact ⟨rfl, KK15⟩

set_option maxRecDepth 20000 in
set_option maxHeartbeats 4000000 in
theorem osteps_model (K R N d kd : Int) (w : World) (hE : ErrTab w) (hA : AngTab w) (h : ¬ MayM K R N) :
    Calls Tryz.prog 3 #[.agg #[.int .i64 K, .int .i64 R, .int .i64 N], .int .i64 d, .int .i64 kd] w fun e w' => e = .returned (.bool true) ∧ Below w.heap.size w w' := by
  have HE := hide hE
  have HA := hide hA
  have HS := hide (fun W => model_step_no K R N d W (.inl h))
  have HN := hide (fun W => model_noise_no K R N d W (.inl h))
  have HNa := hide (fun W => name_any kd W)
  have HNb := hide (fun W => dname_any kd W)
  obtain ⟨nv, hnv⟩ : ∃ s : ByteArray, nm kd = .string s := ⟨_, rfl⟩
  rw [hnv] at HNa HNb
  have m0 := crow_new w 23 [.int .i64 K, .int .i64 R, .int .i64 N]
  have KK0 := below_al (Below.refl _ w) (.cells [.int .i64 K, .int .i64 R, .int .i64 N].toArray 23)
  clear hE hA hnv
  go_enter Tryz.func3, Tryz.ntmps3
  go_wp2_with (first
    | ((with_reducible show wpList _ _ _ _ _ _); refine St.wpList_load isRm (by rfl) _ (by rfl) _ _ (by rfl) (by with_reducible exact m0) rfl ?_)
    | fail)
  refine (give_any K R N _).mono ?_
  rintro e wq1 ⟨rfl, kq1⟩
  have KK1 := below_tr KK0 kq1
  have m_1 := CRow.keep m0 kq1
  clear KK0 m0
  go_wp2_with (first
    | fail)
  refine (HS.out _).mono ?_
  rintro e wq2 ⟨rfl, kq2⟩
  have KK2 := below_tr KK1 kq2
  have m_2 := CRow.keep m_1 kq2
  clear KK1 m_1
  go_wp2_with (first
    | ((with_reducible show wpList _ _ _ _ _ _); rw [zeroM]; refine Mt.wpList_storeNew rfl _ _ (by rfl) _ _ _ _ (by rfl) (by rfl) ?_; intro ws3 ns3 ks3; have KK3 := below_tr KK2 ks3; have m_3 := CRow.keep m_2 ks3; clear KK2 m_2)
    | ((with_reducible show wpList _ _ _ _ _ _); refine St.wpList_load isRm (by rfl) _ (by rfl) _ _ (by rfl) (by with_reducible exact m_3) rfl ?_)
    | fail)
  refine (give_any K R N _).mono ?_
  rintro e wq4 ⟨rfl, kq4⟩
  have KK4 := below_tr KK3 kq4
  have m_4 := CRow.keep m_3 kq4
  have s_4 := ns3.keep kq4
  clear KK3 m_3 ns3
  go_wp2_with (first
    | fail)
  refine (HN.out _).mono ?_
  rintro e wq5 ⟨rfl, kq5⟩
  have KK5 := below_tr KK4 kq5
  have m_5 := CRow.keep m_4 kq5
  have s_5 := s_4.keep kq5
  clear KK4 m_4 s_4
  go_wp2_with (first
    | ((with_reducible show wpList _ _ _ _ _ _); rw [zeroM]; refine Mt.wpList_storeNew rfl _ _ (by rfl) _ _ _ _ (by rfl) (by rfl) ?_; intro ws6 ns6 ks6; have KK6 := below_tr KK5 ks6; have m_6 := CRow.keep m_5 ks6; have s_6 := s_5.keep ks6; clear KK5 m_5 s_5)
    | ((with_reducible show wpList _ _ _ _ _ _); refine St.wpList_load isRm (by rfl) _ (by rfl) _ _ (by rfl) (by with_reducible exact m_6) rfl ?_)
    | fail)
  refine (dmay_no K R N _ h).mono ?_
  rintro e wq7 ⟨rfl, kq7⟩
  have KK7 := below_tr KK6 kq7
  have m_7 := CRow.keep m_6 kq7
  have s_7 := s_6.keep kq7
  have n_7 := ns6.keep kq7
  clear KK6 m_6 s_6 ns6
  go_wp2_with (first
    | ((with_reducible show wpList _ _ _ _ _ _); refine St.wpList_load isRm (by rfl) _ (by rfl) _ _ (by rfl) (by with_reducible exact m_7) rfl ?_)
    | fail)
  refine (give_any K R N _).mono ?_
  rintro e wq8 ⟨rfl, kq8⟩
  have KK8 := below_tr KK7 kq8
  have s_8 := s_7.keep kq8
  have n_8 := n_7.keep kq8
  clear KK7 s_7 n_7
  go_wp2_with (first
    | fail)
  refine (mcheck_no K R N _ h).mono ?_
  rintro e wq9 ⟨rfl, kq9⟩
  have KK9 := below_tr KK8 kq9
  have s_9 := s_8.keep kq9
  have n_9 := n_8.keep kq9
  clear KK8 s_8 n_8
  go_wp2_with (first
    | fail)
  refine (num_err 1 _ (HE.out.below KK9)).mono ?_
  rintro e wq10 ⟨rfl, kq10⟩
  have KK10 := below_tr KK9 kq10
  have s_10 := s_9.keep kq10
  have n_10 := n_9.keep kq10
  clear KK9 s_9 n_9
  go_wp2_with (first
    | fail)
  refine (HNa.out _).mono ?_
  rintro e wq11 ⟨rfl, kq11⟩
  have KK11 := below_tr KK10 kq11
  have s_11 := s_10.keep kq11
  have n_11 := n_10.keep kq11
  clear KK10 s_10 n_10
  go_wp2_with (first
    | fail)
  refine (HNb.out _).mono ?_
  rintro e wq12 ⟨rfl, kq12⟩
  have KK12 := below_tr KK11 kq12
  have s_12 := s_11.keep kq12
  have n_12 := n_11.keep kq12
  clear KK11 s_11 n_11
  go_wp2_with (first
    | fail)
  refine (num_err 1 _ (HE.out.below KK12)).mono ?_
  rintro e wq13 ⟨rfl, kq13⟩
  have KK13 := below_tr KK12 kq13
  have s_13 := s_12.keep kq13
  have n_13 := n_12.keep kq13
  clear KK12 s_12 n_12
  go_wp2_with (first
    | fail)
  refine (num_err 1 _ (HE.out.below KK13)).mono ?_
  rintro e wq14 ⟨rfl, kq14⟩
  have KK14 := below_tr KK13 kq14
  have s_14 := s_13.keep kq14
  have n_14 := n_13.keep kq14
  clear KK13 s_13 n_13
  go_wp2_with (first
    | ((with_reducible show wpList _ _ _ _ _ _); refine Hk.loadM _ (by with_reducible rfl) _ _ _ _ (by rfl) (by with_reducible exact s_14) (by kernel_rfl) ?_)
    | ((with_reducible show wpList _ _ _ _ _ _); refine Hk.loadM _ (by with_reducible rfl) _ _ _ _ (by rfl) (by with_reducible exact n_14) (by kernel_rfl) ?_)
    | ((with_reducible show wpList _ _ _ _ _ _); refine Hk.eqM _ _ _ (by with_reducible rfl) _ _ _ (by rfl) (by rfl) (by kernel_rfl) ?_)
    | ((with_reducible show wpList _ _ _ _ _ _); refine Hk.build0 (by with_reducible rfl) (by kernel_rfl) ?_)
    | fail)
  refine (mosure_any _ (HA.out.below KK14)).mono ?_
  rintro e wq15 ⟨rfl, kq15⟩
  have KK15 := below_tr KK14 kq15
  clear KK14
  go_wp2
  go_ret
  exact ⟨rfl, KK15⟩

set_option maxRecDepth 20000 in
set_option maxHeartbeats 8000000 in
theorem osteps_good (K R N d kd : Int) (w : World) (hE : ErrTab w) (hA : AngTab w) (h : MayM K R N) (hT : MayT d) :
    Calls Tryz.prog 3 #[.agg #[.int .i64 K, .int .i64 R, .int .i64 N], .int .i64 d, .int .i64 kd] w fun e w' => e = .returned (.bool true) ∧ Below w.heap.size w w' := by
  have HE := hide hE
  have HA := hide hA
  have HS := hide (fun W (q : AngTab W) => model_step_yes K R N d W q h hT)
  have HN := hide (fun W => model_noise_yes K R N d W h hT)
  have HNa := hide (fun W => name_any kd W)
  have HNb := hide (fun W => dname_any kd W)
  obtain ⟨nv, hnv⟩ : ∃ s : ByteArray, nm kd = .string s := ⟨_, rfl⟩
  rw [hnv] at HNa HNb
  have dT : decide (1 ≤ d ∧ d ≤ 67108864) = true := decide_eq_true ⟨hT.1, hT.2⟩
  have HTi := hide (fun W => dtime_any d W)
  rw [dT] at HTi
  have CR1 := hide (fun W => rowsOf_any 6 6 (stepF K R d) W (by omega) (by omega) (by omega) (by omega))
  have CR2 := hide (fun W => rowsOf_any 6 6 (tw (nz K d N)) W (by omega) (by omega) (by omega) (by omega))
  have CD : Hid (∀ W, Calls Tryz.prog 17 #[.agg #[.int .i64 K, .int .i64 R, .int .i64 N], .int .i64 d] W fun e w' => ∃ lo cm, e = .returned (.slice lo 6 cm) ∧ Grid w' lo 6 cm 6 (stepF K R d) ∧ Below W.heap.size W w') := fun W => by
    obtain ⟨_, ⟨hK, hR⟩ | ⟨hK, hR⟩⟩ := h
    · have e : stepF K R d = tw (stF K d) := by
        rcases hK with rfl | rfl <;> rfl
      rw [e]
      exact dstep_straight K R N d W hK hT
    · exact dstep_turn K R N d W hK hR hT
  have CN := hide (fun W => dnoise_any K R N d W h.1 hT)
  obtain ⟨Fs, hFs⟩ : ∃ F, F = stepF K R d := ⟨_, rfl⟩
  obtain ⟨Fn, hFn⟩ : ∃ F, F = tw (nz K d N) := ⟨_, rfl⟩
  rw [← hFs] at HS CR1 CD
  rw [← hFn] at HN CR2 CN
  obtain ⟨zs, hzs⟩ : ∃ z, z = mz 6 6 Fs := ⟨_, rfl⟩
  obtain ⟨zn, hzn⟩ : ∃ z, z = mz 6 6 Fn := ⟨_, rfl⟩
  rw [← hzs] at HS CR1
  rw [← hzn] at HN CR2
  have m0 := crow_new w 23 [.int .i64 K, .int .i64 R, .int .i64 N]
  have KK0 := below_al (Below.refl _ w) (.cells [.int .i64 K, .int .i64 R, .int .i64 N].toArray 23)
  clear hE hA hnv dT hFs hFn hzs hzn
  go_enter Tryz.func3, Tryz.ntmps3
  go_wp2_with (first
    | ((with_reducible show wpList _ _ _ _ _ _); refine St.wpList_load isRm (by rfl) _ (by rfl) _ _ (by rfl) (by with_reducible exact m0) rfl ?_)
    | fail)
  refine (give_any K R N _).mono ?_
  rintro e wq1 ⟨rfl, kq1⟩
  have KK1 := below_tr KK0 kq1
  have m_1 := CRow.keep m0 kq1
  clear KK0 m0
  go_wp2_with (first
    | fail)
  refine (HS.out _ (HA.out.below KK1)).mono ?_
  rintro e wq2 ⟨rfl, kq2⟩
  have KK2 := below_tr KK1 kq2
  have m_2 := CRow.keep m_1 kq2
  clear KK1 m_1
  go_wp2_with (first
    | ((with_reducible show wpList _ _ _ _ _ _); rw [zeroM]; refine Mt.wpList_storeNew rfl _ _ (by rfl) _ _ _ _ (by rfl) (by rfl) ?_; intro ws3 ns3 ks3; have KK3 := below_tr KK2 ks3; have m_3 := CRow.keep m_2 ks3; clear KK2 m_2)
    | ((with_reducible show wpList _ _ _ _ _ _); refine St.wpList_load isRm (by rfl) _ (by rfl) _ _ (by rfl) (by with_reducible exact m_3) rfl ?_)
    | fail)
  refine (give_any K R N _).mono ?_
  rintro e wq4 ⟨rfl, kq4⟩
  have KK4 := below_tr KK3 kq4
  have m_4 := CRow.keep m_3 kq4
  have s_4 := ns3.keep kq4
  clear KK3 m_3 ns3
  go_wp2_with (first
    | fail)
  refine (HN.out _).mono ?_
  rintro e wq5 ⟨rfl, kq5⟩
  have KK5 := below_tr KK4 kq5
  have m_5 := CRow.keep m_4 kq5
  have s_5 := s_4.keep kq5
  clear KK4 m_4 s_4
  go_wp2_with (first
    | ((with_reducible show wpList _ _ _ _ _ _); rw [zeroM]; refine Mt.wpList_storeNew rfl _ _ (by rfl) _ _ _ _ (by rfl) (by rfl) ?_; intro ws6 ns6 ks6; have KK6 := below_tr KK5 ks6; have m_6 := CRow.keep m_5 ks6; have s_6 := s_5.keep ks6; clear KK5 m_5 s_5)
    | ((with_reducible show wpList _ _ _ _ _ _); refine St.wpList_load isRm (by rfl) _ (by rfl) _ _ (by rfl) (by with_reducible exact m_6) rfl ?_)
    | fail)
  refine (dmay_yes K R N _ h).mono ?_
  rintro e wq7 ⟨rfl, kq7⟩
  have KK7 := below_tr KK6 kq7
  have m_7 := CRow.keep m_6 kq7
  have s_7 := s_6.keep kq7
  have n_7 := ns6.keep kq7
  clear KK6 m_6 s_6 ns6
  go_wp2_with (first
    | ((with_reducible show wpList _ _ _ _ _ _); refine St.wpList_load isRm (by rfl) _ (by rfl) _ _ (by rfl) (by with_reducible exact m_7) rfl ?_)
    | fail)
  refine (give_any K R N _).mono ?_
  rintro e wq8 ⟨rfl, kq8⟩
  have KK8 := below_tr KK7 kq8
  have m_8 := CRow.keep m_7 kq8
  have s_8 := s_7.keep kq8
  have n_8 := n_7.keep kq8
  clear KK7 m_7 s_7 n_7
  go_wp2_with (first
    | fail)
  refine (mcheck_yes K R N _ h).mono ?_
  rintro e wq9 ⟨rfl, kq9⟩
  have KK9 := below_tr KK8 kq9
  have m_9 := CRow.keep m_8 kq9
  have s_9 := s_8.keep kq9
  have n_9 := n_8.keep kq9
  clear KK8 m_8 s_8 n_8
  go_wp2_with (first
    | fail)
  refine (HNa.out _).mono ?_
  rintro e wq10 ⟨rfl, kq10⟩
  have KK10 := below_tr KK9 kq10
  have m_10 := CRow.keep m_9 kq10
  have s_10 := s_9.keep kq10
  have n_10 := n_9.keep kq10
  clear KK9 m_9 s_9 n_9
  go_wp2_with (first
    | fail)
  refine (HNb.out _).mono ?_
  rintro e wq11 ⟨rfl, kq11⟩
  have KK11 := below_tr KK10 kq11
  have m_11 := CRow.keep m_10 kq11
  have s_11 := s_10.keep kq11
  have n_11 := n_10.keep kq11
  clear KK10 m_10 s_10 n_10
  go_wp2_with (first
    | fail)
  refine (HTi.out _).mono ?_
  rintro e wq12 ⟨rfl, kq12⟩
  have KK12 := below_tr KK11 kq12
  have m_12 := CRow.keep m_11 kq12
  have s_12 := s_11.keep kq12
  have n_12 := n_11.keep kq12
  clear KK11 m_11 s_11 n_11
  go_wp2_with (first
    | ((with_reducible show wpList _ _ _ _ _ _); refine St.wpList_load isRm (by rfl) _ (by rfl) _ _ (by rfl) (by with_reducible exact m_12) rfl ?_)
    | fail)
  refine (CN.out _).mono ?_
  rintro e wq13 ⟨xo, xc, rfl, gx, kq13⟩
  have KK13 := below_tr KK12 kq13
  have m_13 := CRow.keep m_12 kq13
  have s_13 := s_12.keep kq13
  have n_13 := n_12.keep kq13
  clear KK12 m_12 s_12 n_12
  go_upto_region 10 with fail
  obtain ⟨bs, hbs⟩ : ∃ b, b = wq2.heap.size := ⟨_, rfl⟩
  obtain ⟨bn, hbn⟩ : ∃ b, b = wq5.heap.size := ⟨_, rfl⟩
  have hS : ∀ W, Below wq13.heap.size wq13 W → (MRow W bs 6 6 zs ∧ MRow W bn 6 6 zn ∧ CRow W w.heap.size 23 [.int .i64 K, .int .i64 R, .int .i64 N]) := fun W q => by
    rw [hbs, hbn]; exact ⟨s_13.keep q, n_13.keep q, CRow.keep m_13 q⟩
  rw [← hbs, ← hbn]
  have GX := hide gx
  have KB := hide KK13
  clear gx s_13 n_13 m_13 KK13 hbs hbn HS HN HNa HNb HTi CN
  refine Ru.wp_region_U [32] (fun w' => MRow w' bs 6 6 zs ∧ MRow w' bn 6 6 zn ∧ CRow w' w.heap.size 23 [.int .i64 K, .int .i64 R, .int .i64 N]) (by kernel_rfl) (hS _ (Vc.below_drew' _)) (fun hHeld => ?_)
  refine Ru.wpAnyU_take (i := 0) (v := .nilIface) rfl (by kernel_rfl) (by kernel_rfl) (by kernel_rfl) (by kernel_rfl) (by kernel_rfl) (by kernel_rfl) (fun _ _ _ h => h) (Or.inl ⟨by kernel_rfl, fun w hS => by obtain ⟨sc0, sc1, sc2⟩ := hS; go_simp⟩) hHeld ?_
  simp only [Act.put, List.getElem_toArray, List.getElem_cons_zero, List.getElem_cons_succ, List.setIfInBounds_toArray, List.set_cons_zero, List.set_cons_succ]
  refine Ru.wpAnyU_take (i := 1) (v := .bool true) rfl (by kernel_rfl) (by kernel_rfl) (by kernel_rfl) (by kernel_rfl) (by kernel_rfl) (by kernel_rfl) (fun _ _ _ h => h) (Or.inl ⟨by kernel_rfl, fun w hS => by obtain ⟨sc0, sc1, sc2⟩ := hS; go_simp⟩) hHeld ?_
  simp only [Act.put, List.getElem_toArray, List.getElem_cons_zero, List.getElem_cons_succ, List.setIfInBounds_toArray, List.set_cons_zero, List.set_cons_succ]
  refine Ru.wpAnyU_take (i := 2) (v := .bool true) rfl (by kernel_rfl) (by kernel_rfl) (by kernel_rfl) (by kernel_rfl) (by kernel_rfl) (by kernel_rfl) (fun _ _ _ h => h) (Or.inl ⟨by kernel_rfl, fun w hS => by obtain ⟨sc0, sc1, sc2⟩ := hS; go_simp⟩) hHeld ?_
  simp only [Act.put, List.getElem_toArray, List.getElem_cons_zero, List.getElem_cons_succ, List.setIfInBounds_toArray, List.set_cons_zero, List.set_cons_succ]
  refine Ru.wpAnyU_take (i := 3) (v := .nilIface) rfl (by kernel_rfl) (by kernel_rfl) (by kernel_rfl) (by kernel_rfl) (by kernel_rfl) (by kernel_rfl) (fun _ _ _ h => h) (Or.inl ⟨by kernel_rfl, fun w hS => by obtain ⟨sc0, sc1, sc2⟩ := hS; go_simp⟩) hHeld ?_
  simp only [Act.put, List.getElem_toArray, List.getElem_cons_zero, List.getElem_cons_succ, List.setIfInBounds_toArray, List.set_cons_zero, List.set_cons_succ]
  refine Ru.wpAnyU_take (i := 4) (v := .bool true) rfl (by kernel_rfl) (by kernel_rfl) (by kernel_rfl) (by kernel_rfl) (by kernel_rfl) (by kernel_rfl) (fun _ _ _ h => h) (Or.inl ⟨by kernel_rfl, fun w hS => by obtain ⟨sc0, sc1, sc2⟩ := hS; go_simp⟩) hHeld ?_
  simp only [Act.put, List.getElem_toArray, List.getElem_cons_zero, List.getElem_cons_succ, List.setIfInBounds_toArray, List.set_cons_zero, List.set_cons_succ]
  refine Ru.wpAnyU_take (i := 5) (v := .bool true) rfl (by kernel_rfl) (by kernel_rfl) (by kernel_rfl) (by kernel_rfl) (by kernel_rfl) (by kernel_rfl) (fun _ _ _ h => h) (Or.inl ⟨by kernel_rfl, fun w hS => by obtain ⟨sc0, sc1, sc2⟩ := hS; go_simp⟩) hHeld ?_
  simp only [Act.put, List.getElem_toArray, List.getElem_cons_zero, List.getElem_cons_succ, List.setIfInBounds_toArray, List.set_cons_zero, List.set_cons_succ]
  refine Ru.wpAnyU_take (i := 6) (v := .bool true) rfl (by kernel_rfl) (by kernel_rfl) (by kernel_rfl) (by kernel_rfl) (by kernel_rfl) (by kernel_rfl) (fun _ _ _ h => h) (Or.inl ⟨by kernel_rfl, fun w hS => by obtain ⟨sc0, sc1, sc2⟩ := hS; go_simp⟩) hHeld ?_
  simp only [Act.put, List.getElem_toArray, List.getElem_cons_zero, List.getElem_cons_succ, List.setIfInBounds_toArray, List.set_cons_zero, List.set_cons_succ]
  refine Ru.wpAnyU_take (i := 7) (v := .bool false) rfl (by kernel_rfl) (by kernel_rfl) (by kernel_rfl) (by kernel_rfl) (by kernel_rfl) (by kernel_rfl) (fun _ _ _ h => h) (Or.inl ⟨by kernel_rfl, fun w hS => by obtain ⟨sc0, sc1, sc2⟩ := hS; go_simp⟩) hHeld ?_
  simp only [Act.put, List.getElem_toArray, List.getElem_cons_zero, List.getElem_cons_succ, List.setIfInBounds_toArray, List.set_cons_zero, List.set_cons_succ]
  refine Ru.wpAnyU_take (i := 8) (v := .bool true) rfl (by kernel_rfl) (by kernel_rfl) (by kernel_rfl) (by kernel_rfl) (by kernel_rfl) (by kernel_rfl) (fun _ _ _ h => h) (Or.inl ⟨by kernel_rfl, fun w hS => by obtain ⟨sc0, sc1, sc2⟩ := hS; go_simp⟩) hHeld ?_
  simp only [Act.put, List.getElem_toArray, List.getElem_cons_zero, List.getElem_cons_succ, List.setIfInBounds_toArray, List.set_cons_zero, List.set_cons_succ]
  refine Ru.wpAnyU_take (i := 9) (v := .bool true) rfl (by kernel_rfl) (by kernel_rfl) (by kernel_rfl) (by kernel_rfl) (by kernel_rfl) (by kernel_rfl) (fun _ _ _ h => h) (Or.inl ⟨by kernel_rfl, fun w hS => by obtain ⟨sc0, sc1, sc2⟩ := hS; go_simp⟩) hHeld ?_
  simp only [Act.put, List.getElem_toArray, List.getElem_cons_zero, List.getElem_cons_succ, List.setIfInBounds_toArray, List.set_cons_zero, List.set_cons_succ]
  refine Ru.wpAnyU_take (i := 10) (v := .bool true) rfl (by kernel_rfl) (by kernel_rfl) (by kernel_rfl) (by kernel_rfl) (by kernel_rfl) (by kernel_rfl) (fun _ _ _ h => h) (Or.inl ⟨by kernel_rfl, fun w hS => by obtain ⟨sc0, sc1, sc2⟩ := hS; go_simp⟩) hHeld ?_
  simp only [Act.put, List.getElem_toArray, List.getElem_cons_zero, List.getElem_cons_succ, List.setIfInBounds_toArray, List.set_cons_zero, List.set_cons_succ]
  refine Ru.wpAnyU_take (i := 11) (v := .agg (mvals 6 6 zs).toArray) rfl (by kernel_rfl) (by kernel_rfl) (by kernel_rfl) (by kernel_rfl) (by kernel_rfl) (by kernel_rfl) (fun _ _ _ h => h) (Ru.yieldsM (by kernel_rfl) _ (by rfl) bs 6 6 zs (by rfl) (fun w h => h.1)) hHeld ?_
  simp only [Act.put, List.getElem_toArray, List.getElem_cons_zero, List.getElem_cons_succ, List.setIfInBounds_toArray, List.set_cons_zero, List.set_cons_succ]
  refine Ru.wpAnyU_take (i := 13) (v := .agg #[.int .i64 K, .int .i64 R, .int .i64 N]) rfl (by kernel_rfl) (by kernel_rfl) (by kernel_rfl) (by kernel_rfl) (by kernel_rfl) (by kernel_rfl) (fun _ _ _ h => h) (Ru.yieldsC isRm (by kernel_rfl) _ (by rfl) w.heap.size [.int .i64 K, .int .i64 R, .int .i64 N] (by rfl) (fun w h => h.2.2) rfl) hHeld ?_
  simp only [Act.put, List.getElem_toArray, List.getElem_cons_zero, List.getElem_cons_succ, List.setIfInBounds_toArray, List.set_cons_zero, List.set_cons_succ]
  refine Ru.wpAnyU_take (i := 14) (v := .int .i64 d) rfl (by kernel_rfl) (by kernel_rfl) (by kernel_rfl) (by kernel_rfl) (by kernel_rfl) (by kernel_rfl) (fun _ _ _ h => h) (Or.inl ⟨by kernel_rfl, fun w hS => by obtain ⟨sc0, sc1, sc2⟩ := hS; go_simp⟩) hHeld ?_
  simp only [Act.put, List.getElem_toArray, List.getElem_cons_zero, List.getElem_cons_succ, List.setIfInBounds_toArray, List.set_cons_zero, List.set_cons_succ]
  refine Ru.wpAnyU_ready (rs := [12]) (by kernel_rfl) (by simp) ?_
  refine Ru.AllReadyU.cons rfl (by kernel_rfl) (fun K1 hK1 => ?_) Ru.AllReadyU.nil
  · go_simp
    refine (CR1.out _).mono ?_
    rintro _ w5 ⟨la, ca, rfl, ga, k5⟩
    have Kw5 := below_tr (Vc.below_drew' _) k5
    go_wp2_with fail
    refine hK1.out _ _ (hS _ Kw5) (fun hHeld => ?_)
    clear hK1 K1
    try simp only [Act.put, List.getElem_toArray, List.getElem_cons_zero, List.getElem_cons_succ, List.setIfInBounds_toArray, List.set_cons_zero, List.set_cons_succ]
    refine Ru.wpAnyU_ready (rs := [15]) (by kernel_rfl) (by simp) ?_
    refine Ru.AllReadyU.cons rfl (by kernel_rfl) (fun K1 hK1 => ?_) Ru.AllReadyU.nil
    go_simp
    refine (CD.out _).mono ?_
    rintro _ w6 ⟨lb, cb, rfl, gb, k6⟩
    have Kw6 := below_tr Kw5 k6
    go_wp2_with fail
    refine hK1.out _ _ (hS _ Kw6) (fun hHeld => ?_)
    clear hK1 K1
    try simp only [Act.put, List.getElem_toArray, List.getElem_cons_zero, List.getElem_cons_succ, List.setIfInBounds_toArray, List.set_cons_zero, List.set_cons_succ]
    have ga6 := ga.keep k6
    have gb6 := gb
    refine Ru.wpAnyU_ready (rs := [16]) (by kernel_rfl) (by simp) ?_
    refine Ru.AllReadyU.cons rfl (by kernel_rfl) (fun K1 hK1 => ?_) Ru.AllReadyU.nil
    go_simp
    refine (sameRows_yes 6 6 _ _ _ _ Fs _ (by omega) ga6 gb6).mono ?_
    rintro _ w7 ⟨rfl, k7⟩
    have Kw7 := below_tr Kw6 k7
    go_wp2_with fail
    refine hK1.out _ _ (hS _ Kw7) (fun hHeld => ?_)
    clear hK1 K1
    try simp only [Act.put, List.getElem_toArray, List.getElem_cons_zero, List.getElem_cons_succ, List.setIfInBounds_toArray, List.set_cons_zero, List.set_cons_succ]
    refine Ru.wpAnyU_take (i := 17) (v := .bool true) rfl (by kernel_rfl) (by kernel_rfl) (by kernel_rfl) (by kernel_rfl) (by kernel_rfl) (by kernel_rfl) (fun _ _ _ h => h) (Or.inl ⟨by kernel_rfl, fun w hS => by obtain ⟨sc0, sc1, sc2⟩ := hS; go_simp⟩) hHeld ?_
    simp only [Act.put, List.getElem_toArray, List.getElem_cons_zero, List.getElem_cons_succ, List.setIfInBounds_toArray, List.set_cons_zero, List.set_cons_succ]
    refine Ru.wpAnyU_take (i := 18) (v := .bool true) rfl (by kernel_rfl) (by kernel_rfl) (by kernel_rfl) (by kernel_rfl) (by kernel_rfl) (by kernel_rfl) (fun _ _ _ h => h) (Or.inl ⟨by kernel_rfl, fun w hS => by obtain ⟨sc0, sc1, sc2⟩ := hS; go_simp⟩) hHeld ?_
    simp only [Act.put, List.getElem_toArray, List.getElem_cons_zero, List.getElem_cons_succ, List.setIfInBounds_toArray, List.set_cons_zero, List.set_cons_succ]
    refine Ru.wpAnyU_take (i := 19) (v := .agg (mvals 6 6 zn).toArray) rfl (by kernel_rfl) (by kernel_rfl) (by kernel_rfl) (by kernel_rfl) (by kernel_rfl) (by kernel_rfl) (fun _ _ _ h => h) (Ru.yieldsM (by kernel_rfl) _ (by rfl) bn 6 6 zn (by rfl) (fun w h => h.2.1)) hHeld ?_
    simp only [Act.put, List.getElem_toArray, List.getElem_cons_zero, List.getElem_cons_succ, List.setIfInBounds_toArray, List.set_cons_zero, List.set_cons_succ]
    refine Ru.wpAnyU_take (i := 21) (v := .slice xo 6 xc) rfl (by kernel_rfl) (by kernel_rfl) (by kernel_rfl) (by kernel_rfl) (by kernel_rfl) (by kernel_rfl) (fun _ _ _ h => h) (Or.inl ⟨by kernel_rfl, fun w hS => by obtain ⟨sc0, sc1, sc2⟩ := hS; go_simp⟩) hHeld ?_
    simp only [Act.put, List.getElem_toArray, List.getElem_cons_zero, List.getElem_cons_succ, List.setIfInBounds_toArray, List.set_cons_zero, List.set_cons_succ]
    refine Ru.wpAnyU_ready (rs := [20]) (by kernel_rfl) (by simp) ?_
    refine Ru.AllReadyU.cons rfl (by kernel_rfl) (fun K1 hK1 => ?_) Ru.AllReadyU.nil
    go_simp
    refine (CR2.out _).mono ?_
    rintro _ w8 ⟨lc, cc, rfl, gc, k8⟩
    have Kw8 := below_tr Kw7 k8
    go_wp2_with fail
    refine hK1.out _ _ (hS _ Kw8) (fun hHeld => ?_)
    clear hK1 K1
    try simp only [Act.put, List.getElem_toArray, List.getElem_cons_zero, List.getElem_cons_succ, List.setIfInBounds_toArray, List.set_cons_zero, List.set_cons_succ]
    refine Ru.wpAnyU_ready (rs := [22]) (by kernel_rfl) (by simp) ?_
    refine Ru.AllReadyU.cons rfl (by kernel_rfl) (fun K1 hK1 => ?_) Ru.AllReadyU.nil
    go_simp
    refine (sameRows_yes 6 6 _ _ _ _ Fn _ (by omega) gc (GX.out.keep Kw8)).mono ?_
    rintro _ w9 ⟨rfl, k9⟩
    have Kw9 := below_tr Kw8 k9
    go_wp2_with fail
    refine hK1.out _ _ (hS _ Kw9) (fun hHeld => ?_)
    clear hK1 K1
    try simp only [Act.put, List.getElem_toArray, List.getElem_cons_zero, List.getElem_cons_succ, List.setIfInBounds_toArray, List.set_cons_zero, List.set_cons_succ]
    refine Ru.wpAnyU_take (i := 23) (v := .bool true) rfl (by kernel_rfl) (by kernel_rfl) (by kernel_rfl) (by kernel_rfl) (by kernel_rfl) (by kernel_rfl) (fun _ _ _ h => h) (Or.inl ⟨by kernel_rfl, fun w hS => by obtain ⟨sc0, sc1, sc2⟩ := hS; go_simp⟩) hHeld ?_
    simp only [Act.put, List.getElem_toArray, List.getElem_cons_zero, List.getElem_cons_succ, List.setIfInBounds_toArray, List.set_cons_zero, List.set_cons_succ]
    refine Ru.wpAnyU_take (i := 24) (v := .bool true) rfl (by kernel_rfl) (by kernel_rfl) (by kernel_rfl) (by kernel_rfl) (by kernel_rfl) (by kernel_rfl) (fun _ _ _ h => h) (Or.inl ⟨by kernel_rfl, fun w hS => by obtain ⟨sc0, sc1, sc2⟩ := hS; go_simp⟩) hHeld ?_
    simp only [Act.put, List.getElem_toArray, List.getElem_cons_zero, List.getElem_cons_succ, List.setIfInBounds_toArray, List.set_cons_zero, List.set_cons_succ]
    refine Ru.wpAnyU_take (i := 25) (v := .bool false) rfl (by kernel_rfl) (by kernel_rfl) (by kernel_rfl) (by kernel_rfl) (by kernel_rfl) (by kernel_rfl) (fun _ _ _ h => h) (Or.inl ⟨by kernel_rfl, fun w hS => by obtain ⟨sc0, sc1, sc2⟩ := hS; go_simp⟩) hHeld ?_
    simp only [Act.put, List.getElem_toArray, List.getElem_cons_zero, List.getElem_cons_succ, List.setIfInBounds_toArray, List.set_cons_zero, List.set_cons_succ]
    refine Ru.wpAnyU_take (i := 26) (v := .bool false) rfl (by kernel_rfl) (by kernel_rfl) (by kernel_rfl) (by kernel_rfl) (by kernel_rfl) (by kernel_rfl) (fun _ _ _ h => h) (Or.inl ⟨by kernel_rfl, fun w hS => by obtain ⟨sc0, sc1, sc2⟩ := hS; go_simp⟩) hHeld ?_
    simp only [Act.put, List.getElem_toArray, List.getElem_cons_zero, List.getElem_cons_succ, List.setIfInBounds_toArray, List.set_cons_zero, List.set_cons_succ]
    refine Ru.wpAnyU_take (i := 27) (v := .bool true) rfl (by kernel_rfl) (by kernel_rfl) (by kernel_rfl) (by kernel_rfl) (by kernel_rfl) (by kernel_rfl) (fun _ _ _ h => h) (Or.inl ⟨by kernel_rfl, fun w hS => by obtain ⟨sc0, sc1, sc2⟩ := hS; go_simp⟩) hHeld ?_
    simp only [Act.put, List.getElem_toArray, List.getElem_cons_zero, List.getElem_cons_succ, List.setIfInBounds_toArray, List.set_cons_zero, List.set_cons_succ]
    refine Ru.wpAnyU_take (i := 28) (v := .bool true) rfl (by kernel_rfl) (by kernel_rfl) (by kernel_rfl) (by kernel_rfl) (by kernel_rfl) (by kernel_rfl) (fun _ _ _ h => h) (Or.inl ⟨by kernel_rfl, fun w hS => by obtain ⟨sc0, sc1, sc2⟩ := hS; go_simp⟩) hHeld ?_
    simp only [Act.put, List.getElem_toArray, List.getElem_cons_zero, List.getElem_cons_succ, List.setIfInBounds_toArray, List.set_cons_zero, List.set_cons_succ]
    refine Ru.wpAnyU_take (i := 29) (v := .bool true) rfl (by kernel_rfl) (by kernel_rfl) (by kernel_rfl) (by kernel_rfl) (by kernel_rfl) (by kernel_rfl) (fun _ _ _ h => h) (Or.inl ⟨by kernel_rfl, fun w hS => by obtain ⟨sc0, sc1, sc2⟩ := hS; go_simp⟩) hHeld ?_
    simp only [Act.put, List.getElem_toArray, List.getElem_cons_zero, List.getElem_cons_succ, List.setIfInBounds_toArray, List.set_cons_zero, List.set_cons_succ]
    refine Ru.wpAnyU_ready (rs := [30]) (by kernel_rfl) (by simp) ?_
    refine Ru.AllReadyU.cons rfl (by kernel_rfl) (fun K1 hK1 => ?_) Ru.AllReadyU.nil
    go_simp
    refine (mosure_any _ (HA.out.below (below_tr KB.out Kw9))).mono ?_
    rintro _ w10 ⟨rfl, k10⟩
    have Kw10 := below_tr Kw9 k10
    go_wp2_with fail
    refine hK1.out _ _ (hS _ Kw10) (fun hHeld => ?_)
    clear hK1 K1
    try simp only [Act.put, List.getElem_toArray, List.getElem_cons_zero, List.getElem_cons_succ, List.setIfInBounds_toArray, List.set_cons_zero, List.set_cons_succ]
    refine Ru.wpAnyU_take (i := 31) (v := .bool true) rfl (by kernel_rfl) (by kernel_rfl) (by kernel_rfl) (by kernel_rfl) (by kernel_rfl) (by kernel_rfl) (fun _ _ _ h => h) (Or.inl ⟨by kernel_rfl, fun w hS => by obtain ⟨sc0, sc1, sc2⟩ := hS; go_simp⟩) hHeld ?_
    simp only [Act.put, List.getElem_toArray, List.getElem_cons_zero, List.getElem_cons_succ, List.setIfInBounds_toArray, List.set_cons_zero, List.set_cons_succ]
    refine Ru.wpAnyU_ready (rs := [32]) (by kernel_rfl) (by simp) ?_
    refine Ru.AllReadyU.cons2 rfl (by kernel_rfl) (fun K1 hK1 => ?_) Ru.AllReadyU.nil
    go_simp
    refine hK1.out _ _ ?_
    clear hK1 K1
    try simp only [Act.put, List.getElem_toArray, List.getElem_cons_zero, List.getElem_cons_succ, List.setIfInBounds_toArray, List.set_cons_zero, List.set_cons_succ]
    refine wpAny_done (by kernel_rfl) ?_ _
    go_wp2
    go_ret
    exact ⟨rfl, below_tr KB.out Kw10⟩

theorem steps_walk : FModelSteps.Walk := by
  intro K R N d kd w w0 w1 w2 w3 w4 hE hA
  by_cases hM : MayM K R N
  · by_cases hT : MayT d
    · exact osteps_good K R N d kd w hE hA hM hT
    · exact osteps_time K R N d kd w hE hA hM hT
  · exact osteps_model K R N d kd w hE hA hM

theorem modelSteps_card : Rows.ModelStepsCardSaid := FModelSteps.card steps_walk
end Go.Proofs.YtnjiilknnlcblaaGreatDoor
