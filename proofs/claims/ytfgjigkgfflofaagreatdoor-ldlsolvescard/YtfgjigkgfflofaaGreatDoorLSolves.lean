/-
  What is proved: whatever rows, number and vector it is given, the law LdlSolves of layer 9 returns true, ends without a panic, and leaves what was there as it was; its condition: the library's variable errors.errorType holds what it is laid with.
-/
import Derived.Test.YtfgjigkgfflofaaGreatDoorM17
import Derived.Test.YtfgjigkgfflofaaGreatDoorLdU
import Derived.Test.YtfgjigkgfflofaaGreatDoorM25
import Derived.Test.YtfgjigkgfflofaaGreatDoorLdX
import Derived.Test.YtfgjigkgfflofaaGreatDoorMtY
import Derived.Test.YtfgjigkgfflofaaGreatDoorErrA
import Derived.Test.YtfgjigkgfflofaaGreatDoorFLdlSolves
set_option linter.unusedSimpArgs false
set_option linter.unusedVariables false
namespace Go.Proofs.YtfgjigkgfflofaaGreatDoor
open Go.RowKit Vc Mt St Qn Dt Ld

theorem no_may0 : ¬ FMay 0 (fun _ => 0) (fun _ => 0) := fun h => by have := h.1; omega
namespace Ld
/-- Rows of which Of has no factors. -/
def OfErr (lo : Option Addr) (n cm : Nat) (more : Int) (w : World) : Prop :=
  Calls Tryz.prog 5 #[.slice lo n cm, .int .i64 more] w fun e w1 => ∃ lo' n' cm', e = .returned (.slice lo' n' cm') ∧ Below w.heap.size w w1 ∧ n' ≤ 9223372036854775807 ∧
    ∀ W, Below w1.heap.size w1 W → Calls Tryz.prog 7 #[.slice lo' n' cm'] W fun e w2 => ∃ r c z, e = .returned (.agg (mvals r c z).toArray) ∧ Below W.heap.size W w2 ∧
      ∀ W', Calls Tryz.prog 6 #[.agg (mvals r c z).toArray] W' fun e w3 => ∃ k : Int, (k = 1 ∨ k = 8) ∧ e = .returned (.tuple #[.agg f0.toArray, .iface 62 (.int .i64 k)]) ∧ Below W'.heap.size W' w3
end Ld

set_option maxRecDepth 20000 in
set_option maxHeartbeats 4000000 in
theorem lsolves_err (lo vo : Option Addr) (n cm vn vc : Nat) (more : Int) (w : World) (hE : ErrTab w) (h : OfErr lo n cm more w) :
    Calls Tryz.prog 4 #[.slice lo n cm, .int .i64 more, .slice vo vn vc] w fun e w' => e = .returned (.bool true) ∧ Below w.heap.size w w' := by
  have HE := Hid.mkV hE
  have HO := Hid.mkV h
  have KK0 := Below.refl w.heap.size w
  clear hE h
  go_enter Tryz.func4, Tryz.ntmps4
  go_wp2_with (first
    | fail)
  refine (HO.out).mono ?_
  rintro e wq1 ⟨lo1, n1, cm1, rfl, kq1, hn1, h1⟩
  have KK1 := below_tr KK0 kq1
  clear KK0
  have H1 := Hid.mkV h1
  clear h1
  go_wp2_with (first
    | fail)
  refine (H1.out _ (Below.refl _ _)).mono ?_
  rintro e wq2 ⟨r, c, z, rfl, kq2, h2⟩
  have KK2 := below_tr KK1 kq2
  clear KK1
  have H2 := Hid.mkV h2
  clear h2 H1
  go_wp2_with (first
    | fail)
  refine (H2.out _).mono ?_
  rintro e wq3 ⟨k, hk, rfl, kq3⟩
  have KK3 := below_tr KK2 kq3
  clear KK2
  clear hk H2
  go_wp2_with (first
    | (rw [zeroF]; refine St.wpList_storeNew isF rfl _ _ (by rfl) _ _ _ (by rfl) (by rfl) (fvals_len _ _ _) (fvals_len _ _ _) (one_fvals _ _ _) ?_; intro ws4 ns4 ks4; have KK4 := below_tr KK3 ks4; clear KK3)
    | (refine St.wpList_load isF (by rfl) _ (by rfl) _ _ (by rfl) (by with_reducible exact ns4) (fvals_len _ _ _) ?_)
    | fail)
  refine (lsolve_no 0 _ _ _ _ _ _ no_may0).mono ?_
  rintro e wq5 ⟨rfl, kq5⟩
  have KK5 := below_tr KK4 kq5
  have f_5 := CRow.keep ns4 kq5
  clear KK4 ns4
  go_wp2_with (first
    | (refine St.wpList_load isF (by rfl) _ (by rfl) _ _ (by rfl) (by with_reducible exact f_5) (fvals_len _ _ _) ?_)
    | fail)
  refine (lfar_no 0 _ _ _ _ _ _ no_may0).mono ?_
  rintro e wq6 ⟨rfl, kq6⟩
  have KK6 := below_tr KK5 kq6
  have f_6 := CRow.keep f_5 kq6
  clear KK5 f_5
  go_wp2_with (first
    | (refine St.wpList_load isF (by rfl) _ (by rfl) _ _ (by rfl) (by with_reducible exact f_6) (fvals_len _ _ _) ?_)
    | fail)
  refine (llog_no 0 _ _ _ no_may0).mono ?_
  rintro e wq7 ⟨rfl, kq7⟩
  have KK7 := below_tr KK6 kq7
  clear KK6
  go_wp2_with (first
    | fail)
  refine (num_err 1 _ (HE.out.below KK7)).mono ?_
  rintro e wq8 ⟨rfl, kq8⟩
  have KK8 := below_tr KK7 kq8
  clear KK7
  go_wp2_with (first
    | fail)
  refine (num_err 1 _ (HE.out.below KK8)).mono ?_
  rintro e wq9 ⟨rfl, kq9⟩
  have KK9 := below_tr KK8 kq9
  clear KK8
  go_wp2_with (first
    | fail)
  refine (num_err 1 _ (HE.out.below KK9)).mono ?_
  rintro e wq10 ⟨rfl, kq10⟩
  have KK10 := below_tr KK9 kq10
  clear KK9
  go_wp2_with (first
    | fail)
  refine (lsure_any _).mono ?_
  rintro e wq11 ⟨rfl, kq11⟩
  have KK11 := below_tr KK10 kq11
  clear KK10
  go_wp2
  go_ret
  exact ⟨rfl, KK11⟩

set_option maxRecDepth 20000 in
set_option maxHeartbeats 4000000 in
theorem lsolves_same (n cm vn vc : Nat) (lo vo : Option Addr) (F : Nat → Nat → Int) (more : Int) (v : Nat → Int) (w : World) (h1 : 1 ≤ n) (h2 : n ≤ 6) (hg : Grid w lo n cm n F) (m0 : -9223372036854775808 ≤ more) (m1 : more ≤ 9223372036854775807) (hv : Sl w vo vn vc v) (bv : B64 v) (hE : ErrTab w) (hf : ∀ i, i < n → fine (evF F more) i) (hvn : vn = n) :
    Calls Tryz.prog 4 #[.slice lo n cm, .int .i64 more, .slice vo vn vc] w fun e w' => e = .returned (.bool true) ∧ Below w.heap.size w w' := by
  have HE := Hid.mkV hE
  have hE1 := even_yes n cm lo F more w h1 h2 hg m0 m1
  have hM := may_st h1 h2 hf
  have hD : ∀ k, k < n → 1 ≤ (st (evF F more) n).2 k ∧ (st (evF F more) n).2 k ≤ 4611686018427387903 := fun k hk => FMay.d hM hk
  have bL : ∀ a, B64 ((st (evF F more) n).1 a) := fun a => b64_of (st_bdL (evF F more) n a)
  have hOf := fun W => lof_any n (evF F more) W h1 h2 (evF_same F more n) (evF_b2 F more)
  rw [ofV_yes hf] at hOf
  have hMat : ∀ (lo' : Option Addr) (cm' : Nat) W, Grid W lo' n cm' n (evF F more) → Calls Tryz.prog 7 #[.slice lo' n cm'] W fun e w' => e = .returned (.agg (mvals n n (mz n n (evF F more))).toArray) ∧ Below W.heap.size W w' := fun lo' cm' W hG => by
    obtain ⟨A, C, g1, g2⟩ := hG
    exact matOf_by _ _ _ _ W fun W' b => mof_any n n lo' cm' A C (evF F more) W' h1 h2 h1 h2 (g1.keep b) (fun k hk => (g2 k hk).keep b)
  obtain ⟨E, hE'⟩ : ∃ E, E = evF F more := ⟨_, rfl⟩
  rw [← hE'] at hE1 hM hD bL hOf hMat
  clear hf hE'
  obtain ⟨L, hL⟩ : ∃ L, L = (st E n).1 := ⟨_, rfl⟩
  obtain ⟨d, hd⟩ : ∃ d, d = (st E n).2 := ⟨_, rfl⟩
  rw [← hL] at hM bL hOf
  rw [← hd] at hM hD hOf
  clear hL hd
  subst hvn
  have HS := Hid.mkV (fun W (hv : Sl W vo vn vc v) => lsolve_any vn vo vc v L d W hM hv bv bL)
  have HF := Hid.mkV (fun W (hv : Sl W vo vn vc v) => lfar_any vn vo vc v L d W hM hv bv bL)
  have DS := Hid.mkV (fun lo' cl do' cd W (H1 : Grid W lo' vn cl vn L) (H2 : Sl W do' vn cd d) (H3 : Sl W vo vn vc v) => dsolve_any vn cl cd vc lo' do' vo L d v W h1 h2 H1 H2 H3 bL hD bv)
  have DF := Hid.mkV (fun lo' cl do' cd W (H1 : Grid W lo' vn cl vn L) (H2 : Sl W do' vn cd d) (H3 : Sl W vo vn vc v) => dfar_any vn cl cd vc lo' do' vo L d v W h1 h2 H1 H2 H3 bL hD bv)
  have l1 := hv.le
  have l2 := hv.cap
  have HL := Hid.mkV (fun W => llog_any vn (mz vn vn L) d W hM)
  have HFo := Hid.mkV (fun W => factorsOf_any vn L d W hM)
  have DL := Hid.mkV (fun cl cd lo' do' W (H2 : Sl W do' vn cd d) => dlog_any vn cl cd lo' do' d W h1 h2 H2 hD)
  have HE1 := Hid.mkV hE1
  have HOf := Hid.mkV hOf
  have HMat := Hid.mkV hMat
  obtain ⟨z, hz⟩ : ∃ z, z = mz vn vn L := ⟨_, rfl⟩
  obtain ⟨y, hy⟩ : ∃ z, z = mz vn vn E := ⟨_, rfl⟩
  rw [← hz] at HS HF HL HFo HOf
  rw [← hy] at HOf HMat
  obtain ⟨LS, hLS⟩ : ∃ q, q = logS d vn := ⟨_, rfl⟩
  rw [← hLS] at HL DL
  obtain ⟨SV, hSV⟩ : ∃ q, q = solV vn L d v := ⟨_, rfl⟩
  obtain ⟨SO, hSO⟩ : ∃ q, q = solO vn L d v := ⟨_, rfl⟩
  obtain ⟨FV, hFV⟩ : ∃ q, q = farV (downV L v vn) d vn := ⟨_, rfl⟩
  obtain ⟨FO, hFO⟩ : ∃ q, q = (downO L v vn || farO (downV L v vn) d vn) := ⟨_, rfl⟩
  rw [← hSV, ← hSO] at HS DS
  rw [← hFV, ← hFO] at HF DF
  clear hSV hSO hFV hFO
  have KK0 := Below.refl w.heap.size w
  clear hg hM hD bL bv hE hE1 hOf hMat hz hy hLS
  go_enter Tryz.func4, Tryz.ntmps4
  go_wp2_with (first
    | fail)
  refine (HE1.out).mono ?_
  rintro e wq1 ⟨lo1, cm1, rfl, hG, kq1⟩
  have KK1 := below_tr KK0 kq1
  have v_1 := hv.keep kq1
  clear KK0 hv
  go_wp2_with (first
    | fail)
  refine (HMat.out _ _ _ hG).mono ?_
  rintro e wq2 ⟨rfl, kq2⟩
  have KK2 := below_tr KK1 kq2
  have v_2 := v_1.keep kq2
  clear KK1 v_1
  go_wp2_with (first
    | fail)
  refine (HOf.out _).mono ?_
  rintro e wq3 ⟨rfl, kq3⟩
  have KK3 := below_tr KK2 kq3
  have v_3 := v_2.keep kq3
  clear KK2 v_2
  go_wp2_with (first
    | (rw [zeroF]; refine St.wpList_storeNew isF rfl _ _ (by rfl) _ _ _ (by rfl) (by rfl) (fvals_len _ _ _) (fvals_len _ _ _) (one_fvals _ _ _) ?_; intro ws4 ns4 ks4; have KK4 := below_tr KK3 ks4; have v_4 := v_3.keep ks4; clear KK3 v_3)
    | (refine St.wpList_load isF (by rfl) _ (by rfl) _ _ (by rfl) (by with_reducible exact ns4) (fvals_len _ _ _) ?_)
    | fail)
  refine (HS.out _ v_4).mono ?_
  rintro e wq5 ⟨b, rfl, _, hX, kq5⟩
  have KK5 := below_tr KK4 kq5
  have v_5 := v_4.keep kq5
  have f_5 := CRow.keep ns4 kq5
  clear KK4 v_4 ns4
  go_wp2_with (first
    | (refine St.wpList_load isF (by rfl) _ (by rfl) _ _ (by rfl) (by with_reducible exact f_5) (fvals_len _ _ _) ?_)
    | fail)
  refine (HF.out _ v_5).mono ?_
  rintro e wq6 ⟨rfl, kq6⟩
  have KK6 := below_tr KK5 kq6
  have v_6 := v_5.keep kq6
  have f_6 := CRow.keep f_5 kq6
  have X_6 := hX.keep kq6
  clear KK5 v_5 f_5 hX
  go_wp2_with (first
    | (refine St.wpList_load isF (by rfl) _ (by rfl) _ _ (by rfl) (by with_reducible exact f_6) (fvals_len _ _ _) ?_)
    | fail)
  refine (HL.out _).mono ?_
  rintro e wq7 ⟨rfl, kq7⟩
  have KK7 := below_tr KK6 kq7
  have v_7 := v_6.keep kq7
  have f_7 := CRow.keep f_6 kq7
  have X_7 := X_6.keep kq7
  clear KK6 v_6 f_6 X_6
  go_wp2_with (first
    | (refine St.wpList_load isF (by rfl) _ (by rfl) _ _ (by rfl) (by with_reducible exact f_7) (fvals_len _ _ _) ?_)
    | fail)
  refine (HFo.out _).mono ?_
  rintro e wq8 ⟨lo2, cl2, do2, cd2, rfl, hG2, hD2, kq8⟩
  have KK8 := below_tr KK7 kq8
  have v_8 := v_7.keep kq8
  have X_8 := X_7.keep kq8
  clear KK7 v_7 X_7
  have l7 := hD2.le
  have l8 := hD2.cap
  go_wp2_with (first
    | (rw [zeroG]; refine St.wpList_storeNew isG rfl _ _ (by rfl) _ _ _ (by rfl) (by rfl) rfl rfl (by intro v hv; simp at hv; rcases hv with rfl | rfl <;> rfl) ?_; intro ws9 ns9 ks9; have KK9 := below_tr KK8 ks9; have v_9 := v_8.keep ks9; have X_9 := X_8.keep ks9; clear KK8 v_8 X_8; have hG3 := hG2.keep ks9; have hD3 := hD2.keep ks9; clear hG2 hD2; have cy := GRow.d ns9)
    | (refine St.wpList_load isG (by rfl) _ (by rfl) _ _ (by rfl) (by with_reducible exact ns9) rfl ?_)
    | fail)
  refine (DL.out _ _ _ _ _ hD3).mono ?_
  rintro e wq10 ⟨rfl, kq10⟩
  have KK10 := below_tr KK9 kq10
  have v_10 := v_9.keep kq10
  have X_10 := X_9.keep kq10
  have y_10 := CRow.keep ns9 kq10
  have G2_10 := hG3.keep kq10
  have D2_10 := hD3.keep kq10
  clear KK9 v_9 X_9 ns9 hG3 hD3
  go_wp2_with (first
    | (refine St.wpList_load isG (by rfl) _ (by rfl) _ _ (by rfl) (by with_reducible exact y_10) rfl ?_)
    | fail)
  refine (DS.out _ _ _ _ _ G2_10 D2_10 v_10).mono ?_
  rintro e wq11 ⟨co, cc, rfl, hS, kq11⟩
  have KK11 := below_tr KK10 kq11
  have v_11 := v_10.keep kq11
  have X_11 := X_10.keep kq11
  have y_11 := CRow.keep y_10 kq11
  have G2_11 := G2_10.keep kq11
  have D2_11 := D2_10.keep kq11
  clear KK10 v_10 X_10 y_10 G2_10 D2_10
  go_wp2_with (first
    | (refine St.wpList_load isG (by rfl) _ (by rfl) _ _ (by rfl) (by with_reducible exact y_11) rfl ?_)
    | fail)
  refine (DF.out _ _ _ _ _ G2_11 D2_11 v_11).mono ?_
  rintro e wq12 ⟨rfl, kq12⟩
  have KK12 := below_tr KK11 kq12
  have v_12 := v_11.keep kq12
  have X_12 := X_11.keep kq12
  have G2_12 := G2_11.keep kq12
  have D2_12 := D2_11.keep kq12
  have S_12 := hS.keep kq12
  clear KK11 v_11 X_11 G2_11 D2_11 hS
  go_wp2_with (first
    | fail)
  refine (nums_yes _ _ vn _ _ _ _ X_12 S_12).mono ?_
  rintro e wq13 ⟨rfl, kq13⟩
  have KK13 := below_tr KK12 kq13
  have v_13 := v_12.keep kq13
  have X_13 := X_12.keep kq13
  have G2_13 := G2_12.keep kq13
  have D2_13 := D2_12.keep kq13
  have S_13 := S_12.keep kq13
  clear KK12 v_12 X_12 G2_12 D2_12 S_12
  go_wp2_with (first
    | fail)
  refine (lsure_any _).mono ?_
  rintro e wq14 ⟨rfl, kq14⟩
  have KK14 := below_tr KK13 kq14
  have v_14 := v_13.keep kq14
  have X_14 := X_13.keep kq14
  have G2_14 := G2_13.keep kq14
  have D2_14 := D2_13.keep kq14
  have S_14 := S_13.keep kq14
  clear KK13 v_13 X_13 G2_13 D2_13 S_13
  go_wp2
  go_ret
  exact ⟨rfl, KK14⟩

set_option maxRecDepth 20000 in
set_option maxHeartbeats 4000000 in
theorem lsolves_other (n cm vn vc : Nat) (lo vo : Option Addr) (F : Nat → Nat → Int) (more : Int) (v : Nat → Int) (w : World) (h1 : 1 ≤ n) (h2 : n ≤ 6) (hg : Grid w lo n cm n F) (m0 : -9223372036854775808 ≤ more) (m1 : more ≤ 9223372036854775807) (hv : Sl w vo vn vc v) (bv : B64 v) (hE : ErrTab w) (hf : ∀ i, i < n → fine (evF F more) i) (hvn : vn ≠ n) :
    Calls Tryz.prog 4 #[.slice lo n cm, .int .i64 more, .slice vo vn vc] w fun e w' => e = .returned (.bool true) ∧ Below w.heap.size w w' := by
  have HE := Hid.mkV hE
  have hE1 := even_yes n cm lo F more w h1 h2 hg m0 m1
  have hM := may_st h1 h2 hf
  have hD : ∀ k, k < n → 1 ≤ (st (evF F more) n).2 k ∧ (st (evF F more) n).2 k ≤ 4611686018427387903 := fun k hk => FMay.d hM hk
  have bL : ∀ a, B64 ((st (evF F more) n).1 a) := fun a => b64_of (st_bdL (evF F more) n a)
  have hOf := fun W => lof_any n (evF F more) W h1 h2 (evF_same F more n) (evF_b2 F more)
  rw [ofV_yes hf] at hOf
  have hMat : ∀ (lo' : Option Addr) (cm' : Nat) W, Grid W lo' n cm' n (evF F more) → Calls Tryz.prog 7 #[.slice lo' n cm'] W fun e w' => e = .returned (.agg (mvals n n (mz n n (evF F more))).toArray) ∧ Below W.heap.size W w' := fun lo' cm' W hG => by
    obtain ⟨A, C, g1, g2⟩ := hG
    exact matOf_by _ _ _ _ W fun W' b => mof_any n n lo' cm' A C (evF F more) W' h1 h2 h1 h2 (g1.keep b) (fun k hk => (g2 k hk).keep b)
  obtain ⟨E, hE'⟩ : ∃ E, E = evF F more := ⟨_, rfl⟩
  rw [← hE'] at hE1 hM hD bL hOf hMat
  clear hf hE'
  obtain ⟨L, hL⟩ : ∃ L, L = (st E n).1 := ⟨_, rfl⟩
  obtain ⟨d, hd⟩ : ∃ d, d = (st E n).2 := ⟨_, rfl⟩
  rw [← hL] at hM bL hOf
  rw [← hd] at hM hD hOf
  clear hL hd
  have hvc := hv.le
  have hvc2 := hv.cap
  have HS := Hid.mkV (fun W => lsolve_len n (mz n n L) d vo vn vc W hM hvn (by omega))
  have HF := Hid.mkV (fun W => lfar_len n (mz n n L) d vo vn vc W hM hvn (by omega))
  have en : ((vn : Int) != (n : Int)) = true := by simp; omega
  have HL := Hid.mkV (fun W => llog_any n (mz n n L) d W hM)
  have HFo := Hid.mkV (fun W => factorsOf_any n L d W hM)
  have DL := Hid.mkV (fun cl cd lo' do' W (H2 : Sl W do' n cd d) => dlog_any n cl cd lo' do' d W h1 h2 H2 hD)
  have HE1 := Hid.mkV hE1
  have HOf := Hid.mkV hOf
  have HMat := Hid.mkV hMat
  obtain ⟨z, hz⟩ : ∃ z, z = mz n n L := ⟨_, rfl⟩
  obtain ⟨y, hy⟩ : ∃ z, z = mz n n E := ⟨_, rfl⟩
  rw [← hz] at HS HF HL HFo HOf
  rw [← hy] at HOf HMat
  obtain ⟨LS, hLS⟩ : ∃ q, q = logS d n := ⟨_, rfl⟩
  rw [← hLS] at HL DL
  have KK0 := Below.refl w.heap.size w
  clear hg hM hD bL bv hE hE1 hOf hMat hz hy hLS hvn
  go_enter Tryz.func4, Tryz.ntmps4
  go_wp2_with (first
    | fail)
  refine (HE1.out).mono ?_
  rintro e wq1 ⟨lo1, cm1, rfl, hG, kq1⟩
  have KK1 := below_tr KK0 kq1
  have v_1 := hv.keep kq1
  clear KK0 hv
  go_wp2_with (first
    | fail)
  refine (HMat.out _ _ _ hG).mono ?_
  rintro e wq2 ⟨rfl, kq2⟩
  have KK2 := below_tr KK1 kq2
  have v_2 := v_1.keep kq2
  clear KK1 v_1
  go_wp2_with (first
    | fail)
  refine (HOf.out _).mono ?_
  rintro e wq3 ⟨rfl, kq3⟩
  have KK3 := below_tr KK2 kq3
  have v_3 := v_2.keep kq3
  clear KK2 v_2
  go_wp2_with (first
    | (rw [zeroF]; refine St.wpList_storeNew isF rfl _ _ (by rfl) _ _ _ (by rfl) (by rfl) (fvals_len _ _ _) (fvals_len _ _ _) (one_fvals _ _ _) ?_; intro ws4 ns4 ks4; have KK4 := below_tr KK3 ks4; have v_4 := v_3.keep ks4; clear KK3 v_3)
    | (refine St.wpList_load isF (by rfl) _ (by rfl) _ _ (by rfl) (by with_reducible exact ns4) (fvals_len _ _ _) ?_)
    | fail)
  refine (HS.out _).mono ?_
  rintro e wq5 ⟨rfl, kq5⟩
  have KK5 := below_tr KK4 kq5
  have v_5 := v_4.keep kq5
  have f_5 := CRow.keep ns4 kq5
  clear KK4 v_4 ns4
  go_wp2_with (first
    | (refine St.wpList_load isF (by rfl) _ (by rfl) _ _ (by rfl) (by with_reducible exact f_5) (fvals_len _ _ _) ?_)
    | fail)
  refine (HF.out _).mono ?_
  rintro e wq6 ⟨rfl, kq6⟩
  have KK6 := below_tr KK5 kq6
  have v_6 := v_5.keep kq6
  have f_6 := CRow.keep f_5 kq6
  clear KK5 v_5 f_5
  go_wp2_with (first
    | (refine St.wpList_load isF (by rfl) _ (by rfl) _ _ (by rfl) (by with_reducible exact f_6) (fvals_len _ _ _) ?_)
    | fail)
  refine (HL.out _).mono ?_
  rintro e wq7 ⟨rfl, kq7⟩
  have KK7 := below_tr KK6 kq7
  have v_7 := v_6.keep kq7
  have f_7 := CRow.keep f_6 kq7
  clear KK6 v_6 f_6
  go_wp2_with (first
    | (refine St.wpList_load isF (by rfl) _ (by rfl) _ _ (by rfl) (by with_reducible exact f_7) (fvals_len _ _ _) ?_)
    | fail)
  refine (HFo.out _).mono ?_
  rintro e wq8 ⟨lo2, cl2, do2, cd2, rfl, hG2, hD2, kq8⟩
  have KK8 := below_tr KK7 kq8
  have v_8 := v_7.keep kq8
  clear KK7 v_7
  have l7 := hD2.le
  have l8 := hD2.cap
  go_wp2_with (first
    | (rw [zeroG]; refine St.wpList_storeNew isG rfl _ _ (by rfl) _ _ _ (by rfl) (by rfl) rfl rfl (by intro v hv; simp at hv; rcases hv with rfl | rfl <;> rfl) ?_; intro ws9 ns9 ks9; have KK9 := below_tr KK8 ks9; have v_9 := v_8.keep ks9; clear KK8 v_8; have hG3 := hG2.keep ks9; have hD3 := hD2.keep ks9; clear hG2 hD2; have cy := GRow.d ns9)
    | (refine St.wpList_load isG (by rfl) _ (by rfl) _ _ (by rfl) (by with_reducible exact ns9) rfl ?_)
    | fail)
  refine (DL.out _ _ _ _ _ hD3).mono ?_
  rintro e wq10 ⟨rfl, kq10⟩
  have KK10 := below_tr KK9 kq10
  have v_10 := v_9.keep kq10
  have y_10 := CRow.keep ns9 kq10
  have G2_10 := hG3.keep kq10
  have D2_10 := hD3.keep kq10
  clear KK9 v_9 ns9 hG3 hD3
  go_wp2_with (first
    | fail)
  refine (num_err 1 _ (HE.out.below KK10)).mono ?_
  rintro e wq11 ⟨rfl, kq11⟩
  have KK11 := below_tr KK10 kq11
  have v_11 := v_10.keep kq11
  have y_11 := CRow.keep y_10 kq11
  have G2_11 := G2_10.keep kq11
  have D2_11 := D2_10.keep kq11
  clear KK10 v_10 y_10 G2_10 D2_10
  go_wp2_with (first
    | fail)
  refine (num_err 1 _ (HE.out.below KK11)).mono ?_
  rintro e wq12 ⟨rfl, kq12⟩
  have KK12 := below_tr KK11 kq12
  have v_12 := v_11.keep kq12
  have y_12 := CRow.keep y_11 kq12
  have G2_12 := G2_11.keep kq12
  have D2_12 := D2_11.keep kq12
  clear KK11 v_11 y_11 G2_11 D2_11
  go_wp2_with (first
    | fail)
  refine (lsure_any _).mono ?_
  rintro e wq13 ⟨rfl, kq13⟩
  have KK13 := below_tr KK12 kq13
  have v_13 := v_12.keep kq13
  have y_13 := CRow.keep y_12 kq13
  have G2_13 := G2_12.keep kq13
  have D2_13 := D2_12.keep kq13
  clear KK12 v_12 y_12 G2_12 D2_12
  go_wp2
  go_ret
  exact ⟨rfl, KK13⟩

theorem oferr_no (lo : Option Addr) (n cm : Nat) (more : Int) (w : World) (hn : n ≤ 9223372036854775807)
    (hm : ∀ W, Below w.heap.size w W → Calls Tryz.prog 8 #[.slice lo n cm] W fun e w' => e = .returned (.bool false) ∧ Below W.heap.size W w')
    (ho : ∀ W, Below w.heap.size w W → Calls Tryz.prog 25 #[.slice lo n cm] W fun e w' => e = .returned (.tuple #[.agg (mvals 0 0 (fun _ => 0)).toArray, .iface 62 (.int .i64 1)]) ∧ Below W.heap.size W w') : OfErr lo n cm more w := by
  refine (even_may (.bool false) n lo cm more w (hm w (Below.refl _ _))).mono ?_
  rintro e w1 ⟨rfl, k1⟩
  refine ⟨lo, n, cm, rfl, k1, hn, fun W b => (matOf_no _ W fun W' b' => ho W' (below_tr (below_tr k1 b) b')).mono ?_⟩
  rintro e w2 ⟨rfl, k2⟩
  refine ⟨0, 0, fun _ => 0, rfl, k2, fun W' => (lof_not 0 0 (fun _ => 0) W' (fun h => by obtain ⟨a, b, e1, _, h1, _⟩ := h; omega)).mono ?_⟩
  rintro e w3 ⟨rfl, k3⟩
  exact ⟨1, Or.inl rfl, rfl, k3⟩
theorem oferr_size (lo : Option Addr) (n m cm : Nat) (F : Nat → Nat → Int) (more : Int) (w : World) (h1 : 1 ≤ n) (h2 : n ≤ 6) (h3 : 1 ≤ m) (h4 : m ≤ 6) (hg : Grid w lo n cm m F) (hnm : n ≠ m) : OfErr lo n cm more w := by
  obtain ⟨A, C, g1, g2⟩ := hg
  refine (even_size n m cm lo A C more w g1 h1 h2 h3 h4 hnm).mono ?_
  rintro e w1 ⟨rfl, k1⟩
  refine ⟨lo, n, cm, rfl, k1, by omega, fun W b => (matOf_by _ _ _ _ W fun W' b' => mof_any n m lo cm A C F W' h1 h2 h3 h4 (g1.keep (below_tr (below_tr k1 b) b')) (fun k hk => (g2 k hk).keep (below_tr (below_tr k1 b) b'))).mono ?_⟩
  rintro e w2 ⟨rfl, k2⟩
  refine ⟨_, _, _, rfl, k2, fun W' => (lof_odd n m F W' h1 h2 h3 h4 (fun h => hnm h.1)).mono ?_⟩
  rintro e w3 ⟨rfl, k3⟩
  exact ⟨1, Or.inl rfl, rfl, k3⟩
theorem oferr_none (lo : Option Addr) (n cm : Nat) (F : Nat → Nat → Int) (more : Int) (w : World) (h1 : 1 ≤ n) (h2 : n ≤ 6) (hg : Grid w lo n cm n F) (m0 : -9223372036854775808 ≤ more) (m1 : more ≤ 9223372036854775807) (hf : ¬ ∀ i, i < n → fine (evF F more) i) : OfErr lo n cm more w := by
  refine (even_yes n cm lo F more w h1 h2 hg m0 m1).mono ?_
  rintro e w1 ⟨lo', cm', rfl, ⟨A, C, g1, g2⟩, k1⟩
  refine ⟨lo', n, cm', rfl, k1, by omega, fun W b => (matOf_by _ _ _ _ W fun W' b' => mof_any n n lo' cm' A C (evF F more) W' h1 h2 h1 h2 (g1.keep (below_tr b b')) (fun k hk => (g2 k hk).keep (below_tr b b'))).mono ?_⟩
  rintro e w2 ⟨rfl, k2⟩
  refine ⟨_, _, _, rfl, k2, fun W' => ?_⟩
  have h := lof_any n (evF F more) W' h1 h2 (evF_same F more n) (evF_b2 F more)
  rw [ofV_no hf] at h
  refine h.mono ?_
  rintro e w3 ⟨rfl, k3⟩
  exact ⟨8, Or.inr rfl, rfl, k3⟩

theorem isrows10 {w : World} {a : Option Addr} {len cap : Nat} {A : Nat → Option Addr} {L C : Nat → Nat} {Z : Nat → List Int} (h : FLdlSolves.IsRows .i64 w a len cap A L C Z) :
    Sls w a len cap A L C ∧ ∀ r, r < len → Sl w (A r) (L r) (C r) (fun k => (Z r).getD k 0) ∧ B64 (fun k => (Z r).getD k 0) := by
  rcases h with ⟨rfl, rfl, rfl⟩ | ⟨x, rfl, h1, h2, h3⟩
  · exact ⟨⟨Nat.le_refl _, by omega, fun j hj => by omega⟩, fun r hr => by omega⟩
  · refine ⟨⟨h1, h2, fun j hj => ⟨x, rfl, (h3 j (by omega)).1⟩⟩, fun r hr => ?_⟩
    obtain ⟨r1, r2, r3, r4, r5, r6, r7⟩ := h3 r (by omega)
    refine ⟨⟨r2, r3, fun k hk => ?_⟩, getD_b r5⟩
    cases e : A r with
    | none => have := r6 e; omega
    | some y => exact ⟨y, rfl, r7 y e k (by omega)⟩
theorem isrow10 {w : World} {a : Option Addr} {len cap : Nat} {z : List Int} (h : FLdlSolves.IsRow .i64 w a len cap z) : Sl w a len cap (fun k => z.getD k 0) ∧ B64 (fun k => z.getD k 0) := by
  rcases h with ⟨rfl, rfl, rfl, rfl⟩ | ⟨x, rfl, h1, h2, h3, h4, h5⟩
  · exact ⟨Sl.none _ _, fun k => by simp⟩
  · exact ⟨⟨h1, h2, fun k hk => ⟨x, rfl, h4 k (by omega)⟩⟩, getD_b h5⟩

theorem lsolves_walk : FLdlSolves.Walk := by
  intro a0 len0 cap0 A0 L0 C0 Z0 a1 a2 len2 cap2 z2 w h0 h1 h2 hE
  obtain ⟨s0, q0⟩ := isrows10 h0
  obtain ⟨sv, bv⟩ := isrow10 h2
  have b1 := bounds_i64 h1
  have hcap := s0.le
  have hcap2 := s0.cap
  rcases rows_cases s0 q0 with ⟨m, F, g1, g2, g3, g4, gG, gB, _, _⟩ | ⟨x1, x2⟩
  · by_cases hnm : len0 = m
    · subst hnm
      by_cases hf : ∀ i, i < len0 → fine (evF F a1) i
      · by_cases hvn : len2 = len0
        · exact lsolves_same len0 cap0 len2 cap2 a0 a2 F a1 _ w g1 g2 gG b1.1 b1.2 sv bv hE hf hvn
        · exact lsolves_other len0 cap0 len2 cap2 a0 a2 F a1 _ w g1 g2 gG b1.1 b1.2 sv bv hE hf hvn
      · exact lsolves_err a0 a2 len0 cap0 len2 cap2 a1 w hE (oferr_none a0 len0 cap0 F a1 w g1 g2 gG b1.1 b1.2 hf)
    · exact lsolves_err a0 a2 len0 cap0 len2 cap2 a1 w hE (oferr_size a0 len0 m cap0 F a1 w g1 g2 g3 g4 gG hnm)
  · exact lsolves_err a0 a2 len0 cap0 len2 cap2 a1 w hE (oferr_no a0 len0 cap0 a1 w (by omega) x1 x2)

/-- The law LdlSolves, of any input. -/
theorem ldlSolves_holds : Rows.LdlSolvesCardSaid := FLdlSolves.card lsolves_walk

end Go.Proofs.YtfgjigkgfflofaaGreatDoor
