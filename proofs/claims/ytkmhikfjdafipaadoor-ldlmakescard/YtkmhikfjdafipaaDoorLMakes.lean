/-
  What is proved: whatever rows, number and vector it is given, the law LdlMakes of layer 9 returns true, ends without a panic, and leaves what was there as it was; its condition: the library's variable errors.errorType holds what it is laid with.
-/
import Derived.Test.YtkmhikfjdafipaaDoorM17
import Derived.Test.YtkmhikfjdafipaaDoorM20
import Derived.Test.YtkmhikfjdafipaaDoorLdX
import Derived.Test.YtkmhikfjdafipaaDoorMtY
import Derived.Test.YtkmhikfjdafipaaDoorErrA
import Derived.Test.YtkmhikfjdafipaaDoorFLdlMakes
import Derived.Deep.OwnRows
set_option linter.unusedSimpArgs false
set_option linter.unusedVariables false
namespace Go.Proofs.YtkmhikfjdafipaaDoor
open Go.RowKit Vc Mt St Qn Dt Ld

namespace Ld
/-- Rows of which Of has no factors. -/
def OfErr1 (lo : Option Addr) (n cm : Nat) (more : Int) (w : World) : Prop :=
  Calls Tryd.prog 4 #[.slice lo n cm, .int .i64 more] w fun e w1 => ∃ lo' n' cm', e = .returned (.slice lo' n' cm') ∧ Below w.heap.size w w1 ∧ n' ≤ 9223372036854775807 ∧
    ∀ W, Below w1.heap.size w1 W → Calls Tryd.prog 6 #[.slice lo' n' cm'] W fun e w2 => ∃ r c z, e = .returned (.agg (mvals r c z).toArray) ∧ Below W.heap.size W w2 ∧
      ∀ W', Calls Tryd.prog 5 #[.agg (mvals r c z).toArray] W' fun e w3 => e = .returned (.tuple #[.agg f0.toArray, .iface 51 (.int .i64 1)]) ∧ Below W'.heap.size W' w3
/-- Rows of which Of has no factors. -/
def OfErr8 (lo : Option Addr) (n cm : Nat) (more : Int) (w : World) : Prop :=
  Calls Tryd.prog 4 #[.slice lo n cm, .int .i64 more] w fun e w1 => ∃ lo' n' cm', e = .returned (.slice lo' n' cm') ∧ Below w.heap.size w w1 ∧ n' ≤ 9223372036854775807 ∧
    ∀ W, Below w1.heap.size w1 W → Calls Tryd.prog 6 #[.slice lo' n' cm'] W fun e w2 => ∃ r c z, e = .returned (.agg (mvals r c z).toArray) ∧ Below W.heap.size W w2 ∧
      ∀ W', Calls Tryd.prog 5 #[.agg (mvals r c z).toArray] W' fun e w3 => e = .returned (.tuple #[.agg f0.toArray, .iface 51 (.int .i64 8)]) ∧ Below W'.heap.size W' w3
/-- The vector of the law. -/
def ownV (v : Nat → Int) (vn : Nat) : Nat → Int := fun k => if k < vn then Int.tmod (v k) 1099511627776 else 0
theorem ownV_bd (v : Nat → Int) (vn k : Nat) : -1099511627776 < ownV v vn k ∧ ownV v vn k < 1099511627776 := by
  unfold ownV
  split
  · exact tmod_bd _ (by omega)
  · omega
/-- As far as it has been set. -/
def ownT (v : Nat → Int) (vn t : Nat) : Nat → Int := fun k => if k < t then ownV v vn k else 0
theorem ownT_all (v : Nat → Int) {vn t n : Nat} (h : n ≤ t ∨ vn ≤ t) {k : Nat} (hk : k < n) : ownT v vn t k = ownV v vn k := by
  unfold ownT
  split
  · rfl
  · unfold ownV; rw [if_neg (by omega)]
theorem ownT_set (v : Nat → Int) {vn t : Nat} (h : t < vn) (k : Nat) : (if k = t then Int.tmod (v t) 1099511627776 else ownT v vn t k) = ownT v vn (t + 1) k := by
  unfold ownT
  by_cases e : k = t
  · subst e; rw [if_pos rfl, if_pos (by omega)]; unfold ownV; rw [if_pos h]
  · rw [if_neg e]
    by_cases e2 : k < t
    · rw [if_pos e2, if_pos (by omega)]
    · rw [if_neg e2, if_neg (by omega)]
theorem negT_set (v : Nat → Int) {vn t : Nat} (h : t < vn) (k : Nat) : (if k = t then -Int.tmod (v t) 1099511627776 else -ownT v vn t k) = -ownT v vn (t + 1) k := by
  rw [← ownT_set v h k]; split <;> rfl
end Ld

set_option maxRecDepth 20000 in
set_option maxHeartbeats 4000000 in
theorem lmakes_err1 (lo vo : Option Addr) (n cm vn vc : Nat) (more : Int) (w : World) (hE : ErrTab w) (h : OfErr1 lo n cm more w) :
    Calls Tryd.prog 3 #[.slice lo n cm, .int .i64 more, .slice vo vn vc] w fun e w' => e = .returned (.bool true) ∧ Below w.heap.size w w' := by
  have HE := Hid.mkV hE
  have HO := Hid.mkV h
  have KK0 := Below.refl w.heap.size w
  clear hE h
  go_enter Tryd.func3, Tryd.ntmps3
  go_wp2_with (first
    | fail)
  refine (HO.out).mono ?_
  rintro e wq1 ⟨lo1, n1, cm1, rfl, kq1, hn1, h1⟩
  have KK1 := below_tr KK0 kq1
  clear KK0
  have H1 := Hid.mkV h1
  clear h1
  go_wp2_with (first
    | fail)
  refine (H1.out _ (Below.refl _ _)).mono ?_
  rintro e wq2 ⟨r, c, z, rfl, kq2, h2⟩
  have KK2 := below_tr KK1 kq2
  clear KK1
  have H2 := Hid.mkV h2
  clear h2 H1
  go_wp2_with (first
    | fail)
  refine (H2.out _).mono ?_
  rintro e wq3 ⟨rfl, kq3⟩
  have KK3 := below_tr KK2 kq3
  clear KK2
  clear H2
  go_wp2_with (first
    | (rw [zeroF]; refine St.wpList_storeNew isF rfl _ _ (by rfl) _ _ _ (by rfl) (by rfl) (fvals_len _ _ _) (fvals_len _ _ _) (one_fvals _ _ _) ?_; intro ws4 ns4 ks4; have KK4 := below_tr KK3 ks4; clear KK3)
    | fail)
  refine (num_err 1 _ (HE.out.below KK4)).mono ?_
  rintro e wq5 ⟨rfl, kq5⟩
  have KK5 := below_tr KK4 kq5
  clear KK4
  go_wp2_with (first
    | fail)
  refine (lsure_any _).mono ?_
  rintro e wq6 ⟨rfl, kq6⟩
  have KK6 := below_tr KK5 kq6
  clear KK5
  go_wp2
  go_ret
  exact ⟨rfl, KK6⟩

set_option maxRecDepth 20000 in
set_option maxHeartbeats 4000000 in
theorem lmakes_err8 (lo vo : Option Addr) (n cm vn vc : Nat) (more : Int) (w : World) (hE : ErrTab w) (h : OfErr8 lo n cm more w) :
    Calls Tryd.prog 3 #[.slice lo n cm, .int .i64 more, .slice vo vn vc] w fun e w' => e = .returned (.bool true) ∧ Below w.heap.size w w' := by
  have HE := Hid.mkV hE
  have HO := Hid.mkV h
  have KK0 := Below.refl w.heap.size w
  clear hE h
  go_enter Tryd.func3, Tryd.ntmps3
  go_wp2_with (first
    | fail)
  refine (HO.out).mono ?_
  rintro e wq1 ⟨lo1, n1, cm1, rfl, kq1, hn1, h1⟩
  have KK1 := below_tr KK0 kq1
  clear KK0
  have H1 := Hid.mkV h1
  clear h1
  go_wp2_with (first
    | fail)
  refine (H1.out _ (Below.refl _ _)).mono ?_
  rintro e wq2 ⟨r, c, z, rfl, kq2, h2⟩
  have KK2 := below_tr KK1 kq2
  clear KK1
  have H2 := Hid.mkV h2
  clear h2 H1
  go_wp2_with (first
    | fail)
  refine (H2.out _).mono ?_
  rintro e wq3 ⟨rfl, kq3⟩
  have KK3 := below_tr KK2 kq3
  clear KK2
  clear H2
  go_wp2_with (first
    | (rw [zeroF]; refine St.wpList_storeNew isF rfl _ _ (by rfl) _ _ _ (by rfl) (by rfl) (fvals_len _ _ _) (fvals_len _ _ _) (one_fvals _ _ _) ?_; intro ws4 ns4 ks4; have KK4 := below_tr KK3 ks4; clear KK3)
    | fail)
  refine (num_err 8 _ (HE.out.below KK4)).mono ?_
  rintro e wq5 ⟨rfl, kq5⟩
  have KK5 := below_tr KK4 kq5
  clear KK4
  go_wp2_with (first
    | fail)
  refine (num_err 8 _ (HE.out.below KK5)).mono ?_
  rintro e wq6 ⟨rfl, kq6⟩
  have KK6 := below_tr KK5 kq6
  clear KK5
  go_wp2_with (first
    | fail)
  refine (lsure_any _).mono ?_
  rintro e wq7 ⟨rfl, kq7⟩
  have KK7 := below_tr KK6 kq7
  clear KK6
  go_wp2
  go_ret
  exact ⟨rfl, KK7⟩

set_option maxRecDepth 20000 in
set_option maxHeartbeats 8000000 in
theorem lmakes_good (n cm vn vc : Nat) (lo vo : Option Addr) (F : Nat → Nat → Int) (more : Int) (v : Nat → Int) (w : World) (h1 : 1 ≤ n) (h2 : n ≤ 6) (hg : Grid w lo n cm n F) (m0 : -9223372036854775808 ≤ more) (m1 : more ≤ 9223372036854775807) (hv : Sl w vo vn vc v) (bv : B64 v) (hE : ErrTab w) (hf : ∀ i, i < n → fine (evF F more) i) :
    Calls Tryd.prog 3 #[.slice lo n cm, .int .i64 more, .slice vo vn vc] w fun e w' => e = .returned (.bool true) ∧ Below w.heap.size w w' := by
  have HE := Hid.mkV hE
  have hE1 := even_yes n cm lo F more w h1 h2 hg m0 m1
  have hM := may_st h1 h2 hf
  have hD : ∀ k, k < n → 1 ≤ (st (evF F more) n).2 k := fun k hk => (FMay.d hM hk).1
  have cL : ∀ a b, -4611686018427387903 ≤ (st (evF F more) n).1 a b ∧ (st (evF F more) n).1 a b ≤ 4611686018427387903 := st_bdL (evF F more) n
  have cD : ∀ k, -4611686018427387903 ≤ (st (evF F more) n).2 k ∧ (st (evF F more) n).2 k ≤ 4611686018427387903 := st_bdD (evF F more) n
  have cF : ∀ a b, -4611686018427387903 ≤ evF F more a b ∧ evF F more a b ≤ 4611686018427387903 := fun a b => by have := evF_bd F more a b; omega
  have bL : ∀ a, B64 ((st (evF F more) n).1 a) := fun a => b64_of (st_bdL (evF F more) n a)
  have hOf := fun W => lof_any n (evF F more) W h1 h2 (evF_same F more n) (evF_b2 F more)
  rw [ofV_yes hf] at hOf
  have hAl : ∀ i j, i < n → j ≤ i → (tri ((st (evF F more) n).1 i) ((st (evF F more) n).1 j) (st (evF F more) n).2 (j + 1) - evF F more i j * 2 ^ 60).natAbs ≤ (allow ((st (evF F more) n).1 i) j (j + 1) + (st (evF F more) n).2 j * 2 ^ 31).natAbs := fun i j hi hj => allowed hf hi hj
  have hMat : ∀ (lo' : Option Addr) (cm' : Nat) W, Grid W lo' n cm' n (evF F more) → Calls Tryd.prog 6 #[.slice lo' n cm'] W fun e w' => e = .returned (.agg (mvals n n (mz n n (evF F more))).toArray) ∧ Below W.heap.size W w' := fun lo' cm' W hG => by
    obtain ⟨A, C, g1, g2⟩ := hG
    exact matOf_by _ _ _ _ W fun W' b => mof_any n n lo' cm' A C (evF F more) W' h1 h2 h1 h2 (g1.keep b) (fun k hk => (g2 k hk).keep b)
  obtain ⟨E, hE'⟩ : ∃ E, E = evF F more := ⟨_, rfl⟩
  rw [← hE'] at hE1 hM hD bL hOf hMat cL cD cF hAl
  clear hf hE'
  obtain ⟨L, hL⟩ : ∃ L, L = (st E n).1 := ⟨_, rfl⟩
  obtain ⟨d, hd⟩ : ∃ d, d = (st E n).2 := ⟨_, rfl⟩
  rw [← hL] at hM bL hOf cL hAl
  rw [← hd] at hM hD hOf cD hAl
  clear hL hd
  have HFo := Hid.mkV (fun W => factorsOf_any n L d W hM)
  have HMk := Hid.mkV (fun lo' cl do' cd mo cm' W (H1 : Grid W lo' n cl n L) (H2 : Sl W do' n cd d) (H3 : Grid W mo n cm' n E) => makes_yes n cl cd cm' lo' do' mo L E d W h1 h2 H1 H2 H3 cL cD cF hAl)
  -- Far, Solve
  have bo : B64 (ownV v vn) := fun k => by have := ownV_bd v vn k; omega
  have bn : B64 (fun k => -ownV v vn k) := fun k => by have := ownV_bd v vn k; show _ ≤ -ownV v vn k ∧ -ownV v vn k ≤ _; omega
  have bz : B64 (fun _ => 0) := fun k => ⟨by show (-9223372036854775808 : Int) ≤ 0; omega, by show (0 : Int) ≤ 9223372036854775807; omega⟩
  have HFa := Hid.mkV (fun vo vc W (hv : Sl W vo n vc (ownV v vn)) => lfar_any n vo vc (ownV v vn) L d W hM hv bo bL)
  have HFb := fun vo vc W (hv : Sl W vo n vc (fun k => -ownV v vn k)) => lfar_any n vo vc (fun k => -ownV v vn k) L d W hM hv bn bL
  rw [far_neg] at HFb
  have HFb := Hid.mkV HFb
  have HFc := fun vo vc W (hv : Sl W vo n vc (fun _ => 0)) => lfar_any n vo vc (fun _ => 0) L d W hM hv bz bL
  rw [(down_0 L n).1, (down_0 L n).2, (far_0 d n).1, (far_0 d n).2] at HFc
  have HFc := Hid.mkV HFc
  have HSo := fun vo vc W (hv : Sl W vo n vc (fun _ => 0)) => lsolve_any n vo vc (fun _ => 0) L d W hM hv bz bL
  have eS : solV n L d (fun _ => 0) = fun _ => 0 := by unfold solV; rw [(down_0 L n).1, (by_0 d).1, (up_0 L n n).1]
  have eO : solO n L d (fun _ => 0) = false := by unfold solO; rw [(down_0 L n).1, (down_0 L n).2, (by_0 d).1, (by_0 d).2 n, (up_0 L n n).2]; rfl
  rw [eS, eO] at HSo
  have HSo := Hid.mkV HSo
  have fn := far_nn (downV L (ownV v vn) n) d hD n (Nat.le_refl _)
  obtain ⟨FV, hFV⟩ : ∃ q, q = farV (downV L (ownV v vn) n) d n := ⟨_, rfl⟩
  rw [← hFV] at HFa HFb fn
  obtain ⟨O1, hO1⟩ : ∃ q, q = (downO L (ownV v vn) n || farO (downV L (ownV v vn) n) d n) := ⟨_, rfl⟩
  rw [← hO1] at HFa
  obtain ⟨O2, hO2⟩ : ∃ q, q = (downO L (fun k => -ownV v vn k) n || farO (downV L (fun k => -ownV v vn k) n) d n) := ⟨_, rfl⟩
  rw [← hO2] at HFb
  have HE1 := Hid.mkV hE1
  have HOf := Hid.mkV hOf
  have HMat := Hid.mkV hMat
  have HV := Hid.mkV hv
  have HBV := Hid.mkV bv
  have vl := hv.le
  have vc0 := hv.cap
  obtain ⟨z, hz⟩ : ∃ z, z = mz n n L := ⟨_, rfl⟩
  obtain ⟨y, hy⟩ : ∃ z, z = mz n n E := ⟨_, rfl⟩
  rw [← hz] at HFo HOf HFa HFb HFc HSo
  rw [← hy] at HOf HMat
  have KK0 := Below.refl w.heap.size w
  clear hg hM hD bL bv hE hE1 hOf hMat hz hy cL cD cF hAl bo bn bz eS eO hFV hO1 hO2 hv
  obtain ⟨i0, hi, hz0, hz1, hz2⟩ := info_parts infoI64
  go_enter Tryd.func3, Tryd.ntmps3
  go_wp2_with (first
    | fail)
  refine (HE1.out).mono ?_
  rintro e wq1 ⟨lo1, cm1, rfl, hG, kq1⟩
  have KK1 := below_tr KK0 kq1
  clear KK0
  go_wp2_with (first
    | fail)
  refine (HMat.out _ _ _ hG).mono ?_
  rintro e wq2 ⟨rfl, kq2⟩
  have KK2 := below_tr KK1 kq2
  have G_2 := hG.keep kq2
  clear KK1 hG
  go_wp2_with (first
    | fail)
  refine (HOf.out _).mono ?_
  rintro e wq3 ⟨rfl, kq3⟩
  have KK3 := below_tr KK2 kq3
  have G_3 := G_2.keep kq3
  clear KK2 G_2
  go_wp2_with (first
    | (rw [zeroF]; refine St.wpList_storeNew isF rfl _ _ (by rfl) _ _ _ (by rfl) (by rfl) (fvals_len _ _ _) (fvals_len _ _ _) (one_fvals _ _ _) ?_; intro ws4 ns4 ks4; have KK4 := below_tr KK3 ks4; have G_4 := G_3.keep ks4; clear KK3 G_3; have cN : ws4.cell? ⟨wq3.heap.size, 0, none⟩ = some (.int .i64 (n : Int)) := FRow.n ns4)
    | (refine St.wpList_load isF (by rfl) _ (by rfl) _ _ (by rfl) (by with_reducible exact ns4) (fvals_len _ _ _) ?_)
    | fail)
  refine (HFo.out _).mono ?_
  rintro e wq5 ⟨lo2, cl2, do2, cd2, rfl, hG2, hD2, kq5⟩
  have KK5 := below_tr KK4 kq5
  have G_5 := G_4.keep kq5
  have f_5 := CRow.keep ns4 kq5
  clear KK4 G_4 ns4
  go_wp2_with (first
    | fail)
  refine (HMk.out _ _ _ _ _ _ _ hG2 hD2 G_5).mono ?_
  rintro e wq6 ⟨rfl, kq6⟩
  have KK6 := below_tr KK5 kq6
  have G_6 := G_5.keep kq6
  have f_6 := CRow.keep f_5 kq6
  clear KK5 G_5 f_5
  obtain ⟨WM, hWM⟩ : ∃ W, W = wq6 := ⟨_, rfl⟩
  subst hWM
  obtain ⟨xv, hvo, hvc⟩ := HV.out.get
  have HVO := Hid.mkV hvo
  have HVC := Hid.mkV (fun k hk => keep_cell KK6 (hvc k hk))
  clear hvo hvc G_6 hG2 hD2 kq6 cN HV
  have hmk : ∀ W : World, (Instr.makeSlice 23 (.int .i64 (n : Int)) (.int .i64 (n : Int))).run Tryd.prog W = .ok (.slice (some ⟨W.heap.size, 0, none⟩) n n) (W.alloc (.cells (vals n (fun _ => 0)).toArray 2)) := fun W => by
    have h := Go.run_make_row' (P := Tryd.prog) 23 2 (.int .i64 0) 8 Tryd.underlying23 infoI64 rfl .i64 .i64 n (by omega) (by omega) W
    have e : madeCells #[Value.int .i64 0] n = (vals n (fun _ => 0)).toArray := by
      apply Array.ext'
      rw [toList_madeCells_one]
      apply List.ext_getElem?
      intro i
      by_cases hi : i < n
      · rw [List.toList_toArray, vals_at hi, List.getElem?_replicate, if_pos hi]
      · rw [List.toList_toArray, List.getElem?_eq_none (by simp; omega), List.getElem?_eq_none (by rw [vals_len]; omega)]
    rw [e] at h
    exact h
  have nA0 := (crow_new WM 2 (vals n (fun _ => 0))).alloc (.cells (vals n (fun _ => 0)).toArray 2)
  have nB0 := crow_new1 WM (.cells (vals n (fun _ => 0)).toArray 2) 2 (vals n (fun _ => 0))
  have b0 := below_al (below_al (Below.refl _ WM) (.cells (vals n (fun _ => 0)).toArray 2)) (.cells (vals n (fun _ => 0)).toArray 2)
  go_upto_region 7 with fail
  go_cut [10, 11] (fun p q wx => ∃ a b : Nat, p = .slice (some ⟨a, 0, none⟩) n n ∧ q = .slice (some ⟨b, 0, none⟩) n n ∧ a ≠ b ∧ NRow wx a n (fun _ => 0) ∧ NRow wx b n (fun _ => 0) ∧ WM.heap.size ≤ a ∧ WM.heap.size ≤ b ∧ Below WM.heap.size WM wx)
  case first =>
    go_region
    all_goals go_wp2_with fail
    all_goals go_meet
    all_goals refine ⟨_, _, rfl, rfl, ?_⟩
    all_goals first
      | exact ⟨by omega, nA0, nB0, by omega, by omega, b0.drew⟩
      | exact ⟨by omega, nB0, nA0, by omega, by omega, b0.drew⟩
  rename World => wx
  obtain ⟨ga, gb, rfl, rfl, hab, nA, nB, za, zb, kc⟩ := hcut
  have la := nA.lt
  have lb := nB.lt
  have nA1 := nA.alloc (.cells (vals n (fun _ => 0)).toArray 2)
  have nB1 := nB.alloc (.cells (vals n (fun _ => 0)).toArray 2)
  have nC1 := crow_new wx 2 (vals n (fun _ => 0))
  have kd := below_al kc (.cells (vals n (fun _ => 0)).toArray 2)
  have zc := kc.size
  have hac : ga ≠ wx.heap.size := by omega
  have hbc : gb ≠ wx.heap.size := by omega
  have zc' : WM.heap.size ≤ wx.heap.size := by omega
  clear nA nB la lb nA0 nB0 b0
  go_wp2
  go_loopw [13] (fun i wr => ∃ t : Nat, t ≤ n ∧ t ≤ vn ∧ i = .int .i64 (t : Int) ∧ NRow wr ga n (fun _ => 0) ∧ NRow wr gb n (fun k => -ownT v vn t k) ∧ NRow wr wx.heap.size n (ownT v vn t) ∧ Below WM.heap.size WM wr) (fun i _ => n - (intOf i).toNat)
  case atStart =>
    refine ⟨0, by omega, by omega, rfl, nA1, ?_, ?_, kd⟩
    · exact NRow.congr nB1 (fun k _ => by unfold ownT; rw [if_neg (by omega)]; rfl)
    · exact NRow.congr nC1 (fun k _ => by unfold ownT; rw [if_neg (by omega)])
  case round =>
    rename World => wr
    obtain ⟨t, ht, htv, rfl, rA, rB, rC, kr⟩ := hrel
    by_cases h3 : t < n
    · by_cases h4 : t < vn
      · obtain rfl := HVO.out (by omega)
        have cv := keep_cell kr (HVC.out t h4)
        have bx := HBV.out t
        have bX := tmod_bd (v t) (show (0 : Int) < 1099511627776 by omega)
        obtain ⟨X, hX⟩ : ∃ q, Int.tmod (v t) 1099511627776 = q := ⟨_, rfl⟩
        rw [hX] at bX
        have t0 : (0 : Int) ≤ (t : Int) := by omega
        have t3 : (t : Int) < (n : Int) := by omega
        have t4 : (t : Int) < (vn : Int) := by omega
        have c1 := NRow.at rC h3
        have f1 := CRow.free rC t
        have rC2 := NRow.set rC t X
        have rB2 := CRow.other rB (p := ⟨wx.heap.size, t, none⟩) (.int .i64 X) hbc
        have c2 := NRow.at rC2 h3
        rw [if_pos rfl] at c2
        have c3 := NRow.at rB2 h3
        have f3 := CRow.free rB2 t
        have rB3 := NRow.set rB2 t (-X)
        have rC3 := CRow.other rC2 (p := ⟨gb, t, none⟩) (.int .i64 (-X)) hbc.symm
        have rA3 := CRow.other (CRow.other rA (p := ⟨wx.heap.size, t, none⟩) (.int .i64 X) hac) (p := ⟨gb, t, none⟩) (.int .i64 (-X)) hab
        have ks := (kr.trans (St.below_set (x := ⟨wx.heap.size, t, none⟩) kr.size zc' (.int .i64 X)))
        have ks2 := ks.trans (St.below_set (x := ⟨gb, t, none⟩) ks.size zb (.int .i64 (-X)))
        have HBs : Hid (∀ k, (if k = t then -X else -ownT v vn t k) = -ownT v vn (t + 1) k) := fun k => by rw [← hX]; exact negT_set v h4 k
        have HCs : Hid (∀ k, (if k = t then X else ownT v vn t k) = ownT v vn (t + 1) k) := fun k => by rw [← hX]; exact ownT_set v h4 k
        go_wp2
        go_roundw
        case rel =>
          refine ⟨t + 1, by omega, by omega, by go_num, ?_, ?_, ?_, ?_⟩
          · exact rA3
          · exact NRow.congr rB3 (fun k _ => HBs.out k)
          · exact NRow.congr rC3 (fun k _ => HCs.out k)
          · exact ks2
        case measure => simp [intOf]; omega
      · have t3 : (t : Int) < (n : Int) := by omega
        have t4 : ¬ (t : Int) < (vn : Int) := by omega
        have hfin : n ≤ t ∨ vn ≤ t := by omega
        have sC : Sl wr (some ⟨wx.heap.size, 0, none⟩) n n (ownV v vn) := (NRow.all rC (Nat.le_refl _) (by omega)).congr (fun k hk => ownT_all v hfin hk)
        have sB : Sl wr (some ⟨gb, 0, none⟩) n n (fun k => -ownV v vn k) := (NRow.all rB (Nat.le_refl _) (by omega)).congr (fun k hk => by rw [ownT_all v hfin hk])
        have sA : Sl wr (some ⟨ga, 0, none⟩) n n (fun _ => 0) := NRow.all rA (Nat.le_refl _) (by omega)
        have ff := CRow.keep f_6 kr
        have KR := below_tr KK6 kr
        clear rA rB rC kr ht htv
        go_wp2_with (first
          | (refine St.wpList_load isF (by rfl) _ (by rfl) _ _ (by rfl) (by with_reducible exact ff) (fvals_len _ _ _) ?_)
          | fail)
        refine (HFa.out _ _ _ sC).mono ?_
        rintro e wq1 ⟨rfl, kq1⟩
        have KK1 := below_tr KR kq1
        have f_1 := CRow.keep ff kq1
        have A_1 := sA.keep kq1
        have B_1 := sB.keep kq1
        have C_1 := sC.keep kq1
        clear KR ff sA sB sC
        go_wp2_with (first
          | (refine St.wpList_load isF (by rfl) _ (by rfl) _ _ (by rfl) (by with_reducible exact f_1) (fvals_len _ _ _) ?_)
          | fail)
        refine (HFb.out _ _ _ B_1).mono ?_
        rintro e wq2 ⟨rfl, kq2⟩
        have KK2 := below_tr KK1 kq2
        have f_2 := CRow.keep f_1 kq2
        have A_2 := A_1.keep kq2
        have B_2 := B_1.keep kq2
        have C_2 := C_1.keep kq2
        clear KK1 f_1 A_1 B_1 C_1
        go_wp2_with (first
          | (refine St.wpList_load isF (by rfl) _ (by rfl) _ _ (by rfl) (by with_reducible exact f_2) (fvals_len _ _ _) ?_)
          | fail)
        refine (HFc.out _ _ _ A_2).mono ?_
        rintro e wq3 ⟨rfl, kq3⟩
        have KK3 := below_tr KK2 kq3
        have f_3 := CRow.keep f_2 kq3
        have A_3 := A_2.keep kq3
        have B_3 := B_2.keep kq3
        have C_3 := C_2.keep kq3
        clear KK2 f_2 A_2 B_2 C_2
        go_wp2_with (first
          | (refine St.wpList_load isF (by rfl) _ (by rfl) _ _ (by rfl) (by with_reducible exact f_3) (fvals_len _ _ _) ?_)
          | fail)
        refine (HSo.out _ _ _ A_3).mono ?_
        rintro e wq4 ⟨b, rfl, _, hX, kq4⟩
        have KK4 := below_tr KK3 kq4
        have f_4 := CRow.keep f_3 kq4
        have A_4 := A_3.keep kq4
        have B_4 := B_3.keep kq4
        have C_4 := C_3.keep kq4
        clear KK3 f_3 A_3 B_3 C_3
        go_wp2_with (first
          | fail)
        refine (nums_yes _ _ n _ _ _ _ hX A_4).mono ?_
        rintro e wq5 ⟨rfl, kq5⟩
        have KK5 := below_tr KK4 kq5
        have f_5 := CRow.keep f_4 kq5
        have A_5 := A_4.keep kq5
        have B_5 := B_4.keep kq5
        have C_5 := C_4.keep kq5
        have X_5 := hX.keep kq5
        clear KK4 f_4 A_4 B_4 C_4 hX
        go_wp2_with (first
          | fail)
        refine (lsure_any _).mono ?_
        rintro e wq6 ⟨rfl, kq6⟩
        have KK6 := below_tr KK5 kq6
        have f_6 := CRow.keep f_5 kq6
        have A_6 := A_5.keep kq6
        have B_6 := B_5.keep kq6
        have C_6 := C_5.keep kq6
        have X_6 := X_5.keep kq6
        clear KK5 f_5 A_5 B_5 C_5 X_5
        go_wp2
        go_ret
        exact ⟨rfl, KK6⟩
    · have t3 : ¬ (t : Int) < (n : Int) := by omega
      have hfin : n ≤ t ∨ vn ≤ t := by omega
      have sC : Sl wr (some ⟨wx.heap.size, 0, none⟩) n n (ownV v vn) := (NRow.all rC (Nat.le_refl _) (by omega)).congr (fun k hk => ownT_all v hfin hk)
      have sB : Sl wr (some ⟨gb, 0, none⟩) n n (fun k => -ownV v vn k) := (NRow.all rB (Nat.le_refl _) (by omega)).congr (fun k hk => by rw [ownT_all v hfin hk])
      have sA : Sl wr (some ⟨ga, 0, none⟩) n n (fun _ => 0) := NRow.all rA (Nat.le_refl _) (by omega)
      have ff := CRow.keep f_6 kr
      have KR := below_tr KK6 kr
      clear rA rB rC kr ht htv
      go_wp2_with (first
        | (refine St.wpList_load isF (by rfl) _ (by rfl) _ _ (by rfl) (by with_reducible exact ff) (fvals_len _ _ _) ?_)
        | fail)
      refine (HFa.out _ _ _ sC).mono ?_
      rintro e wq1 ⟨rfl, kq1⟩
      have KK1 := below_tr KR kq1
      have f_1 := CRow.keep ff kq1
      have A_1 := sA.keep kq1
      have B_1 := sB.keep kq1
      have C_1 := sC.keep kq1
      clear KR ff sA sB sC
      go_wp2_with (first
        | (refine St.wpList_load isF (by rfl) _ (by rfl) _ _ (by rfl) (by with_reducible exact f_1) (fvals_len _ _ _) ?_)
        | fail)
      refine (HFb.out _ _ _ B_1).mono ?_
      rintro e wq2 ⟨rfl, kq2⟩
      have KK2 := below_tr KK1 kq2
      have f_2 := CRow.keep f_1 kq2
      have A_2 := A_1.keep kq2
      have B_2 := B_1.keep kq2
      have C_2 := C_1.keep kq2
      clear KK1 f_1 A_1 B_1 C_1
      go_wp2_with (first
        | (refine St.wpList_load isF (by rfl) _ (by rfl) _ _ (by rfl) (by with_reducible exact f_2) (fvals_len _ _ _) ?_)
        | fail)
      refine (HFc.out _ _ _ A_2).mono ?_
      rintro e wq3 ⟨rfl, kq3⟩
      have KK3 := below_tr KK2 kq3
      have f_3 := CRow.keep f_2 kq3
      have A_3 := A_2.keep kq3
      have B_3 := B_2.keep kq3
      have C_3 := C_2.keep kq3
      clear KK2 f_2 A_2 B_2 C_2
      go_wp2_with (first
        | (refine St.wpList_load isF (by rfl) _ (by rfl) _ _ (by rfl) (by with_reducible exact f_3) (fvals_len _ _ _) ?_)
        | fail)
      refine (HSo.out _ _ _ A_3).mono ?_
      rintro e wq4 ⟨b, rfl, _, hX, kq4⟩
      have KK4 := below_tr KK3 kq4
      have f_4 := CRow.keep f_3 kq4
      have A_4 := A_3.keep kq4
      have B_4 := B_3.keep kq4
      have C_4 := C_3.keep kq4
      clear KK3 f_3 A_3 B_3 C_3
      go_wp2_with (first
        | fail)
      refine (nums_yes _ _ n _ _ _ _ hX A_4).mono ?_
      rintro e wq5 ⟨rfl, kq5⟩
      have KK5 := below_tr KK4 kq5
      have f_5 := CRow.keep f_4 kq5
      have A_5 := A_4.keep kq5
      have B_5 := B_4.keep kq5
      have C_5 := C_4.keep kq5
      have X_5 := hX.keep kq5
      clear KK4 f_4 A_4 B_4 C_4 hX
      go_wp2_with (first
        | fail)
      refine (lsure_any _).mono ?_
      rintro e wq6 ⟨rfl, kq6⟩
      have KK6 := below_tr KK5 kq6
      have f_6 := CRow.keep f_5 kq6
      have A_6 := A_5.keep kq6
      have B_6 := B_5.keep kq6
      have C_6 := C_5.keep kq6
      have X_6 := X_5.keep kq6
      clear KK5 f_5 A_5 B_5 C_5 X_5
      go_wp2
      go_ret
      exact ⟨rfl, KK6⟩

theorem oferr_no (lo : Option Addr) (n cm : Nat) (more : Int) (w : World) (hn : n ≤ 9223372036854775807)
    (hm : ∀ W, Below w.heap.size w W → Calls Tryd.prog 14 #[.slice lo n cm] W fun e w' => e = .returned (.bool false) ∧ Below W.heap.size W w')
    (ho : ∀ W, Below w.heap.size w W → Calls Tryd.prog 18 #[.slice lo n cm] W fun e w' => e = .returned (.tuple #[.agg (mvals 0 0 (fun _ => 0)).toArray, .iface 51 (.int .i64 1)]) ∧ Below W.heap.size W w') : OfErr1 lo n cm more w := by
  refine (even_may (.bool false) n lo cm more w (hm w (Below.refl _ _))).mono ?_
  rintro e w1 ⟨rfl, k1⟩
  refine ⟨lo, n, cm, rfl, k1, hn, fun W b => (matOf_no _ W fun W' b' => ho W' (below_tr (below_tr k1 b) b')).mono ?_⟩
  rintro e w2 ⟨rfl, k2⟩
  refine ⟨0, 0, fun _ => 0, rfl, k2, fun W' => (lof_not 0 0 (fun _ => 0) W' (fun h => by obtain ⟨a, b, e1, _, h1, _⟩ := h; omega)).mono ?_⟩
  rintro e w3 ⟨rfl, k3⟩
  exact ⟨rfl, k3⟩
theorem oferr_size (lo : Option Addr) (n m cm : Nat) (F : Nat → Nat → Int) (more : Int) (w : World) (h1 : 1 ≤ n) (h2 : n ≤ 6) (h3 : 1 ≤ m) (h4 : m ≤ 6) (hg : Grid w lo n cm m F) (hnm : n ≠ m) : OfErr1 lo n cm more w := by
  obtain ⟨A, C, g1, g2⟩ := hg
  refine (even_size n m cm lo A C more w g1 h1 h2 h3 h4 hnm).mono ?_
  rintro e w1 ⟨rfl, k1⟩
  refine ⟨lo, n, cm, rfl, k1, by omega, fun W b => (matOf_by _ _ _ _ W fun W' b' => mof_any n m lo cm A C F W' h1 h2 h3 h4 (g1.keep (below_tr (below_tr k1 b) b')) (fun k hk => (g2 k hk).keep (below_tr (below_tr k1 b) b'))).mono ?_⟩
  rintro e w2 ⟨rfl, k2⟩
  refine ⟨_, _, _, rfl, k2, fun W' => (lof_odd n m F W' h1 h2 h3 h4 (fun h => hnm h.1)).mono ?_⟩
  rintro e w3 ⟨rfl, k3⟩
  exact ⟨rfl, k3⟩
theorem oferr_none (lo : Option Addr) (n cm : Nat) (F : Nat → Nat → Int) (more : Int) (w : World) (h1 : 1 ≤ n) (h2 : n ≤ 6) (hg : Grid w lo n cm n F) (m0 : -9223372036854775808 ≤ more) (m1 : more ≤ 9223372036854775807) (hf : ¬ ∀ i, i < n → fine (evF F more) i) : OfErr8 lo n cm more w := by
  refine (even_yes n cm lo F more w h1 h2 hg m0 m1).mono ?_
  rintro e w1 ⟨lo', cm', rfl, ⟨A, C, g1, g2⟩, k1⟩
  refine ⟨lo', n, cm', rfl, k1, by omega, fun W b => (matOf_by _ _ _ _ W fun W' b' => mof_any n n lo' cm' A C (evF F more) W' h1 h2 h1 h2 (g1.keep (below_tr b b')) (fun k hk => (g2 k hk).keep (below_tr b b'))).mono ?_⟩
  rintro e w2 ⟨rfl, k2⟩
  refine ⟨_, _, _, rfl, k2, fun W' => ?_⟩
  have h := lof_any n (evF F more) W' h1 h2 (evF_same F more n) (evF_b2 F more)
  rw [ofV_no hf] at h
  refine h.mono ?_
  rintro e w3 ⟨rfl, k3⟩
  exact ⟨rfl, k3⟩


theorem isrows10 {w : World} {a : Option Addr} {len cap : Nat} {A : Nat → Option Addr} {L C : Nat → Nat} {Z : Nat → List Int} (h : FLdlMakes.IsRows .i64 w a len cap A L C Z) :
    Sls w a len cap A L C ∧ ∀ r, r < len → Sl w (A r) (L r) (C r) (fun k => (Z r).getD k 0) ∧ B64 (fun k => (Z r).getD k 0) := by
  rcases h with ⟨rfl, rfl, rfl⟩ | ⟨x, rfl, h1, h2, h3⟩
  · exact ⟨⟨Nat.le_refl _, by omega, fun j hj => by omega⟩, fun r hr => by omega⟩
  · refine ⟨⟨h1, h2, fun j hj => ⟨x, rfl, (h3 j (by omega)).1⟩⟩, fun r hr => ?_⟩
    obtain ⟨r1, r2, r3, r4, r5, r6, r7⟩ := h3 r (by omega)
    refine ⟨⟨r2, r3, fun k hk => ?_⟩, getD_b r5⟩
    cases e : A r with
    | none => have := r6 e; omega
    | some y => exact ⟨y, rfl, r7 y e k (by omega)⟩
theorem isrow10 {w : World} {a : Option Addr} {len cap : Nat} {z : List Int} (h : FLdlMakes.IsRow .i64 w a len cap z) : Sl w a len cap (fun k => z.getD k 0) ∧ B64 (fun k => z.getD k 0) := by
  rcases h with ⟨rfl, rfl, rfl, rfl⟩ | ⟨x, rfl, h1, h2, h3, h4, h5⟩
  · exact ⟨Sl.none _ _, fun k => by simp⟩
  · exact ⟨⟨h1, h2, fun k hk => ⟨x, rfl, h4 k (by omega)⟩⟩, getD_b h5⟩

theorem lmakes_walk : FLdlMakes.Walk := by
  intro a0 len0 cap0 A0 L0 C0 Z0 a1 a2 len2 cap2 z2 w h0 h1 h2 hE
  obtain ⟨s0, q0⟩ := isrows10 h0
  obtain ⟨sv, bv⟩ := isrow10 h2
  have b1 := bounds_i64 h1
  have hcap := s0.le
  have hcap2 := s0.cap
  rcases rows_cases s0 q0 with ⟨m, F, g1, g2, g3, g4, gG, gB, _, _⟩ | ⟨x1, x2⟩
  · by_cases hnm : len0 = m
    · subst hnm
      by_cases hf : ∀ i, i < len0 → fine (evF F a1) i
      · exact lmakes_good len0 cap0 len2 cap2 a0 a2 F a1 _ w g1 g2 gG b1.1 b1.2 sv bv hE hf
      · exact lmakes_err8 a0 a2 len0 cap0 len2 cap2 a1 w hE (oferr_none a0 len0 cap0 F a1 w g1 g2 gG b1.1 b1.2 hf)
    · exact lmakes_err1 a0 a2 len0 cap0 len2 cap2 a1 w hE (oferr_size a0 len0 m cap0 F a1 w g1 g2 g3 g4 gG hnm)
  · exact lmakes_err1 a0 a2 len0 cap0 len2 cap2 a1 w hE (oferr_no a0 len0 cap0 a1 w (by omega) x1 x2)

/-- The law LdlMakes, of any input. -/
theorem ldlMakes_holds : Rows.LdlMakesCardSaid := FLdlMakes.card lmakes_walk

end Go.Proofs.YtkmhikfjdafipaaDoor
