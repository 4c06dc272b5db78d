/-
  What is proved: whatever rows and number it is given, the law LdlOf of layer 9 returns true, ends without a panic, and leaves what was there as it was; its condition: the library's variable errors.errorType holds what it is laid with.
-/
import Derived.Test.YtfgjigkgfflofaaGreatDoorM17
import Derived.Test.YtfgjigkgfflofaaGreatDoorLdU
import Derived.Test.YtfgjigkgfflofaaGreatDoorLdX
import Derived.Test.YtfgjigkgfflofaaGreatDoorLdY
import Derived.Test.YtfgjigkgfflofaaGreatDoorMtY
import Derived.Test.YtfgjigkgfflofaaGreatDoorErrA
import Derived.Test.YtfgjigkgfflofaaGreatDoorFLdlOf
set_option linter.unusedSimpArgs false
set_option linter.unusedVariables false
namespace Go.Proofs.YtfgjigkgfflofaaGreatDoor
open Go.RowKit Vc Mt St Qn Dt Ld

theorem dof_odd (n cm : Nat) (lo : Option Addr) (F : Nat → Nat → Int) (w : World) (h1 : 1 ≤ n) (hn : n ≤ 6) (hg : Grid w lo n cm n F) (hF : B2 F) (hs : ¬ Same n F) :
    Calls Tryz.prog 10 #[.slice lo n cm] w fun e w' => e = .returned (.tuple #[.agg #[.slice none 0 0, .slice none 0 0], .int .i64 1]) ∧ Below w.heap.size w w' := by
  refine (dof_any n cm lo F w h1 hn hg hF).mono ?_
  rintro e w1 ⟨h | h | h, k⟩
  · exact ⟨h.2, k⟩
  · exact absurd h.1 hs
  · exact absurd h.1 hs
theorem dof_none (n cm : Nat) (lo : Option Addr) (F : Nat → Nat → Int) (w : World) (h1 : 1 ≤ n) (hn : n ≤ 6) (hg : Grid w lo n cm n F) (hF : B2 F) (hs : Same n F) (hf : ¬ ∀ i, i < n → fine F i) :
    Calls Tryz.prog 10 #[.slice lo n cm] w fun e w' => e = .returned (.tuple #[.agg #[.slice none 0 0, .slice none 0 0], .int .i64 8]) ∧ Below w.heap.size w w' := by
  refine (dof_any n cm lo F w h1 hn hg hF).mono ?_
  rintro e w1 ⟨h | h | h, k⟩
  · exact absurd hs h.1
  · exact ⟨h.2.2, k⟩
  · exact absurd h.2.1 hf
theorem dof_fine (n cm : Nat) (lo : Option Addr) (F : Nat → Nat → Int) (w : World) (h1 : 1 ≤ n) (hn : n ≤ 6) (hg : Grid w lo n cm n F) (hF : B2 F) (hs : Same n F) (hf : ∀ i, i < n → fine F i) :
    Calls Tryz.prog 10 #[.slice lo n cm] w fun e w' => ∃ lo' cl do' cd, e = .returned (.tuple #[.agg #[.slice lo' n cl, .slice do' n cd], .int .i64 0]) ∧ Grid w' lo' n cl n (st F n).1 ∧ Sl w' do' n cd (st F n).2 ∧ Below w.heap.size w w' := by
  refine (dof_any n cm lo F w h1 hn hg hF).mono ?_
  rintro e w1 ⟨h | h | h, k⟩
  · exact absurd hs h.1
  · exact absurd hf h.2.1
  · obtain ⟨_, _, lo', cl, do', cd, e1, e2, e3⟩ := h
    exact ⟨lo', cl, do', cd, e1, e2, e3, k⟩
theorem ofm_none (n : Nat) (F : Nat → Nat → Int) (W : World) (h1 : 1 ≤ n) (h2 : n ≤ 6) (hs : Same n F) (hF : B2 F) (hf : ¬ ∀ i, i < n → fine F i) :
    Calls Tryz.prog 6 #[.agg (mvals n n (mz n n F)).toArray] W fun e w' => e = .returned (.tuple #[.agg f0.toArray, .iface 62 (.int .i64 8)]) ∧ Below W.heap.size W w' := by
  have h := lof_any n F W h1 h2 hs hF
  rw [ofV_no hf] at h
  exact h
theorem ofm_fine (n : Nat) (F : Nat → Nat → Int) (W : World) (h1 : 1 ≤ n) (h2 : n ≤ 6) (hs : Same n F) (hF : B2 F) (hf : ∀ i, i < n → fine F i) :
    Calls Tryz.prog 6 #[.agg (mvals n n (mz n n F)).toArray] W fun e w' => e = .returned (.tuple #[.agg (fvals n (mz n n (st F n).1) (st F n).2).toArray, .nilIface]) ∧ Below W.heap.size W w' := by
  have h := lof_any n F W h1 h2 hs hF
  rw [ofV_yes hf] at h
  exact h
theorem matOf_grid (lo : Option Addr) (n m cm : Nat) (F : Nat → Nat → Int) (W : World) (h1 : 1 ≤ n) (h2 : n ≤ 6) (h3 : 1 ≤ m) (h4 : m ≤ 6) (hG : Grid W lo n cm m F) :
    Calls Tryz.prog 7 #[.slice lo n cm] W fun e w' => e = .returned (.agg (mvals n m (mz n m F)).toArray) ∧ Below W.heap.size W w' := by
  obtain ⟨A, C, g1, g2⟩ := hG
  exact matOf_by _ _ _ _ W fun W' b => mof_any n m lo cm A C F W' h1 h2 h3 h4 (g1.keep b) (fun k hk => (g2 k hk).keep b)
theorem may_grid (lo : Option Addr) (n m cm : Nat) (F : Nat → Nat → Int) (W : World) (h1 : 1 ≤ n) (h2 : n ≤ 6) (h3 : 1 ≤ m) (h4 : m ≤ 6) (hG : Grid W lo n cm m F) :
    Calls Tryz.prog 8 #[.slice lo n cm] W fun e w' => e = .returned (.bool true) ∧ Below W.heap.size W w' := by
  obtain ⟨A, C, g1, g2⟩ := hG
  exact rmay_yes n m cm lo A C W g1 h1 h2 h3 h4
theorem grid_first {w : World} {lo : Option Addr} {n cm m : Nat} {F : Nat → Nat → Int} (h : Grid w lo n cm m F) (h1 : 1 ≤ n) : ∃ x a c, lo = some x ∧ w.cell? x = some (.slice a m c) ∧ n ≤ cm ∧ cm ≤ 9223372036854775807 := by
  obtain ⟨A, C, g1, g2⟩ := h
  obtain ⟨x, hlo, hc⟩ := g1.get
  exact ⟨x, A 0, C 0, hlo (by omega), hc 0 (by omega), g1.le, g1.cap⟩
theorem even_same (lo : Option Addr) (n m cm : Nat) (F : Nat → Nat → Int) (more : Int) (W : World) (h1 : 1 ≤ n) (h2 : n ≤ 6) (h3 : 1 ≤ m) (h4 : m ≤ 6) (hG : Grid W lo n cm m F) (hnm : n ≠ m) :
    Calls Tryz.prog 5 #[.slice lo n cm, .int .i64 more] W fun e w' => e = .returned (.slice lo n cm) ∧ Below W.heap.size W w' := by
  obtain ⟨A, C, g1, g2⟩ := hG
  exact even_size n m cm lo A C more W g1 h1 h2 h3 h4 hnm

theorem no_may_mat : ¬ May 0 0 (fun _ => 0) := fun h => by obtain ⟨a, b, e1, _, h1, _⟩ := h; omega

set_option maxRecDepth 20000 in
set_option maxHeartbeats 4000000 in
theorem lofs_bad (lo : Option Addr) (n cm : Nat)  (more : Int) (w : World) (m0 : -9223372036854775808 ≤ more) (m1 : more ≤ 9223372036854775807) (hE : ErrTab w) (hm : ∀ W, Below w.heap.size w W → Calls Tryz.prog 8 #[.slice lo n cm] W fun e w' => e = .returned (.bool false) ∧ Below W.heap.size W w') (ho : ∀ W, Below w.heap.size w W → Calls Tryz.prog 25 #[.slice lo n cm] W fun e w' => e = .returned (.tuple #[.agg (mvals 0 0 (fun _ => 0)).toArray, .iface 62 (.int .i64 1)]) ∧ Below W.heap.size W w') :
    Calls Tryz.prog 3 #[.slice lo n cm, .int .i64 more] w fun e w' => e = .returned (.bool true) ∧ Below w.heap.size w w' := by
  have HE := Hid.mkV hE
  have HMy := Hid.mkV hm
  have HMo := Hid.mkV ho
  clear hm ho hE
  go_enter Tryz.func3, Tryz.ntmps3
  go_wp2
  go_loopw [5] (fun ix wr => ∃ k : Nat, k ≤ 2 ∧ ix = .int .i64 (k : Int) ∧ Below w.heap.size w wr) (fun ix _ => 2 - (intOf ix).toNat)
  case atStart => exact ⟨0, by omega, rfl, Below.refl _ _⟩
  case round =>
    obtain ⟨k, hk, rfl, kb⟩ := hrel
    match k, hk with
    | 0, _ =>
      go_wp2_with (first
        | fail)
      refine (matOf_no _ _ (fun W b => HMo.out W (below_tr kb b))).mono ?_
      rintro e wq1 ⟨rfl, kq1⟩
      have KK1 := below_tr kb kq1
      clear kb
      go_wp2_with (first
        | fail)
      refine (lof_not 0 0 (fun _ => 0) _ no_may_mat).mono ?_
      rintro e wq2 ⟨rfl, kq2⟩
      have KK2 := below_tr KK1 kq2
      clear KK1
      go_wp2_with (first
        | (rw [zeroF]; refine St.wpList_storeNew isF rfl _ _ (by rfl) _ _ _ (by rfl) (by rfl) (fvals_len _ _ _) (fvals_len _ _ _) (one_fvals _ _ _) ?_; intro ws3 ns3 ks3; have KK3 := below_tr KK2 ks3; clear KK2)
        | fail)
      refine (HMy.out _ KK3).mono ?_
      rintro e wq4 ⟨rfl, kq4⟩
      have KK4 := below_tr KK3 kq4
      have f_4 := CRow.keep ns3 kq4
      clear KK3 ns3
      go_wp2_with (first
        | fail)
      refine (num_err 1 _ (HE.out.below KK4)).mono ?_
      rintro e wq5 ⟨rfl, kq5⟩
      have KK5 := below_tr KK4 kq5
      have f_5 := CRow.keep f_4 kq5
      clear KK4 f_4
      go_wp2_with (first
        | (refine St.wpList_load isF (by rfl) _ (by rfl) _ _ (by rfl) (by with_reducible exact f_5) (fvals_len _ _ _) ?_)
        | (refine wpList_buildF0 (by rfl) (by rfl) ?_)
        | (refine wpList_neF (by rfl) _ _ _ (by rfl) _ _ _ (by rfl) (by rfl) ?_)
        | fail)
      go_roundw
      case rel => exact ⟨1, by omega, by go_num, KK5⟩
      case measure => simp [intOf]
    | 1, _ =>
      go_wp2_with (first
        | fail)
      refine (even_may (.bool false) n lo cm more _ (HMy.out _ kb)).mono ?_
      rintro e wq1 ⟨rfl, kq1⟩
      have KK1 := below_tr kb kq1
      clear kb
      go_wp2_with (first
        | fail)
      refine (matOf_no _ _ (fun W b => HMo.out W (below_tr KK1 b))).mono ?_
      rintro e wq2 ⟨rfl, kq2⟩
      have KK2 := below_tr KK1 kq2
      clear KK1
      go_wp2_with (first
        | fail)
      refine (lof_not 0 0 (fun _ => 0) _ no_may_mat).mono ?_
      rintro e wq3 ⟨rfl, kq3⟩
      have KK3 := below_tr KK2 kq3
      clear KK2
      go_wp2_with (first
        | (rw [zeroF]; refine St.wpList_storeNew isF rfl _ _ (by rfl) _ _ _ (by rfl) (by rfl) (fvals_len _ _ _) (fvals_len _ _ _) (one_fvals _ _ _) ?_; intro ws4 ns4 ks4; have KK4 := below_tr KK3 ks4; clear KK3)
        | fail)
      refine (HMy.out _ KK4).mono ?_
      rintro e wq5 ⟨rfl, kq5⟩
      have KK5 := below_tr KK4 kq5
      have f_5 := CRow.keep ns4 kq5
      clear KK4 ns4
      go_wp2_with (first
        | fail)
      refine (num_err 1 _ (HE.out.below KK5)).mono ?_
      rintro e wq6 ⟨rfl, kq6⟩
      have KK6 := below_tr KK5 kq6
      have f_6 := CRow.keep f_5 kq6
      clear KK5 f_5
      go_wp2_with (first
        | (refine St.wpList_load isF (by rfl) _ (by rfl) _ _ (by rfl) (by with_reducible exact f_6) (fvals_len _ _ _) ?_)
        | (refine wpList_buildF0 (by rfl) (by rfl) ?_)
        | (refine wpList_neF (by rfl) _ _ _ (by rfl) _ _ _ (by rfl) (by rfl) ?_)
        | fail)
      go_roundw
      case rel => exact ⟨2, by omega, by go_num, KK6⟩
      case measure => simp [intOf]
    | 2, _ =>
      go_wp2_with fail
      refine (lsure_any _).mono ?_
      rintro e wz ⟨rfl, kz⟩
      go_wp2
      go_ret
      exact ⟨rfl, below_tr kb kz⟩

set_option maxRecDepth 20000 in
set_option maxHeartbeats 4000000 in
theorem lofs_size (lo : Option Addr) (n cm : Nat) (m : Nat) (F : Nat → Nat → Int) (more : Int) (w : World) (m0 : -9223372036854775808 ≤ more) (m1 : more ≤ 9223372036854775807) (hE : ErrTab w) (h1 : 1 ≤ n) (h2 : n ≤ 6) (h3 : 1 ≤ m) (h4 : m ≤ 6) (hg : Grid w lo n cm m F) (hnm : n ≠ m) :
    Calls Tryz.prog 3 #[.slice lo n cm, .int .i64 more] w fun e w' => e = .returned (.bool true) ∧ Below w.heap.size w w' := by
  have HE := Hid.mkV hE
  have HG := Hid.mkV hg
  clear hg hE
  go_enter Tryz.func3, Tryz.ntmps3
  go_wp2
  go_loopw [5] (fun ix wr => ∃ k : Nat, k ≤ 2 ∧ ix = .int .i64 (k : Int) ∧ Below w.heap.size w wr) (fun ix _ => 2 - (intOf ix).toNat)
  case atStart => exact ⟨0, by omega, rfl, Below.refl _ _⟩
  case round =>
    obtain ⟨k, hk, rfl, kb⟩ := hrel
    match k, hk with
    | 0, _ =>
      have hG := HG.out.keep kb
      go_wp2_with (first
        | fail)
      refine (matOf_grid lo n m cm F _ h1 h2 h3 h4 hG).mono ?_
      rintro e wq1 ⟨rfl, kq1⟩
      have KK1 := below_tr kb kq1
      have G_1 := hG.keep kq1
      clear kb hG
      go_wp2_with (first
        | fail)
      refine (lof_odd n m F _ h1 h2 h3 h4 (fun h => hnm h.1)).mono ?_
      rintro e wq2 ⟨rfl, kq2⟩
      have KK2 := below_tr KK1 kq2
      have G_2 := G_1.keep kq2
      clear KK1 G_1
      go_wp2_with (first
        | (rw [zeroF]; refine St.wpList_storeNew isF rfl _ _ (by rfl) _ _ _ (by rfl) (by rfl) (fvals_len _ _ _) (fvals_len _ _ _) (one_fvals _ _ _) ?_; intro ws3 ns3 ks3; have KK3 := below_tr KK2 ks3; have G_3 := G_2.keep ks3; clear KK2 G_2)
        | fail)
      refine (may_grid lo n m cm F _ h1 h2 h3 h4 G_3).mono ?_
      rintro e wq4 ⟨rfl, kq4⟩
      have KK4 := below_tr KK3 kq4
      have G_4 := G_3.keep kq4
      have f_4 := CRow.keep ns3 kq4
      clear KK3 G_3 ns3
      obtain ⟨xg, ag, cg, eg, gc, gl1, gl2⟩ := grid_first G_4 h1
      subst eg
      have enm : ((n : Int) != (m : Int)) = true := by simp; omega
      go_wp2_with (first
        | fail)
      refine (num_err 1 _ (HE.out.below KK4)).mono ?_
      rintro e wq5 ⟨rfl, kq5⟩
      have KK5 := below_tr KK4 kq5
      have G_5 := G_4.keep kq5
      have f_5 := CRow.keep f_4 kq5
      clear KK4 G_4 f_4
      go_wp2_with (first
        | (refine St.wpList_load isF (by rfl) _ (by rfl) _ _ (by rfl) (by with_reducible exact f_5) (fvals_len _ _ _) ?_)
        | (refine wpList_buildF0 (by rfl) (by rfl) ?_)
        | (refine wpList_neF (by rfl) _ _ _ (by rfl) _ _ _ (by rfl) (by rfl) ?_)
        | fail)
      go_roundw
      case rel => exact ⟨1, by omega, by go_num, KK5⟩
      case measure => simp [intOf]
    | 1, _ =>
      have hG := HG.out.keep kb
      go_wp2_with (first
        | fail)
      refine (even_same lo n m cm F more _ h1 h2 h3 h4 hG hnm).mono ?_
      rintro e wq1 ⟨rfl, kq1⟩
      have KK1 := below_tr kb kq1
      have G_1 := hG.keep kq1
      clear kb hG
      go_wp2_with (first
        | fail)
      refine (matOf_grid lo n m cm F _ h1 h2 h3 h4 G_1).mono ?_
      rintro e wq2 ⟨rfl, kq2⟩
      have KK2 := below_tr KK1 kq2
      have G_2 := G_1.keep kq2
      clear KK1 G_1
      go_wp2_with (first
        | fail)
      refine (lof_odd n m F _ h1 h2 h3 h4 (fun h => hnm h.1)).mono ?_
      rintro e wq3 ⟨rfl, kq3⟩
      have KK3 := below_tr KK2 kq3
      have G_3 := G_2.keep kq3
      clear KK2 G_2
      go_wp2_with (first
        | (rw [zeroF]; refine St.wpList_storeNew isF rfl _ _ (by rfl) _ _ _ (by rfl) (by rfl) (fvals_len _ _ _) (fvals_len _ _ _) (one_fvals _ _ _) ?_; intro ws4 ns4 ks4; have KK4 := below_tr KK3 ks4; have G_4 := G_3.keep ks4; clear KK3 G_3)
        | fail)
      refine (may_grid lo n m cm F _ h1 h2 h3 h4 G_4).mono ?_
      rintro e wq5 ⟨rfl, kq5⟩
      have KK5 := below_tr KK4 kq5
      have G_5 := G_4.keep kq5
      have f_5 := CRow.keep ns4 kq5
      clear KK4 G_4 ns4
      obtain ⟨xg, ag, cg, eg, gc, gl1, gl2⟩ := grid_first G_5 h1
      subst eg
      have enm : ((n : Int) != (m : Int)) = true := by simp; omega
      go_wp2_with (first
        | fail)
      refine (num_err 1 _ (HE.out.below KK5)).mono ?_
      rintro e wq6 ⟨rfl, kq6⟩
      have KK6 := below_tr KK5 kq6
      have G_6 := G_5.keep kq6
      have f_6 := CRow.keep f_5 kq6
      clear KK5 G_5 f_5
      go_wp2_with (first
        | (refine St.wpList_load isF (by rfl) _ (by rfl) _ _ (by rfl) (by with_reducible exact f_6) (fvals_len _ _ _) ?_)
        | (refine wpList_buildF0 (by rfl) (by rfl) ?_)
        | (refine wpList_neF (by rfl) _ _ _ (by rfl) _ _ _ (by rfl) (by rfl) ?_)
        | fail)
      go_roundw
      case rel => exact ⟨2, by omega, by go_num, KK6⟩
      case measure => simp [intOf]
    | 2, _ =>
      go_wp2_with fail
      refine (lsure_any _).mono ?_
      rintro e wz ⟨rfl, kz⟩
      go_wp2
      go_ret
      exact ⟨rfl, below_tr kb kz⟩

set_option maxRecDepth 20000 in
set_option maxHeartbeats 4000000 in
theorem lofs_square (lo : Option Addr) (n cm : Nat) (F : Nat → Nat → Int) (more : Int) (w : World) (m0 : -9223372036854775808 ≤ more) (m1 : more ≤ 9223372036854775807) (hE : ErrTab w) (h1 : 1 ≤ n) (h2 : n ≤ 6) (hg : Grid w lo n cm n F) (hF : B2 F) :
    Calls Tryz.prog 3 #[.slice lo n cm, .int .i64 more] w fun e w' => e = .returned (.bool true) ∧ Below w.heap.size w w' := by
  have HE := Hid.mkV hE
  have HG := Hid.mkV hg
  have HBF := Hid.mkV hF
  clear hg hF hE
  go_enter Tryz.func3, Tryz.ntmps3
  go_wp2
  go_loopw [5] (fun ix wr => ∃ k : Nat, k ≤ 2 ∧ ix = .int .i64 (k : Int) ∧ Below w.heap.size w wr) (fun ix _ => 2 - (intOf ix).toNat)
  case atStart => exact ⟨0, by omega, rfl, Below.refl _ _⟩
  case round =>
    obtain ⟨k, hk, rfl, kb⟩ := hrel
    match k, hk with
    | 0, _ =>
      have hG := HG.out.keep kb
      by_cases hsm : Same n F
      · have HSm := Hid.mkV hsm
        clear hsm
        by_cases hfn : ∀ i, i < n → fine F i
        · have HFn := Hid.mkV hfn
          clear hfn
          go_wp2_with (first
            | fail)
          refine (matOf_grid lo n n cm F _ h1 h2 h1 h2 hG).mono ?_
          rintro e wq1 ⟨rfl, kq1⟩
          have KK1 := below_tr kb kq1
          have G_1 := hG.keep kq1
          clear kb hG
          go_wp2_with (first
            | fail)
          refine (ofm_fine n F _ h1 h2 HSm.out HBF.out HFn.out).mono ?_
          rintro e wq2 ⟨rfl, kq2⟩
          have KK2 := below_tr KK1 kq2
          have G_2 := G_1.keep kq2
          clear KK1 G_1
          go_wp2_with (first
            | (rw [zeroF]; refine St.wpList_storeNew isF rfl _ _ (by rfl) _ _ _ (by rfl) (by rfl) (fvals_len _ _ _) (fvals_len _ _ _) (one_fvals _ _ _) ?_; intro ws3 ns3 ks3; have KK3 := below_tr KK2 ks3; have G_3 := G_2.keep ks3; clear KK2 G_2)
            | fail)
          refine (may_grid lo n n cm F _ h1 h2 h1 h2 G_3).mono ?_
          rintro e wq4 ⟨rfl, kq4⟩
          have KK4 := below_tr KK3 kq4
          have G_4 := G_3.keep kq4
          have f_4 := CRow.keep ns3 kq4
          clear KK3 G_3 ns3
          obtain ⟨xg, ag, cg, eg, gc, gl1, gl2⟩ := grid_first G_4 h1
          subst eg
          go_wp2_with (first
            | fail)
          refine (dof_fine n cm (some xg) F _ h1 h2 G_4 HBF.out HSm.out HFn.out).mono ?_
          rintro e wq5 ⟨lo2, cl2, do2, cd2, rfl, hG2, hD2, kq5⟩
          have KK5 := below_tr KK4 kq5
          have f_5 := CRow.keep f_4 kq5
          clear KK4 f_4
          go_wp2_with (first
            | (rw [zeroG]; refine St.wpList_storeNew isG rfl _ _ (by rfl) _ _ _ (by rfl) (by rfl) rfl rfl (by intro v hv; simp at hv; rcases hv with rfl | rfl <;> rfl) ?_; intro ws6 ns6 ks6; have KK6 := below_tr KK5 ks6; have f_6 := CRow.keep f_5 ks6; have G2_6 := hG2.keep ks6; have D2_6 := hD2.keep ks6; clear KK5 f_5 hG2 hD2; have cx0 := GRow.l ns6; have cx1 := GRow.d ns6)
            | fail)
          refine (num_nil _).mono ?_
          rintro e wq7 ⟨rfl, kq7⟩
          have KK7 := below_tr KK6 kq7
          have f_7 := CRow.keep f_6 kq7
          have G2_7 := G2_6.keep kq7
          have D2_7 := D2_6.keep kq7
          have x_7 := CRow.keep ns6 kq7
          clear KK6 f_6 G2_6 D2_6 ns6
          go_wp2_with (first
            | (refine St.wpList_load isF (by rfl) _ (by rfl) _ _ (by rfl) (by with_reducible exact f_7) (fvals_len _ _ _) ?_)
            | fail)
          refine (factorsOf_any n (st F n).1 (st F n).2 _ (may_st h1 h2 HFn.out)).mono ?_
          rintro e wq8 ⟨lo4, cl4, do4, cd4, rfl, hG4, hD4, kq8⟩
          have KK8 := below_tr KK7 kq8
          have f_8 := CRow.keep f_7 kq8
          have G2_8 := G2_7.keep kq8
          have D2_8 := D2_7.keep kq8
          have x_8 := CRow.keep x_7 kq8
          clear KK7 f_7 G2_7 D2_7 x_7
          go_wp2_with (first
            | (rw [zeroG]; refine St.wpList_storeNew isG rfl _ _ (by rfl) _ _ _ (by rfl) (by rfl) rfl rfl (by intro v hv; simp at hv; rcases hv with rfl | rfl <;> rfl) ?_; intro ws9 ns9 ks9; have KK9 := below_tr KK8 ks9; have f_9 := CRow.keep f_8 ks9; have G2_9 := G2_8.keep ks9; have D2_9 := D2_8.keep ks9; have x_9 := CRow.keep x_8 ks9; have G4_9 := hG4.keep ks9; have D4_9 := hD4.keep ks9; clear KK8 f_8 G2_8 D2_8 x_8 hG4 hD4; have cy0 := GRow.l ns9; have cy1 := GRow.d ns9; have cz0 := GRow.l x_9; have cz1 := GRow.d x_9)
            | fail)
          refine (sameRows_yes n n _ _ _ _ (st F n).1 _ h2 G4_9 G2_9).mono ?_
          rintro e wq10 ⟨rfl, kq10⟩
          have KK10 := below_tr KK9 kq10
          have f_10 := CRow.keep f_9 kq10
          have G2_10 := G2_9.keep kq10
          have D2_10 := D2_9.keep kq10
          have x_10 := CRow.keep x_9 kq10
          have G4_10 := G4_9.keep kq10
          have D4_10 := D4_9.keep kq10
          have y_10 := CRow.keep ns9 kq10
          clear KK9 f_9 G2_9 D2_9 x_9 G4_9 D4_9 ns9
          have cy2 := GRow.d y_10
          have cx2 := GRow.d x_10
          go_wp2_with (first
            | fail)
          refine (nums_yes _ _ n _ _ _ _ D4_10 D2_10).mono ?_
          rintro e wq11 ⟨rfl, kq11⟩
          have KK11 := below_tr KK10 kq11
          have f_11 := CRow.keep f_10 kq11
          have G2_11 := G2_10.keep kq11
          have D2_11 := D2_10.keep kq11
          have x_11 := CRow.keep x_10 kq11
          have G4_11 := G4_10.keep kq11
          have D4_11 := D4_10.keep kq11
          have y_11 := CRow.keep y_10 kq11
          clear KK10 f_10 G2_10 D2_10 x_10 G4_10 D4_10 y_10
          have HCk := fcheck_any n (mz n n (st F n).1) (st F n).2
          rw [resC_yes (may_st h1 h2 HFn.out)] at HCk
          have HCh := Hid.mkV HCk
          clear HCk
          go_wp2_with (first
            | (refine St.wpList_load isF (by rfl) _ (by rfl) _ _ (by rfl) (by with_reducible exact f_11) (fvals_len _ _ _) ?_)
            | fail)
          refine (HCh.out _).mono ?_
          rintro e wq12 ⟨rfl, kq12⟩
          have KK12 := below_tr KK11 kq12
          have f_12 := CRow.keep f_11 kq12
          have G2_12 := G2_11.keep kq12
          have D2_12 := D2_11.keep kq12
          have x_12 := CRow.keep x_11 kq12
          have G4_12 := G4_11.keep kq12
          have D4_12 := D4_11.keep kq12
          have y_12 := CRow.keep y_11 kq12
          clear KK11 f_11 G2_11 D2_11 x_11 G4_11 D4_11 y_11
          go_wp2
          go_roundw
          case rel => exact ⟨1, by omega, by go_num, KK12⟩
          case measure => simp [intOf]
        · have HFn := Hid.mkV hfn
          clear hfn
          go_wp2_with (first
            | fail)
          refine (matOf_grid lo n n cm F _ h1 h2 h1 h2 hG).mono ?_
          rintro e wq1 ⟨rfl, kq1⟩
          have KK1 := below_tr kb kq1
          have G_1 := hG.keep kq1
          clear kb hG
          go_wp2_with (first
            | fail)
          refine (ofm_none n F _ h1 h2 HSm.out HBF.out HFn.out).mono ?_
          rintro e wq2 ⟨rfl, kq2⟩
          have KK2 := below_tr KK1 kq2
          have G_2 := G_1.keep kq2
          clear KK1 G_1
          go_wp2_with (first
            | (rw [zeroF]; refine St.wpList_storeNew isF rfl _ _ (by rfl) _ _ _ (by rfl) (by rfl) (fvals_len _ _ _) (fvals_len _ _ _) (one_fvals _ _ _) ?_; intro ws3 ns3 ks3; have KK3 := below_tr KK2 ks3; have G_3 := G_2.keep ks3; clear KK2 G_2)
            | fail)
          refine (may_grid lo n n cm F _ h1 h2 h1 h2 G_3).mono ?_
          rintro e wq4 ⟨rfl, kq4⟩
          have KK4 := below_tr KK3 kq4
          have G_4 := G_3.keep kq4
          have f_4 := CRow.keep ns3 kq4
          clear KK3 G_3 ns3
          obtain ⟨xg, ag, cg, eg, gc, gl1, gl2⟩ := grid_first G_4 h1
          subst eg
          go_wp2_with (first
            | fail)
          refine (dof_none n cm (some xg) F _ h1 h2 G_4 HBF.out HSm.out HFn.out).mono ?_
          rintro e wq5 ⟨rfl, kq5⟩
          have KK5 := below_tr KK4 kq5
          have f_5 := CRow.keep f_4 kq5
          clear KK4 f_4
          go_wp2_with (first
            | (rw [zeroG]; refine St.wpList_storeNew isG rfl _ _ (by rfl) _ _ _ (by rfl) (by rfl) rfl rfl (by intro v hv; simp at hv; rcases hv with rfl | rfl <;> rfl) ?_; intro ws6 ns6 ks6; have KK6 := below_tr KK5 ks6; have f_6 := CRow.keep f_5 ks6; clear KK5 f_5)
            | fail)
          refine (num_err 8 _ (HE.out.below KK6)).mono ?_
          rintro e wq7 ⟨rfl, kq7⟩
          have KK7 := below_tr KK6 kq7
          have f_7 := CRow.keep f_6 kq7
          have x_7 := CRow.keep ns6 kq7
          clear KK6 f_6 ns6
          go_wp2_with (first
            | (refine St.wpList_load isF (by rfl) _ (by rfl) _ _ (by rfl) (by with_reducible exact f_7) (fvals_len _ _ _) ?_)
            | (refine wpList_buildF0 (by rfl) (by rfl) ?_)
            | (refine wpList_neF (by rfl) _ _ _ (by rfl) _ _ _ (by rfl) (by rfl) ?_)
            | fail)
          go_roundw
          case rel => exact ⟨1, by omega, by go_num, KK7⟩
          case measure => simp [intOf]
      · have HSm := Hid.mkV hsm
        clear hsm
        go_wp2_with (first
          | fail)
        refine (matOf_grid lo n n cm F _ h1 h2 h1 h2 hG).mono ?_
        rintro e wq1 ⟨rfl, kq1⟩
        have KK1 := below_tr kb kq1
        have G_1 := hG.keep kq1
        clear kb hG
        go_wp2_with (first
          | fail)
        refine (lof_odd n n F _ h1 h2 h1 h2 (fun h => HSm.out h.2)).mono ?_
        rintro e wq2 ⟨rfl, kq2⟩
        have KK2 := below_tr KK1 kq2
        have G_2 := G_1.keep kq2
        clear KK1 G_1
        go_wp2_with (first
          | (rw [zeroF]; refine St.wpList_storeNew isF rfl _ _ (by rfl) _ _ _ (by rfl) (by rfl) (fvals_len _ _ _) (fvals_len _ _ _) (one_fvals _ _ _) ?_; intro ws3 ns3 ks3; have KK3 := below_tr KK2 ks3; have G_3 := G_2.keep ks3; clear KK2 G_2)
          | fail)
        refine (may_grid lo n n cm F _ h1 h2 h1 h2 G_3).mono ?_
        rintro e wq4 ⟨rfl, kq4⟩
        have KK4 := below_tr KK3 kq4
        have G_4 := G_3.keep kq4
        have f_4 := CRow.keep ns3 kq4
        clear KK3 G_3 ns3
        obtain ⟨xg, ag, cg, eg, gc, gl1, gl2⟩ := grid_first G_4 h1
        subst eg
        go_wp2_with (first
          | fail)
        refine (dof_odd n cm (some xg) F _ h1 h2 G_4 HBF.out HSm.out).mono ?_
        rintro e wq5 ⟨rfl, kq5⟩
        have KK5 := below_tr KK4 kq5
        have f_5 := CRow.keep f_4 kq5
        clear KK4 f_4
        go_wp2_with (first
          | (rw [zeroG]; refine St.wpList_storeNew isG rfl _ _ (by rfl) _ _ _ (by rfl) (by rfl) rfl rfl (by intro v hv; simp at hv; rcases hv with rfl | rfl <;> rfl) ?_; intro ws6 ns6 ks6; have KK6 := below_tr KK5 ks6; have f_6 := CRow.keep f_5 ks6; clear KK5 f_5)
          | fail)
        refine (num_err 1 _ (HE.out.below KK6)).mono ?_
        rintro e wq7 ⟨rfl, kq7⟩
        have KK7 := below_tr KK6 kq7
        have f_7 := CRow.keep f_6 kq7
        have x_7 := CRow.keep ns6 kq7
        clear KK6 f_6 ns6
        go_wp2_with (first
          | (refine St.wpList_load isF (by rfl) _ (by rfl) _ _ (by rfl) (by with_reducible exact f_7) (fvals_len _ _ _) ?_)
          | (refine wpList_buildF0 (by rfl) (by rfl) ?_)
          | (refine wpList_neF (by rfl) _ _ _ (by rfl) _ _ _ (by rfl) (by rfl) ?_)
          | fail)
        go_roundw
        case rel => exact ⟨1, by omega, by go_num, KK7⟩
        case measure => simp [intOf]
    | 1, _ =>
      have hG := HG.out.keep kb
      by_cases hfn : ∀ i, i < n → fine (evF F more) i
      · have HFn := Hid.mkV hfn
        clear hfn
        go_wp2_with (first
          | fail)
        refine (even_yes n cm lo F more _ h1 h2 hG m0 m1).mono ?_
        rintro e wq1 ⟨lo1, cm1, rfl, hG1, kq1⟩
        have KK1 := below_tr kb kq1
        clear kb
        go_wp2_with (first
          | fail)
        refine (matOf_grid lo1 n n cm1 (evF F more) _ h1 h2 h1 h2 hG1).mono ?_
        rintro e wq2 ⟨rfl, kq2⟩
        have KK2 := below_tr KK1 kq2
        have G_2 := hG1.keep kq2
        clear KK1 hG1
        go_wp2_with (first
          | fail)
        refine (ofm_fine n (evF F more) _ h1 h2 (evF_same F more n) (evF_b2 F more) HFn.out).mono ?_
        rintro e wq3 ⟨rfl, kq3⟩
        have KK3 := below_tr KK2 kq3
        have G_3 := G_2.keep kq3
        clear KK2 G_2
        go_wp2_with (first
          | (rw [zeroF]; refine St.wpList_storeNew isF rfl _ _ (by rfl) _ _ _ (by rfl) (by rfl) (fvals_len _ _ _) (fvals_len _ _ _) (one_fvals _ _ _) ?_; intro ws4 ns4 ks4; have KK4 := below_tr KK3 ks4; have G_4 := G_3.keep ks4; clear KK3 G_3)
          | fail)
        refine (may_grid lo1 n n cm1 (evF F more) _ h1 h2 h1 h2 G_4).mono ?_
        rintro e wq5 ⟨rfl, kq5⟩
        have KK5 := below_tr KK4 kq5
        have G_5 := G_4.keep kq5
        have f_5 := CRow.keep ns4 kq5
        clear KK4 G_4 ns4
        obtain ⟨xg, ag, cg, eg, gc, gl1, gl2⟩ := grid_first G_5 h1
        subst eg
        go_wp2_with (first
          | fail)
        refine (dof_fine n cm1 (some xg) (evF F more) _ h1 h2 G_5 (evF_b2 F more) (evF_same F more n) HFn.out).mono ?_
        rintro e wq6 ⟨lo2, cl2, do2, cd2, rfl, hG2, hD2, kq6⟩
        have KK6 := below_tr KK5 kq6
        have f_6 := CRow.keep f_5 kq6
        clear KK5 f_5
        go_wp2_with (first
          | (rw [zeroG]; refine St.wpList_storeNew isG rfl _ _ (by rfl) _ _ _ (by rfl) (by rfl) rfl rfl (by intro v hv; simp at hv; rcases hv with rfl | rfl <;> rfl) ?_; intro ws7 ns7 ks7; have KK7 := below_tr KK6 ks7; have f_7 := CRow.keep f_6 ks7; have G2_7 := hG2.keep ks7; have D2_7 := hD2.keep ks7; clear KK6 f_6 hG2 hD2; have cx0 := GRow.l ns7; have cx1 := GRow.d ns7)
          | fail)
        refine (num_nil _).mono ?_
        rintro e wq8 ⟨rfl, kq8⟩
        have KK8 := below_tr KK7 kq8
        have f_8 := CRow.keep f_7 kq8
        have G2_8 := G2_7.keep kq8
        have D2_8 := D2_7.keep kq8
        have x_8 := CRow.keep ns7 kq8
        clear KK7 f_7 G2_7 D2_7 ns7
        go_wp2_with (first
          | (refine St.wpList_load isF (by rfl) _ (by rfl) _ _ (by rfl) (by with_reducible exact f_8) (fvals_len _ _ _) ?_)
          | fail)
        refine (factorsOf_any n (st (evF F more) n).1 (st (evF F more) n).2 _ (may_st h1 h2 HFn.out)).mono ?_
        rintro e wq9 ⟨lo4, cl4, do4, cd4, rfl, hG4, hD4, kq9⟩
        have KK9 := below_tr KK8 kq9
        have f_9 := CRow.keep f_8 kq9
        have G2_9 := G2_8.keep kq9
        have D2_9 := D2_8.keep kq9
        have x_9 := CRow.keep x_8 kq9
        clear KK8 f_8 G2_8 D2_8 x_8
        go_wp2_with (first
          | (rw [zeroG]; refine St.wpList_storeNew isG rfl _ _ (by rfl) _ _ _ (by rfl) (by rfl) rfl rfl (by intro v hv; simp at hv; rcases hv with rfl | rfl <;> rfl) ?_; intro ws10 ns10 ks10; have KK10 := below_tr KK9 ks10; have f_10 := CRow.keep f_9 ks10; have G2_10 := G2_9.keep ks10; have D2_10 := D2_9.keep ks10; have x_10 := CRow.keep x_9 ks10; have G4_10 := hG4.keep ks10; have D4_10 := hD4.keep ks10; clear KK9 f_9 G2_9 D2_9 x_9 hG4 hD4; have cy0 := GRow.l ns10; have cy1 := GRow.d ns10; have cz0 := GRow.l x_10; have cz1 := GRow.d x_10)
          | fail)
        refine (sameRows_yes n n _ _ _ _ (st (evF F more) n).1 _ h2 G4_10 G2_10).mono ?_
        rintro e wq11 ⟨rfl, kq11⟩
        have KK11 := below_tr KK10 kq11
        have f_11 := CRow.keep f_10 kq11
        have G2_11 := G2_10.keep kq11
        have D2_11 := D2_10.keep kq11
        have x_11 := CRow.keep x_10 kq11
        have G4_11 := G4_10.keep kq11
        have D4_11 := D4_10.keep kq11
        have y_11 := CRow.keep ns10 kq11
        clear KK10 f_10 G2_10 D2_10 x_10 G4_10 D4_10 ns10
        have cy2 := GRow.d y_11
        have cx2 := GRow.d x_11
        go_wp2_with (first
          | fail)
        refine (nums_yes _ _ n _ _ _ _ D4_11 D2_11).mono ?_
        rintro e wq12 ⟨rfl, kq12⟩
        have KK12 := below_tr KK11 kq12
        have f_12 := CRow.keep f_11 kq12
        have G2_12 := G2_11.keep kq12
        have D2_12 := D2_11.keep kq12
        have x_12 := CRow.keep x_11 kq12
        have G4_12 := G4_11.keep kq12
        have D4_12 := D4_11.keep kq12
        have y_12 := CRow.keep y_11 kq12
        clear KK11 f_11 G2_11 D2_11 x_11 G4_11 D4_11 y_11
        have HCk := fcheck_any n (mz n n (st (evF F more) n).1) (st (evF F more) n).2
        rw [resC_yes (may_st h1 h2 HFn.out)] at HCk
        have HCh := Hid.mkV HCk
        clear HCk
        go_wp2_with (first
          | (refine St.wpList_load isF (by rfl) _ (by rfl) _ _ (by rfl) (by with_reducible exact f_12) (fvals_len _ _ _) ?_)
          | fail)
        refine (HCh.out _).mono ?_
        rintro e wq13 ⟨rfl, kq13⟩
        have KK13 := below_tr KK12 kq13
        have f_13 := CRow.keep f_12 kq13
        have G2_13 := G2_12.keep kq13
        have D2_13 := D2_12.keep kq13
        have x_13 := CRow.keep x_12 kq13
        have G4_13 := G4_12.keep kq13
        have D4_13 := D4_12.keep kq13
        have y_13 := CRow.keep y_12 kq13
        clear KK12 f_12 G2_12 D2_12 x_12 G4_12 D4_12 y_12
        go_wp2
        go_roundw
        case rel => exact ⟨2, by omega, by go_num, KK13⟩
        case measure => simp [intOf]
      · have HFn := Hid.mkV hfn
        clear hfn
        go_wp2_with (first
          | fail)
        refine (even_yes n cm lo F more _ h1 h2 hG m0 m1).mono ?_
        rintro e wq1 ⟨lo1, cm1, rfl, hG1, kq1⟩
        have KK1 := below_tr kb kq1
        clear kb
        go_wp2_with (first
          | fail)
        refine (matOf_grid lo1 n n cm1 (evF F more) _ h1 h2 h1 h2 hG1).mono ?_
        rintro e wq2 ⟨rfl, kq2⟩
        have KK2 := below_tr KK1 kq2
        have G_2 := hG1.keep kq2
        clear KK1 hG1
        go_wp2_with (first
          | fail)
        refine (ofm_none n (evF F more) _ h1 h2 (evF_same F more n) (evF_b2 F more) HFn.out).mono ?_
        rintro e wq3 ⟨rfl, kq3⟩
        have KK3 := below_tr KK2 kq3
        have G_3 := G_2.keep kq3
        clear KK2 G_2
        go_wp2_with (first
          | (rw [zeroF]; refine St.wpList_storeNew isF rfl _ _ (by rfl) _ _ _ (by rfl) (by rfl) (fvals_len _ _ _) (fvals_len _ _ _) (one_fvals _ _ _) ?_; intro ws4 ns4 ks4; have KK4 := below_tr KK3 ks4; have G_4 := G_3.keep ks4; clear KK3 G_3)
          | fail)
        refine (may_grid lo1 n n cm1 (evF F more) _ h1 h2 h1 h2 G_4).mono ?_
        rintro e wq5 ⟨rfl, kq5⟩
        have KK5 := below_tr KK4 kq5
        have G_5 := G_4.keep kq5
        have f_5 := CRow.keep ns4 kq5
        clear KK4 G_4 ns4
        obtain ⟨xg, ag, cg, eg, gc, gl1, gl2⟩ := grid_first G_5 h1
        subst eg
        go_wp2_with (first
          | fail)
        refine (dof_none n cm1 (some xg) (evF F more) _ h1 h2 G_5 (evF_b2 F more) (evF_same F more n) HFn.out).mono ?_
        rintro e wq6 ⟨rfl, kq6⟩
        have KK6 := below_tr KK5 kq6
        have f_6 := CRow.keep f_5 kq6
        clear KK5 f_5
        go_wp2_with (first
          | (rw [zeroG]; refine St.wpList_storeNew isG rfl _ _ (by rfl) _ _ _ (by rfl) (by rfl) rfl rfl (by intro v hv; simp at hv; rcases hv with rfl | rfl <;> rfl) ?_; intro ws7 ns7 ks7; have KK7 := below_tr KK6 ks7; have f_7 := CRow.keep f_6 ks7; clear KK6 f_6)
          | fail)
        refine (num_err 8 _ (HE.out.below KK7)).mono ?_
        rintro e wq8 ⟨rfl, kq8⟩
        have KK8 := below_tr KK7 kq8
        have f_8 := CRow.keep f_7 kq8
        have x_8 := CRow.keep ns7 kq8
        clear KK7 f_7 ns7
        go_wp2_with (first
          | (refine St.wpList_load isF (by rfl) _ (by rfl) _ _ (by rfl) (by with_reducible exact f_8) (fvals_len _ _ _) ?_)
          | (refine wpList_buildF0 (by rfl) (by rfl) ?_)
          | (refine wpList_neF (by rfl) _ _ _ (by rfl) _ _ _ (by rfl) (by rfl) ?_)
          | fail)
        go_roundw
        case rel => exact ⟨2, by omega, by go_num, KK8⟩
        case measure => simp [intOf]
    | 2, _ =>
      go_wp2_with fail
      refine (lsure_any _).mono ?_
      rintro e wz ⟨rfl, kz⟩
      go_wp2
      go_ret
      exact ⟨rfl, below_tr kb kz⟩

theorem isrows11 {w : World} {a : Option Addr} {len cap : Nat} {A : Nat → Option Addr} {L C : Nat → Nat} {Z : Nat → List Int} (h : FLdlOf.IsRows .i64 w a len cap A L C Z) :
    Sls w a len cap A L C ∧ ∀ r, r < len → Sl w (A r) (L r) (C r) (fun k => (Z r).getD k 0) ∧ B64 (fun k => (Z r).getD k 0) := by
  rcases h with ⟨rfl, rfl, rfl⟩ | ⟨x, rfl, h1, h2, h3⟩
  · exact ⟨⟨Nat.le_refl _, by omega, fun j hj => by omega⟩, fun r hr => by omega⟩
  · refine ⟨⟨h1, h2, fun j hj => ⟨x, rfl, (h3 j (by omega)).1⟩⟩, fun r hr => ?_⟩
    obtain ⟨r1, r2, r3, r4, r5, r6, r7⟩ := h3 r (by omega)
    refine ⟨⟨r2, r3, fun k hk => ?_⟩, getD_b r5⟩
    cases e : A r with
    | none => have := r6 e; omega
    | some y => exact ⟨y, rfl, r7 y e k (by omega)⟩

theorem lof_walk : FLdlOf.Walk := by
  intro a0 len0 cap0 A0 L0 C0 Z0 a1 w h0 h1 hE
  obtain ⟨s0, q0⟩ := isrows11 h0
  have b1 := bounds_i64 h1
  rcases rows_cases s0 q0 with ⟨m, F, g1, g2, g3, g4, gG, gB, _, _⟩ | ⟨x1, x2⟩
  · by_cases hnm : len0 = m
    · subst hnm
      exact lofs_square a0 len0 cap0 F a1 w b1.1 b1.2 hE g1 g2 gG gB
    · exact lofs_size a0 len0 cap0 m F a1 w b1.1 b1.2 hE g1 g2 g3 g4 gG hnm
  · exact lofs_bad a0 len0 cap0 a1 w b1.1 b1.2 hE x1 x2

/-- The law LdlOf, of any input. -/
theorem ldlOf_holds : Rows.LdlOfCardSaid := FLdlOf.card lof_walk

end Go.Proofs.YtfgjigkgfflofaaGreatDoor
