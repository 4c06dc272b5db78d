/-
  What is proved: whatever rows and places it is given, the law MatParts of layer 8 returns true, ends without a panic, and leaves what was there as it was; its condition: the library's variable errors.errorType holds what the program's text lays there, which the card ties. (By py/MParts.py.)
-/
import Derived.Test.YtgmagehgnjopcaaDoorMtT
import Derived.Test.YtgmagehgnjopcaaDoorMtS
import Derived.Test.YtgmagehgnjopcaaDoorErrA
import Derived.Test.YtgmagehgnjopcaaDoorFMatParts
import Derived.Deep.CutRange
import Derived.Deep.DeepCutAuto
set_option linter.unusedSimpArgs false
set_option linter.unusedVariables false
namespace Go.Proofs.YtgmagehgnjopcaaDoor
open Go.RowKit Vc Mt Qn Dt

theorem isrows6 {w : World} {a : Option Addr} {len cap : Nat} {A : Nat → Option Addr} {L C : Nat → Nat} {Z : Nat → List Int} (h : FMatParts.IsRows .i64 w a len cap A L C Z) :
    Sls w a len cap A L C ∧ ∀ r, r < len → Sl w (A r) (L r) (C r) (fun k => (Z r).getD k 0) ∧ B64 (fun k => (Z r).getD k 0) := by
  rcases h with ⟨rfl, rfl, rfl⟩ | ⟨x, rfl, h1, h2, h3⟩
  · exact ⟨⟨Nat.le_refl _, by omega, fun j hj => by omega⟩, fun r hr => by omega⟩
  · refine ⟨⟨h1, h2, fun j hj => ⟨x, rfl, (h3 j (by omega)).1⟩⟩, fun r hr => ?_⟩
    obtain ⟨r1, r2, r3, r4, r5, r6, r7⟩ := h3 r (by omega)
    refine ⟨⟨r2, r3, fun k hk => ?_⟩, getD_b r5⟩
    cases e : A r with
    | none => have := r6 e; omega
    | some y => exact ⟨y, rfl, r7 y e k (by omega)⟩

set_option maxRecDepth 20000 in
set_option maxHeartbeats 4000000 in
theorem mparts_no (lo : Option Addr) (n cm : Nat) (i j : Int) (w : World) (hE : ErrTab w)
    (hm : ∀ W, Below w.heap.size w W → Calls Tryd.prog 12 #[.slice lo n cm] W fun e w' => e = .returned (.bool false) ∧ Below W.heap.size W w')
    (ho : ∀ W, Below w.heap.size w W → Calls Tryd.prog 6 #[.slice lo n cm] W fun e w' => e = .returned (.tuple #[.agg (mvals 0 0 (fun _ => 0)).toArray, .iface 64 (.int .i64 1)]) ∧ Below W.heap.size W w') :
    Calls Tryd.prog 3 #[.slice lo n cm, .int .i64 i, .int .i64 j] w fun e w' => e = .returned (.bool true) ∧ Below w.heap.size w w' := by
  have HM := Hid.mkV hm
  have HO := Hid.mkV (ho w (Below.refl _ _))
  have HE := Hid.mkV hE
  obtain ⟨ry, cy, zy, fy, ey1, ey2, ey3⟩ := meye_cases i
  have EY := Hid.mkV ey1
  have HEY := Hid.mkV (And.intro ey2 ey3)
  obtain ⟨ob, hob⟩ : ∃ b, b = decide (¬ (1 ≤ i ∧ i ≤ 6)) := ⟨_, rfl⟩
  have HOB := Hid.mkV hob
  have hN : ¬ May 0 0 (fun _ => 0) := by
    rintro ⟨n, m, e1, _, h1, _⟩
    omega
  have HN := Hid.mkV hN
  clear hm ho hE ey1 ey2 ey3 hob hN
  go_enter Tryd.func3, Tryd.ntmps3
  go_wp2_with fail
  refine HO.out.mono ?_
  rintro e w1 ⟨rfl, k1⟩
  go_wp2_with (first
    | (rw [zeroM]; refine wpList_storeNew rfl _ _ (by rfl) _ _ _ _ (by rfl) (by rfl) ?_; intro ws11 ns11 ks11; have KK11 := below_tr k1 ks11; clear k1)
    | fail)
  refine (EY.out _).mono ?_
  rintro e wq12 ⟨rfl, kq12⟩
  have KK12 := below_tr KK11 kq12
  have m_12 := ns11.keep kq12
  clear KK11 ns11
  go_upto_region 3 with (first
    | (rw [zeroM]; refine wpList_storeNew rfl _ _ (by rfl) _ _ _ _ (by rfl) (by rfl) ?_; intro ws13 ns13 ks13; have KK13 := below_tr KK12 ks13; have m_13 := m_12.keep ks13; clear KK12 m_12)
    | fail)
  go_cut [39] (fun b wx => b = .bool ob ∧ ws13 = wx)
  case first =>
    as_aux_lemma =>
    by_cases g1 : i < 1
    · have e1 : decide (i < 1) = true := decide_eq_true g1
      have e3 : ob = true := by rw [HOB.out]; exact decide_eq_true (by omega)
      clear g1
      go_wp2
      go_meet
      exact ⟨by rw [e3], rfl⟩
    · have e1 : decide (i < 1) = false := decide_eq_false g1
      by_cases g2 : i > 6
      · have e2 : decide (i > 6) = true := decide_eq_true g2
        have e3 : ob = true := by rw [HOB.out]; exact decide_eq_true (by omega)
        clear g1 g2
        go_wp2
        go_meet
        exact ⟨by rw [e3], rfl⟩
      · have e2 : decide (i > 6) = false := decide_eq_false g2
        have e3 : ob = false := by rw [HOB.out]; exact decide_eq_false (by omega)
        clear g1 g2
        go_wp2
        go_meet
        exact ⟨by rw [e3], rfl⟩
  case rest =>
  as_aux_lemma =>
  obtain ⟨rfl, rfl⟩ := hcut
  go_upto_if 39 with fail
  go_cut [] (fun wx => MRow wx w1.heap.size 0 0 (fun _ => 0) ∧ Below w.heap.size w wx)
  case first =>
    as_aux_lemma =>
    cases ob
    · have hi : 1 ≤ i ∧ i ≤ 6 := by
        have := HOB.out.symm
        rw [decide_eq_false_iff_not] at this
        omega
      obtain ⟨t, rfl⟩ : ∃ t : Nat, i = t := ⟨i.toNat, by omega⟩
      obtain ⟨rfl, rfl, hzy, rfl⟩ := HEY.out.2 t rfl (by omega) (by omega)
      rw [hzy] at ns13
      have h5 : 1 ≤ t := by omega
      have h6 : t ≤ 6 := by omega
      obtain ⟨ye, hye⟩ : ∃ ye, ye = mz t t eyeF := ⟨_, rfl⟩
      rw [← hye] at ns13
      have HR := Hid.mkV (fun W => rowsOf_any t t eyeF W h5 h6 h5 h6)
      rw [← hye] at HR
      clear hzy hye hi HOB HEY
      go_wp2_with (first
        | (refine wpList_loadM (by rfl) _ (by rfl) _ _ _ _ (by rfl) (by with_reducible exact ns13) ?_)
        | fail)
      refine (HR.out _).mono ?_
      rintro e wa ⟨la, ca, rfl, ga, ka⟩
      go_wp2_with fail
      refine (reye_any t _ h5 h6).mono ?_
      rintro e wb ⟨lb, cb, rfl, gb, kb⟩
      have ga2 := ga.keep kb
      go_wp2_with fail
      refine (sameRows_yes t t ca cb la lb eyeF _ h6 ga2 gb).mono ?_
      rintro e wd ⟨rfl, kd⟩
      have kk := below_tr (below_tr ka kb) kd
      have mz' := m_13.keep kk
      have KZ := below_tr KK13 kk
      go_wp2
      go_meet
      exact ⟨mz', KZ⟩
    · have hi : ¬ (1 ≤ i ∧ i ≤ 6) := by
        have := HOB.out.symm
        rw [decide_eq_true_iff] at this
        exact this
      obtain ⟨rfl, rfl, rfl, rfl⟩ := HEY.out.1 hi
      clear hi HOB HEY
      go_wp2_with fail
      refine (num_err 1 _ (HE.out.below KK13)).mono ?_
      rintro e wa ⟨rfl, ka⟩
      have y' := ns13.keep ka
      have mz' := m_13.keep ka
      have KZ := below_tr KK13 ka
      go_wp2_with (first
        | (refine wpList_loadM (by rfl) _ (by rfl) _ _ _ _ (by rfl) (by with_reducible exact y') ?_)
        | (refine wpList_build0g (by rfl) (by rfl) ?_)
        | (refine wpList_neM (by rfl) _ _ _ (by rfl) _ _ _ (by rfl) (by rfl) ?_)
        | fail)
      go_meet
      exact ⟨mz', KZ⟩
  case rest =>
  as_aux_lemma =>
  obtain ⟨mc, KC⟩ := hcut
  go_wp2_with (first
    | fail)
  refine (HM.out _ KC).mono ?_
  rintro e wq31 ⟨rfl, kq31⟩
  have KK31 := below_tr KC kq31
  have m_31 := mc.keep kq31
  clear KC mc
  go_wp2_with (first
    | (refine wpList_loadM (by rfl) _ (by rfl) _ _ _ _ (by rfl) (by with_reducible exact m_31) ?_)
    | fail)
  refine (mturn_not _ _ _ _ HN.out).mono ?_
  rintro e wq32 ⟨rfl, kq32⟩
  have KK32 := below_tr KK31 kq32
  have m_32 := m_31.keep kq32
  clear KK31 m_31
  go_wp2_with (first
    | (rw [zeroM]; refine wpList_storeNew rfl _ _ (by rfl) _ _ _ _ (by rfl) (by rfl) ?_; intro ws33 ns33 ks33; have KK33 := below_tr KK32 ks33; have m_33 := m_32.keep ks33; clear KK32 m_32)
    | fail)
  refine (num_err 1 _ (HE.out.below KK33)).mono ?_
  rintro e wq34 ⟨rfl, kq34⟩
  have KK34 := below_tr KK33 kq34
  have m_34 := m_33.keep kq34
  have t_34 := ns33.keep kq34
  clear KK33 m_33 ns33
  go_wp2_with (first
    | (refine wpList_loadM (by rfl) _ (by rfl) _ _ _ _ (by rfl) (by with_reducible exact m_34) ?_)
    | (refine wpList_build0g (by rfl) (by rfl) ?_)
    | (refine wpList_eqM (by rfl) _ _ _ (by rfl) _ _ _ (by rfl) (by rfl) ?_)
    | fail)
  refine (num_err 1 _ (HE.out.below KK34)).mono ?_
  rintro e wq35 ⟨rfl, kq35⟩
  have KK35 := below_tr KK34 kq35
  have m_35 := m_34.keep kq35
  have t_35 := t_34.keep kq35
  clear KK34 m_34 t_34
  go_wp2_with (first
    | (refine wpList_loadM (by rfl) _ (by rfl) _ _ _ _ (by rfl) (by with_reducible exact m_35) ?_)
    | fail)
  refine (check_not _ HN.out).mono ?_
  rintro e wq36 ⟨rfl, kq36⟩
  have KK36 := below_tr KK35 kq36
  have m_36 := m_35.keep kq36
  have t_36 := t_35.keep kq36
  clear KK35 m_35 t_35
  go_wp2_with (first
    | fail)
  refine (num_err 1 _ (HE.out.below KK36)).mono ?_
  rintro e wq37 ⟨rfl, kq37⟩
  have KK37 := below_tr KK36 kq37
  have m_37 := m_36.keep kq37
  have t_37 := t_36.keep kq37
  clear KK36 m_36 t_36
  go_wp2_with (first
    | fail)
  refine (msure_any _).mono ?_
  rintro e wz ⟨rfl, kz⟩
  go_wp2
  go_ret
  exact ⟨rfl, below_tr KK37 kz⟩

set_option maxRecDepth 20000 in
set_option maxHeartbeats 6000000 in
theorem mparts_yes (lo : Option Addr) (n cm m : Nat) (F : Nat → Nat → Int) (i j : Int) (w : World) (h1 : 1 ≤ n) (h2 : n ≤ 6) (h3 : 1 ≤ m) (h4 : m ≤ 6) (gr : Grid w lo n cm m F) (hF : B2 F) (hE : ErrTab w)
    (i0 : -9223372036854775808 ≤ i) (i1 : i ≤ 9223372036854775807) (j0 : -9223372036854775808 ≤ j) (j1 : j ≤ 9223372036854775807) :
    Calls Tryd.prog 3 #[.slice lo n cm, .int .i64 i, .int .i64 j] w fun e w' => e = .returned (.bool true) ∧ Below w.heap.size w w' := by
  have GR := Hid.mkV gr
  obtain ⟨A, C, hS, hZ⟩ := gr
  have HM := Hid.mkV (fun W (b : Below w.heap.size w W) => rmay_yes n m cm lo A C W (hS.keep b) h1 h2 h3 h4)
  have HO := Hid.mkV (mof_any n m lo cm A C F w h1 h2 h3 h4 hS hZ)
  obtain ⟨x, hlo, hcl⟩ := hS.get
  obtain rfl := hlo (by omega)
  have l1 := hS.le
  have l2 := hS.cap
  have c0 : w.cell? x = some (.slice (A 0) m (C 0)) := hcl 0 (by omega)
  have HC := Hid.mkV hcl
  have HZ := Hid.mkV hZ
  have HE := Hid.mkV hE
  obtain ⟨ry, cy, zy, fy, ey1, ey2, ey3⟩ := meye_cases i
  have EY := Hid.mkV ey1
  have HEY := Hid.mkV (And.intro ey2 ey3)
  obtain ⟨X, fx, at1, at2, at3⟩ := mat_cases n m F i j h1 h2 h3 h4
  have AT := Hid.mkV at1
  have HAT := Hid.mkV (And.intro at2 at3)
  have RO := Hid.mkV (fun W => mrow_cases n m F i W h1 h2 h3 h4)
  have TU := Hid.mkV (fun W => mturn_any n m F W h1 h2 h3 h4)
  obtain ⟨r2, c2, z2, t2, f2, ev1, ev2, ev3⟩ := meven_cases n m F h1 h2 h3 h4 hF
  have EV := Hid.mkV ev1
  have HEV := Hid.mkV (And.intro ev2 ev3)
  have RM := Hid.mkV (fun W => rowsOf_any n m F W h1 h2 h3 h4)
  have RT := Hid.mkV (fun W => rowsOf_any m n (fun i j => F j i) W h3 h4 h1 h2)
  have RE : Hid (n = m → ∀ W, Calls Tryd.prog 10 #[.agg (mvals n n (mz n n (fun i j => clamp (evR F i j)))).toArray] W fun e w' => ∃ lo cm, e = .returned (.slice lo n cm) ∧ Grid w' lo n cm n (fun i j => clamp (evR F i j)) ∧ Below W.heap.size W w') := fun _ W => rowsOf_any n n _ W h1 h2 h1 h2
  have DE : Hid (n = m → ∀ W, Below w.heap.size w W → Calls Tryd.prog 21 #[.slice (some x) n cm] W fun e w' => ∃ lo' cm', e = .returned (.tuple #[.slice lo' n cm', .bool (any2 (fun i j => great (evR F i j)) n n)]) ∧ Grid w' lo' n cm' n (fun i j => clamp (evR F i j)) ∧ Below W.heap.size W w') := by
    intro e W b
    subst e
    exact reven_any n cm (some x) F W h1 h2 (GR.out.keep b) hF
  obtain ⟨zx, hzx⟩ : ∃ z, z = mz n m F := ⟨_, rfl⟩
  obtain ⟨zt, hzt⟩ : ∃ z, z = mz m n (fun i j => F j i) := ⟨_, rfl⟩
  obtain ⟨zv, hzv⟩ : ∃ z, z = mz n n (fun i j => clamp (evR F i j)) := ⟨_, rfl⟩
  obtain ⟨tv, htv⟩ : ∃ t, t = any2 (fun i j => great (evR F i j)) n n := ⟨_, rfl⟩
  obtain ⟨fv, hfv⟩ : ∃ f : Nat → Nat → Int, f = fun i j => clamp (evR F i j) := ⟨_, rfl⟩
  rw [← hzx] at HO AT RO TU EV RM
  rw [← hzt] at TU RT
  rw [← hzv, ← htv] at HEV
  rw [← hzv, ← hfv] at RE
  rw [← htv, ← hfv] at DE
  obtain ⟨ob, hob⟩ : ∃ b, b = decide (¬ (1 ≤ i ∧ i ≤ 6)) := ⟨_, rfl⟩
  have HOB := Hid.mkV hob
  clear hE ey1 ey2 ey3 hob hzx hzt hzv htv hfv at1 at2 at3 ev1 ev2 ev3 hS hZ hlo hcl hF
  go_enter Tryd.func3, Tryd.ntmps3
  go_wp2_with fail
  refine HO.out.mono ?_
  rintro e w1 ⟨rfl, k1⟩
  go_wp2_with (first
    | (rw [zeroM]; refine wpList_storeNew rfl _ _ (by rfl) _ _ _ _ (by rfl) (by rfl) ?_; intro ws11 ns11 ks11; have KK11 := below_tr k1 ks11; clear k1)
    | fail)
  refine (EY.out _).mono ?_
  rintro e wq12 ⟨rfl, kq12⟩
  have KK12 := below_tr KK11 kq12
  have m_12 := ns11.keep kq12
  clear KK11 ns11
  go_upto_region 3 with (first
    | (rw [zeroM]; refine wpList_storeNew rfl _ _ (by rfl) _ _ _ _ (by rfl) (by rfl) ?_; intro ws13 ns13 ks13; have KK13 := below_tr KK12 ks13; have m_13 := m_12.keep ks13; clear KK12 m_12)
    | fail)
  go_cut [39] (fun b wx => b = .bool ob ∧ ws13 = wx)
  case first =>
    as_aux_lemma =>
    by_cases g1 : i < 1
    · have e1 : decide (i < 1) = true := decide_eq_true g1
      have e3 : ob = true := by rw [HOB.out]; exact decide_eq_true (by omega)
      clear g1
      go_wp2
      go_meet
      exact ⟨by rw [e3], rfl⟩
    · have e1 : decide (i < 1) = false := decide_eq_false g1
      by_cases g2 : i > 6
      · have e2 : decide (i > 6) = true := decide_eq_true g2
        have e3 : ob = true := by rw [HOB.out]; exact decide_eq_true (by omega)
        clear g1 g2
        go_wp2
        go_meet
        exact ⟨by rw [e3], rfl⟩
      · have e2 : decide (i > 6) = false := decide_eq_false g2
        have e3 : ob = false := by rw [HOB.out]; exact decide_eq_false (by omega)
        clear g1 g2
        go_wp2
        go_meet
        exact ⟨by rw [e3], rfl⟩
  case rest =>
  as_aux_lemma =>
  obtain ⟨rfl, rfl⟩ := hcut
  go_upto_if 39 with fail
  go_cut [] (fun wx => MRow wx w1.heap.size n m zx ∧ Below w.heap.size w wx)
  case first =>
    as_aux_lemma =>
    cases ob
    · have hi : 1 ≤ i ∧ i ≤ 6 := by
        have := HOB.out.symm
        rw [decide_eq_false_iff_not] at this
        omega
      obtain ⟨t, rfl⟩ : ∃ t : Nat, i = t := ⟨i.toNat, by omega⟩
      obtain ⟨rfl, rfl, hzy, rfl⟩ := HEY.out.2 t rfl (by omega) (by omega)
      rw [hzy] at ns13
      have h5 : 1 ≤ t := by omega
      have h6 : t ≤ 6 := by omega
      obtain ⟨ye, hye⟩ : ∃ ye, ye = mz t t eyeF := ⟨_, rfl⟩
      rw [← hye] at ns13
      have HR := Hid.mkV (fun W => rowsOf_any t t eyeF W h5 h6 h5 h6)
      rw [← hye] at HR
      clear hzy hye hi HOB HEY
      go_wp2_with (first
        | (refine wpList_loadM (by rfl) _ (by rfl) _ _ _ _ (by rfl) (by with_reducible exact ns13) ?_)
        | fail)
      refine (HR.out _).mono ?_
      rintro e wa ⟨la, ca, rfl, ga, ka⟩
      go_wp2_with fail
      refine (reye_any t _ h5 h6).mono ?_
      rintro e wb ⟨lb, cb, rfl, gb, kb⟩
      have ga2 := ga.keep kb
      go_wp2_with fail
      refine (sameRows_yes t t ca cb la lb eyeF _ h6 ga2 gb).mono ?_
      rintro e wd ⟨rfl, kd⟩
      have kk := below_tr (below_tr ka kb) kd
      have mz' := m_13.keep kk
      have KZ := below_tr KK13 kk
      go_wp2
      go_meet
      exact ⟨mz', KZ⟩
    · have hi : ¬ (1 ≤ i ∧ i ≤ 6) := by
        have := HOB.out.symm
        rw [decide_eq_true_iff] at this
        exact this
      obtain ⟨rfl, rfl, rfl, rfl⟩ := HEY.out.1 hi
      clear hi HOB HEY
      go_wp2_with fail
      refine (num_err 1 _ (HE.out.below KK13)).mono ?_
      rintro e wa ⟨rfl, ka⟩
      have y' := ns13.keep ka
      have mz' := m_13.keep ka
      have KZ := below_tr KK13 ka
      go_wp2_with (first
        | (refine wpList_loadM (by rfl) _ (by rfl) _ _ _ _ (by rfl) (by with_reducible exact y') ?_)
        | (refine wpList_build0g (by rfl) (by rfl) ?_)
        | (refine wpList_neM (by rfl) _ _ _ (by rfl) _ _ _ (by rfl) (by rfl) ?_)
        | fail)
      go_meet
      exact ⟨mz', KZ⟩
  case rest =>
  as_aux_lemma =>
  obtain ⟨mc, KC⟩ := hcut
  go_wp2_with (first
    | fail)
  refine (HM.out _ KC).mono ?_
  rintro e wq31 ⟨rfl, kq31⟩
  have KK31 := below_tr KC kq31
  have m_31 := mc.keep kq31
  clear KC mc
  go_wp2_with (first
    | (refine wpList_loadM (by rfl) _ (by rfl) _ _ _ _ (by rfl) (by with_reducible exact m_31) ?_)
    | fail)
  refine (AT.out _).mono ?_
  rintro e wq32 ⟨rfl, kq32⟩
  have KK32 := below_tr KK31 kq32
  have m_32 := m_31.keep kq32
  clear KK31 m_31
  go_wp2_with (first
    | (refine wpList_loadM (by rfl) _ (by rfl) _ _ _ _ (by rfl) (by with_reducible exact m_32) ?_)
    | fail)
  refine (RO.out _).mono ?_
  rintro e wq33 ⟨rco, rl, rcc, rf, rfl, rr, kq33⟩
  have KK33 := below_tr KK32 kq33
  have m_33 := m_32.keep kq33
  clear KK32 m_32
  go_wp2_with (first
    | (refine wpList_loadM (by rfl) _ (by rfl) _ _ _ _ (by rfl) (by with_reducible exact m_33) ?_)
    | fail)
  refine (TU.out _).mono ?_
  rintro e wq34 ⟨rfl, kq34⟩
  have KK34 := below_tr KK33 kq34
  have m_34 := m_33.keep kq34
  have r_34 := rr.keep kq34
  clear KK33 m_33 rr
  go_wp2_with (first
    | (rw [zeroM]; refine wpList_storeNew rfl _ _ (by rfl) _ _ _ _ (by rfl) (by rfl) ?_; intro ws35 ns35 ks35; have KK35 := below_tr KK34 ks35; have m_35 := m_34.keep ks35; have r_35 := r_34.keep ks35; clear KK34 m_34 r_34)
    | (refine wpList_loadM (by rfl) _ (by rfl) _ _ _ _ (by rfl) (by with_reducible exact m_35) ?_)
    | fail)
  refine (EV.out _).mono ?_
  rintro e wq36 ⟨rfl, kq36⟩
  have KK36 := below_tr KK35 kq36
  have m_36 := m_35.keep kq36
  have r_36 := r_35.keep kq36
  have t_36 := ns35.keep kq36
  clear KK35 m_35 r_35 ns35
  as_aux_lemma =>
  go_wp2_with (first
    | (rw [zeroM]; refine wpList_storeNew rfl _ _ (by rfl) _ _ _ _ (by rfl) (by rfl) ?_; intro ws37 ns37 ks37; have KK37 := below_tr KK36 ks37; have m_37 := m_36.keep ks37; have r_37 := r_36.keep ks37; have t_37 := t_36.keep ks37; clear KK36 m_36 r_36 t_36)
    | (refine wpList_loadM (by rfl) _ (by rfl) _ _ _ _ (by rfl) (by with_reducible exact m_37) ?_)
    | fail)
  refine (RM.out _).mono ?_
  rintro e wq38 ⟨la, qa, rfl, ga, kq38⟩
  have KK38 := below_tr KK37 kq38
  have m_38 := m_37.keep kq38
  have r_38 := r_37.keep kq38
  have t_38 := t_37.keep kq38
  have s_38 := ns37.keep kq38
  clear KK37 m_37 r_37 t_37 ns37
  go_wp2_with (first
    | fail)
  refine (sameRows_yes _ m _ _ _ _ F _ h2 ga (GR.out.keep KK38)).mono ?_
  rintro e wq39 ⟨rfl, kq39⟩
  have KK39 := below_tr KK38 kq39
  have m_39 := m_38.keep kq39
  have r_39 := r_38.keep kq39
  have t_39 := t_38.keep kq39
  have s_39 := s_38.keep kq39
  clear KK38 m_38 r_38 t_38 s_38
  go_wp2_with (first
    | (refine wpList_loadM (by rfl) _ (by rfl) _ _ _ _ (by rfl) (by with_reducible exact t_39) ?_)
    | fail)
  refine (RT.out _).mono ?_
  rintro e wq40 ⟨lb, qb, rfl, gb, kq40⟩
  have KK40 := below_tr KK39 kq40
  have m_40 := m_39.keep kq40
  have r_40 := r_39.keep kq40
  have t_40 := t_39.keep kq40
  have s_40 := s_39.keep kq40
  clear KK39 m_39 r_39 t_39 s_39
  go_wp2_with (first
    | fail)
  refine (rturn_any n m cm _ F _ h1 h2 h3 h4 (GR.out.keep KK40)).mono ?_
  rintro e wq41 ⟨ld, qd, rfl, gd, kq41⟩
  have KK41 := below_tr KK40 kq41
  have m_41 := m_40.keep kq41
  have r_41 := r_40.keep kq41
  have t_41 := t_40.keep kq41
  have s_41 := s_40.keep kq41
  clear KK40 m_40 r_40 t_40 s_40
  have gb2 := gb.keep kq41
  go_wp2_with (first
    | fail)
  refine (sameRows_yes m n _ _ _ _ (fun i j => F j i) _ h4 gb2 gd).mono ?_
  rintro e wq42 ⟨rfl, kq42⟩
  have KK42 := below_tr KK41 kq42
  have m_42 := m_41.keep kq42
  have r_42 := r_41.keep kq42
  have t_42 := t_41.keep kq42
  have s_42 := s_41.keep kq42
  clear KK41 m_41 r_41 t_41 s_41
  clear ga gb gd gb2
  obtain ⟨oc, hoc⟩ : ∃ b, b = decide (¬ (0 ≤ i ∧ i < n)) := ⟨_, rfl⟩
  have HOC := Hid.mkV hoc
  clear hoc
  go_upto_region 17 with fail
  go_cut [140] (fun b wx => b = .bool oc ∧ wq42 = wx)
  case first =>
    as_aux_lemma =>
    by_cases g1 : i < 0
    · have e1 : decide (i < 0) = true := decide_eq_true g1
      have e3 : oc = true := by rw [HOC.out]; exact decide_eq_true (by omega)
      clear g1
      go_wp2
      go_meet
      exact ⟨by rw [e3], rfl⟩
    · have e1 : decide (i < 0) = false := decide_eq_false g1
      by_cases g2 : i ≥ (n : Int)
      · have e2 : decide (i ≥ (n : Int)) = true := decide_eq_true g2
        have e3 : oc = true := by rw [HOC.out]; exact decide_eq_true (by omega)
        clear g1 g2
        go_wp2
        go_meet
        exact ⟨by rw [e3], rfl⟩
      · have e2 : decide (i ≥ (n : Int)) = false := decide_eq_false g2
        have e3 : oc = false := by rw [HOC.out]; exact decide_eq_false (by omega)
        clear g1 g2
        go_wp2
        go_meet
        exact ⟨by rw [e3], rfl⟩
  case rest =>
  as_aux_lemma =>
  obtain ⟨rfl, rfl⟩ := hcut
  go_upto_if 140 with fail
  go_cut [] (fun wx => MRow wx wq36.heap.size r2 c2 z2 ∧ Below w.heap.size w wx)
  case first =>
    as_aux_lemma =>
    cases oc
    · have hi : 0 ≤ i ∧ i < n := by
        have := HOC.out.symm
        rw [decide_eq_false_iff_not] at this
        omega
      obtain ⟨rfl, rfl, sr⟩ := r_42.yes hi
      have HAT3 := Hid.mkV (HAT.out.2 hi)
      have HAT2 := Hid.mkV HAT.out.1
      obtain ⟨a, rfl⟩ : ∃ a : Nat, i = a := ⟨i.toNat, by omega⟩
      rw [Int.toNat_natCast] at sr HAT3
      have ha : a < n := by omega
      have ca := keep_cell KK42 (HC.out a ha)
      have cz := keep_cell KK42 c0
      have sa := (HZ.out a ha).keep KK42
      obtain ⟨ya, hya, hyc⟩ := sa.get
      have la1 := sa.le
      have la2 := sa.cap
      rw [hya (by omega)] at ca sa
      obtain ⟨aC, haC⟩ : ∃ c, c = C a := ⟨_, rfl⟩
      rw [← haC] at ca sa la1 la2
      have HYC := Hid.mkV hyc
      clear hi HOC HAT hya hyc haC
      go_wp2_with fail
      refine (nums_yes _ _ _ _ _ _ _ sr sa).mono ?_
      rintro e wa ⟨rfl, ka⟩
      have s' := s_42.keep ka
      have KZ := below_tr KK42 ka
      have cz2 := keep_cell ka cz
      have ca2 := keep_cell ka ca
      clear sr sa
      by_cases hj : 0 ≤ j ∧ j < m
      · have e1 : decide (j < 0) = false := decide_eq_false (by omega)
        have e2 : decide (j ≥ (m : Int)) = false := decide_eq_false (by omega)
        obtain ⟨hx, rfl⟩ := HAT3.out hj
        obtain ⟨b, rfl⟩ : ∃ b : Nat, j = b := ⟨j.toNat, by omega⟩
        rw [Int.toNat_natCast] at hx
        have hb : b < m := by omega
        have cb := keep_cell ka (HYC.out b hb)
        rw [← hx] at cb
        clear hx hj HAT2 HAT3 HYC
        go_wp2
        go_meet
        exact ⟨s', KZ⟩
      · obtain ⟨rfl, rfl⟩ := HAT2.out (Or.inr hj)
        have HJ := Hid.mkV hj
        clear hj HAT2 HAT3 HYC
        by_cases g1 : j < 0
        · have e1 : decide (j < 0) = true := decide_eq_true g1
          clear g1
          go_wp2_with fail
          refine (num_err 1 _ (HE.out.below KZ)).mono ?_
          rintro e wb ⟨rfl, kb⟩
          have s'' := s'.keep kb
          have KZ2 := below_tr KZ kb
          go_wp2
          go_meet
          exact ⟨s'', KZ2⟩
        · have e1 : decide (j < 0) = false := decide_eq_false g1
          have e2 : decide (j ≥ (m : Int)) = true := decide_eq_true (by have := HJ.out; omega)
          clear g1
          go_wp2_with fail
          refine (num_err 1 _ (HE.out.below KZ)).mono ?_
          rintro e wb ⟨rfl, kb⟩
          have s'' := s'.keep kb
          have KZ2 := below_tr KZ kb
          go_wp2
          go_meet
          exact ⟨s'', KZ2⟩
    · have hi : ¬ (0 ≤ i ∧ i < n) := by
        have := HOC.out.symm
        rw [decide_eq_true_iff] at this
        exact this
      obtain ⟨rfl, rfl⟩ := r_42.no hi
      obtain ⟨rfl, rfl⟩ := HAT.out.1 (Or.inl hi)
      clear hi HOC HAT
      go_wp2_with fail
      refine (num_err 1 _ (HE.out.below KK42)).mono ?_
      rintro e wa ⟨rfl, ka⟩
      have s' := s_42.keep ka
      have KZ := below_tr KK42 ka
      go_wp2_with fail
      refine (num_err 1 _ (HE.out.below KZ)).mono ?_
      rintro e wb ⟨rfl, kb⟩
      have s'' := s'.keep kb
      have KZ2 := below_tr KZ kb
      go_wp2
      go_meet
      exact ⟨s'', KZ2⟩
  case rest =>
  as_aux_lemma =>
  obtain ⟨sc, KD⟩ := hcut
  have cz := keep_cell KD c0
  by_cases hsq : n = m
  · have es : (((n : Nat) : Int) != ((m : Nat) : Int)) = false := by rw [hsq]; simp
    obtain ⟨rfl, rfl, rfl, rfl, rfl⟩ := HEV.out.1 hsq
    have RE1 := Hid.mkV (RE.out hsq)
    have DE1 := Hid.mkV (DE.out hsq _ KD)
    clear hsq HEV RE DE
    go_wp2_with fail
    refine DE1.out.mono ?_
    rintro e wa ⟨le, qe, rfl, ge, ka⟩
    have s' := sc.keep ka
    have KE := below_tr KD ka
    go_wp2_with (first
      | (refine wpList_loadM (by rfl) _ (by rfl) _ _ _ _ (by rfl) (by with_reducible exact s') ?_)
      | fail)
    refine (RE1.out _).mono ?_
    rintro e wb ⟨lf, qf, rfl, gf, kb⟩
    have ge2 := ge.keep kb
    have KF := below_tr KE kb
    go_wp2_with fail
    refine (sameRows_yes n n _ _ _ _ _ _ h2 gf ge2).mono ?_
    rintro e wd ⟨rfl, kd⟩
    have KG := below_tr KF kd
    clear gf ge2 ge s' sc
    go_wp2_with fail
    refine (msure_any _).mono ?_
    rintro e wz ⟨rfl, kz⟩
    go_wp2
    go_ret
    exact ⟨rfl, below_tr KG kz⟩
  · have es : (((n : Nat) : Int) != ((m : Nat) : Int)) = true := by rw [bne_iff_ne]; omega
    obtain ⟨rfl, rfl, rfl, rfl, rfl⟩ := HEV.out.2 hsq
    clear hsq HEV RE DE
    go_wp2_with fail
    refine (num_err 1 _ (HE.out.below KD)).mono ?_
    rintro e wa ⟨rfl, ka⟩
    have s' := sc.keep ka
    have KE := below_tr KD ka
    go_wp2_with (first
      | (refine wpList_loadM (by rfl) _ (by rfl) _ _ _ _ (by rfl) (by with_reducible exact s') ?_)
      | (refine wpList_build0g (by rfl) (by rfl) ?_)
      | (refine wpList_eqM (by rfl) _ _ _ (by rfl) _ _ _ (by rfl) (by rfl) ?_)
      | fail)
    refine (msure_any _).mono ?_
    rintro e wz ⟨rfl, kz⟩
    go_wp2
    go_ret
    exact ⟨rfl, below_tr KE kz⟩

theorem mparts_walk : FMatParts.Walk := by
  intro a0 len0 cap0 A L C Z a1 a2 w h0 h1 h2 hE
  obtain ⟨s0, q0⟩ := isrows6 h0
  have b1 := bounds_i64 h1
  have b2 := bounds_i64 h2
  rcases rows_cases s0 q0 with ⟨m, F, g1, g2, g3, g4, gG, gB, _, _⟩ | ⟨x1, x2⟩
  · exact mparts_yes a0 len0 cap0 m F a1 a2 w g1 g2 g3 g4 gG gB hE b1.1 b1.2 b2.1 b2.2
  · exact mparts_no a0 len0 cap0 a1 a2 w hE x1 x2

/-- The law MatParts, of any input. -/
theorem matparts_holds : Rows.MatPartsCardSaid := FMatParts.card mparts_walk

end Go.Proofs.YtgmagehgnjopcaaDoor
