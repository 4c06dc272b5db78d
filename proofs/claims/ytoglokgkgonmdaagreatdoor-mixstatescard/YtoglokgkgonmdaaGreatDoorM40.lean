/-
  What is proved: whatever states, chances and rows it is given, the law MixStates of layer 15 returns true, ends without a panic, and leaves what was there as it was; its condition: the library's variable errors.errorType holds what the program's text lays there, which the card ties. (By py/MSts.py.)
-/
import Derived.Test.YtoglokgkgonmdaaGreatDoorMxL
import Derived.Test.YtoglokgkgonmdaaGreatDoorM33
import Derived.Test.YtoglokgkgonmdaaGreatDoorM22
import Derived.Test.YtoglokgkgonmdaaGreatDoorM16
import Derived.Test.YtoglokgkgonmdaaGreatDoorM19
import Derived.Test.YtoglokgkgonmdaaGreatDoorFMixStates
set_option linter.unusedSimpArgs false
set_option linter.unusedVariables false
namespace Go.Proofs.YtoglokgkgonmdaaGreatDoor
open Go.RowKit Vc St Mt Cn Mx Pd
attribute [local go_sem ↓] Go.wp_at_zero Go.wp_at_succ
namespace Mx
structure Kn (w : World) (d : Raw) (r c : Int) (z : Nat → Int) (F : Nat → Nat → Int) (g : Bool) : Prop where
  mat : ∀ W, Below w.heap.size w W → Calls Tryz.prog 62 #[.slice d.po d.pn d.pc] W fun e w' => e = .returned (.agg (mvals r c z).toArray) ∧ Below W.heap.size W w'
  may : ∀ W, Below w.heap.size w W → Calls Tryz.prog 30 #[.agg #[.slice d.xo 6 d.xc, .slice d.po d.pn d.pc]] W fun e w' => e = .returned (.bool g) ∧ Below W.heap.size W w'
  b2 : B2 F
  six : r = 6 → c = 6 → d.pn = 6 ∧ Grid w d.po 6 d.pc 6 F ∧ z = mz 6 6 F
  iff : g = true ↔ r = 6 ∧ c = 6 ∧ Pr.MayV d.X F
theorem known {w : World} {d : Raw} (h : d.Ok w) (hx : d.xn = 6) : ∃ y : Int × Int × (Nat → Int) × (Nat → Nat → Int) × Bool, Kn w d y.1 y.2.1 y.2.2.1 y.2.2.2.1 y.2.2.2.2 := by
  obtain ⟨xo, xn, xc, X, po, pn, pc, A, K, C, Z⟩ := d
  obtain ⟨sX, bX, sP, qP⟩ := h
  simp only at hx sX sP qP
  subst hx
  rcases six_cases sP qP with ⟨F, e, gF, bF⟩ | ⟨r, c, z, hne, hm, hs⟩
  · subst e
    by_cases hm : Pr.MayV X F
    · exact ⟨(6, 6, mz 6 6 F, F, true), fun W b => matOf_six gF W b, fun W b => rmay12_grid true xo po xc pc X F W (sX.keep b) (gF.keep b) ⟨fun _ => hm, fun _ => rfl⟩, bF, fun _ _ => ⟨rfl, gF, rfl⟩, ⟨fun _ => ⟨rfl, rfl, hm⟩, fun _ => rfl⟩⟩
    · exact ⟨(6, 6, mz 6 6 F, F, false), fun W b => matOf_six gF W b, fun W b => rmay12_grid false xo po xc pc X F W (sX.keep b) (gF.keep b) ⟨fun q => (by cases q), fun q => absurd q hm⟩, bF, fun _ _ => ⟨rfl, gF, rfl⟩, ⟨fun q => (by cases q), fun q => absurd q.2.2 hm⟩⟩
  · exact ⟨(r, c, z, fun _ _ => 0, false), hm, fun W b => rmay12_not xo po pn xc pc W (fun V q => hs V (below_tr b q)), fun i j => by show _ ≤ (0 : Int) ∧ (0 : Int) ≤ _; omega, fun a b => absurd ⟨a, b⟩ hne, ⟨fun q => (by cases q), fun q => absurd ⟨q.1, q.2.1⟩ hne⟩⟩
end Mx
set_option maxRecDepth 20000 in
set_option maxHeartbeats 4000000 in
theorem mstates_no (P : Mx.MPkg) (lo ho ro : Option Addr) (n cm nh hc q rm : Nat) (xo pa : Nat → Option Addr) (xc pn pc : Nat → Nat) (X : Nat → Nat → Int) (r c : Nat → Int) (z : Nat → Nat → Int) (F : Nat → Nat → Nat → Int) (ch : Nat → Int) (A : Nat → Option Addr) (L C : Nat → Nat) (R : Nat → Nat → Int) (w : World)
  (hZ : Calls Tryz.prog 11 #[.slice lo n cm] w fun e w' => e = .returned (.bool true) ∧ Below w.heap.size w w')
  (hG : ∀ W, Below w.heap.size w W → Calls Tryz.prog 13 #[.slice lo n cm] W fun e w' => ∃ vo vm, e = .returned (.slice vo n vm) ∧ Pst w' vo n vm X r c z ∧ Below W.heap.size W w')
  (hF : ∀ k, k < n → r k = 6 → c k = 6 → z k = mz 6 6 (F k)) (bX : ∀ k, B64 (X k)) (bF : ∀ k, B2 (F k)) (hs : Sl w ho nh hc ch) (bc : B64 ch) (hr : Sls w ro q rm A L C) (hrr : ∀ i, i < q → Sl w (A i) (L i) (C i) (R i)) (bR : ∀ i, B64 (R i)) (hE : ErrTab w)
  (hMay : ∀ W, Below w.heap.size w W → Calls Tryz.prog 17 #[.slice lo n cm, .slice ho nh hc] W fun e w' => e = .returned (.bool false) ∧ Below W.heap.size W w')
  (hJ : ¬ MayJ n nh ch X r c F) :
  Calls Tryz.prog 4 #[.slice lo n cm, .slice ho nh hc, .slice ro q rm] w fun e w' => e = .returned (.bool true) ∧ Below w.heap.size w w' := by
 have HJ : Hid (∀ W lo cm, Below w.heap.size w W → Pst W lo n cm X r c z → Calls Tryz.prog 12 #[.slice lo n cm, .slice ho nh hc] W fun e w' => e = .returned (.tuple #[.agg (svals (fun _ => 0) 0 0 (fun _ => 0)).toArray, .bool false, .iface 61 (.int .i64 1)]) ∧ Below W.heap.size W w') := fun W lo cm b hp => by
  refine (P.join W lo ho n cm nh hc X r c z F ch hp hF bX bF (hs.keep b) bc).mono ?_
  rintro e w' ⟨k, ⟨h, rfl⟩ | ⟨h, rfl⟩⟩
  ·exact ⟨rfl, k⟩
  ·exact absurd h hJ
 have HA : Hid (∀ W lo cm, Below w.heap.size w W → Pst W lo n cm X r c z → Calls Tryz.prog 14 #[.slice lo n cm, .slice ho nh hc, .slice ro q rm] W fun e w' => ∃ vo vc co cc, e = .returned (.tuple #[.slice vo 0 vc, .slice co 0 cc, .bool false, .iface 61 (.int .i64 1)]) ∧ Pst w' vo 0 vc (fun k => jX n (shr n ch R k) X) (fun _ => 6) (fun _ => 6) (fun k => mz 6 6 (jP n (shr n ch R k) X F)) ∧ Sl w' co 0 cc (sh 1073741824 (mxw n ch R) n) ∧ Below W.heap.size W w') := fun W lo cm b hp => by
  refine (P.all W lo ho ro n cm nh hc q rm X r c z F ch A L C R hp hF bX bF (hs.keep b) bc (hr.keep b) (fun i hi => (hrr i hi).keep b) bR).mono ?_
  rintro e w' ⟨vo, vn, vc, co, cn, cc, b, ev, rfl, k, hp, hc, ⟨h, rfl, rfl, rfl, rfl⟩ | ⟨h, h', rfl, rfl, rfl, rfl⟩⟩
  ·exact ⟨_, _, _, _, rfl, hp, hc, k⟩
  ·exact absurd h hJ
 have HD : Hid (∀ W, Below w.heap.size w W → Calls Tryz.prog 15 #[.slice lo n cm, .slice ho nh hc, .slice ro q rm] W fun e w' => e = .returned (.tuple #[.slice none 0 0, .slice none 0 0, .bool false, .int .i64 1]) ∧ Below W.heap.size W w') := fun W b => dall15_no lo ho ro n cm nh hc q rm ch A L C R false W (hs.keep b) bc (hr.keep b) (fun i hi => (hrr i hi).keep b) bR (fun V k => hMay V (below_tr b k)) (fun q => by cases q.1)
 have HMay := hideL hMay
 have HG := hideL hG
 have HZ := hideL hZ
 have HSu := hideL (msure_any P)
 have HE := hideL hE
 clear hMay hG hZ hE hs bc hr hrr bR hF bX bF hJ
 go_enter Tryz.func4, Tryz.ntmps4
 go_wp2_with fail
 refine (HZ.out).mono ?_
 rintro e w0 ⟨rfl, k0⟩
 clear HZ
 go_wp2_with fail
 refine (HG.out _ k0).mono ?_
 rintro e w1 ⟨vo1, vm1, rfl, p1, k1⟩
 have B1 := below_tr k0 k1
 clear k0 k1
 go_wp2_with fail
 refine (HJ.out _ _ _ B1 p1).mono ?_
 rintro e w2 ⟨rfl, k2⟩
 have B2' := below_tr B1 k2
 clear k2 p1 B1 HJ
 go_wp2_with (first
  | ((with_reducible show wpList _ _ _ _ _ _); rw [zeroS]; refine St.wpList_storeNew isS rfl _ _ (by rfl) _ _ _ (by rfl) (by rfl) (svals_len _ _ _ _) (svals_len _ _ _ _) (one_svals _ _ _ _) ?_; intro w3 t3 k3; have B3 := below_tr B2' k3; clear k3 B2')
  | fail)
 refine (HG.out _ B3).mono ?_
 rintro e w4 ⟨vo4, vm4, rfl, p4, k4⟩
 have B4 := below_tr B3 k4
 have t4 := CRow.keep t3 k4
 clear k4 B3 t3 HG
 go_wp2_with fail
 refine (HA.out _ _ _ B4 p4).mono ?_
 rintro e w5 ⟨vo5, vc5, co5, cc5, rfl, p5, s5, k5⟩
 have B5 := below_tr B4 k5
 have t5 := CRow.keep t4 k5
 clear k5 B4 t4 p4 HA
 go_wp2_with fail
 refine (HD.out _ B5).mono ?_
 rintro e w6 ⟨rfl, k6⟩
 have B6 := below_tr B5 k6
 have t6 := CRow.keep t5 k6
 have p6 := p5.keep k6
 have s56 := s5.keep k6
 clear k6 B5 t5 p5 s5 HD
 go_wp2_with fail
 refine (num_err 1 _ (HE.out.below B6)).mono ?_
 rintro e w7 ⟨rfl, k7⟩
 have B7 := below_tr B6 k7
 have t7 := CRow.keep t6 k7
 have p7 := p6.keep k7
 have s57 := s56.keep k7
 clear k7 B6 t6 p6 s56
 have C7 := hideL (areStates_yes vo5 none 0 vc5 0 (fun _ => none) (fun _ => none) (fun _ => 0) (fun _ => 0) _ (fun k => jP n (shr n ch R k) X F) _ p7 ⟨Nat.le_refl _, by omega, fun k hk => by omega⟩ (fun k hk => by omega))
 clear p7
 go_wp2_with fail
 refine (C7.out).mono ?_
 rintro e w8 ⟨rfl, k8⟩
 have B8 := below_tr B7 k8
 have t8 := CRow.keep t7 k8
 have s58 := s57.keep k8
 clear k8 B7 t7 s57 C7
 go_wp2_with fail
 refine (nums_yes _ _ 0 _ _ _ _ s58 (Sl.none _ _)).mono ?_
 rintro e w9 ⟨rfl, k9⟩
 have B9 := below_tr B8 k9
 have t9 := CRow.keep t8 k9
 clear k9 B8 t8 s58
 go_wp2_with fail
 refine (HMay.out _ B9).mono ?_
 rintro e w10 ⟨rfl, k10⟩
 have B10 := below_tr B9 k10
 have t10 := CRow.keep t9 k10
 clear k10 B9 t9
 go_wp2_with fail
 refine (num_err 1 _ (HE.out.below B10)).mono ?_
 rintro e w11 ⟨rfl, k11⟩
 have B11 := below_tr B10 k11
 have t11 := CRow.keep t10 k11
 clear k11 B10 t10
 go_wp2_with (first
  | ((with_reducible show wpList _ _ _ _ _ _); refine St.wpList_load isS (by kernel_rfl) _ (by rfl) _ _ (by rfl) (by with_reducible exact t11) (svals_len _ _ _ _) ?_)
  | ((with_reducible show wpList _ _ _ _ _ _); refine Pd.buildS0 (by with_reducible rfl) (by kernel_rfl) ?_)
  | ((with_reducible show wpList _ _ _ _ _ _); refine Pd.eqlS _ _ _ (by with_reducible rfl) _ _ _ _ _ _ _ _ true (by rfl) (by rfl) (eqS_same _ _ _ _) (by kernel_rfl) ?_)
  | fail)
 refine (HSu.out _).mono ?_
 rintro e w12 ⟨rfl, k12⟩
 go_wp2
 go_ret
 exact ⟨rfl, below_tr B11 k12⟩
set_option maxRecDepth 20000 in
set_option maxHeartbeats 4000000 in
theorem mstates_half (P : Mx.MPkg) (lo ho ro : Option Addr) (n cm nh hc q rm : Nat) (xo pa : Nat → Option Addr) (xc pn pc : Nat → Nat) (X : Nat → Nat → Int) (r c : Nat → Int) (z : Nat → Nat → Int) (F : Nat → Nat → Nat → Int) (ch : Nat → Int) (A : Nat → Option Addr) (L C : Nat → Nat) (R : Nat → Nat → Int) (w : World)
  (hZ : Calls Tryz.prog 11 #[.slice lo n cm] w fun e w' => e = .returned (.bool true) ∧ Below w.heap.size w w')
  (hG : ∀ W, Below w.heap.size w W → Calls Tryz.prog 13 #[.slice lo n cm] W fun e w' => ∃ vo vm, e = .returned (.slice vo n vm) ∧ Pst w' vo n vm X r c z ∧ Below W.heap.size W w')
  (hF : ∀ k, k < n → r k = 6 → c k = 6 → z k = mz 6 6 (F k)) (bX : ∀ k, B64 (X k)) (bF : ∀ k, B2 (F k)) (hs : Sl w ho nh hc ch) (bc : B64 ch) (hr : Sls w ro q rm A L C) (hrr : ∀ i, i < q → Sl w (A i) (L i) (C i) (R i)) (bR : ∀ i, B64 (R i)) (hE : ErrTab w)
  (hMay : ∀ W, Below w.heap.size w W → Calls Tryz.prog 17 #[.slice lo n cm, .slice ho nh hc] W fun e w' => e = .returned (.bool true) ∧ Below W.heap.size W w')
  (hJ : MayJ n nh ch X r c F) (hl : Dst w lo n cm (fun k => .slice (xo k) 6 (xc k)) (fun k => .slice (pa k) 6 (pc k))) (hX : ∀ k, k < n → Sl w (xo k) 6 (xc k) (X k)) (hP : ∀ k, k < n → Grid w (pa k) 6 (pc k) 6 (F k)) (hM : ¬ MayX nh ch q L R) :
  Calls Tryz.prog 4 #[.slice lo n cm, .slice ho nh hc, .slice ro q rm] w fun e w' => e = .returned (.bool true) ∧ Below w.heap.size w w' := by
 obtain rfl := hJ.1
 have hch := hJ.2.1
 have HJ : Hid (∀ W lo cm, Below w.heap.size w W → Pst W lo n cm X r c z → Calls Tryz.prog 12 #[.slice lo n cm, .slice ho n hc] W fun e w' => e = .returned (.tuple #[.agg (svals (jX n ch X) 6 6 (mz 6 6 (jP n ch X F))).toArray, .bool (jO n ch X F), .nilIface]) ∧ Below W.heap.size W w') := fun W lo cm b hp => by
  refine (P.join W lo ho n cm n hc X r c z F ch hp hF bX bF (hs.keep b) bc).mono ?_
  rintro e w' ⟨k, ⟨h, rfl⟩ | ⟨h, rfl⟩⟩
  ·exact absurd hJ h
  ·exact ⟨rfl, k⟩
 have HA : Hid (∀ W lo cm, Below w.heap.size w W → Pst W lo n cm X r c z → Calls Tryz.prog 14 #[.slice lo n cm, .slice ho n hc, .slice ro q rm] W fun e w' => ∃ vo vc co cc, e = .returned (.tuple #[.slice vo 0 vc, .slice co 0 cc, .bool false, .iface 61 (.int .i64 1)]) ∧ Pst w' vo 0 vc (fun k => jX n (shr n ch R k) X) (fun _ => 6) (fun _ => 6) (fun k => mz 6 6 (jP n (shr n ch R k) X F)) ∧ Sl w' co 0 cc (sh 1073741824 (mxw n ch R) n) ∧ Below W.heap.size W w') := fun W lo cm b hp => by
  refine (P.all W lo ho ro n cm n hc q rm X r c z F ch A L C R hp hF bX bF (hs.keep b) bc (hr.keep b) (fun i hi => (hrr i hi).keep b) bR).mono ?_
  rintro e w' ⟨vo, vn, vc, co, cn, cc, b, ev, rfl, k, hp, hc, ⟨h, rfl, rfl, rfl, rfl⟩ | ⟨h, h', rfl, rfl, rfl, rfl⟩⟩
  ·exact ⟨_, _, _, _, rfl, hp, hc, k⟩
  ·exact absurd h' hM
 have HD : Hid (∀ W, Below w.heap.size w W → Calls Tryz.prog 15 #[.slice lo n cm, .slice ho n hc, .slice ro q rm] W fun e w' => e = .returned (.tuple #[.slice none 0 0, .slice none 0 0, .bool false, .int .i64 1]) ∧ Below W.heap.size W w') := fun W b => dall15_no lo ho ro n cm n hc q rm ch A L C R true W (hs.keep b) bc (hr.keep b) (fun i hi => (hrr i hi).keep b) bR (fun V k => hMay V (below_tr b k)) (fun q => hM q.2)
 have HY : Hid (∀ W, Below w.heap.size w W → Calls Tryz.prog 18 #[.slice lo n cm, .slice ho n hc] W fun e w' => ∃ xo xc po pm, e = .returned (.tuple #[.agg #[.slice xo 6 xc, .slice po 6 pm], .bool (jO n ch X F)]) ∧ JoinR W w' (jX n ch X) (jP n ch X F) xo xc po pm) := fun W b => djoin15_any lo ho n cm hc xo pa xc pc X F ch W (hl.keep b) (fun k hk => (hX k hk).keep b) (fun k hk => (hP k hk).keep b) (hs.keep b) bX bF bc hch.one hch.four
 have HCk := hideL (fun W => pcheck_six (jX n ch X) (jP n ch X F) true W ⟨fun _ => join_may n ch X F, fun _ => rfl⟩)
 have HIs := hideL (fun yo ro yc rc W h h' => pisState_yes yo ro yc rc (jX n ch X) (jP n ch X F) W h h')
 have HMay := hideL hMay
 have HG := hideL hG
 have HZ := hideL hZ
 have HSu := hideL (msure_any P)
 have HE := hideL hE
 clear hMay hG hZ hE hs bc hr hrr bR hF bX bF hJ hl hX hP hM hch
 obtain ⟨jb, hjb⟩ : ∃ b, b = jO n ch X F := ⟨_, rfl⟩
 rw [← hjb] at HJ HY
 clear hjb
 obtain ⟨Y, hY⟩ : ∃ b, b = jX n ch X := ⟨_, rfl⟩
 rw [← hY] at HJ HY HCk HIs
 obtain ⟨YP, hYP⟩ : ∃ b, b = jP n ch X F := ⟨_, rfl⟩
 rw [← hYP] at HJ HY HCk HIs
 clear hY hYP
 obtain ⟨YZ, hYZ⟩ : ∃ b, b = mz 6 6 YP := ⟨_, rfl⟩
 rw [← hYZ] at HJ HCk HIs
 clear hYZ
 go_enter Tryz.func4, Tryz.ntmps4
 go_wp2_with fail
 refine (HZ.out).mono ?_
 rintro e w0 ⟨rfl, k0⟩
 clear HZ
 go_wp2_with fail
 refine (HG.out _ k0).mono ?_
 rintro e w1 ⟨vo1, vm1, rfl, p1, k1⟩
 have B1 := below_tr k0 k1
 clear k0 k1
 go_wp2_with fail
 refine (HJ.out _ _ _ B1 p1).mono ?_
 rintro e w2 ⟨rfl, k2⟩
 have B2' := below_tr B1 k2
 clear k2 p1 B1 HJ
 go_wp2_with (first
  | ((with_reducible show wpList _ _ _ _ _ _); rw [zeroS]; refine St.wpList_storeNew isS rfl _ _ (by rfl) _ _ _ (by rfl) (by rfl) (svals_len _ _ _ _) (svals_len _ _ _ _) (one_svals _ _ _ _) ?_; intro w3 t3 k3; have B3 := below_tr B2' k3; clear k3 B2')
  | fail)
 refine (HG.out _ B3).mono ?_
 rintro e w4 ⟨vo4, vm4, rfl, p4, k4⟩
 have B4 := below_tr B3 k4
 have t4 := CRow.keep t3 k4
 clear k4 B3 t3 HG
 go_wp2_with fail
 refine (HA.out _ _ _ B4 p4).mono ?_
 rintro e w5 ⟨vo5, vc5, co5, cc5, rfl, p5, s5, k5⟩
 have B5 := below_tr B4 k5
 have t5 := CRow.keep t4 k5
 clear k5 B4 t4 p4 HA
 go_wp2_with fail
 refine (HD.out _ B5).mono ?_
 rintro e w6 ⟨rfl, k6⟩
 have B6 := below_tr B5 k6
 have t6 := CRow.keep t5 k6
 have p6 := p5.keep k6
 have s56 := s5.keep k6
 clear k6 B5 t5 p5 s5 HD
 go_wp2_with fail
 refine (num_err 1 _ (HE.out.below B6)).mono ?_
 rintro e w7 ⟨rfl, k7⟩
 have B7 := below_tr B6 k7
 have t7 := CRow.keep t6 k7
 have p7 := p6.keep k7
 have s57 := s56.keep k7
 clear k7 B6 t6 p6 s56
 have C7 := hideL (areStates_yes vo5 none 0 vc5 0 (fun _ => none) (fun _ => none) (fun _ => 0) (fun _ => 0) _ (fun k => jP n (shr n ch R k) X F) _ p7 ⟨Nat.le_refl _, by omega, fun k hk => by omega⟩ (fun k hk => by omega))
 clear p7
 go_wp2_with fail
 refine (C7.out).mono ?_
 rintro e w8 ⟨rfl, k8⟩
 have B8 := below_tr B7 k8
 have t8 := CRow.keep t7 k8
 have s58 := s57.keep k8
 clear k8 B7 t7 s57 C7
 go_wp2_with fail
 refine (nums_yes _ _ 0 _ _ _ _ s58 (Sl.none _ _)).mono ?_
 rintro e w9 ⟨rfl, k9⟩
 have B9 := below_tr B8 k9
 have t9 := CRow.keep t8 k9
 clear k9 B8 t8 s58
 go_wp2_with fail
 refine (HMay.out _ B9).mono ?_
 rintro e w10 ⟨rfl, k10⟩
 have B10 := below_tr B9 k10
 have t10 := CRow.keep t9 k10
 clear k10 B9 t9
 go_wp2_with fail
 refine (HY.out _ B10).mono ?_
 rintro e w11 ⟨yo, yc, zo, zm, rfl, k11, f11⟩
 have B11 := below_tr B10 k11
 have t11 := CRow.keep t10 k11
 have g11 := hideL (El.Free.self f11)
 clear k11 B10 t10 f11
 go_wp2_with (first
  | ((with_reducible show wpList _ _ _ _ _ _); refine St.wpList_storeNew Pr.isRs rfl _ _ (by rfl) _ [.slice none 0 0, .slice none 0 0] [.slice yo 6 yc, .slice zo 6 zm] (by rfl) (by rfl) rfl rfl (El.one2s _ _ _ _ _ _) ?_; intro w12 m12 k12; have B12 := below_tr B11 k12; have t12 := CRow.keep t11 k12; have g12 := hideL (⟨g11.out.1.keep k12, g11.out.2.keep k12⟩ : _ ∧ _); clear k12 B11 t11 g11)
  | ((with_reducible show wpList _ _ _ _ _ _); refine St.wpList_load isS (by kernel_rfl) _ (by rfl) _ _ (by rfl) (by with_reducible exact t12) (svals_len _ _ _ _) ?_)
  | ((with_reducible show wpList _ _ _ _ _ _); refine St.wpList_load Pr.isRs (by kernel_rfl) _ (by rfl) _ _ (by rfl) (by with_reducible exact m12) rfl ?_)
  | fail)
 refine (HIs.out _ _ _ _ _ g12.out.1 g12.out.2).mono ?_
 rintro e w13 ⟨rfl, k13⟩
 have B13 := below_tr B12 k13
 have t13 := CRow.keep t12 k13
 clear k13 B12 t12 g12 m12
 cases jb
 all_goals go_wp2_with (first
  | ((with_reducible show wpList _ _ _ _ _ _); refine St.wpList_load isS (by kernel_rfl) _ (by rfl) _ _ (by rfl) (by with_reducible exact t13) (svals_len _ _ _ _) ?_)
  | fail)
 all_goals refine (HCk.out _).mono ?_
 all_goals rintro e w14 ⟨rfl, k14⟩
 all_goals unfold ckR
 all_goals rw [if_pos rfl]
 all_goals go_wp2_with fail
 all_goals refine (HSu.out _).mono ?_
 all_goals rintro e w15 ⟨rfl, k15⟩
 all_goals go_wp2
 all_goals go_ret
 all_goals exact ⟨rfl, below_tr (below_tr B13 k14) k15⟩
set_option maxRecDepth 20000 in
set_option maxHeartbeats 4000000 in
theorem mstates_yes (P : Mx.MPkg) (lo ho ro : Option Addr) (n cm nh hc q rm : Nat) (xo pa : Nat → Option Addr) (xc pn pc : Nat → Nat) (X : Nat → Nat → Int) (r c : Nat → Int) (z : Nat → Nat → Int) (F : Nat → Nat → Nat → Int) (ch : Nat → Int) (A : Nat → Option Addr) (L C : Nat → Nat) (R : Nat → Nat → Int) (w : World)
  (hZ : Calls Tryz.prog 11 #[.slice lo n cm] w fun e w' => e = .returned (.bool true) ∧ Below w.heap.size w w')
  (hG : ∀ W, Below w.heap.size w W → Calls Tryz.prog 13 #[.slice lo n cm] W fun e w' => ∃ vo vm, e = .returned (.slice vo n vm) ∧ Pst w' vo n vm X r c z ∧ Below W.heap.size W w')
  (hF : ∀ k, k < n → r k = 6 → c k = 6 → z k = mz 6 6 (F k)) (bX : ∀ k, B64 (X k)) (bF : ∀ k, B2 (F k)) (hs : Sl w ho nh hc ch) (bc : B64 ch) (hr : Sls w ro q rm A L C) (hrr : ∀ i, i < q → Sl w (A i) (L i) (C i) (R i)) (bR : ∀ i, B64 (R i)) (hE : ErrTab w)
  (hMay : ∀ W, Below w.heap.size w W → Calls Tryz.prog 17 #[.slice lo n cm, .slice ho nh hc] W fun e w' => e = .returned (.bool true) ∧ Below W.heap.size W w')
  (hJ : MayJ n nh ch X r c F) (hl : Dst w lo n cm (fun k => .slice (xo k) 6 (xc k)) (fun k => .slice (pa k) 6 (pc k))) (hX : ∀ k, k < n → Sl w (xo k) 6 (xc k) (X k)) (hP : ∀ k, k < n → Grid w (pa k) 6 (pc k) 6 (F k)) (hM : MayX nh ch q L R) :
  Calls Tryz.prog 4 #[.slice lo n cm, .slice ho nh hc, .slice ro q rm] w fun e w' => e = .returned (.bool true) ∧ Below w.heap.size w w' := by
 obtain rfl := hJ.1
 have hch := hJ.2.1
 have HJ : Hid (∀ W lo cm, Below w.heap.size w W → Pst W lo n cm X r c z → Calls Tryz.prog 12 #[.slice lo n cm, .slice ho n hc] W fun e w' => e = .returned (.tuple #[.agg (svals (jX n ch X) 6 6 (mz 6 6 (jP n ch X F))).toArray, .bool (jO n ch X F), .nilIface]) ∧ Below W.heap.size W w') := fun W lo cm b hp => by
  refine (P.join W lo ho n cm n hc X r c z F ch hp hF bX bF (hs.keep b) bc).mono ?_
  rintro e w' ⟨k, ⟨h, rfl⟩ | ⟨h, rfl⟩⟩
  ·exact absurd hJ h
  ·exact ⟨rfl, k⟩
 have HA : Hid (∀ W lo cm, Below w.heap.size w W → Pst W lo n cm X r c z → Calls Tryz.prog 14 #[.slice lo n cm, .slice ho n hc, .slice ro q rm] W fun e w' => ∃ vo vc co cc, e = .returned (.tuple #[.slice vo n vc, .slice co n cc, .bool (aO n ch R X F), .nilIface]) ∧ Pst w' vo n vc (fun k => jX n (shr n ch R k) X) (fun _ => 6) (fun _ => 6) (fun k => mz 6 6 (jP n (shr n ch R k) X F)) ∧ Sl w' co n cc (sh 1073741824 (mxw n ch R) n) ∧ Below W.heap.size W w') := fun W lo cm b hp => by
  refine (P.all W lo ho ro n cm n hc q rm X r c z F ch A L C R hp hF bX bF (hs.keep b) bc (hr.keep b) (fun i hi => (hrr i hi).keep b) bR).mono ?_
  rintro e w' ⟨vo, vn, vc, co, cn, cc, b, ev, rfl, k, hp, hc, ⟨h, rfl, rfl, rfl, rfl⟩ | ⟨h, h', rfl, rfl, rfl, rfl⟩⟩
  ·exact absurd ⟨hJ, hM⟩ h
  ·exact ⟨_, _, _, _, rfl, hp, hc, k⟩
 have HD : Hid (∀ W, Below w.heap.size w W → Calls Tryz.prog 15 #[.slice lo n cm, .slice ho n hc, .slice ro q rm] W fun e w' => ∃ vo vm no nc, e = .returned (.tuple #[.slice vo n vm, .slice no n nc, .bool (aO n ch R X F), .int .i64 0]) ∧ AllR W w' n ch R X F vo vm no nc) := fun W b => dall15_yes lo ho ro n cm hc q rm xo pa xc pc X F ch A L C R W (hl.keep b) (fun k hk => (hX k hk).keep b) (fun k hk => (hP k hk).keep b) (hs.keep b) bX bF bc (hr.keep b) (fun i hi => (hrr i hi).keep b) bR (fun V k => hMay V (below_tr b k)) hM
 have HY : Hid (∀ W, Below w.heap.size w W → Calls Tryz.prog 18 #[.slice lo n cm, .slice ho n hc] W fun e w' => ∃ xo xc po pm, e = .returned (.tuple #[.agg #[.slice xo 6 xc, .slice po 6 pm], .bool (jO n ch X F)]) ∧ JoinR W w' (jX n ch X) (jP n ch X F) xo xc po pm) := fun W b => djoin15_any lo ho n cm hc xo pa xc pc X F ch W (hl.keep b) (fun k hk => (hX k hk).keep b) (fun k hk => (hP k hk).keep b) (hs.keep b) bX bF bc hch.one hch.four
 have HCk := hideL (fun W => pcheck_six (jX n ch X) (jP n ch X F) true W ⟨fun _ => join_may n ch X F, fun _ => rfl⟩)
 have HIs := hideL (fun yo ro yc rc W h h' => pisState_yes yo ro yc rc (jX n ch X) (jP n ch X F) W h h')
 have HMay := hideL hMay
 have HG := hideL hG
 have HZ := hideL hZ
 have HSu := hideL (msure_any P)
 have HE := hideL hE
 have HAr := hideL (fun (ao lo : Option Addr) (ca cm : Nat) A pl C pc W h1 h2 h3 => areStates_yes ao lo n ca cm A pl C pc (fun k => jX n (shr n ch R k) X) (fun k => jP n (shr n ch R k) X F) W h1 h2 h3)
 clear hMay hG hZ hE hs bc hr hrr bR hF bX bF hJ hl hX hP hM hch
 obtain ⟨ab, hab⟩ : ∃ b, b = aO n ch R X F := ⟨_, rfl⟩
 rw [← hab] at HA HD
 clear hab
 obtain ⟨jb, hjb⟩ : ∃ b, b = jO n ch X F := ⟨_, rfl⟩
 rw [← hjb] at HJ HY
 clear hjb
 obtain ⟨Y, hY⟩ : ∃ b, b = jX n ch X := ⟨_, rfl⟩
 rw [← hY] at HJ HY HCk HIs
 obtain ⟨YP, hYP⟩ : ∃ b, b = jP n ch X F := ⟨_, rfl⟩
 rw [← hYP] at HJ HY HCk HIs
 clear hY hYP
 obtain ⟨YZ, hYZ⟩ : ∃ b, b = mz 6 6 YP := ⟨_, rfl⟩
 rw [← hYZ] at HJ HCk HIs
 clear hYZ
 go_enter Tryz.func4, Tryz.ntmps4
 go_wp2_with fail
 refine (HZ.out).mono ?_
 rintro e w0 ⟨rfl, k0⟩
 clear HZ
 go_wp2_with fail
 refine (HG.out _ k0).mono ?_
 rintro e w1 ⟨vo1, vm1, rfl, p1, k1⟩
 have B1 := below_tr k0 k1
 clear k0 k1
 go_wp2_with fail
 refine (HJ.out _ _ _ B1 p1).mono ?_
 rintro e w2 ⟨rfl, k2⟩
 have B2' := below_tr B1 k2
 clear k2 p1 B1 HJ
 go_wp2_with (first
  | ((with_reducible show wpList _ _ _ _ _ _); rw [zeroS]; refine St.wpList_storeNew isS rfl _ _ (by rfl) _ _ _ (by rfl) (by rfl) (svals_len _ _ _ _) (svals_len _ _ _ _) (one_svals _ _ _ _) ?_; intro w3 t3 k3; have B3 := below_tr B2' k3; clear k3 B2')
  | fail)
 refine (HG.out _ B3).mono ?_
 rintro e w4 ⟨vo4, vm4, rfl, p4, k4⟩
 have B4 := below_tr B3 k4
 have t4 := CRow.keep t3 k4
 clear k4 B3 t3 HG
 go_wp2_with fail
 refine (HA.out _ _ _ B4 p4).mono ?_
 rintro e w5 ⟨vo5, vc5, co5, cc5, rfl, p5, s5, k5⟩
 have B5 := below_tr B4 k5
 have t5 := CRow.keep t4 k5
 clear k5 B4 t4 p4 HA
 go_wp2_with fail
 refine (HD.out _ B5).mono ?_
 rintro e w6 ⟨vo6, vm6, no6, nc6, rfl, ⟨A6, pl6, C6, pc6, d6, e6⟩, s6, k6⟩
 have B6 := below_tr B5 k6
 have t6 := CRow.keep t5 k6
 have p6 := p5.keep k6
 have s56 := s5.keep k6
 clear k6 B5 t5 p5 s5 HD
 go_wp2_with fail
 refine (num_nil _).mono ?_
 rintro e w7 ⟨rfl, k7⟩
 have B7 := below_tr B6 k7
 have t7 := CRow.keep t6 k7
 have p7 := p6.keep k7
 have s57 := s56.keep k7
 have d7 := d6.keep k7
 have e7 := fun k (hk : k < n) => (⟨(e6 k hk).1.keep k7, (e6 k hk).2.keep k7⟩ : _ ∧ _)
 have s67 := s6.keep k7
 clear k7 B6 t6 p6 s56 d6 e6 s6
 have C7 := hideL (HAr.out _ _ _ _ _ _ _ _ _ p7 d7 e7)
 clear p7 d7 e7 HAr
 cases ab
 all_goals go_wp2_with fail
 all_goals refine (C7.out).mono ?_
 all_goals rintro e w8 ⟨rfl, k8⟩
 all_goals have B8 := below_tr B7 k8
 all_goals have t8 := CRow.keep t7 k8
 all_goals have s58 := s57.keep k8
 all_goals have s68 := s67.keep k8
 all_goals clear k8 B7 t7 s57 C7 s67
 all_goals go_wp2_with fail
 all_goals refine (nums_yes _ _ _ _ _ _ _ s58 s68).mono ?_
 all_goals rintro e w9 ⟨rfl, k9⟩
 all_goals have B9 := below_tr B8 k9
 all_goals have t9 := CRow.keep t8 k9
 all_goals clear k9 B8 t8 s58 s68
 all_goals go_wp2_with fail
 all_goals refine (HMay.out _ B9).mono ?_
 all_goals rintro e w10 ⟨rfl, k10⟩
 all_goals have B10 := below_tr B9 k10
 all_goals have t10 := CRow.keep t9 k10
 all_goals clear k10 B9 t9
 all_goals go_wp2_with fail
 all_goals refine (HY.out _ B10).mono ?_
 all_goals rintro e w11 ⟨yo, yc, zo, zm, rfl, k11, f11⟩
 all_goals have B11 := below_tr B10 k11
 all_goals have t11 := CRow.keep t10 k11
 all_goals have g11 := hideL (El.Free.self f11)
 all_goals clear k11 B10 t10 f11
 all_goals go_wp2_with (first
  | ((with_reducible show wpList _ _ _ _ _ _); refine St.wpList_storeNew Pr.isRs rfl _ _ (by rfl) _ [.slice none 0 0, .slice none 0 0] [.slice yo 6 yc, .slice zo 6 zm] (by rfl) (by rfl) rfl rfl (El.one2s _ _ _ _ _ _) ?_; intro w12 m12 k12; have B12 := below_tr B11 k12; have t12 := CRow.keep t11 k12; have g12 := hideL (⟨g11.out.1.keep k12, g11.out.2.keep k12⟩ : _ ∧ _); clear k12 B11 t11 g11)
  | ((with_reducible show wpList _ _ _ _ _ _); refine St.wpList_load isS (by kernel_rfl) _ (by rfl) _ _ (by rfl) (by with_reducible exact t12) (svals_len _ _ _ _) ?_)
  | ((with_reducible show wpList _ _ _ _ _ _); refine St.wpList_load Pr.isRs (by kernel_rfl) _ (by rfl) _ _ (by rfl) (by with_reducible exact m12) rfl ?_)
  | fail)
 all_goals refine (HIs.out _ _ _ _ _ g12.out.1 g12.out.2).mono ?_
 all_goals rintro e w13 ⟨rfl, k13⟩
 all_goals have B13 := below_tr B12 k13
 all_goals have t13 := CRow.keep t12 k13
 all_goals clear k13 B12 t12 g12 m12
 all_goals cases jb
 all_goals go_wp2_with (first
  | ((with_reducible show wpList _ _ _ _ _ _); refine St.wpList_load isS (by kernel_rfl) _ (by rfl) _ _ (by rfl) (by with_reducible exact t13) (svals_len _ _ _ _) ?_)
  | fail)
 all_goals refine (HCk.out _).mono ?_
 all_goals rintro e w14 ⟨rfl, k14⟩
 all_goals unfold ckR
 all_goals rw [if_pos rfl]
 all_goals go_wp2_with fail
 all_goals refine (HSu.out _).mono ?_
 all_goals rintro e w15 ⟨rfl, k15⟩
 all_goals go_wp2
 all_goals go_ret
 all_goals exact ⟨rfl, below_tr (below_tr B13 k14) k15⟩
end Go.Proofs.YtoglokgkgonmdaaGreatDoor
namespace Go.Proofs.YtoglokgkgonmdaaGreatDoor
open Go.RowKit Vc St Mt Cn Mx Pd
attribute [local go_sem ↓] Go.wp_at_zero Go.wp_at_succ
set_option maxRecDepth 10000 in
set_option maxHeartbeats 1000000 in
theorem mstates_odd (P : Mx.MPkg) (lo ho ro : Option Addr) (n cm nh hc q rm : Nat) (w : World) (hZ : Calls Tryz.prog 11 #[.slice lo n cm] w fun e w' => e = .returned (.bool false) ∧ Below w.heap.size w w') :
    Calls Tryz.prog 4 #[.slice lo n cm, .slice ho nh hc, .slice ro q rm] w fun e w' => e = .returned (.bool true) ∧ Below w.heap.size w w' := by
  have HZ := hideL hZ
  have HSu := hideL (msure_any P)
  clear hZ
  go_enter Tryz.func4, Tryz.ntmps4
  go_wp2_with fail
  refine (HZ.out).mono ?_
  rintro e w0 ⟨rfl, k0⟩
  go_wp2_with fail
  refine (HSu.out _).mono ?_
  rintro e w1 ⟨rfl, k1⟩
  go_wp2
  go_ret
  exact ⟨rfl, below_tr k0 k1⟩
namespace Mx
theorem getD_b64s {z : List Int} (h5 : ∀ n ∈ z, (Lit.int .i64 n).wf = true) : B64 (fun k => z.getD k 0) := by
  intro k
  show _ ≤ z.getD k 0 ∧ z.getD k 0 ≤ _
  by_cases hk : k < z.length
  · have e : z.getD k 0 = z[k] := by simp [List.getD, List.getElem?_eq_getElem hk]
    rw [e]
    exact bounds_i64 (h5 _ (List.getElem_mem hk))
  · have e : z.getD k 0 = 0 := by simp [List.getD, List.getElem?_eq_none (Nat.le_of_not_lt hk)]
    rw [e]; omega
theorem isrowS {w : World} {a : Option Addr} {len cap : Nat} {z : List Int} (h : FMixStates.IsRow .i64 w a len cap z) : Sl w a len cap (fun k => z.getD k 0) ∧ B64 (fun k => z.getD k 0) := by
  rcases h with ⟨rfl, rfl, rfl, rfl⟩ | ⟨x, rfl, h1, h2, h3, h4, h5⟩
  · exact ⟨Sl.none _ _, fun k => by simp⟩
  · exact ⟨⟨h1, h2, fun k hk => ⟨x, rfl, h4 k (by omega)⟩⟩, getD_b64s h5⟩
theorem isrowsS {w : World} {a : Option Addr} {len cap : Nat} {A : Nat → Option Addr} {L C : Nat → Nat} {Z : Nat → List Int} (h : FMixStates.IsRows .i64 w a len cap A L C Z) :
    Sls w a len cap A L C ∧ ∀ r, r < len → Sl w (A r) (L r) (C r) (fun k => (Z r).getD k 0) ∧ B64 (fun k => (Z r).getD k 0) := by
  rcases h with ⟨rfl, rfl, rfl⟩ | ⟨x, rfl, h1, h2, h3⟩
  · exact ⟨⟨Nat.le_refl _, by omega, fun j hj => by omega⟩, fun r hr => by omega⟩
  · refine ⟨⟨h1, h2, fun j hj => ⟨x, rfl, (h3 j (by omega)).1⟩⟩, fun r hr => ?_⟩
    obtain ⟨r1, r2, r3, r4, r5, r6, r7⟩ := h3 r (by omega)
    refine ⟨⟨r2, r3, fun k hk => ?_⟩, getD_b64s r5⟩
    cases e : A r with
    | none => have := r6 e; omega
    | some y => exact ⟨y, rfl, r7 y e k (by omega)⟩
theorem Dst.congr {w : World} {lo : Option Addr} {n cm : Nat} {U V U' V' : Nat → Value} (h : Dst w lo n cm U V) (e : ∀ k, k < n → U k = U' k ∧ V k = V' k) : Dst w lo n cm U' V' :=
  ⟨h.le, h.cap, fun k hk => by rw [← (e k hk).1, ← (e k hk).2]; exact h.at' k hk⟩
end Mx
theorem mstates_walk (P : Mx.MPkg) : FMixStates.Walk := by
 intro a0 len0 cap0 a1 len1 cap1 z1 a2 len2 cap2 A2 L2 C2 Z2 w h0 h1 h2 hE
 obtain ⟨s1, b1⟩ := Mx.isrowS h1
 obtain ⟨s2, r2⟩ := Mx.isrowsS h2
 obtain ⟨lo, n, cm, D, e, hl, hD⟩ := states_lie h0
 injection e with e _
 injection e with e1 e2 e3
 subst e1 e2 e3
 have hRs : ∀ i, i < len2 → Sl w (A2 i) (L2 i) (C2 i) (fun k => if i < len2 then (Z2 i).getD k 0 else 0) := fun i hi => (r2 i hi).1.congr (fun k _ => by rw [if_pos hi])
 have hRb : ∀ i, B64 (fun k => if i < len2 then (Z2 i).getD k 0 else 0) := fun i k => by
  show _ ≤ (if i < len2 then (Z2 i).getD k 0 else 0) ∧ (if i < len2 then (Z2 i).getD k 0 else 0) ≤ _
  by_cases e : i < len2
  ·rw [if_pos e]; exact (r2 i e).2 k
  ·rw [if_neg e]; omega
 by_cases hz : len0 ≤ 10 ∧ ∀ k, k < len0 → (D k).xn = 6
 ·have key : ∀ k, k < len0 → ∃ y : Int × Int × (Nat → Int) × (Nat → Nat → Int) × Bool, Kn w (D k) y.1 y.2.1 y.2.2.1 y.2.2.2.1 y.2.2.2.2 := fun k hk => known (hD k hk) (hz.2 k hk)
  obtain ⟨Y, hY⟩ : ∃ Y : Nat → Int × Int × (Nat → Int) × (Nat → Nat → Int) × Bool, ∀ k, (k < len0 → Kn w (D k) (Y k).1 (Y k).2.1 (Y k).2.2.1 (Y k).2.2.2.1 (Y k).2.2.2.2) ∧ B2 (Y k).2.2.2.1 := by
   refine ⟨fun k => if h : k < len0 then (key k h).choose else (0, 0, fun _ => 0, fun _ _ => 0, false), fun k => ?_⟩
   by_cases h : k < len0
   ·simp only [dif_pos h]
    exact ⟨fun _ => (key k h).choose_spec, (key k h).choose_spec.b2⟩
   ·simp only [dif_neg h]
    exact ⟨fun q => absurd q h, fun i j => by show _ ≤ (0 : Int) ∧ (0 : Int) ≤ _; omega⟩
  have hl6 : Dst w a0 len0 cap0 (fun k => .slice (D k).xo 6 (D k).xc) (fun k => .slice (D k).po (D k).pn (D k).pc) := Mx.Dst.congr hl fun k hk => ⟨by rw [hz.2 k hk], rfl⟩
  have hX : ∀ k, k < len0 → Sl w (D k).xo 6 (D k).xc (if k < len0 then (D k).X else fun _ => 0) := fun k hk => by
   rw [if_pos hk]
   have := (hD k hk).x
   rw [hz.2 k hk] at this
   exact this
  have bX : ∀ k, B64 (if k < len0 then (D k).X else fun _ => 0) := fun k => by
   by_cases h : k < len0
   ·rw [if_pos h]; exact (hD k h).xb
   ·rw [if_neg h]; intro j; show _ ≤ (0 : Int) ∧ (0 : Int) ≤ _; omega
  have hZ := sized_any a0 len0 cap0 (fun k => (D k).xo) (fun k => (D k).xn) (fun k => (D k).xc) _ true w hl (fun k hk => by have := (hD k hk).x.le; have := (hD k hk).x.cap; omega) ⟨fun _ => hz, fun _ => rfl⟩
  have hG := fun W (b : Below w.heap.size w W) => giveStates_any a0 len0 cap0 (fun k => (D k).xo) (fun k => (D k).po) (fun k => (D k).xc) (fun k => (D k).pn) (fun k => (D k).pc) (fun k => if k < len0 then (D k).X else fun _ => 0) (fun k => (Y k).1) (fun k => (Y k).2.1) (fun k => (Y k).2.2.1) W (hl6.keep b) (fun k hk => (hX k hk).keep b) hz.1 (fun k hk V q => ((hY k).1 hk).mat V (below_tr b q))
  have hF : ∀ k, k < len0 → (Y k).1 = 6 → (Y k).2.1 = 6 → (Y k).2.2.1 = mz 6 6 (Y k).2.2.2.1 := fun k hk a b => (((hY k).1 hk).six a b).2.2
  have hMay := fun (b : Bool) (hb : b = true ↔ len0 = len1 ∧ Ch len1 (fun k => z1.getD k 0) 0 ∧ ∀ k, k < len0 → (Y k).2.2.2.2 = true) W (q : Below w.heap.size w W) => dmay15_any a0 a1 len0 cap0 len1 cap1 _ _ _ (fun k => (Y k).2.2.2.2) b W (hl6.keep q) (s1.keep q) b1 (fun V p k hk => ((hY k).1 hk).may V (below_tr q p)) hb
  have hiff : (len0 = len1 ∧ Ch len1 (fun k => z1.getD k 0) 0 ∧ ∀ k, k < len0 → (Y k).2.2.2.2 = true) ↔ MayJ len0 len1 (fun k => z1.getD k 0) (fun k => if k < len0 then (D k).X else fun _ => 0) (fun k => (Y k).1) (fun k => (Y k).2.1) (fun k => (Y k).2.2.2.1) := by
   refine ⟨fun h => ⟨h.1, h.2.1, fun k hk => ?_⟩, fun h => ⟨h.1, h.2.1, fun k hk => ?_⟩⟩
   ·simp only [if_pos hk]; exact ((hY k).1 hk).iff.1 (h.2.2 k hk)
   ·have := h.2.2 k hk
    simp only [if_pos hk] at this
    exact ((hY k).1 hk).iff.2 this
  by_cases hJ : MayJ len0 len1 (fun k => z1.getD k 0) (fun k => if k < len0 then (D k).X else fun _ => 0) (fun k => (Y k).1) (fun k => (Y k).2.1) (fun k => (Y k).2.2.2.1)
  ·have hl66 : Dst w a0 len0 cap0 (fun k => .slice (D k).xo 6 (D k).xc) (fun k => .slice (D k).po 6 (D k).pc) := Mx.Dst.congr hl6 fun k hk => ⟨rfl, by rw [(((hY k).1 hk).six (hJ.2.2 k hk).1 (hJ.2.2 k hk).2.1).1]⟩
   have hP : ∀ k, k < len0 → Grid w (D k).po 6 (D k).pc 6 (Y k).2.2.2.1 := fun k hk => (((hY k).1 hk).six (hJ.2.2 k hk).1 (hJ.2.2 k hk).2.1).2.1
   have hM1 := hMay true ⟨fun _ => hiff.2 hJ, fun _ => rfl⟩
   by_cases hM : MayX len1 (fun k => z1.getD k 0) len2 L2 (fun i k => if i < len2 then (Z2 i).getD k 0 else 0)
   ·exact mstates_yes P a0 a1 a2 len0 cap0 len1 cap1 len2 cap2 (fun k => (D k).xo) (fun k => (D k).po) (fun k => (D k).xc) (fun k => (D k).pn) (fun k => (D k).pc) _ _ _ _ _ _ A2 L2 C2 _ w hZ hG hF bX (fun k => (hY k).2) s1 b1 s2 hRs hRb hE hM1 hJ hl66 hX hP hM
   ·exact mstates_half P a0 a1 a2 len0 cap0 len1 cap1 len2 cap2 (fun k => (D k).xo) (fun k => (D k).po) (fun k => (D k).xc) (fun k => (D k).pn) (fun k => (D k).pc) _ _ _ _ _ _ A2 L2 C2 _ w hZ hG hF bX (fun k => (hY k).2) s1 b1 s2 hRs hRb hE hM1 hJ hl66 hX hP hM
  ·exact mstates_no P a0 a1 a2 len0 cap0 len1 cap1 len2 cap2 (fun k => (D k).xo) (fun k => (D k).po) (fun k => (D k).xc) (fun k => (D k).pn) (fun k => (D k).pc) _ _ _ _ _ _ A2 L2 C2 _ w hZ hG hF bX (fun k => (hY k).2) s1 b1 s2 hRs hRb hE (hMay false ⟨fun q => (by cases q), fun q => absurd (hiff.1 q) hJ⟩) hJ
 ·exact mstates_odd P a0 a1 a2 len0 cap0 len1 cap1 len2 cap2 w (sized_any a0 len0 cap0 (fun k => (D k).xo) (fun k => (D k).xn) (fun k => (D k).xc) _ false w hl (fun k hk => by have := (hD k hk).x.le; have := (hD k hk).x.cap; omega) ⟨fun q => (by cases q), fun q => absurd q hz⟩)
end Go.Proofs.YtoglokgkgonmdaaGreatDoor
