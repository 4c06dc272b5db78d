/-
  What is proved: whatever rows and numbers it is given, the law MatSums of layer 8 returns true, ends without a panic, and leaves what was there as it was; its condition: the library's variable errors.errorType holds what the program's text lays there, which the card ties. (By py/MSums.py.)
-/
import Derived.Test.YtgmagehgnjopcaaDoorMtU
import Derived.Test.YtgmagehgnjopcaaDoorErrA
import Derived.Test.YtgmagehgnjopcaaDoorFMatSums
import Derived.Deep.CutRange
import Derived.Deep.DeepCutAuto
set_option linter.unusedSimpArgs false
set_option linter.unusedVariables false
namespace Go.Proofs.YtgmagehgnjopcaaDoor
open Go.RowKit Vc Mt Qn Dt

namespace Mt
theorem dk_comm2 (a b : Nat → Int) : ∀ n, dk a b n = dk b a n
  | 0 => rfl
  | n + 1 => by show dk a b n + a n * b n = dk b a n + b n * a n; rw [dk_comm2 a b n, Int.mul_comm]
end Mt

/-- The document's product is the program's. -/
theorem rmul_is (n m q ca cb : Nat) (ao bo : Option Addr) (F G : Nat → Nat → Int) (w : World) (h1 : 1 ≤ n) (h2 : n ≤ 6) (h3 : 1 ≤ m) (h4 : m ≤ 6) (h5 : 1 ≤ q) (h6 : q ≤ 6) (ga : Grid w ao n ca m F) (gb : Grid w bo m cb q G) (hF : B2 F) (hG : B2 G) :
    Calls Tryd.prog 29 #[.slice ao n ca, .slice bo m cb] w fun e w' => ∃ lo cm, e = .returned (.tuple #[.slice lo n cm, .bool (any2 (fun i j => great (mulR F G m i j)) n q)]) ∧ Grid w' lo n cm q (fun i j => clamp (mulR F G m i j)) ∧ Below w.heap.size w w' := by
  have e1 : (fun i j => Qn.great (Qn.rne (dk (fun k => G k j) (F i) m) (2 ^ 20))) = fun i j => great (mulR F G m i j) := by funext i j; rw [dk_comm2]; rfl
  have e2 : (fun i j => Qn.clamp (Qn.rne (dk (fun k => G k j) (F i) m) (2 ^ 20))) = fun i j => clamp (mulR F G m i j) := by funext i j; rw [dk_comm2]; rfl
  have h := rmul_any n m q ca cb ao bo F G w h1 h2 h3 h4 h5 h6 ga gb hF hG
  rw [e1, e2] at h
  exact h

theorem isrows7 {w : World} {a : Option Addr} {len cap : Nat} {A : Nat → Option Addr} {L C : Nat → Nat} {Z : Nat → List Int} (h : FMatSums.IsRows .i64 w a len cap A L C Z) :
    Sls w a len cap A L C ∧ ∀ r, r < len → Sl w (A r) (L r) (C r) (fun k => (Z r).getD k 0) ∧ B64 (fun k => (Z r).getD k 0) := by
  rcases h with ⟨rfl, rfl, rfl⟩ | ⟨x, rfl, h1, h2, h3⟩
  · exact ⟨⟨Nat.le_refl _, by omega, fun j hj => by omega⟩, fun r hr => by omega⟩
  · refine ⟨⟨h1, h2, fun j hj => ⟨x, rfl, (h3 j (by omega)).1⟩⟩, fun r hr => ?_⟩
    obtain ⟨r1, r2, r3, r4, r5, r6, r7⟩ := h3 r (by omega)
    refine ⟨⟨r2, r3, fun k hk => ?_⟩, getD_b r5⟩
    cases e : A r with
    | none => have := r6 e; omega
    | some y => exact ⟨y, rfl, r7 y e k (by omega)⟩

theorem isrow7 {w : World} {a : Option Addr} {len cap : Nat} {z : List Int} (h : FMatSums.IsRow .i64 w a len cap z) : Sl w a len cap (fun k => z.getD k 0) ∧ B64 (fun k => z.getD k 0) := by
  rcases h with ⟨rfl, rfl, rfl, rfl⟩ | ⟨x, rfl, h1, h2, h3, h4, h5⟩
  · exact ⟨Sl.none _ _, fun k => by simp⟩
  · exact ⟨⟨h1, h2, fun k hk => ⟨x, rfl, h4 k (by omega)⟩⟩, getD_b h5⟩

set_option maxRecDepth 20000 in
set_option maxHeartbeats 8000000 in
theorem msums_any (ao bo vo : Option Addr) (n n' lv ca cb cv : Nat) (v : Nat → Int) (one two : Bool) (rx cx ry cy : Int) (zx zy : Nat → Int) (w : World) (hn : n ≤ 9223372036854775807) (hn' : n' ≤ 9223372036854775807)
    (ha : RowsOK w ao n ca one rx cx zx) (hb : RowsOK w bo n' cb two ry cy zy) (hv : Sl w vo lv cv v) (bv : B64 v) (hE : ErrTab w) :
    Calls Tryd.prog 4 #[.slice ao n ca, .slice bo n' cb, .slice vo lv cv] w fun e w' => e = .returned (.bool true) ∧ Below w.heap.size w w' := by
  have l1 := hv.le
  have l2 := hv.cap
  have HE := Hid.mkV hE
  obtain ⟨al, rA, cA, zA, tA, fA, rS, cS, zS, tS, fS, a1, a2, a3, a4, a5⟩ := sums_add ha hb
  obtain ⟨dm, rM, cM, zM, tM, fM, m1, m2, m3, m4⟩ := sums_mul ha hb
  obtain ⟨dv, p1, p2⟩ := sums_app ha hv bv
  obtain ⟨rO, cO, zO, tO, fO, o1, o2, o3⟩ := sums_out hv bv
  have MA := Hid.mkV ha.may
  have MB := Hid.mkV hb.may
  have OA := Hid.mkV ha.mat
  have OB := Hid.mkV hb.mat
  have CA := Hid.mkV a1
  have CS := Hid.mkV a2
  have CL := Hid.mkV a3
  have CM := Hid.mkV m1
  have CP := Hid.mkV p1
  have CO := Hid.mkV o1
  have HL2 := Hid.mkV m2
  have HL3 := Hid.mkV p2
  have HO := Hid.mkV (And.intro o2 o3)
  have HV := Hid.mkV hv
  have HBV := Hid.mkV bv
  obtain ⟨q1, hq1⟩ : ∃ b, b = (!one || !two || !al) := ⟨_, rfl⟩
  obtain ⟨q2, hq2⟩ : ∃ b, b = (!one || !two || dm) := ⟨_, rfl⟩
  obtain ⟨q3, hq3⟩ : ∃ b, b = (!one || dv) := ⟨_, rfl⟩
  rw [← hq1] at a4 a5
  rw [← hq2] at m3 m4
  rw [← hq3] at CP
  have H1 := Hid.mkV (And.intro a4 a5)
  have H2 := Hid.mkV (And.intro m3 m4)
  have Q1 := Hid.mkV hq1
  have Q2 := Hid.mkV hq2
  have Q3 := Hid.mkV hq3
  clear ha hb hv bv hE a1 a2 a3 a4 a5 m1 m2 m3 m4 p1 p2 o1 o2 o3 hq1 hq2 hq3
  go_enter Tryd.func4, Tryd.ntmps4
  go_wp2_with fail
  refine (OA.out _ (Below.refl _ _)).mono ?_
  rintro e w3 ⟨rfl, K3⟩
  go_wp2_with fail
  refine (OB.out _ K3).mono ?_
  rintro e w4 ⟨rfl, k4⟩
  have K4 := below_tr K3 k4
  clear k4 K3 OB OA
  have r5 := (mrow_new w4 0 0 (fun _ => 0)).alloc (.cells (mvals 0 0 (fun _ => 0)).toArray 25)
  have r6 := (mrow_new1 w4 (.cells (mvals 0 0 (fun _ => 0)).toArray 25) 0 0 (fun _ => 0)).rowOther (g := w4.heap.size) (by omega) (mvals rx cx zx).toArray
  have x5 := (r5.row rx cx zx).rowOther (g := w4.heap.size + 1) (by omega) (mvals ry cy zy).toArray
  have y6 := r6.row ry cy zy
  have k5 := below_row (below_row (below_al (below_al (Below.refl _ w4) (.cells (mvals 0 0 (fun _ => 0)).toArray 25)) (.cells (mvals 0 0 (fun _ => 0)).toArray 25)) (Nat.le_refl _) (mvals rx cx zx).toArray) (show w4.heap.size ≤ w4.heap.size + 1 by omega) (mvals ry cy zy).toArray
  obtain ⟨w5, hw5⟩ : ∃ w5, w5 = (((w4.alloc (.cells (mvals 0 0 (fun _ => 0)).toArray 25)).alloc (.cells (mvals 0 0 (fun _ => 0)).toArray 25)).setRow w4.heap.size (mvals rx cx zx).toArray).setRow (w4.heap.size + 1) (mvals ry cy zy).toArray := ⟨_, rfl⟩
  rw [← hw5] at x5 y6 k5
  have HW5 := Hid.mkV hw5
  have K5 := below_tr K4 k5
  clear hw5 k5 K4
  go_wp2_with (first
    | (refine wpList_loadM (by rfl) _ (by rfl) _ _ _ _ (by rfl) (by with_reducible exact x5) ?_)
    | (refine wpList_loadM (by rfl) _ (by rfl) _ _ _ _ (by rfl) (by with_reducible exact y6) ?_)
    | (rw [zeroM]; refine wpList_storeM rfl _ _ (by rfl) _ _ _ _ _ _ _ (by rfl) (by rfl) (by with_reducible exact r5) ?_)
    | (refine wpList_storeM rfl _ _ (by rfl) _ _ _ _ _ _ _ (by rfl) (by rfl) (by with_reducible exact r6) ?_; rw [← HW5.out])
    | fail)
  refine (CA.out _).mono ?_
  rintro e wq1 ⟨rfl, kq1⟩
  have KK1 := below_tr K5 kq1
  have x_1 := x5.keep kq1
  have y_1 := y6.keep kq1
  clear K5 x5 y6
  clear HW5 r5 r6
  go_wp2_with (first
    | (rw [zeroM]; refine wpList_storeNew rfl _ _ (by rfl) _ _ _ _ (by rfl) (by rfl) ?_; intro ws2 ns2 ks2; have KK2 := below_tr KK1 ks2; have x_2 := x_1.keep ks2; have y_2 := y_1.keep ks2; clear KK1 x_1 y_1)
    | (refine wpList_loadM (by rfl) _ (by rfl) _ _ _ _ (by rfl) (by with_reducible exact x_2) ?_)
    | (refine wpList_loadM (by rfl) _ (by rfl) _ _ _ _ (by rfl) (by with_reducible exact y_2) ?_)
    | fail)
  refine (CS.out _).mono ?_
  rintro e wq3 ⟨rfl, kq3⟩
  have KK3 := below_tr KK2 kq3
  have x_3 := x_2.keep kq3
  have y_3 := y_2.keep kq3
  have s_3 := ns2.keep kq3
  clear KK2 x_2 y_2 ns2
  as_aux_lemma =>
  go_wp2_with (first
    | (rw [zeroM]; refine wpList_storeNew rfl _ _ (by rfl) _ _ _ _ (by rfl) (by rfl) ?_; intro ws4 ns4 ks4; have KK4 := below_tr KK3 ks4; have x_4 := x_3.keep ks4; have y_4 := y_3.keep ks4; have s_4 := s_3.keep ks4; clear KK3 x_3 y_3 s_3)
    | (refine wpList_loadM (by rfl) _ (by rfl) _ _ _ _ (by rfl) (by with_reducible exact x_4) ?_)
    | (refine wpList_loadM (by rfl) _ (by rfl) _ _ _ _ (by rfl) (by with_reducible exact y_4) ?_)
    | fail)
  refine (CM.out _).mono ?_
  rintro e wq5 ⟨rfl, kq5⟩
  have KK5 := below_tr KK4 kq5
  have x_5 := x_4.keep kq5
  have y_5 := y_4.keep kq5
  have s_5 := s_4.keep kq5
  have d_5 := ns4.keep kq5
  clear KK4 x_4 y_4 s_4 ns4
  go_wp2_with (first
    | (rw [zeroM]; refine wpList_storeNew rfl _ _ (by rfl) _ _ _ _ (by rfl) (by rfl) ?_; intro ws6 ns6 ks6; have KK6 := below_tr KK5 ks6; have x_6 := x_5.keep ks6; have y_6 := y_5.keep ks6; have s_6 := s_5.keep ks6; have d_6 := d_5.keep ks6; clear KK5 x_5 y_5 s_5 d_5)
    | (refine wpList_loadM (by rfl) _ (by rfl) _ _ _ _ (by rfl) (by with_reducible exact x_6) ?_)
    | fail)
  refine (CP.out _ KK6).mono ?_
  rintro e wq7 ⟨pco, pl, pcc, pt, pf, rfl, ap, kq7⟩
  have KK7 := below_tr KK6 kq7
  have x_7 := x_6.keep kq7
  have y_7 := y_6.keep kq7
  have s_7 := s_6.keep kq7
  have d_7 := d_6.keep kq7
  have m_7 := ns6.keep kq7
  clear KK6 x_6 y_6 s_6 d_6 ns6
  go_wp2_with (first
    | fail)
  refine (MA.out _ KK7).mono ?_
  rintro e wq8 ⟨rfl, kq8⟩
  have KK8 := below_tr KK7 kq8
  have s_8 := s_7.keep kq8
  have d_8 := d_7.keep kq8
  have m_8 := m_7.keep kq8
  have ap_8 := ap.keep kq8
  clear KK7 s_7 d_7 m_7 ap
  go_wp2_with (first
    | fail)
  refine (MB.out _ KK8).mono ?_
  rintro e wq9 ⟨rfl, kq9⟩
  have KK9 := below_tr KK8 kq9
  have s_9 := s_8.keep kq9
  have d_9 := d_8.keep kq9
  have m_9 := m_8.keep kq9
  have ap_9 := ap_8.keep kq9
  clear KK8 s_8 d_8 m_8 ap_8
  go_upto_region 7 with fail
  go_cut [83] (fun b wx => b = .bool q1 ∧ Below wq9.heap.size wq9 wx)
  case first =>
    as_aux_lemma =>
    cases one
    · have e1 : q1 = true := by rw [Q1.out]; rfl
      clear H1 H2 HL2 HL3 Q1 Q2 Q3 CL
      go_wp2
      go_meet
      exact ⟨by rw [e1], Below.refl _ _⟩
    · cases two
      · have e1 : q1 = true := by rw [Q1.out]; rfl
        clear H1 H2 HL2 HL3 Q1 Q2 Q3 CL
        go_wp2
        go_meet
        exact ⟨by rw [e1], Below.refl _ _⟩
      · have e1 : q1 = !al := by rw [Q1.out]; rfl
        have C1 := Hid.mkV (CL.out rfl rfl _ KK9)
        clear H1 H2 HL2 HL3 Q1 Q2 Q3 CL
        go_wp2_with fail
        refine C1.out.mono ?_
        rintro e wa ⟨rfl, ka⟩
        go_wp2
        go_meet
        exact ⟨by rw [e1], ka⟩
  obtain ⟨rfl, kx⟩ := hcut
  have s7 := s_9.keep kx
  have d7 := d_9.keep kx
  have m7 := m_9.keep kx
  have ap7 := ap_9.keep kx
  have K7 := below_tr KK9 kx
  clear kx s_9 d_9 m_9 ap_9 KK9 CL Q1
  go_upto_if 83 with fail
  go_cut [] (fun wx => MRow wx wq5.heap.size rM cM zM ∧ AppIs q3 w ao n ca lv v wx pco pl pcc pt pf ∧ Below w.heap.size w wx)
  case first =>
    as_aux_lemma =>
    cases q1
    · obtain ⟨m, F, G, rfl, h1, h2, h3, h4, gF, gG, bF, bG, rfl, rfl, hzA, htA, rfl, rfl, rfl, hzS, htS, rfl⟩ := H1.out.1 rfl
      have DA := Hid.mkV (fun W (b : Below w.heap.size w W) => rmadd_no n m ca cb ao bo F G W h1 h2 h3 h4 (gF.keep b) (gG.keep b) bF bG)
      have DS := Hid.mkV (fun W (b : Below w.heap.size w W) => rmadd_yes n m ca cb ao bo F G W h1 h2 h3 h4 (gF.keep b) (gG.keep b) bF bG)
      have RA := Hid.mkV (fun W => rowsOf_any n m (fun i j => clamp (F i j + G i j)) W h1 h2 h3 h4)
      have RS := Hid.mkV (fun W => rowsOf_any n m (fun i j => clamp (F i j - G i j)) W h1 h2 h3 h4)
      obtain ⟨fa, hfa⟩ : ∃ f : Nat → Nat → Int, f = fun i j => clamp (F i j + G i j) := ⟨_, rfl⟩
      obtain ⟨fs, hfs⟩ : ∃ f : Nat → Nat → Int, f = fun i j => clamp (F i j - G i j) := ⟨_, rfl⟩
      rw [← hzA, ← hfa] at RA
      rw [← hzS, ← hfs] at RS
      rw [← htA, ← hfa] at DA
      rw [← htS, ← hfs] at DS
      clear hzA htA hzS htS hfa hfs gF gG bF bG H1 H2 HL2 HL3 HO
      go_wp2_with fail
      refine (DA.out _ K7).mono ?_
      rintro e wa ⟨la, qa, rfl, ga, ka⟩
      have KA := below_tr K7 ka
      have s8 := s7.keep ka
      have d8 := d7.keep ka
      have m8 := m7.keep ka
      have ap8 := ap7.keep ka
      clear K7 s7 d7 m7 ap7 ka
      go_wp2_with fail
      refine (DS.out _ KA).mono ?_
      rintro e wb ⟨lb, qb, rfl, gb, kb⟩
      have KB := below_tr KA kb
      have s9 := s8.keep kb
      have d9 := d8.keep kb
      have m9 := m8.keep kb
      have ap9 := ap8.keep kb
      have ga2 := ga.keep kb
      clear KA s8 d8 m8 ap8 ga kb
      go_wp2_with (first
        | (refine wpList_loadM (by rfl) _ (by rfl) _ _ _ _ (by rfl) (by with_reducible exact s9) ?_)
        | fail)
      refine (RA.out _).mono ?_
      rintro e wc1 ⟨lc, qc, rfl, gc, kc⟩
      have KC := below_tr KB kc
      have d10 := d9.keep kc
      have m10 := m9.keep kc
      have ap10 := ap9.keep kc
      have ga3 := ga2.keep kc
      have gb3 := gb.keep kc
      clear KB s9 d9 m9 ap9 ga2 gb kc
      go_wp2_with fail
      refine (sameRows_yes n m _ _ _ _ _ _ h2 gc ga3).mono ?_
      rintro e wd ⟨rfl, kd⟩
      have KD := below_tr KC kd
      have d11 := d10.keep kd
      have m11 := m10.keep kd
      have ap11 := ap10.keep kd
      have gb4 := gb3.keep kd
      clear KC d10 m10 ap10 ga3 gb3 gc kd
      go_wp2_with (first
        | (refine wpList_loadM (by rfl) _ (by rfl) _ _ _ _ (by rfl) (by with_reducible exact d11) ?_)
        | fail)
      refine (RS.out _).mono ?_
      rintro e we ⟨le, qe, rfl, ge, ke⟩
      have KE := below_tr KD ke
      have m12 := m11.keep ke
      have ap12 := ap11.keep ke
      have gb5 := gb4.keep ke
      clear KD m11 ap11 gb4 d11 ke
      go_wp2_with fail
      refine (sameRows_yes n m _ _ _ _ _ _ h2 ge gb5).mono ?_
      rintro e wf ⟨rfl, kf⟩
      have KF := below_tr KE kf
      have m13 := m12.keep kf
      have ap13 := ap12.keep kf
      clear KE m12 ap12 gb5 ge kf
      go_wp2
      go_meet
      exact ⟨m13, ap13, KF⟩
    · obtain ⟨rfl, rfl, rfl, rfl, rfl, rfl, rfl, rfl, rfl, rfl⟩ := H1.out.2 rfl
      clear H1 H2 HL2 HL3 HO
      go_wp2_with fail
      refine (num_err 1 _ (HE.out.below K7)).mono ?_
      rintro e wa ⟨rfl, ka⟩
      have KA := below_tr K7 ka
      have s8 := s7.keep ka
      have d8 := d7.keep ka
      have m8 := m7.keep ka
      have ap8 := ap7.keep ka
      clear K7 s7 d7 m7 ap7 ka
      go_wp2_with fail
      refine (num_err 1 _ (HE.out.below KA)).mono ?_
      rintro e wb ⟨rfl, kb⟩
      have KB := below_tr KA kb
      have s9 := s8.keep kb
      have d9 := d8.keep kb
      have m9 := m8.keep kb
      have ap9 := ap8.keep kb
      clear KA s8 d8 m8 ap8 kb
      go_wp2_with (first
        | (refine wpList_loadM (by rfl) _ (by rfl) _ _ _ _ (by rfl) (by with_reducible exact s9) ?_)
        | (refine wpList_loadM (by rfl) _ (by rfl) _ _ _ _ (by rfl) (by with_reducible exact d9) ?_)
        | (refine wpList_build0g (by rfl) (by rfl) ?_)
        | (refine wpList_neM (by rfl) _ _ _ (by rfl) _ _ _ (by rfl) (by rfl) ?_)
        | fail)
      go_meet
      exact ⟨m9, ap9, KB⟩
  obtain ⟨m8, ap8, K8⟩ := hcut
  clear s7 d7 m7 ap7 K7 H1
  rename World => w8
  go_upto_region 14 with fail
  go_cut [164] (fun b wx => b = .bool q2 ∧ w8 = wx)
  case first =>
    as_aux_lemma =>
    cases one
    · have e1 : q2 = true := by rw [Q2.out]; rfl
      clear H2 HL2 HL3 Q2 Q3
      go_wp2
      go_meet
      exact ⟨by rw [e1], rfl⟩
    · cases two
      · have e1 : q2 = true := by rw [Q2.out]; rfl
        clear H2 HL2 HL3 Q2 Q3
        go_wp2
        go_meet
        exact ⟨by rw [e1], rfl⟩
      · have e1 : q2 = dm := by rw [Q2.out]; rfl
        obtain ⟨x, m, a0, c0, rfl, cx0, g1, g2, g3, g4, g5, g6⟩ := HL2.out rfl rfl
        have cy0 := keep_cell K8 cx0
        clear H2 HL2 HL3 Q2 Q3 cx0
        go_wp2
        go_meet
        exact ⟨by rw [e1], rfl⟩
  obtain ⟨rfl, rfl⟩ := hcut
  clear HL2 Q2
  go_upto_if 164 with fail
  go_cut [] (fun wx => AppIs q3 w ao n ca lv v wx pco pl pcc pt pf ∧ Below w.heap.size w wx)
  case first =>
    as_aux_lemma =>
    cases q2
    · obtain ⟨m, q, F, G, rfl, h1, h2, h3, h4, h5, h6, gF, gG, bF, bG, rfl, rfl, hzM, htM, rfl⟩ := H2.out.1 rfl
      have DM := Hid.mkV (fun W (b : Below w.heap.size w W) => rmul_is n m q ca cb ao bo F G W h1 h2 h3 h4 h5 h6 (gF.keep b) (gG.keep b) bF bG)
      have RM := Hid.mkV (fun W => rowsOf_any n q (fun i j => clamp (mulR F G m i j)) W h1 h2 h5 h6)
      obtain ⟨fm, hfm⟩ : ∃ f : Nat → Nat → Int, f = fun i j => clamp (mulR F G m i j) := ⟨_, rfl⟩
      rw [← hzM, ← hfm] at RM
      rw [← htM, ← hfm] at DM
      clear hzM htM hfm gF gG bF bG H2 HL3 HO
      go_wp2_with fail
      refine (DM.out _ K8).mono ?_
      rintro e wa ⟨la, qa, rfl, ga, ka⟩
      have KA := below_tr K8 ka
      have m9 := m8.keep ka
      have ap9 := ap8.keep ka
      clear K8 m8 ap8 ka
      go_wp2_with (first
        | (refine wpList_loadM (by rfl) _ (by rfl) _ _ _ _ (by rfl) (by with_reducible exact m9) ?_)
        | fail)
      refine (RM.out _).mono ?_
      rintro e wb ⟨lb, qb, rfl, gb, kb⟩
      have KB := below_tr KA kb
      have ap10 := ap9.keep kb
      have ga2 := ga.keep kb
      clear KA ap9 ga m9 kb
      go_wp2_with fail
      refine (sameRows_yes n q _ _ _ _ _ _ h2 gb ga2).mono ?_
      rintro e wd ⟨rfl, kd⟩
      have KD := below_tr KB kd
      have ap11 := ap10.keep kd
      clear KB ap10 gb ga2 kd
      go_wp2
      go_meet
      exact ⟨ap11, KD⟩
    · obtain ⟨rfl, rfl, rfl, rfl, rfl⟩ := H2.out.2 rfl
      clear H2 HL3 HO
      go_wp2_with fail
      refine (num_err 1 _ (HE.out.below K8)).mono ?_
      rintro e wa ⟨rfl, ka⟩
      have KA := below_tr K8 ka
      have m9 := m8.keep ka
      have ap9 := ap8.keep ka
      clear K8 m8 ap8 ka
      go_wp2_with (first
        | (refine wpList_loadM (by rfl) _ (by rfl) _ _ _ _ (by rfl) (by with_reducible exact m9) ?_)
        | (refine wpList_build0g (by rfl) (by rfl) ?_)
        | (refine wpList_neM (by rfl) _ _ _ (by rfl) _ _ _ (by rfl) (by rfl) ?_)
        | fail)
      go_meet
      exact ⟨ap9, KA⟩
  obtain ⟨ap9, K9⟩ := hcut
  clear m8 ap8 K8 H2
  rename World => w9
  go_upto_region 20 with fail
  go_cut [206] (fun b wx => b = .bool q3 ∧ w9 = wx)
  case first =>
    as_aux_lemma =>
    cases one
    · have e1 : q3 = true := by rw [Q3.out]; rfl
      clear HL3 Q3
      go_wp2
      go_meet
      exact ⟨by rw [e1], rfl⟩
    · have e1 : q3 = dv := by rw [Q3.out]; rfl
      obtain ⟨x, m, a0, c0, rfl, cx0, g1, g2, g3, g4, g5⟩ := HL3.out rfl
      have cy0 := keep_cell K9 cx0
      clear HL3 Q3 cx0
      go_wp2
      go_meet
      exact ⟨by rw [e1], rfl⟩
  obtain ⟨rfl, rfl⟩ := hcut
  clear HL3 Q3
  go_upto_if 206 with fail
  go_cut [] (fun wx => Below w.heap.size w wx)
  case first =>
    as_aux_lemma =>
    cases q3
    · obtain ⟨m, F, rfl, rfl, h1, h2, h4, gF, bF, htP, rfl, sP⟩ := ap9.yes rfl
      have DP : Hid (∀ W, Below w.heap.size w W → Calls Tryd.prog 30 #[.slice ao n ca, .slice vo lv cv] W fun e w' => ∃ co cc, e = .returned (.tuple #[.slice co n cc, .bool (anyb (fun i => great (appR F v lv i)) n)]) ∧ Own W.heap.size W w' (.slice co n cc) n (fun i => clamp (appR F v lv i))) :=
        fun W b => rapply_any n lv ca cv ao vo F v W h2 h4 (gF.keep b) (HV.out.keep b) bF HBV.out
      obtain ⟨fp, hfp⟩ : ∃ f : Nat → Int, f = fun i => clamp (appR F v lv i) := ⟨_, rfl⟩
      rw [← htP, ← hfp] at DP
      rw [← hfp] at sP
      clear htP hfp gF bF HO ap9
      go_wp2_with fail
      refine (DP.out _ K9).mono ?_
      rintro e wa ⟨co, cc, rfl, ho⟩
      have KA := below_tr K9 ho.below
      have sP2 := sP.keep ho.below
      obtain ⟨co', cc', e1, s2, _⟩ := own_fresh ho
      injection e1 with ea _ ec
      subst ea ec
      clear ho sP K9
      go_wp2_with fail
      refine (nums_yes _ _ _ _ _ _ _ sP2 s2).mono ?_
      rintro e wb ⟨rfl, kb⟩
      have KB := below_tr KA kb
      go_wp2
      go_meet
      exact KB
    · obtain ⟨rfl, rfl, rfl⟩ := ap9.no rfl
      clear HO ap9
      go_wp2_with fail
      refine (num_err 1 _ (HE.out.below K9)).mono ?_
      rintro e wa ⟨rfl, ka⟩
      have KA := below_tr K9 ka
      go_wp2
      go_meet
      exact KA
  have K10 := hcut
  clear hcut ap9 K9
  go_wp2_with fail
  refine (CO.out _ K10).mono ?_
  rintro e wa ⟨rfl, ka⟩
  have KA := below_tr K10 ka
  clear K10 ka
  by_cases h6 : 1 ≤ lv ∧ lv ≤ 6
  · have e1 : decide ((lv : Int) < 1) = false := decide_eq_false (by omega)
    have e2 : decide ((lv : Int) > 6) = false := decide_eq_false (by omega)
    obtain ⟨rfl, rfl, hzO, htO, rfl⟩ := HO.out.1 h6
    have DO : Hid (∀ W, Below w.heap.size w W → Calls Tryd.prog 32 #[.slice vo lv cv, .slice vo lv cv] W fun e w' => ∃ lo cm, e = .returned (.tuple #[.slice lo lv cm, .bool (any2 (fun i j => great (outR v v i j)) lv lv)]) ∧ Grid w' lo lv cm lv (fun i j => clamp (outR v v i j)) ∧ Below W.heap.size W w') :=
      fun W b => router_any lv lv cv cv vo vo v v W h6.1 h6.2 h6.1 h6.2 (HV.out.keep b) (HV.out.keep b) HBV.out HBV.out
    have RO := Hid.mkV (fun W => rowsOf_any lv lv (fun i j => clamp (outR v v i j)) W h6.1 h6.2 h6.1 h6.2)
    obtain ⟨fo, hfo⟩ : ∃ f : Nat → Nat → Int, f = fun i j => clamp (outR v v i j) := ⟨_, rfl⟩
    rw [← hzO, ← hfo] at RO
    rw [← htO, ← hfo] at DO
    have h62 := h6.2
    clear hzO htO hfo HO h6
    go_wp2_with (first
      | (rw [zeroM]; refine wpList_storeNew rfl _ _ (by rfl) _ _ _ _ (by rfl) (by rfl) ?_; intro wn nn kn; have KN := below_tr KA kn; clear KA)
      | fail)
    refine (DO.out _ KN).mono ?_
    rintro e wb ⟨lb, qb, rfl, gb, kb⟩
    have KB := below_tr KN kb
    have nb := nn.keep kb
    clear KN nn kb
    go_wp2_with (first
      | (refine wpList_loadM (by rfl) _ (by rfl) _ _ _ _ (by rfl) (by with_reducible exact nb) ?_)
      | fail)
    refine (RO.out _).mono ?_
    rintro e wd ⟨ld, qd, rfl, gd, kd⟩
    have KD := below_tr KB kd
    have gb2 := gb.keep kd
    clear KB gb nb kd
    go_wp2_with fail
    refine (sameRows_yes lv lv _ _ _ _ _ _ h62 gd gb2).mono ?_
    rintro e wf ⟨rfl, kf⟩
    have KF := below_tr KD kf
    clear KD gd gb2 kf
    go_wp2_with fail
    refine (msure_any _).mono ?_
    rintro e wz ⟨rfl, kz⟩
    go_wp2
    go_ret
    exact ⟨rfl, below_tr KF kz⟩
  · obtain ⟨rfl, rfl, rfl, rfl, rfl⟩ := HO.out.2 h6
    have HH6 := Hid.mkV h6
    clear HO h6
    by_cases g1 : lv < 1
    · have e1 : decide ((lv : Int) < 1) = true := decide_eq_true (by omega)
      clear g1 HH6
      go_wp2_with (first
        | (rw [zeroM]; refine wpList_storeNew rfl _ _ (by rfl) _ _ _ _ (by rfl) (by rfl) ?_; intro wn nn kn; have KN := below_tr KA kn; clear KA)
        | fail)
      refine (num_err 1 _ (HE.out.below KN)).mono ?_
      rintro e wb ⟨rfl, kb⟩
      have KB := below_tr KN kb
      have nb := nn.keep kb
      clear KN nn kb
      go_wp2_with (first
        | (refine wpList_loadM (by rfl) _ (by rfl) _ _ _ _ (by rfl) (by with_reducible exact nb) ?_)
        | (refine wpList_build0g (by rfl) (by rfl) ?_)
        | (refine wpList_eqM (by rfl) _ _ _ (by rfl) _ _ _ (by rfl) (by rfl) ?_)
        | fail)
      refine (msure_any _).mono ?_
      rintro e wz ⟨rfl, kz⟩
      go_wp2
      go_ret
      exact ⟨rfl, below_tr KB kz⟩
    · have e1 : decide ((lv : Int) < 1) = false := decide_eq_false (by omega)
      have e2 : decide ((lv : Int) > 6) = true := decide_eq_true (by have := HH6.out; omega)
      clear g1 HH6
      go_wp2_with (first
        | (rw [zeroM]; refine wpList_storeNew rfl _ _ (by rfl) _ _ _ _ (by rfl) (by rfl) ?_; intro wn nn kn; have KN := below_tr KA kn; clear KA)
        | fail)
      refine (num_err 1 _ (HE.out.below KN)).mono ?_
      rintro e wb ⟨rfl, kb⟩
      have KB := below_tr KN kb
      have nb := nn.keep kb
      clear KN nn kb
      go_wp2_with (first
        | (refine wpList_loadM (by rfl) _ (by rfl) _ _ _ _ (by rfl) (by with_reducible exact nb) ?_)
        | (refine wpList_build0g (by rfl) (by rfl) ?_)
        | (refine wpList_eqM (by rfl) _ _ _ (by rfl) _ _ _ (by rfl) (by rfl) ?_)
        | fail)
      refine (msure_any _).mono ?_
      rintro e wz ⟨rfl, kz⟩
      go_wp2
      go_ret
      exact ⟨rfl, below_tr KB kz⟩

theorem msums_walk : FMatSums.Walk := by
  intro a0 len0 cap0 A L C Z a1 len1 cap1 A1 L1 C1 Z1 a2 len2 cap2 z2 w h0 h1 h2 hE
  obtain ⟨s0, q0⟩ := isrows7 h0
  obtain ⟨s1, q1⟩ := isrows7 h1
  obtain ⟨s2, q2⟩ := isrow7 h2
  have l1 := s0.le
  have l2 := s0.cap
  have l3 := s1.le
  have l4 := s1.cap
  obtain ⟨one, rx, cx, zx, ha⟩ := sums_rows s0 q0
  obtain ⟨two, ry, cy, zy, hb⟩ := sums_rows s1 q1
  exact msums_any a0 a1 a2 len0 len1 len2 cap0 cap1 cap2 _ one two rx cx ry cy zx zy w (by omega) (by omega) ha hb s2 q2 hE

/-- The law MatSums, of any input. -/
theorem matsums_holds : Rows.MatSumsCardSaid := FMatSums.card msums_walk

end Go.Proofs.YtgmagehgnjopcaaDoor
