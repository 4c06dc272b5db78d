/-
  LikeMore, of whatever comes in, from package like's contracts.
-/
import Derived.Test.YtdgcnaijndocnaaDoorLkQ
import Derived.Test.YtdgcnaijndocnaaDoorM29
import Derived.Test.YtdgcnaijndocnaaDoorFLikeMore
import Derived.Deep.DeepCutAuto
import Derived.Deep.CutRange
set_option linter.unusedSimpArgs false
set_option linter.unusedVariables false
namespace Go.Proofs.YtdgcnaijndocnaaDoor
open Go.RowKit Vc Cn Lk St

namespace Lk
theorem getD_b64m {z : List Int} (h5 : ∀ n ∈ z, (Lit.int .i64 n).wf = true) : B64 (fun k => z.getD k 0) := by
  intro k
  show _ ≤ z.getD k 0 ∧ z.getD k 0 ≤ _
  by_cases hk : k < z.length
  · have e : z.getD k 0 = z[k] := by simp [List.getD, List.getElem?_eq_getElem hk]
    rw [e]
    exact bounds_i64 (h5 _ (List.getElem_mem hk))
  · have e : z.getD k 0 = 0 := by simp [List.getD, List.getElem?_eq_none (Nat.le_of_not_lt hk)]
    rw [e]; omega
theorem isrowM {w : World} {a : Option Addr} {len cap : Nat} {z : List Int} (h : FLikeMore.IsRow .i64 w a len cap z) : Sl w a len cap (fun k => z.getD k 0) ∧ B64 (fun k => z.getD k 0) := by
  rcases h with ⟨rfl, rfl, rfl, rfl⟩ | ⟨x, rfl, h1, h2, h3, h4, h5⟩
  · exact ⟨Sl.none _ _, fun k => by simp⟩
  · exact ⟨⟨h1, h2, fun k hk => ⟨x, rfl, h4 k (by omega)⟩⟩, getD_b64m h5⟩
/-- The numbers ahead of place n alone. -/
def cutN (n : Nat) (z : Nat → Int) : Nat → Int := fun k => if k < n then z k else 0
theorem cutN_at {n k : Nat} {z : Nat → Int} (h : k < n) : cutN n z k = z k := if_pos h
theorem crow_slM {w : World} {g n : Nat} {z : Nat → Int} (h : CRow w g 2 (vals n z)) (hn : n ≤ 4) : Sl w (some ⟨g, 0, none⟩) n n z :=
  ⟨Nat.le_refl _, by omega, fun k hk => ⟨_, rfl, by rw [Addr.add_lit, Nat.zero_add]; exact h.cell (vals_at hk) rfl⟩⟩
theorem tmod_in (x : Int) : -1048575 ≤ Int.tmod x 1048576 ∧ Int.tmod x 1048576 ≤ 1048575 := by
  have h1 := Int.tmod_lt_of_pos x (show (0 : Int) < 1048576 by omega)
  have h2 := Int.tmod_lt_of_pos (-x) (show (0 : Int) < 1048576 by omega)
  rw [Int.neg_tmod] at h2
  omega
end Lk

set_option maxRecDepth 20000 in
set_option maxHeartbeats 4000000 in
theorem lmore_any (P : Lk.LPkg) (lo co : Option Addr) (n cl m cc : Nat) (l c : Nat → Int) (fl : Int) (w : World) (hs : Sl w lo n cl l) (bl : B64 l) (hc : Sl w co m cc c) (bc : B64 c) (hE : ErrTab w) :
    Calls Tryd.prog 3 #[.slice lo n cl, .slice co m cc, .int .i64 fl] w fun e w' => e = .returned (.bool true) ∧ Below w.heap.size w w' := by
  have hq := tmod_in fl
  obtain ⟨q, e0⟩ : ∃ q, Int.tmod fl 1048576 = q := ⟨_, rfl⟩
  rw [e0] at hq
  obtain ⟨kf, hk0, hk1, hkn, hkp⟩ : ∃ kf : Int, 0 ≤ kf ∧ kf ≤ 1048575 ∧ (q < 0 → -q = kf) ∧ (¬ q < 0 → q = kf) := by
    by_cases h : q < 0
    · exact ⟨-q, by omega, by omega, fun _ => rfl, fun p => absurd h p⟩
    · exact ⟨q, by omega, by omega, fun p => absurd p h, fun _ => rfl⟩
  have HKN := hideL hkn
  have HKP := hideL hkp
  have HX := hideL (P.weights w lo co n cl m cc l c kf hs bl hc bc (by omega) (by omega))
  have HSu := hideL (lsure_any P)
  have HE := hideL hE
  have HL := hideL hs
  have HC := hideL hc
  have HBC := hideL bc
  have l1 := hs.le
  have l2 := hs.cap
  have l3 := hc.le
  have l4 := hc.cap
  clear hkn hkp hE hs hc bc bl
  go_enter Tryd.func3, Tryd.ntmps3
  go_upto_if 19 with fail
  go_cut [7] (fun p wx => p = .int .i64 kf ∧ w = wx)
  case first =>
    by_cases h : q < 0
    · have h1 := HKN.out h
      have e1 : IntKind.i64.wrap (-q) = kf := by rw [IntKind.wrap_i64]; omega
      clear h1
      go_wp2
      all_goals go_meet
      all_goals exact ⟨rfl, rfl⟩
    · have h1 := HKP.out h
      subst h1
      go_wp2
      all_goals go_meet
      all_goals exact ⟨rfl, rfl⟩
  obtain ⟨rfl, rfl⟩ := hcut
  clear HKN HKP e0 hq
  go_wp2_with fail
  refine HX.out.mono ?_
  rintro e w1 ⟨vo, vn, vc, b, ev, rfl, k1, s1, ⟨_, _, rfl⟩ | ⟨q1, hM, q3, q4, rfl⟩⟩
  · unfold errK
    go_wp2_with fail
    refine (num_err 1 _ (HE.out.below k1)).mono ?_
    rintro e w2 ⟨rfl, k2⟩
    have K2 := below_tr k1 k2
    go_wp2_with fail
    refine (HSu.out _ (HE.out.below K2)).mono ?_
    rintro e w3 ⟨rfl, k3⟩
    go_wp2
    go_ret
    exact ⟨rfl, below_tr K2 k3⟩
  · obtain rfl : n = m := q1
    obtain rfl : n = vn := q3.symm
    clear q4
    have n1 := hM.ch.one
    have n4 := hM.ch.four
    have hch := ol_ch hM
    have sV := s1.congr (z' := cutN n (oc kf (wz l c n) n)) (fun k hk => (cutN_at hk).symm)
    have hch' : Ch n (cutN n (oc kf (wz l c n) n)) kf := ⟨hch.one, hch.four, hch.lo, hch.hi, fun k hk => by rw [cutN_at hk]; exact hch.each k hk, by rw [← hch.sum]; exact tot_congr fun k hk => cutN_at hk⟩
    have HCk := hideL (dcheck14_any vo n vc (cutN n (oc kf (wz l c n) n)) kf w1 sV (fun k => by
      unfold cutN
      by_cases h : k < n
      · rw [if_pos h]; have := hch.nn h; omega
      · rw [if_neg h]; omega) true ⟨fun _ => hch', fun _ => rfl⟩ (by omega) (by omega))
    have HNear : Hid (∀ i j, i < n → j < n → c i = c j → l j < l i → ¬ oc kf (wz l c n) n i < oc kf (wz l c n) n j - 1) := fun i j hi hj h1 h2 => by have := ol_near hM hi hj h1 h2; omega
    have HNone : Hid (∀ i, i < n → c i = 0 → oc kf (wz l c n) n i = kf) := fun i hi h => ol_none hM hi h
    have HIn : Hid (∀ i, i < n → 0 ≤ oc kf (wz l c n) n i ∧ oc kf (wz l c n) n i ≤ 1073741824) := fun i hi => hch.nn hi
    have HCc := hideL hM.ch
    have lv1 := s1.le
    have lv2 := s1.cap
    clear hch hch' sV hM HX
    go_wp2_with fail
    refine HCk.out.mono ?_
    rintro e w2 ⟨rfl, k2⟩
    have K2 := hideL (below_tr k1 k2)
    have s2 := s1.keep k2
    have sl := HL.out.keep K2.out
    have sc := HC.out.keep K2.out
    obtain ⟨xv, hxv, hvc⟩ := s2.get
    obtain ⟨xl, hxl, hlc⟩ := sl.get
    obtain ⟨xc, hxc, hcc⟩ := sc.get
    obtain rfl := hxv (by omega)
    obtain rfl := hxl (by omega)
    obtain rfl := hxc (by omega)
    have HV := hideL hvc
    have HLc := hideL hlc
    have HCc' := hideL hcc
    clear HCk s1 k1 k2 s2 sl sc hxv hxl hxc hvc hlc hcc
    have hmk := makeI n n4
    have HX2 : Hid (∀ W go, Sl W (some ⟨go, 0, none⟩) n n (fun _ => 0) → Sl W (some xc) n cc c → Calls Tryd.prog 4 #[.slice (some ⟨go, 0, none⟩) n n, .slice (some xc) n cc, .int .i64 0] W fun e w' => ∃ vo vc, e = .returned (.tuple #[.slice vo n vc, .bool false, .nilIface]) ∧ Sl w' vo n vc c ∧ Below W.heap.size W w') := fun W go z1 z2 => by
      refine (P.weights W _ _ n n n cc (fun _ => 0) c 0 z1 (fun _ => by show _ ≤ (0 : Int) ∧ (0 : Int) ≤ _; omega) z2 HBC.out (by omega) (by omega)).mono ?_
      rintro e w' ⟨uo, un, uc, b', ev, rfl, k1, s1, ⟨q, _⟩ | ⟨_, _, q1, q2, rfl⟩⟩
      · exact absurd ⟨rfl, may0 HCc.out⟩ q
      · obtain rfl : n = un := q1.symm
        rw [wo_same] at q2
        subst q2
        exact ⟨_, _, rfl, s1.congr (fun k hk => ol_same HCc.out hk), k1⟩
    go_wp2
    go_loopw [11] (fun iv wr => ∃ i : Nat, i ≤ n ∧ iv = .int .i64 (i : Int) ∧ Below w2.heap.size w2 wr) (fun iv _ => n - (intOf iv).toNat)
    case atStart => exact ⟨0, by omega, rfl, Below.refl _ _⟩
    case round =>
      rename World => wr
      obtain ⟨i, hi, rfl, kr⟩ := hrel
      by_cases h : i < n ∧ b = false
      · obtain ⟨h, rfl⟩ := h
        have di : (i : Int) < n := by omega
        have ci := keep_cell kr (HCc'.out i h)
        have HCi := hideL (HCc'.out i h)
        have HLi := hideL (HLc.out i h)
        have HVi := hideL (HV.out i h)
        have HN := hideL (fun j hj => HNear.out i j h hj)
        have HZ := hideL (HNone.out i h)
        have hini := HIn.out i h
        obtain ⟨Ci, hCi⟩ : ∃ q, q = c i := ⟨_, rfl⟩
        obtain ⟨Li, hLi⟩ : ∃ q, q = l i := ⟨_, rfl⟩
        obtain ⟨Vi, hVi⟩ : ∃ q, q = oc kf (wz l c n) n i := ⟨_, rfl⟩
        rw [← hCi] at ci HCi HN HZ
        rw [← hLi] at HLi HN
        rw [← hVi] at HVi HN HZ hini
        clear hCi hLi hVi
        go_wp2
        go_loopw [12] (fun jv wi => ∃ j : Nat, j ≤ n ∧ jv = .int .i64 (j : Int) ∧ Below w2.heap.size w2 wi) (fun jv _ => n - (intOf jv).toNat)
        case atStart => exact ⟨0, by omega, rfl, kr⟩
        case round =>
          rename World => wi
          obtain ⟨j, hj, rfl, ki⟩ := hrel
          by_cases hjn : j < n
          · have c1 := keep_cell ki HCi.out
            have c2 := keep_cell ki (HCc'.out j hjn)
            have c3 := keep_cell ki HLi.out
            have c4 := keep_cell ki (HLc.out j hjn)
            have c5 := keep_cell ki HVi.out
            have c6 := keep_cell ki (HV.out j hjn)
            have hn := HN.out j hjn
            have hinj := HIn.out j hjn
            obtain ⟨Cj, hCj⟩ : ∃ q, q = c j := ⟨_, rfl⟩
            obtain ⟨Lj, hLj⟩ : ∃ q, q = l j := ⟨_, rfl⟩
            obtain ⟨Vj, hVj⟩ : ∃ q, q = oc kf (wz l c n) n j := ⟨_, rfl⟩
            rw [← hCj] at c2 hn
            rw [← hLj] at c4 hn
            rw [← hVj] at c6 hn hinj
            clear hCj hLj hVj
            have ew : IntKind.i64.wrap (Vj - 1) = Vj - 1 := by rw [IntKind.wrap_i64]; omega
            by_cases q1 : Ci = Cj
            · have g1 : (Ci == Cj) = true := beq_iff_eq.2 q1
              by_cases q2 : Lj < Li
              · have g2 : decide (Li > Lj) = true := decide_eq_true q2
                have g3 : decide (Vi < Vj - 1) = false := decide_eq_false (by have := hn q1 q2; omega)
                clear hn q1 q2 hinj
                go_wp2
                go_quiet (fail)
                go_wp2
                go_roundw
                case rel => exact ⟨j + 1, by omega, by go_num, Vc.below_drewN ki _⟩
                case measure => simp [intOf]; omega
              · have g2 : decide (Li > Lj) = false := decide_eq_false q2
                clear hn q1 q2 hinj
                go_wp2
                go_quiet (fail)
                go_wp2
                go_roundw
                case rel => exact ⟨j + 1, by omega, by go_num, Vc.below_drewN ki _⟩
                case measure => simp [intOf]; omega
            · have g1 : (Ci == Cj) = false := beq_eq_false_iff_ne.2 q1
              clear hn q1 hinj
              go_wp2
              go_quiet (fail)
              go_wp2
              go_roundw
              case rel => exact ⟨j + 1, by omega, by go_num, Vc.below_drewN ki _⟩
              case measure => simp [intOf]; omega
          · obtain rfl : n = j := by omega
            have c1 := keep_cell ki HCi.out
            have c5 := keep_cell ki HVi.out
            have hz := HZ.out
            clear HCi HVi HLi HN ci kr
            by_cases q1 : Ci = 0
            · have hz' := hz q1
              subst q1 hz'
              clear hz HZ
              go_wp2
              go_roundw
              case rel => exact ⟨i + 1, by omega, by go_num, ki⟩
              case measure => simp [intOf]; omega
            · have g1 : (Ci == 0) = false := beq_eq_false_iff_ne.2 q1
              clear hz HZ q1
              go_wp2
              go_roundw
              case rel => exact ⟨i + 1, by omega, by go_num, ki⟩
              case measure => simp [intOf]; omega
      · have HX2 := hideL HX2.out
        by_cases h' : i < n
        · have hb : b = true := by
            cases b
            · exact absurd ⟨h', rfl⟩ h
            · rfl
          subst hb
          have di : (i : Int) < n := by omega
          clear h
          have sZ := crow_slM (crow_new wr 2 (vals n (fun _ => 0))) n4
          have kZ := below_al (Below.refl _ wr) (.cells (vals n (fun _ => 0)).toArray 2)
          have HKZ := hideL (below_tr kr kZ)
          have HSZ := hideL sZ
          clear sZ kZ
          go_wp2_with fail
          refine (HX2.out _ _ HSZ.out (HC.out.keep (below_tr K2.out HKZ.out))).mono ?_
          rintro e w3 ⟨uo, uc, rfl, s3, k3⟩
          have K3 := below_tr HKZ.out k3
          go_wp2_with fail
          refine (nums_yes _ _ n _ _ _ _ s3 (HC.out.keep (below_tr K2.out K3))).mono ?_
          rintro e w4 ⟨rfl, k4⟩
          have K4 := below_tr (below_tr K2.out K3) k4
          clear k3 k4 K3 s3
          go_wp2_with fail
          refine (HSu.out _ (HE.out.below K4)).mono ?_
          rintro e w5 ⟨rfl, k5⟩
          go_wp2
          go_ret
          exact ⟨rfl, below_tr K4 k5⟩
        · obtain rfl : n = i := by omega
          clear h h'
          have sZ := crow_slM (crow_new wr 2 (vals n (fun _ => 0))) n4
          have kZ := below_al (Below.refl _ wr) (.cells (vals n (fun _ => 0)).toArray 2)
          have HKZ := hideL (below_tr kr kZ)
          have HSZ := hideL sZ
          clear sZ kZ
          go_wp2_with fail
          refine (HX2.out _ _ HSZ.out (HC.out.keep (below_tr K2.out HKZ.out))).mono ?_
          rintro e w3 ⟨uo, uc, rfl, s3, k3⟩
          have K3 := below_tr HKZ.out k3
          go_wp2_with fail
          refine (nums_yes _ _ n _ _ _ _ s3 (HC.out.keep (below_tr K2.out K3))).mono ?_
          rintro e w4 ⟨rfl, k4⟩
          have K4 := below_tr (below_tr K2.out K3) k4
          clear k3 k4 K3 s3
          go_wp2_with fail
          refine (HSu.out _ (HE.out.below K4)).mono ?_
          rintro e w5 ⟨rfl, k5⟩
          go_wp2
          go_ret
          exact ⟨rfl, below_tr K4 k5⟩

theorem lmore_walk (P : Lk.LPkg) : FLikeMore.Walk := by
  intro a0 len0 cap0 z0 a1 len1 cap1 z1 fl w h0 h1 h2 hE
  obtain ⟨s0, b0⟩ := isrowM h0
  obtain ⟨s1, b1⟩ := isrowM h1
  exact lmore_any P a0 a1 len0 cap0 len1 cap1 _ _ fl w s0 b0 s1 b1 hE
end Go.Proofs.YtdgcnaijndocnaaDoor
