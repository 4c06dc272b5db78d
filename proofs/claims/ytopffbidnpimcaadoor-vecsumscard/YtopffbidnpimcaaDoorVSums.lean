/-
  What is proved: whatever two vectors and number it is given, the law VecSums of layer 7 returns true, ends without a panic, and leaves what was there as it was; its condition: the library's variable errors.errorType holds what the program's text lays there, which the card ties.
-/
import Derived.Test.YtopffbidnpimcaaDoorVcS
import Derived.Test.YtopffbidnpimcaaDoorVcR
import Derived.Test.YtopffbidnpimcaaDoorVcQ
import Derived.Test.YtopffbidnpimcaaDoorErrA
import Derived.Test.YtopffbidnpimcaaDoorFVecSums
set_option linter.unusedSimpArgs false
set_option linter.unusedVariables false
namespace Go.Proofs.YtopffbidnpimcaaDoor
open Go.RowKit Vc Qn Dt

namespace Vc
theorem isrow1 {w : World} {a : Option Addr} {len cap : Nat} {z : List Int} (h : FVecSums.IsRow .i64 w a len cap z) : Sl w a len cap (fun k => z.getD k 0) ∧ B64 (fun k => z.getD k 0) := by
  rcases h with ⟨rfl, rfl, rfl, rfl⟩ | ⟨x, rfl, h1, h2, h3, h4, h5⟩
  · exact ⟨Sl.none _ _, fun k => by simp⟩
  · refine ⟨⟨h1, h2, fun k hk => ⟨x, rfl, h4 k (by omega)⟩⟩, fun k => ?_⟩
    show _ ≤ z.getD k 0 ∧ z.getD k 0 ≤ _
    by_cases hk : k < z.length
    · have e : z.getD k 0 = z[k] := by simp [List.getD, List.getElem?_eq_getElem hk]
      rw [e]
      exact bounds_i64 (h5 _ (List.getElem_mem hk))
    · have e : z.getD k 0 = 0 := by simp [List.getD, List.getElem?_eq_none (Nat.le_of_not_lt hk)]
      rw [e]; omega
end Vc
set_option maxRecDepth 10000 in
set_option maxHeartbeats 1000000 in
theorem vsums_many (n m ca cb : Nat) (ao bo : Option Addr) (za : Nat → Int) (b : Int) (w : World) (hE : ErrTab w) (hn : 6 < n) (hm : m ≤ 9223372036854775807) (ha : Sl w ao n ca za) (ba : B64 za) :
    Calls Tryd.prog 3 #[.slice ao n ca, .slice bo m cb, .int .i64 b] w fun e w' => e = .returned (.bool true) ∧ Below w.heap.size w w' := by
  have HSA := Hid.mkV ha
  obtain ⟨xa, hao, hca⟩ := ha.get
  have l1 := ha.le
  have l2 := ha.cap
  have HAO := Hid.mkV hao
  have HCA := Hid.mkV hca
  have HBA := Hid.mkV ba
  have HMB := Hid.mkV (Vc.mxs_bd za)
  have A1 := Hid.mkV (fun W => vadd_err n m ca cb ao bo W (by omega) hm (Or.inr hn))
  have A2 := Hid.mkV (fun W => vsub_err n m ca cb ao bo W (by omega) hm (Or.inr hn))
  have A3 := Hid.mkV (fun W => vscale_err n ca b ao W (by omega) hn)
  have e6 : decide ((n : Int) > 6) = true := decide_eq_true (by omega)
  clear ha hao hca ba
  go_enter Tryd.func3, Tryd.ntmps3
  go_wp2_with fail
  refine (A1.out _).mono ?_
  rintro e w1 ⟨rfl, k1⟩
  go_wp2_with fail
  refine (A2.out _).mono ?_
  rintro e w2 ⟨rfl, k2⟩
  go_wp2_with fail
  refine (A3.out _).mono ?_
  rintro e w3 ⟨rfl, k3⟩
  have K3 := below_tr (below_tr k1 k2) k3
  clear k1 k2 k3 A1 A2 A3
  go_wp2
  go_loopw [16, 17] (fun s i wr => ∃ k : Nat, k ≤ n ∧ i = .int .i64 (k : Int) ∧ s = .int .i64 (Vc.mxs za k) ∧ Below w3.heap.size w3 wr) (fun _ i _ => n - (intOf i).toNat)
  case atStart => exact ⟨0, by omega, rfl, rfl, Below.refl _ _⟩
  case round =>
   rename World => w4
   obtain ⟨k, hk, rfl, rfl, k4⟩ := hrel
   have K4 := below_tr K3 k4
   by_cases h : k < n
   · obtain rfl := HAO.out (by omega)
     have c1 := keep_cell K4 (HCA.out k h)
     have HM : Hid (Vc.mxs za (k + 1) = max (max (Vc.mxs za k) (clamp (za k))) (-(clamp (za k)))) := rfl
     have hb := HMB.out k
     have cb := clamp_bd (za k)
     have pa := HBA.out k
     have OA := Hid.mkV (fun W => of_any (za k) W pa.1 pa.2)
     have BD := Hid.mkV (fun v W => bound_is v (za k) W (digs_short (by omega) (by omega)))
     obtain ⟨M, hM⟩ : ∃ M, M = Vc.mxs za k := ⟨_, rfl⟩
     obtain ⟨X, hX⟩ : ∃ X, X = clamp (za k) := ⟨_, rfl⟩
     obtain ⟨Y, hY⟩ : ∃ Y, Y = great (za k) := ⟨_, rfl⟩
     obtain ⟨P, hP⟩ : ∃ P, P = za k := ⟨_, rfl⟩
     rw [← hM] at HM hb
     rw [← hM]
     rw [← hX] at HM cb BD
     rw [← hY] at BD
     rw [← hP] at c1 OA BD
     clear hM hX hP hY pa
     go_wp2_with fail
     refine (OA.out _).mono ?_
     rintro e w5 ⟨v5, rfl, i5, k5⟩
     go_wp2_with fail
     refine (BD.out _ _ i5).mono ?_
     rintro e w6 ⟨rfl, k6⟩
     have k46 := below_tr (below_tr k4 k5) k6
     clear k5 i5 k6 c1
     go_wp2
     all_goals go_roundw
     all_goals first
       | (simp [intOf]; omega)
       | exact ⟨k + 1, by omega, by go_num, by rw [HM.out]; first | rfl | (congr 1; omega), k46⟩
   · obtain rfl : k = n := by omega
     have SZ := Hid.mkV (vsize_any k ca ao za w4 (HSA.out.keep K4))
     obtain ⟨M, hM⟩ : ∃ M, M = Vc.mxs za k := ⟨_, rfl⟩
     rw [← hM] at SZ
     rw [← hM]
     clear hM
     go_wp2_with fail
     refine SZ.out.mono ?_
     rintro e w5 ⟨rfl, rfl⟩
     go_wp2_with fail
     refine (num_err 1 _ (hE.below K4)).mono ?_
     rintro e w7 ⟨rfl, k7⟩
     have K7 := below_tr K4 k7
     go_wp2_with fail
     refine (num_err 1 _ (hE.below K7)).mono ?_
     rintro e w8 ⟨rfl, k8⟩
     have K8 := below_tr K7 k8
     go_wp2_with fail
     refine (num_err 1 _ (hE.below K8)).mono ?_
     rintro e w9 ⟨rfl, k9⟩
     have K9 := below_tr K8 k9
     go_wp2_with fail
     refine (vsure_any _).mono ?_
     rintro e w10 ⟨rfl, k10⟩
     go_wp2
     go_ret
     exact ⟨rfl, below_tr K9 k10⟩

set_option maxRecDepth 10000 in
set_option maxHeartbeats 1000000 in
theorem vsums_other (n m ca cb : Nat) (ao bo : Option Addr) (za : Nat → Int) (b : Int) (w : World) (hE : ErrTab w) (hn : n ≤ 6) (hne : n ≠ m) (hm : m ≤ 9223372036854775807) (ha : Sl w ao n ca za) (ba : B64 za) (b0 : -9223372036854775808 ≤ b) (b1 : b ≤ 9223372036854775807) :
    Calls Tryd.prog 3 #[.slice ao n ca, .slice bo m cb, .int .i64 b] w fun e w' => e = .returned (.bool true) ∧ Below w.heap.size w w' := by
  have HSA := Hid.mkV ha
  obtain ⟨xa, hao, hca⟩ := ha.get
  have l1 := ha.le
  have l2 := ha.cap
  have HAO := Hid.mkV hao
  have HCA := Hid.mkV hca
  have HBA := Hid.mkV ba
  have HMB := Hid.mkV (Vc.mxs_bd za)
  have A1 := Hid.mkV (fun W => vadd_err n m ca cb ao bo W (by omega) hm (Or.inl hne))
  have A2 := Hid.mkV (fun W => vsub_err n m ca cb ao bo W (by omega) hm (Or.inl hne))
  have A3 := Hid.mkV (fun W (h : Below w.heap.size w W) => vscale_any n ca b ao za W hn (ha.keep h) ba b0 b1)
  have R3 := Hid.mkV (fun W (h : Below w.heap.size w W) => rscale_any n ca b ao za W hn (ha.keep h) ba b0 b1)
  obtain ⟨gs, hgs⟩ : ∃ gs, gs = anyb (fun k => great (rne (za k * b) (2 ^ 20))) n := ⟨_, rfl⟩
  obtain ⟨zs, hzs⟩ : ∃ zs : Nat → Int, zs = fun k => clamp (rne (za k * b) (2 ^ 20)) := ⟨_, rfl⟩
  rw [← hgs, ← hzs] at A3 R3
  clear hgs hzs
  have e6 : decide ((n : Int) > 6) = false := decide_eq_false (by omega)
  have e7 : (((n : Nat) : Int) != ((m : Nat) : Int)) = true := by rw [bne_iff_ne]; omega
  clear ha hao hca ba hne
  go_enter Tryd.func3, Tryd.ntmps3
  go_wp2_with fail
  refine (A1.out _).mono ?_
  rintro e w1 ⟨rfl, k1⟩
  go_wp2_with fail
  refine (A2.out _).mono ?_
  rintro e w2 ⟨rfl, k2⟩
  go_wp2_with fail
  refine (A3.out _ (below_tr k1 k2)).mono ?_
  rintro e w3 ⟨o3, c3, rfl, s3, k3⟩
  have K3 := below_tr (below_tr k1 k2) k3
  clear k1 k2 k3 A1 A2 A3
  go_wp2
  go_loopw [16, 17] (fun s i wr => ∃ k : Nat, k ≤ n ∧ i = .int .i64 (k : Int) ∧ s = .int .i64 (Vc.mxs za k) ∧ Below w3.heap.size w3 wr) (fun _ i _ => n - (intOf i).toNat)
  case atStart => exact ⟨0, by omega, rfl, rfl, Below.refl _ _⟩
  case round =>
   rename World => w4
   obtain ⟨k, hk, rfl, rfl, k4⟩ := hrel
   have K4 := below_tr K3 k4
   by_cases h : k < n
   · obtain rfl := HAO.out (by omega)
     have c1 := keep_cell K4 (HCA.out k h)
     have HM : Hid (Vc.mxs za (k + 1) = max (max (Vc.mxs za k) (clamp (za k))) (-(clamp (za k)))) := rfl
     have hb := HMB.out k
     have cb := clamp_bd (za k)
     have pa := HBA.out k
     have OA := Hid.mkV (fun W => of_any (za k) W pa.1 pa.2)
     have BD := Hid.mkV (fun v W => bound_is v (za k) W (digs_short (by omega) (by omega)))
     obtain ⟨M, hM⟩ : ∃ M, M = Vc.mxs za k := ⟨_, rfl⟩
     obtain ⟨X, hX⟩ : ∃ X, X = clamp (za k) := ⟨_, rfl⟩
     obtain ⟨Y, hY⟩ : ∃ Y, Y = great (za k) := ⟨_, rfl⟩
     obtain ⟨P, hP⟩ : ∃ P, P = za k := ⟨_, rfl⟩
     rw [← hM] at HM hb
     rw [← hM]
     rw [← hX] at HM cb BD
     rw [← hY] at BD
     rw [← hP] at c1 OA BD
     clear hM hX hP hY pa
     go_wp2_with fail
     refine (OA.out _).mono ?_
     rintro e w5 ⟨v5, rfl, i5, k5⟩
     go_wp2_with fail
     refine (BD.out _ _ i5).mono ?_
     rintro e w6 ⟨rfl, k6⟩
     have k46 := below_tr (below_tr k4 k5) k6
     clear k5 i5 k6 c1
     go_wp2
     all_goals go_roundw
     all_goals first
       | (simp [intOf]; omega)
       | exact ⟨k + 1, by omega, by go_num, by rw [HM.out]; first | rfl | (congr 1; omega), k46⟩
   · obtain rfl : k = n := by omega
     have SZ := Hid.mkV (vsize_any k ca ao za w4 (HSA.out.keep K4))
     obtain ⟨M, hM⟩ : ∃ M, M = Vc.mxs za k := ⟨_, rfl⟩
     rw [← hM] at SZ
     rw [← hM]
     clear hM
     go_wp2_with fail
     refine SZ.out.mono ?_
     rintro e w5 ⟨rfl, rfl⟩
     go_wp2_with fail
     refine (R3.out _ K4).mono ?_
     rintro e w7 ⟨o7, c7, rfl, s7, k7⟩
     have K7 := below_tr K4 k7
     have q1 := s3.keep (below_tr k4 k7)
     go_wp2_with fail
     refine (nums_yes _ _ _ _ _ _ _ q1 s7).mono ?_
     rintro e w8 ⟨rfl, k8⟩
     have K8 := below_tr K7 k8
     go_wp2_with fail
     refine (num_err 1 _ (hE.below K8)).mono ?_
     rintro e w9 ⟨rfl, k9⟩
     have K9 := below_tr K8 k9
     go_wp2_with fail
     refine (num_err 1 _ (hE.below K9)).mono ?_
     rintro e w10 ⟨rfl, k10⟩
     have K10 := below_tr K9 k10
     go_wp2_with fail
     refine (vsure_any _).mono ?_
     rintro e w11 ⟨rfl, k11⟩
     go_wp2
     go_ret
     exact ⟨rfl, below_tr K10 k11⟩

set_option maxRecDepth 10000 in
set_option maxHeartbeats 1000000 in
theorem vsums_same (n ca cb : Nat) (ao bo : Option Addr) (za zb : Nat → Int) (b : Int) (w : World) (hn : n ≤ 6) (ha : Sl w ao n ca za) (ba : B64 za) (hb : Sl w bo n cb zb) (bb : B64 zb) (b0 : -9223372036854775808 ≤ b) (b1 : b ≤ 9223372036854775807) :
    Calls Tryd.prog 3 #[.slice ao n ca, .slice bo n cb, .int .i64 b] w fun e w' => e = .returned (.bool true) ∧ Below w.heap.size w w' := by
  have HSA := Hid.mkV ha
  obtain ⟨xa, hao, hca⟩ := ha.get
  have l1 := ha.le
  have l2 := ha.cap
  have HAO := Hid.mkV hao
  have HCA := Hid.mkV hca
  have HBA := Hid.mkV ba
  have HMB := Hid.mkV (Vc.mxs_bd za)
  have A1 := Hid.mkV (fun W (h : Below w.heap.size w W) => vadd_any n ca cb ao bo za zb W hn (ha.keep h) (hb.keep h) ba bb)
  have A2 := Hid.mkV (fun W (h : Below w.heap.size w W) => vsub_any n ca cb ao bo za zb W hn (ha.keep h) (hb.keep h) ba bb)
  have R1 := Hid.mkV (fun W (h : Below w.heap.size w W) => radd_no n ca cb ao bo za zb W hn (ha.keep h) (hb.keep h) ba bb)
  have R2 := Hid.mkV (fun W (h : Below w.heap.size w W) => radd_yes n ca cb ao bo za zb W hn (ha.keep h) (hb.keep h) ba bb)
  obtain ⟨g1, hg1⟩ : ∃ gs, gs = anyb (fun k => great (za k + zb k)) n := ⟨_, rfl⟩
  obtain ⟨z1, hz1⟩ : ∃ zs : Nat → Int, zs = fun k => clamp (za k + zb k) := ⟨_, rfl⟩
  rw [← hg1, ← hz1] at A1 R1
  obtain ⟨g2, hg2⟩ : ∃ gs, gs = anyb (fun k => great (za k - zb k)) n := ⟨_, rfl⟩
  obtain ⟨z2, hz2⟩ : ∃ zs : Nat → Int, zs = fun k => clamp (za k - zb k) := ⟨_, rfl⟩
  rw [← hg2, ← hz2] at A2 R2
  clear hg1 hz1 hg2 hz2
  have A3 := Hid.mkV (fun W (h : Below w.heap.size w W) => vscale_any n ca b ao za W hn (ha.keep h) ba b0 b1)
  have R3 := Hid.mkV (fun W (h : Below w.heap.size w W) => rscale_any n ca b ao za W hn (ha.keep h) ba b0 b1)
  obtain ⟨gs, hgs⟩ : ∃ gs, gs = anyb (fun k => great (rne (za k * b) (2 ^ 20))) n := ⟨_, rfl⟩
  obtain ⟨zs, hzs⟩ : ∃ zs : Nat → Int, zs = fun k => clamp (rne (za k * b) (2 ^ 20)) := ⟨_, rfl⟩
  rw [← hgs, ← hzs] at A3 R3
  clear hgs hzs
  have e6 : decide ((n : Int) > 6) = false := decide_eq_false (by omega)
  clear ha hao hca ba hb bb
  go_enter Tryd.func3, Tryd.ntmps3
  go_wp2_with fail
  refine (A1.out _ (Below.refl _ _)).mono ?_
  rintro e w1 ⟨o1, c1', rfl, s1, k1⟩
  go_wp2_with fail
  refine (A2.out _ k1).mono ?_
  rintro e w2 ⟨o2, c2', rfl, s2, k2⟩
  go_wp2_with fail
  refine (A3.out _ (below_tr k1 k2)).mono ?_
  rintro e w3 ⟨o3, c3, rfl, s3, k3⟩
  have K3 := below_tr (below_tr k1 k2) k3
  have t1 := s1.keep (below_tr k2 k3)
  have t2 := s2.keep k3
  clear k1 k2 k3 A1 A2 A3 s1 s2
  go_wp2
  go_loopw [16, 17] (fun s i wr => ∃ k : Nat, k ≤ n ∧ i = .int .i64 (k : Int) ∧ s = .int .i64 (Vc.mxs za k) ∧ Below w3.heap.size w3 wr) (fun _ i _ => n - (intOf i).toNat)
  case atStart => exact ⟨0, by omega, rfl, rfl, Below.refl _ _⟩
  case round =>
   rename World => w4
   obtain ⟨k, hk, rfl, rfl, k4⟩ := hrel
   have K4 := below_tr K3 k4
   by_cases h : k < n
   · obtain rfl := HAO.out (by omega)
     have c1 := keep_cell K4 (HCA.out k h)
     have HM : Hid (Vc.mxs za (k + 1) = max (max (Vc.mxs za k) (clamp (za k))) (-(clamp (za k)))) := rfl
     have hb := HMB.out k
     have cb := clamp_bd (za k)
     have pa := HBA.out k
     have OA := Hid.mkV (fun W => of_any (za k) W pa.1 pa.2)
     have BD := Hid.mkV (fun v W => bound_is v (za k) W (digs_short (by omega) (by omega)))
     obtain ⟨M, hM⟩ : ∃ M, M = Vc.mxs za k := ⟨_, rfl⟩
     obtain ⟨X, hX⟩ : ∃ X, X = clamp (za k) := ⟨_, rfl⟩
     obtain ⟨Y, hY⟩ : ∃ Y, Y = great (za k) := ⟨_, rfl⟩
     obtain ⟨P, hP⟩ : ∃ P, P = za k := ⟨_, rfl⟩
     rw [← hM] at HM hb
     rw [← hM]
     rw [← hX] at HM cb BD
     rw [← hY] at BD
     rw [← hP] at c1 OA BD
     clear hM hX hP hY pa
     go_wp2_with fail
     refine (OA.out _).mono ?_
     rintro e w5 ⟨v5, rfl, i5, k5⟩
     go_wp2_with fail
     refine (BD.out _ _ i5).mono ?_
     rintro e w6 ⟨rfl, k6⟩
     have k46 := below_tr (below_tr k4 k5) k6
     clear k5 i5 k6 c1
     go_wp2
     all_goals go_roundw
     all_goals first
       | (simp [intOf]; omega)
       | exact ⟨k + 1, by omega, by go_num, by rw [HM.out]; first | rfl | (congr 1; omega), k46⟩
   · obtain rfl : k = n := by omega
     have SZ := Hid.mkV (vsize_any k ca ao za w4 (HSA.out.keep K4))
     obtain ⟨M, hM⟩ : ∃ M, M = Vc.mxs za k := ⟨_, rfl⟩
     rw [← hM] at SZ
     rw [← hM]
     clear hM
     go_wp2_with fail
     refine SZ.out.mono ?_
     rintro e w5 ⟨rfl, rfl⟩
     go_wp2_with fail
     refine (R3.out _ K4).mono ?_
     rintro e w7 ⟨o7, c7, rfl, s7, k7⟩
     have K7 := below_tr K4 k7
     have k47 := below_tr k4 k7
     have q1 := s3.keep k47
     go_wp2_with fail
     refine (nums_yes _ _ _ _ _ _ _ q1 s7).mono ?_
     rintro e w8 ⟨rfl, k8⟩
     have K8 := below_tr K7 k8
     have k48 := below_tr k47 k8
     go_wp2_with fail
     refine (R1.out _ K8).mono ?_
     rintro e w9 ⟨o9, c9, rfl, s9, k9⟩
     have K9 := below_tr K8 k9
     have k49 := below_tr k48 k9
     go_wp2_with fail
     refine (R2.out _ K9).mono ?_
     rintro e w10 ⟨o10, c10, rfl, s10, k10⟩
     have K10 := below_tr K9 k10
     have k410 := below_tr k49 k10
     have q2 := t1.keep k410
     have q3 := s9.keep k10
     go_wp2_with fail
     refine (nums_yes _ _ _ _ _ _ _ q2 q3).mono ?_
     rintro e w11 ⟨rfl, k11⟩
     have K11 := below_tr K10 k11
     have q4 := t2.keep (below_tr k410 k11)
     have q5 := s10.keep k11
     go_wp2_with fail
     refine (nums_yes _ _ _ _ _ _ _ q4 q5).mono ?_
     rintro e w12 ⟨rfl, k12⟩
     have K12 := below_tr K11 k12
     go_wp2_with fail
     refine (vsure_any _).mono ?_
     rintro e w13 ⟨rfl, k13⟩
     go_wp2
     go_ret
     exact ⟨rfl, below_tr K12 k13⟩

theorem vsums_walk : FVecSums.Walk := by
  intro a0 len0 cap0 z0 a1 len1 cap1 z1 b w h0 h1 wb hE
  obtain ⟨s0, q0⟩ := isrow1 h0
  obtain ⟨s1, q1⟩ := isrow1 h1
  have hb := bounds_i64 wb
  have l1 := s1.le
  have l2 := s1.cap
  by_cases h6 : 6 < len0
  · exact vsums_many len0 len1 cap0 cap1 a0 a1 _ b w hE h6 (by omega) s0 q0
  · by_cases he : len0 = len1
    · subst he
      exact vsums_same len0 cap0 cap1 a0 a1 _ _ b w (by omega) s0 q0 s1 q1 hb.1 hb.2
    · exact vsums_other len0 len1 cap0 cap1 a0 a1 _ b w hE (by omega) he (by omega) s0 q0 hb.1 hb.2

/-- The law VecSums, of any input. -/
theorem vecsums_holds : Rows.VecSumsCardSaid := FVecSums.card vsums_walk

end Go.Proofs.YtopffbidnpimcaaDoor
