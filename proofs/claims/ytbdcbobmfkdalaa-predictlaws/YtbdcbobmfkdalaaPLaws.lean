/-
  What is proved: whatever rows, step and number it is given, the law PredictLaws of layer 12 returns true, ends without a panic, and leaves what was there as it was.
-/
import Derived.Test.YtbdcbobmfkdalaaPdO
import Derived.Test.YtbdcbobmfkdalaaPdL
import Derived.Test.YtbdcbobmfkdalaaM21
import Derived.Test.YtbdcbobmfkdalaaRegM
import Derived.Test.YtbdcbobmfkdalaaM17
import Derived.Test.YtbdcbobmfkdalaaFPredictLaws
import Derived.Deep.DeepCutAuto
import Derived.Deep.CutRange
import Derived.BigQuiet
set_option linter.unusedSimpArgs false
set_option linter.unusedVariables false
namespace Go.Proofs.Ytbdcbobmfkdalaa
open Go.RowKit Vc St Mt Cm Ld Pd Pr Qn Dt
attribute [local go_sem ↓] Go.wp_at_zero Go.wp_at_succ

theorem isrows12 {w : World} {a : Option Addr} {len cap : Nat} {A : Nat → Option Addr} {L C : Nat → Nat} {Z : Nat → List Int} (h : FPredictLaws.IsRows .i64 w a len cap A L C Z) :
    Sls w a len cap A L C ∧ ∀ r, r < len → Sl w (A r) (L r) (C r) (fun k => (Z r).getD k 0) ∧ B64 (fun k => (Z r).getD k 0) := by
  rcases h with ⟨rfl, rfl, rfl⟩ | ⟨x, rfl, h1, h2, h3⟩
  · exact ⟨⟨Nat.le_refl _, by omega, fun j hj => by omega⟩, fun r hr => by omega⟩
  · refine ⟨⟨h1, h2, fun j hj => ⟨x, rfl, (h3 j (by omega)).1⟩⟩, fun r hr => ?_⟩
    obtain ⟨r1, r2, r3, r4, r5, r6, r7⟩ := h3 r (by omega)
    refine ⟨⟨r2, r3, fun k hk => ?_⟩, getD_b r5⟩
    cases e : A r with
    | none => have := r6 e; omega
    | some y => exact ⟨y, rfl, r7 y e k (by omega)⟩
namespace Pd
theorem tail_rows (x : Addr) (n c : Nat) (hn : 1 ≤ n) (hc : n ≤ c) : ∃ y, (2 ≤ n → y = x.add 1) ∧ (∀ W : World, (Instr.sliceAt 22 (.slice (some x) n c) (some (.int .i64 1)) none none).run Try.prog W = .ok (.slice (some y) (n - 1) (c - 1)) W) ∧ ∀ W : World, (Instr.slice 22 (.slice (some x) n c) (some (.int .i64 1)) none none).run Try.prog W = .ok (.slice (some y) (n - 1) (c - 1)) W := by
  have hu : Try.prog.underlying 22 = some (.slice (Try.prog.elem 22)) := by kernel_rfl
  have he : Try.prog.elem 22 = 23 := by kernel_rfl
  have hs : ∀ W : World, (sizeOf 23).run Try.prog W = .ok 1 W := fun W => sizeOf_of (by kernel_rfl) W
  have key : ∃ y, (2 ≤ n → y = x.add 1) ∧ ∀ W : World, (Instr.slice 22 (.slice (some x) n c) (some (.int .i64 1)) none none).run Try.prog W = .ok (.slice (some y) (n - 1) (c - 1)) W := by
    by_cases e : c = 1
    · refine ⟨x, fun h => by omega, fun W => ?_⟩
      rw [run_slice_l W 22 _ _ _ hu .i64 _ (by omega) (by omega), he, hs]
      simp only [Result.andThen_ok, sliced, Nat.mul_one]
      rw [if_pos (by rw [e]; rfl)]
      rfl
    · refine ⟨x.add 1, fun _ => rfl, fun W => ?_⟩
      rw [run_slice_l W 22 _ _ _ hu .i64 _ (by omega) (by omega), he, hs]
      simp only [Result.andThen_ok, sliced, Nat.mul_one]
      rw [if_neg (fun q => e (by rw [q]; rfl)), Option.map_some]
      rfl
  obtain ⟨y, h1, h2⟩ := key
  exact ⟨y, h1, fun W => by rw [run_sliceAt_slice W 22 _ _ _ _ hu]; exact h2 W, h2⟩
theorem add_add (x : Addr) (a b : Nat) : (x.add a).add b = x.add (a + b) := by
  cases x
  unfold Addr.add
  split <;> split <;> simp_all [Nat.add_assoc]
theorem so_b (l : Nat) (z : Nat → Int) : B64 (soX l z) := fun k => by have := soX_in l z k; omega
theorem so_b2 (m : Nat) (K : Nat → Nat) (Z : Nat → Nat → Int) : B2 (soP m K Z) := fun i j => by have := soP_in m K Z i j; omega
theorem noQ_b : B2 noQ := fun i j => by show _ ≤ (0 : Int) ∧ (0 : Int) ≤ _; omega
theorem noQ_mz : mvals 6 6 (mz 6 6 noQ) = mvals 6 6 (fun _ => 0) := mvals_congr fun k _ => mz_zero k
theorem eye_b : B2 eyeF := fun i j => by
  show _ ≤ (if i = j then (1048576 : Int) else 0) ∧ (if i = j then (1048576 : Int) else 0) ≤ _
  split <;> omega
theorem eye_next {X : Nat → Int} {P : Nat → Nat → Int} (h : MayV X P) : svals (nX eyeF X) 6 6 (mz 6 6 (nP eyeF P noQ)) = svals X 6 6 (mz 6 6 P) :=
  svals_congr (fun k hk => eye_nX h hk) (fun k _ => mz_congr (fun i j hi hj => eye_nP h hi hj) k)
theorem bP_b {kk : Int} (h0 : -9223372036854775808 ≤ kk) (h1 : kk ≤ 9223372036854775807) : B2 (bP (fun _ => kk)) := bP_b2 fun _ => ⟨h0, h1⟩
theorem more_ge (F P : Nat → Nat → Int) {kk : Int} (h : 0 ≤ kk) {i : Nat} (hi : i < 6) : mz 6 6 (nP F P noQ) (7 * i) ≤ mz 6 6 (nP F P (bP (fun _ => kk))) (7 * i) := by
  have e1 := dg_mz (nP F P noQ) hi
  have e2 := dg_mz (nP F P (bP (fun _ => kk))) hi
  unfold dg at e1 e2
  rw [e1, e2]
  refine nP_more F P ?_
  show (0 : Int) ≤ (if i = i then kk else 0)
  rw [if_pos rfl]; exact h
end Pd

set_option maxRecDepth 20000 in
set_option maxHeartbeats 8000000 in
theorem pl_bad (a0 a1 : Option Addr) (len0 cap0 l1 c1p : Nat) (A0 : Nat → Option Addr) (L0 C0 : Nat → Nat) (Z0 : Nat → Nat → Int) (more : Int) (w : World) (s0 : Sls w a0 len0 cap0 A0 L0 C0) (q0 : ∀ r, r < len0 → Sl w (A0 r) (L0 r) (C0 r) (Z0 r)) (hmr : -9223372036854775808 ≤ more ∧ more ≤ 9223372036854775807)
    (h6 : ∀ W, Below w.heap.size w W → Calls Try.prog 9 #[.slice a1 l1 c1p] W fun e w' => e = .returned (.bool false) ∧ Below W.heap.size W w')
    : Calls Try.prog 3 #[.slice a0 len0 cap0, .slice a1 l1 c1p, .int .i64 more] w fun e w' => e = .returned (.bool true) ∧ Below w.heap.size w w' := by
  have H6 := hide h6
  have HS0 := hide s0
  have HQ0 := hide q0
  have l1 := s0.le
  have l2 := s0.cap
  obtain ⟨kk, hkk⟩ : ∃ kk, kk = if more.tmod 1099511627776 < 0 then -(more.tmod 1099511627776) else more.tmod 1099511627776 := ⟨_, rfl⟩
  have kb : 0 ≤ kk ∧ kk < 1099511627776 := by
    have h := tmod_in more (d := 1099511627776) (by decide)
    rw [hkk]
    split <;> omega
  have HK := hide hkk
  have HKB := hide kb
  clear h6 s0 q0 hkk kb 
  go_enter Try.func3, Try.ntmps3
  go_upto_if 29 with fail
  go_cut [7, 8] (fun u v wx => ∃ (xo : Option Addr) (l xc : Nat) (po : Option Addr) (m pc : Nat) (zx : Nat → Int) (A : Nat → Option Addr) (K C : Nat → Nat) (Z : Nat → Nat → Int), u = .slice xo l xc ∧ v = .slice po m pc ∧ Sl wx xo l xc zx ∧ Sls wx po m pc A K C ∧ (∀ r, r < m → Sl wx (A r) (K r) (C r) (Z r)) ∧ Below w.heap.size w wx)
  case first =>
    by_cases h0 : len0 = 0
    · subst h0
      have d1 : decide ((0 : Int) < ((0 : Nat) : Int)) = false := by decide
      go_wp2
      go_meet
      exact ⟨none, 0, 0, a0, 0, cap0, fun _ => 0, A0, L0, C0, Z0, rfl, rfl, Sl.none _ _, HS0.out, fun r hr => by omega, Below.refl _ _⟩
    · obtain ⟨x, hx, hc⟩ := HS0.out.get
      obtain rfl := hx (by omega)
      have c0 : w.cell? x = some (.slice (A0 0) (L0 0) (C0 0)) := by have e := hc 0 (by omega); rwa [Lie.addr_zero] at e
      have d1 : decide ((0 : Int) < (len0 : Int)) = true := decide_eq_true (by omega)
      obtain ⟨y, hy, hs1, hs2⟩ := tail_rows x len0 cap0 (by omega) l1
      have HY := hide hy
      have HC := hide hc
      clear hx hc hy
      go_wp2
      go_quiet (fail)
      go_wp2
      go_meet
      refine ⟨A0 0, L0 0, C0 0, some y, len0 - 1, cap0 - 1, Z0 0, fun r => A0 (r + 1), fun r => L0 (r + 1), fun r => C0 (r + 1), fun r => Z0 (r + 1), rfl, rfl, (HQ0.out 0 (by omega)).keep (below_drewN (Below.refl _ _) _), ⟨by omega, by omega, fun j hj => ⟨y, rfl, ?_⟩⟩, fun r hr => (HQ0.out (r + 1) (by omega)).keep (below_drewN (Below.refl _ _) _), below_drewN (Below.refl _ _) _⟩
      rw [HY.out (by omega), add_add, Nat.add_comm 1 j]
      exact HC.out (j + 1) (by omega)
  rename World => wc
  obtain ⟨xo, l, xc, po, m, pc, zx, A, K, C, Z, rfl, rfl, sx, sp, sz, KC⟩ := hcut
  clear HS0 HQ0 l1 l2
  have hm := so_may l m zx K Z
  have HP := hide (fun W (k : Below wc.heap.size wc W) => psome_any xo po l xc m pc zx A K C Z W (sx.keep k) (sp.keep k) (fun r hr => (sz r hr).keep k))
  have HE : Hid (∀ W, Calls Try.prog 6 #[.int .i64 6] W fun e w' => e = .returned (.tuple #[.agg (mvals 6 6 (mz 6 6 eyeF)).toArray, .nilIface]) ∧ Below W.heap.size W w') := fun W => meye_any 6 W (by omega) (by omega)
  have HN0 := hide (fun W => pnext_yes (soX l zx) (soP m K Z) eyeF noQ W hm (so_b l zx) (so_b2 m K Z) eye_b noQ_b)
  rw [eye_next hm, eye_oP hm, noQ_mz] at HN0
  have HG := hide (fun yo yc ro rc W (a : Sl W yo 6 yc (soX l zx)) (b : Grid W ro 6 rc 6 (soP m K Z)) => pgive_any yo ro yc 6 rc (soX l zx) 6 6 (mz 6 6 (soP m K Z)) W a (fun V k => matOf_six b V k))
  obtain ⟨X, hX⟩ : ∃ X, X = soX l zx := ⟨_, rfl⟩
  obtain ⟨P, hP⟩ : ∃ P, P = soP m K Z := ⟨_, rfl⟩
  rw [← hX] at HN0 HG HP
  rw [← hP] at HN0 HG HP
  obtain ⟨zP, hzP⟩ : ∃ z, z = mz 6 6 P := ⟨_, rfl⟩
  rw [← hzP] at HN0 HG
  have HQs := hide (fun W => psame_any X 6 6 zP X 6 6 zP W)
  rw [eqS_same] at HQs
  obtain ⟨zE, hzE⟩ : ∃ z, z = mz 6 6 eyeF := ⟨_, rfl⟩
  rw [← hzE] at HE HN0
  clear hm hX hP hzP hzE sx sp sz 
  go_wp2_with (first
    | fail)
  refine (HP.out _ (Below.refl _ _)).mono ?_
  rintro e wq1 ⟨yo, yc, ro, rc, rfl, sY, gP, kq1⟩
  have KK1 := below_tr KC kq1
  clear KC
  go_wp2_with (first
    | fail)
  refine (HG.out _ _ _ _ _ sY gP).mono ?_
  rintro e wq2 ⟨rfl, kq2⟩
  have KK2 := below_tr KK1 kq2
  clear KK1
  go_wp2_with (first
    | ((with_reducible show wpList _ _ _ _ _ _); rw [zeroS]; refine St.wpList_storeNew isS rfl _ _ (by rfl) _ _ _ (by rfl) (by rfl) (svals_len _ _ _ _) (svals_len _ _ _ _) (one_svals _ _ _ _) ?_; intro ws3 ns3 ks3; have KK3 := below_tr KK2 ks3; clear KK2)
    | fail)
  refine (HE.out _).mono ?_
  rintro e wq4 ⟨rfl, kq4⟩
  have KK4 := below_tr KK3 kq4
  have s_4 := CRow.keep ns3 kq4
  clear KK3 ns3
  go_wp2_with (first
    | ((with_reducible show wpList _ _ _ _ _ _); rw [zeroM]; refine Mt.wpList_storeNew rfl _ _ (by rfl) _ _ _ _ (by rfl) (by rfl) ?_; intro ws5 ns5 ks5; have KK5 := below_tr KK4 ks5; have s_5 := CRow.keep s_4 ks5; clear KK4 s_4)
    | ((with_reducible show wpList _ _ _ _ _ _); rw [zeroM]; refine Mt.wpList_storeNew rfl _ _ (by rfl) _ _ _ _ (by rfl) (by rfl) ?_; intro ws6 ns6 ks6; have KK6 := below_tr KK5 ks6; have s_6 := CRow.keep s_5 ks6; have e_6 := ns5.keep ks6; clear KK5 s_5 ns5)
    | ((with_reducible show wpList _ _ _ _ _ _); refine St.wpList_load isS (by rfl) _ (by rfl) _ _ (by rfl) (by with_reducible exact s_6) (svals_len _ _ _ _) ?_)
    | ((with_reducible show wpList _ _ _ _ _ _); refine Hk.loadM _ (by with_reducible rfl) _ _ _ _ (by rfl) (by with_reducible exact e_6) (by kernel_rfl) ?_)
    | ((with_reducible show wpList _ _ _ _ _ _); refine Hk.loadM _ (by with_reducible rfl) _ _ _ _ (by rfl) (by with_reducible exact ns6) (by kernel_rfl) ?_)
    | ((with_reducible show wpList _ _ _ _ _ _); refine wpList_build2 rfl _ _ (by rfl) _ _ (by rfl) (by rfl) ?_)
    | fail)
  refine (HN0.out _).mono ?_
  rintro e wq7 ⟨rfl, kq7⟩
  have KK7 := below_tr KK6 kq7
  have s_7 := CRow.keep s_6 kq7
  have z_7 := ns6.keep kq7
  clear KK6 s_6 ns6
  go_wp2_with (first
    | ((with_reducible show wpList _ _ _ _ _ _); rw [zeroS]; refine St.wpList_storeNew isS rfl _ _ (by rfl) _ _ _ (by rfl) (by rfl) (svals_len _ _ _ _) (svals_len _ _ _ _) (one_svals _ _ _ _) ?_; intro ws8 ns8 ks8; have KK8 := below_tr KK7 ks8; have s_8 := CRow.keep s_7 ks8; have z_8 := z_7.keep ks8; clear KK7 s_7 z_7)
    | ((with_reducible show wpList _ _ _ _ _ _); refine St.wpList_load isS (by rfl) _ (by rfl) _ _ (by rfl) (by with_reducible exact ns8) (svals_len _ _ _ _) ?_)
    | ((with_reducible show wpList _ _ _ _ _ _); refine St.wpList_load isS (by rfl) _ (by rfl) _ _ (by rfl) (by with_reducible exact s_8) (svals_len _ _ _ _) ?_)
    | fail)
  refine (HQs.out _).mono ?_
  rintro e wq9 ⟨rfl, kq9⟩
  have KK9 := below_tr KK8 kq9
  have s_9 := CRow.keep s_8 kq9
  have z_9 := z_8.keep kq9
  clear KK8 s_8 z_8
  go_upto_if 70 with fail
  go_cut [16] (fun v wx => v = .int .i64 kk ∧ wx = wq9)
  case first =>
    have eK := HK.out
    have mb := tmod_in more (d := 1099511627776) (by decide)
    obtain ⟨mm, hmm⟩ : ∃ mm, more.tmod 1099511627776 = mm := ⟨_, rfl⟩
    rw [hmm] at eK mb
    by_cases hn : mm < 0
    · have d1 : decide (mm < 0) = true := decide_eq_true hn
      rw [if_pos hn] at eK
      have e1 : -mm = kk := eK.symm
      clear eK
      go_wp2
      go_meet
      exact ⟨rfl, rfl⟩
    · have d1 : decide (mm < 0) = false := decide_eq_false hn
      rw [if_neg hn] at eK
      have e1 : Hid (mm = kk) := eK.symm
      clear eK
      go_wp2
      go_meet
      exact ⟨by rw [e1.out], rfl⟩
  obtain ⟨rfl, rfl⟩ := hcut
  rename World => wk
  have PS := s_9
  have PZ := z_9
  have KW := KK9
  go_wp2_with (first
    | ((with_reducible show wpList _ _ _ _ _ _); refine Hk.loadM _ (by with_reducible rfl) _ _ _ _ (by rfl) (by with_reducible exact z_9) (by kernel_rfl) ?_)
    | ((with_reducible show wpList _ _ _ _ _ _); rw [zeroM]; refine Mt.wpList_storeNew rfl _ _ (by rfl) _ _ _ _ (by rfl) (by rfl) ?_; intro wn nn kn; have KN := below_tr KK9 kn; have s_n := CRow.keep s_9 kn; have z_n := z_9.keep kn; clear s_9 z_9 KK9 kn)
    | fail)
  have hl1 := CRow.lt s_n
  have hl2 := z_n.lt
  obtain ⟨gn, hgn⟩ : ∃ g, g = wk.heap.size := ⟨_, rfl⟩
  rw [← hgn] at nn ⊢
  have hgs : wq2.heap.size < gn := by have := CRow.lt PS; omega
  have hgz : ws5.heap.size < gn := by have := PZ.lt; omega
  have hgw : w.heap.size ≤ gn := by have := KW.size; omega
  have hS : ∀ V, But (· = gn) wn V → (SRow V wq2.heap.size X 6 6 zP ∧ MRow V (ws5.heap.size) 6 6 (fun _ => 0) ∧ Below w.heap.size w V) := fun V k => ⟨crowBut s_n k (by omega), mrowBut z_n k (by omega), k.below KN KN.size (fun q e => by omega)⟩
  have HSn := hide hS
  clear hS s_n z_n KN hl1 hl2 hgn KW PS PZ
  go_loopw [18] (fun i wr => ∃ k : Nat, k ≤ 6 ∧ i = .int .i64 (k : Int) ∧ MRow wr gn 6 6 (wdk (fun _ => 0) (fun _ => kk) k) ∧ But (· = gn) wn wr) (fun i _ => 6 - (intOf i).toNat)
  case atStart => exact ⟨0, by omega, rfl, nn.congr (fun i _ => wdk_zero (fun _ => 0) (fun _ => kk) i), But.refl _ _⟩
  case round =>
    rename World => wr
    obtain ⟨k, hk, rfl, nr, br⟩ := hrel
    by_cases h : k < 6
    · rcases (by omega : k = 0 ∨ k = 1 ∨ k = 2 ∨ k = 3 ∨ k = 4 ∨ k = 5) with rfl | rfl | rfl | rfl | rfl | rfl
      · have cz := nr.cell (k := 0) (o := 2) (by omega) rfl
        have fz := nr.free 2
        go_wp2
        go_roundw
        case rel => exact ⟨1, by omega, rfl, (MRow.set nr 0 _ rfl).congr (fun i _ => wdk_step (fun _ => 0) (fun _ => kk) 0 i), br.set (p := ⟨gn, 2, none⟩) _ rfl⟩
        case measure => simp [intOf]
      · have cz := nr.cell (k := 7) (o := 9) (by omega) rfl
        have fz := nr.free 9
        go_wp2
        go_roundw
        case rel => exact ⟨2, by omega, rfl, (MRow.set nr 7 _ rfl).congr (fun i _ => wdk_step (fun _ => 0) (fun _ => kk) 1 i), br.set (p := ⟨gn, 9, none⟩) _ rfl⟩
        case measure => simp [intOf]
      · have cz := nr.cell (k := 14) (o := 16) (by omega) rfl
        have fz := nr.free 16
        go_wp2
        go_roundw
        case rel => exact ⟨3, by omega, rfl, (MRow.set nr 14 _ rfl).congr (fun i _ => wdk_step (fun _ => 0) (fun _ => kk) 2 i), br.set (p := ⟨gn, 16, none⟩) _ rfl⟩
        case measure => simp [intOf]
      · have cz := nr.cell (k := 21) (o := 23) (by omega) rfl
        have fz := nr.free 23
        go_wp2
        go_roundw
        case rel => exact ⟨4, by omega, rfl, (MRow.set nr 21 _ rfl).congr (fun i _ => wdk_step (fun _ => 0) (fun _ => kk) 3 i), br.set (p := ⟨gn, 23, none⟩) _ rfl⟩
        case measure => simp [intOf]
      · have cz := nr.cell (k := 28) (o := 30) (by omega) rfl
        have fz := nr.free 30
        go_wp2
        go_roundw
        case rel => exact ⟨5, by omega, rfl, (MRow.set nr 28 _ rfl).congr (fun i _ => wdk_step (fun _ => 0) (fun _ => kk) 4 i), br.set (p := ⟨gn, 30, none⟩) _ rfl⟩
        case measure => simp [intOf]
      · have cz := nr.cell (k := 35) (o := 37) (by omega) rfl
        have fz := nr.free 37
        go_wp2
        go_roundw
        case rel => exact ⟨6, by omega, rfl, (MRow.set nr 35 _ rfl).congr (fun i _ => wdk_step (fun _ => 0) (fun _ => kk) 5 i), br.set (p := ⟨gn, 37, none⟩) _ rfl⟩
        case measure => simp [intOf]
    · obtain rfl : k = 6 := by omega
      obtain ⟨sr, zr, Kr⟩ := HSn.out _ br
      clear h br HSn nn
      go_wp2_with fail
      refine (H6.out _ Kr).mono ?_
      rintro e w5 ⟨rfl, k5⟩
      go_wp2_with fail
      refine (psure_any _).mono ?_
      rintro e w6 ⟨rfl, k6⟩
      go_wp2
      go_ret
      exact ⟨rfl, below_tr (below_tr Kr k5) k6⟩

set_option maxRecDepth 20000 in
set_option maxHeartbeats 8000000 in
theorem pl_good (a0 a1 : Option Addr) (len0 cap0 c1p : Nat) (A0 : Nat → Option Addr) (L0 C0 : Nat → Nat) (Z0 : Nat → Nat → Int) (more : Int) (F : Nat → Nat → Int) (w : World) (s0 : Sls w a0 len0 cap0 A0 L0 C0) (q0 : ∀ r, r < len0 → Sl w (A0 r) (L0 r) (C0 r) (Z0 r)) (hmr : -9223372036854775808 ≤ more ∧ more ≤ 9223372036854775807)
    (h6 : ∀ W, Below w.heap.size w W → Calls Try.prog 9 #[.slice a1 6 c1p] W fun e w' => e = .returned (.bool true) ∧ Below W.heap.size W w')
    (g1 : Grid w a1 6 c1p 6 F) (bF : B2 F)
    : Calls Try.prog 3 #[.slice a0 len0 cap0, .slice a1 6 c1p, .int .i64 more] w fun e w' => e = .returned (.bool true) ∧ Below w.heap.size w w' := by
  have H6 := hide h6
  have HF := hide (fun W (b : Below w.heap.size w W) => matOf_six g1 W b)
  have HbF := hide bF
  have HS0 := hide s0
  have HQ0 := hide q0
  have l1 := s0.le
  have l2 := s0.cap
  obtain ⟨kk, hkk⟩ : ∃ kk, kk = if more.tmod 1099511627776 < 0 then -(more.tmod 1099511627776) else more.tmod 1099511627776 := ⟨_, rfl⟩
  have kb : 0 ≤ kk ∧ kk < 1099511627776 := by
    have h := tmod_in more (d := 1099511627776) (by decide)
    rw [hkk]
    split <;> omega
  have HK := hide hkk
  have HKB := hide kb
  clear h6 s0 q0 hkk kb g1 bF
  go_enter Try.func3, Try.ntmps3
  go_upto_if 29 with fail
  go_cut [7, 8] (fun u v wx => ∃ (xo : Option Addr) (l xc : Nat) (po : Option Addr) (m pc : Nat) (zx : Nat → Int) (A : Nat → Option Addr) (K C : Nat → Nat) (Z : Nat → Nat → Int), u = .slice xo l xc ∧ v = .slice po m pc ∧ Sl wx xo l xc zx ∧ Sls wx po m pc A K C ∧ (∀ r, r < m → Sl wx (A r) (K r) (C r) (Z r)) ∧ Below w.heap.size w wx)
  case first =>
    by_cases h0 : len0 = 0
    · subst h0
      have d1 : decide ((0 : Int) < ((0 : Nat) : Int)) = false := by decide
      go_wp2
      go_meet
      exact ⟨none, 0, 0, a0, 0, cap0, fun _ => 0, A0, L0, C0, Z0, rfl, rfl, Sl.none _ _, HS0.out, fun r hr => by omega, Below.refl _ _⟩
    · obtain ⟨x, hx, hc⟩ := HS0.out.get
      obtain rfl := hx (by omega)
      have c0 : w.cell? x = some (.slice (A0 0) (L0 0) (C0 0)) := by have e := hc 0 (by omega); rwa [Lie.addr_zero] at e
      have d1 : decide ((0 : Int) < (len0 : Int)) = true := decide_eq_true (by omega)
      obtain ⟨y, hy, hs1, hs2⟩ := tail_rows x len0 cap0 (by omega) l1
      have HY := hide hy
      have HC := hide hc
      clear hx hc hy
      go_wp2
      go_quiet (fail)
      go_wp2
      go_meet
      refine ⟨A0 0, L0 0, C0 0, some y, len0 - 1, cap0 - 1, Z0 0, fun r => A0 (r + 1), fun r => L0 (r + 1), fun r => C0 (r + 1), fun r => Z0 (r + 1), rfl, rfl, (HQ0.out 0 (by omega)).keep (below_drewN (Below.refl _ _) _), ⟨by omega, by omega, fun j hj => ⟨y, rfl, ?_⟩⟩, fun r hr => (HQ0.out (r + 1) (by omega)).keep (below_drewN (Below.refl _ _) _), below_drewN (Below.refl _ _) _⟩
      rw [HY.out (by omega), add_add, Nat.add_comm 1 j]
      exact HC.out (j + 1) (by omega)
  rename World => wc
  obtain ⟨xo, l, xc, po, m, pc, zx, A, K, C, Z, rfl, rfl, sx, sp, sz, KC⟩ := hcut
  clear HS0 HQ0 l1 l2
  have hm := so_may l m zx K Z
  have HP := hide (fun W (k : Below wc.heap.size wc W) => psome_any xo po l xc m pc zx A K C Z W (sx.keep k) (sp.keep k) (fun r hr => (sz r hr).keep k))
  have HE : Hid (∀ W, Calls Try.prog 6 #[.int .i64 6] W fun e w' => e = .returned (.tuple #[.agg (mvals 6 6 (mz 6 6 eyeF)).toArray, .nilIface]) ∧ Below W.heap.size W w') := fun W => meye_any 6 W (by omega) (by omega)
  have HN0 := hide (fun W => pnext_yes (soX l zx) (soP m K Z) eyeF noQ W hm (so_b l zx) (so_b2 m K Z) eye_b noQ_b)
  rw [eye_next hm, eye_oP hm, noQ_mz] at HN0
  have HG := hide (fun yo yc ro rc W (a : Sl W yo 6 yc (soX l zx)) (b : Grid W ro 6 rc 6 (soP m K Z)) => pgive_any yo ro yc 6 rc (soX l zx) 6 6 (mz 6 6 (soP m K Z)) W a (fun V k => matOf_six b V k))
  have HNa := hide (fun W => pnext_yes (soX l zx) (soP m K Z) F noQ W hm (so_b l zx) (so_b2 m K Z) HbF.out noQ_b)
  rw [noQ_mz] at HNa
  have HNb := hide (fun W => pnext_yes (soX l zx) (soP m K Z) F (bP (fun _ => kk)) W hm (so_b l zx) (so_b2 m K Z) HbF.out (bP_b (by have := HKB.out; omega) (by have := HKB.out; omega)))
  have HCa : Hid (∀ W, Calls Try.prog 12 #[.agg (svals (nX F (soX l zx)) 6 6 (mz 6 6 (nP F (soP m K Z) noQ))).toArray] W fun e w' => e = .returned .nilIface ∧ Below W.heap.size W w') := fun W => pcheck_six _ _ true W ⟨fun _ => next_may F (soX l zx) (soP m K Z) noQ, fun _ => rfl⟩
  have HCb : Hid (∀ W, Calls Try.prog 12 #[.agg (svals (nX F (soX l zx)) 6 6 (mz 6 6 (nP F (soP m K Z) (bP (fun _ => kk))))).toArray] W fun e w' => e = .returned .nilIface ∧ Below W.heap.size W w') := fun W => pcheck_six _ _ true W ⟨fun _ => next_may F (soX l zx) (soP m K Z) (bP (fun _ => kk)), fun _ => rfl⟩
  have HGe := hide (fun i (hi : i < 6) => more_ge F (soP m K Z) HKB.out.1 hi)
  have HBm := hide (wdk_bP (fun _ => kk))
  obtain ⟨Y, hY⟩ : ∃ Y, Y = nX F (soX l zx) := ⟨_, rfl⟩
  obtain ⟨zA, hzA⟩ : ∃ z, z = mz 6 6 (nP F (soP m K Z) noQ) := ⟨_, rfl⟩
  obtain ⟨zB, hzB⟩ : ∃ z, z = mz 6 6 (nP F (soP m K Z) (bP (fun _ => kk))) := ⟨_, rfl⟩
  obtain ⟨q, hq⟩ : ∃ q, q = oP F (soX l zx) (soP m K Z) noQ := ⟨_, rfl⟩
  obtain ⟨r, hr⟩ : ∃ q, q = oP F (soX l zx) (soP m K Z) (bP (fun _ => kk)) := ⟨_, rfl⟩
  obtain ⟨zF, hzF⟩ : ∃ z, z = mz 6 6 F := ⟨_, rfl⟩
  obtain ⟨zk, hzk⟩ : ∃ z, z = mz 6 6 (bP (fun _ => kk)) := ⟨_, rfl⟩
  rw [← hzF] at HF
  rw [← hzk] at HBm
  rw [← hY, ← hzA, ← hq, ← hzF] at HNa
  rw [← hY, ← hzB, ← hr, ← hzF, ← hzk] at HNb
  rw [← hY, ← hzA] at HCa
  rw [← hY, ← hzB] at HCb
  rw [← hzA, ← hzB] at HGe
  obtain ⟨X, hX⟩ : ∃ X, X = soX l zx := ⟨_, rfl⟩
  obtain ⟨P, hP⟩ : ∃ P, P = soP m K Z := ⟨_, rfl⟩
  rw [← hX] at HN0 HG HP
  rw [← hP] at HN0 HG HP
  obtain ⟨zP, hzP⟩ : ∃ z, z = mz 6 6 P := ⟨_, rfl⟩
  rw [← hzP] at HN0 HG
  rw [← hX, ← hP, ← hzP] at HNa HNb
  have HQs := hide (fun W => psame_any X 6 6 zP X 6 6 zP W)
  rw [eqS_same] at HQs
  obtain ⟨zE, hzE⟩ : ∃ z, z = mz 6 6 eyeF := ⟨_, rfl⟩
  rw [← hzE] at HE HN0
  clear hm hX hP hzP hzE sx sp sz hY hzA hzB hq hr hzF hzk HbF
  go_wp2_with (first
    | fail)
  refine (HP.out _ (Below.refl _ _)).mono ?_
  rintro e wq1 ⟨yo, yc, ro, rc, rfl, sY, gP, kq1⟩
  have KK1 := below_tr KC kq1
  clear KC
  go_wp2_with (first
    | fail)
  refine (HG.out _ _ _ _ _ sY gP).mono ?_
  rintro e wq2 ⟨rfl, kq2⟩
  have KK2 := below_tr KK1 kq2
  clear KK1
  go_wp2_with (first
    | ((with_reducible show wpList _ _ _ _ _ _); rw [zeroS]; refine St.wpList_storeNew isS rfl _ _ (by rfl) _ _ _ (by rfl) (by rfl) (svals_len _ _ _ _) (svals_len _ _ _ _) (one_svals _ _ _ _) ?_; intro ws3 ns3 ks3; have KK3 := below_tr KK2 ks3; clear KK2)
    | fail)
  refine (HE.out _).mono ?_
  rintro e wq4 ⟨rfl, kq4⟩
  have KK4 := below_tr KK3 kq4
  have s_4 := CRow.keep ns3 kq4
  clear KK3 ns3
  go_wp2_with (first
    | ((with_reducible show wpList _ _ _ _ _ _); rw [zeroM]; refine Mt.wpList_storeNew rfl _ _ (by rfl) _ _ _ _ (by rfl) (by rfl) ?_; intro ws5 ns5 ks5; have KK5 := below_tr KK4 ks5; have s_5 := CRow.keep s_4 ks5; clear KK4 s_4)
    | ((with_reducible show wpList _ _ _ _ _ _); rw [zeroM]; refine Mt.wpList_storeNew rfl _ _ (by rfl) _ _ _ _ (by rfl) (by rfl) ?_; intro ws6 ns6 ks6; have KK6 := below_tr KK5 ks6; have s_6 := CRow.keep s_5 ks6; have e_6 := ns5.keep ks6; clear KK5 s_5 ns5)
    | ((with_reducible show wpList _ _ _ _ _ _); refine St.wpList_load isS (by rfl) _ (by rfl) _ _ (by rfl) (by with_reducible exact s_6) (svals_len _ _ _ _) ?_)
    | ((with_reducible show wpList _ _ _ _ _ _); refine Hk.loadM _ (by with_reducible rfl) _ _ _ _ (by rfl) (by with_reducible exact e_6) (by kernel_rfl) ?_)
    | ((with_reducible show wpList _ _ _ _ _ _); refine Hk.loadM _ (by with_reducible rfl) _ _ _ _ (by rfl) (by with_reducible exact ns6) (by kernel_rfl) ?_)
    | ((with_reducible show wpList _ _ _ _ _ _); refine wpList_build2 rfl _ _ (by rfl) _ _ (by rfl) (by rfl) ?_)
    | fail)
  refine (HN0.out _).mono ?_
  rintro e wq7 ⟨rfl, kq7⟩
  have KK7 := below_tr KK6 kq7
  have s_7 := CRow.keep s_6 kq7
  have z_7 := ns6.keep kq7
  clear KK6 s_6 ns6
  go_wp2_with (first
    | ((with_reducible show wpList _ _ _ _ _ _); rw [zeroS]; refine St.wpList_storeNew isS rfl _ _ (by rfl) _ _ _ (by rfl) (by rfl) (svals_len _ _ _ _) (svals_len _ _ _ _) (one_svals _ _ _ _) ?_; intro ws8 ns8 ks8; have KK8 := below_tr KK7 ks8; have s_8 := CRow.keep s_7 ks8; have z_8 := z_7.keep ks8; clear KK7 s_7 z_7)
    | ((with_reducible show wpList _ _ _ _ _ _); refine St.wpList_load isS (by rfl) _ (by rfl) _ _ (by rfl) (by with_reducible exact ns8) (svals_len _ _ _ _) ?_)
    | ((with_reducible show wpList _ _ _ _ _ _); refine St.wpList_load isS (by rfl) _ (by rfl) _ _ (by rfl) (by with_reducible exact s_8) (svals_len _ _ _ _) ?_)
    | fail)
  refine (HQs.out _).mono ?_
  rintro e wq9 ⟨rfl, kq9⟩
  have KK9 := below_tr KK8 kq9
  have s_9 := CRow.keep s_8 kq9
  have z_9 := z_8.keep kq9
  clear KK8 s_8 z_8
  go_upto_if 70 with fail
  go_cut [16] (fun v wx => v = .int .i64 kk ∧ wx = wq9)
  case first =>
    have eK := HK.out
    have mb := tmod_in more (d := 1099511627776) (by decide)
    obtain ⟨mm, hmm⟩ : ∃ mm, more.tmod 1099511627776 = mm := ⟨_, rfl⟩
    rw [hmm] at eK mb
    by_cases hn : mm < 0
    · have d1 : decide (mm < 0) = true := decide_eq_true hn
      rw [if_pos hn] at eK
      have e1 : -mm = kk := eK.symm
      clear eK
      go_wp2
      go_meet
      exact ⟨rfl, rfl⟩
    · have d1 : decide (mm < 0) = false := decide_eq_false hn
      rw [if_neg hn] at eK
      have e1 : Hid (mm = kk) := eK.symm
      clear eK
      go_wp2
      go_meet
      exact ⟨by rw [e1.out], rfl⟩
  obtain ⟨rfl, rfl⟩ := hcut
  rename World => wk
  have PS := s_9
  have PZ := z_9
  have KW := KK9
  go_wp2_with (first
    | ((with_reducible show wpList _ _ _ _ _ _); refine Hk.loadM _ (by with_reducible rfl) _ _ _ _ (by rfl) (by with_reducible exact z_9) (by kernel_rfl) ?_)
    | ((with_reducible show wpList _ _ _ _ _ _); rw [zeroM]; refine Mt.wpList_storeNew rfl _ _ (by rfl) _ _ _ _ (by rfl) (by rfl) ?_; intro wn nn kn; have KN := below_tr KK9 kn; have s_n := CRow.keep s_9 kn; have z_n := z_9.keep kn; clear s_9 z_9 KK9 kn)
    | fail)
  have hl1 := CRow.lt s_n
  have hl2 := z_n.lt
  obtain ⟨gn, hgn⟩ : ∃ g, g = wk.heap.size := ⟨_, rfl⟩
  rw [← hgn] at nn ⊢
  have hgs : wq2.heap.size < gn := by have := CRow.lt PS; omega
  have hgz : ws5.heap.size < gn := by have := PZ.lt; omega
  have hgw : w.heap.size ≤ gn := by have := KW.size; omega
  have hS : ∀ V, But (· = gn) wn V → (SRow V wq2.heap.size X 6 6 zP ∧ MRow V (ws5.heap.size) 6 6 (fun _ => 0) ∧ Below w.heap.size w V) := fun V k => ⟨crowBut s_n k (by omega), mrowBut z_n k (by omega), k.below KN KN.size (fun q e => by omega)⟩
  have HSn := hide hS
  clear hS s_n z_n KN hl1 hl2 hgn KW PS PZ
  go_loopw [18] (fun i wr => ∃ k : Nat, k ≤ 6 ∧ i = .int .i64 (k : Int) ∧ MRow wr gn 6 6 (wdk (fun _ => 0) (fun _ => kk) k) ∧ But (· = gn) wn wr) (fun i _ => 6 - (intOf i).toNat)
  case atStart => exact ⟨0, by omega, rfl, nn.congr (fun i _ => wdk_zero (fun _ => 0) (fun _ => kk) i), But.refl _ _⟩
  case round =>
    rename World => wr
    obtain ⟨k, hk, rfl, nr, br⟩ := hrel
    by_cases h : k < 6
    · rcases (by omega : k = 0 ∨ k = 1 ∨ k = 2 ∨ k = 3 ∨ k = 4 ∨ k = 5) with rfl | rfl | rfl | rfl | rfl | rfl
      · have cz := nr.cell (k := 0) (o := 2) (by omega) rfl
        have fz := nr.free 2
        go_wp2
        go_roundw
        case rel => exact ⟨1, by omega, rfl, (MRow.set nr 0 _ rfl).congr (fun i _ => wdk_step (fun _ => 0) (fun _ => kk) 0 i), br.set (p := ⟨gn, 2, none⟩) _ rfl⟩
        case measure => simp [intOf]
      · have cz := nr.cell (k := 7) (o := 9) (by omega) rfl
        have fz := nr.free 9
        go_wp2
        go_roundw
        case rel => exact ⟨2, by omega, rfl, (MRow.set nr 7 _ rfl).congr (fun i _ => wdk_step (fun _ => 0) (fun _ => kk) 1 i), br.set (p := ⟨gn, 9, none⟩) _ rfl⟩
        case measure => simp [intOf]
      · have cz := nr.cell (k := 14) (o := 16) (by omega) rfl
        have fz := nr.free 16
        go_wp2
        go_roundw
        case rel => exact ⟨3, by omega, rfl, (MRow.set nr 14 _ rfl).congr (fun i _ => wdk_step (fun _ => 0) (fun _ => kk) 2 i), br.set (p := ⟨gn, 16, none⟩) _ rfl⟩
        case measure => simp [intOf]
      · have cz := nr.cell (k := 21) (o := 23) (by omega) rfl
        have fz := nr.free 23
        go_wp2
        go_roundw
        case rel => exact ⟨4, by omega, rfl, (MRow.set nr 21 _ rfl).congr (fun i _ => wdk_step (fun _ => 0) (fun _ => kk) 3 i), br.set (p := ⟨gn, 23, none⟩) _ rfl⟩
        case measure => simp [intOf]
      · have cz := nr.cell (k := 28) (o := 30) (by omega) rfl
        have fz := nr.free 30
        go_wp2
        go_roundw
        case rel => exact ⟨5, by omega, rfl, (MRow.set nr 28 _ rfl).congr (fun i _ => wdk_step (fun _ => 0) (fun _ => kk) 4 i), br.set (p := ⟨gn, 30, none⟩) _ rfl⟩
        case measure => simp [intOf]
      · have cz := nr.cell (k := 35) (o := 37) (by omega) rfl
        have fz := nr.free 37
        go_wp2
        go_roundw
        case rel => exact ⟨6, by omega, rfl, (MRow.set nr 35 _ rfl).congr (fun i _ => wdk_step (fun _ => 0) (fun _ => kk) 5 i), br.set (p := ⟨gn, 37, none⟩) _ rfl⟩
        case measure => simp [intOf]
    · obtain rfl : k = 6 := by omega
      obtain ⟨sr, zr, Kr⟩ := HSn.out _ br
      clear h br HSn nn
      have nz : MRow wr gn 6 6 zk := by
        have e := nr
        unfold MRow at e
        rw [HBm.out] at e
        exact e
      go_wp2_with fail
      refine (H6.out _ Kr).mono ?_
      rintro e w5 ⟨rfl, k5⟩
      have s5 := CRow.keep sr k5
      have z5 := zr.keep k5
      have n5 := nz.keep k5
      have K5 := below_tr Kr k5
      clear sr zr nz nr Kr k5 H6
      go_upto_region 21 with fail
      go_cut [19, 20, 21] (fun p o f wx => ∃ g : Nat, p = .pointer (some ⟨g, 0, none⟩) ∧ o = .bool q ∧ f = .nilIface ∧ CRow wx g 29 (svals Y 6 6 zA) ∧ Below w5.heap.size w5 wx)
      case first =>
        have hS : ∀ W, Below w5.heap.size w5 W → (SRow W wq2.heap.size X 6 6 zP ∧ MRow W (ws5.heap.size) 6 6 (fun _ => 0)) := fun W k => ⟨CRow.keep s5 k, z5.keep k⟩
        have KQ := hide K5
        have HNx := hide HNa.out
        have lx := CRow.lt s5
        have ly := z5.lt
        clear s5 z5 n5 K5
        refine Ru.wp_region_U [] (fun w' => SRow w' wq2.heap.size X 6 6 zP ∧ MRow w' (ws5.heap.size) 6 6 (fun _ => 0)) (by kernel_rfl) (hS _ (Vc.below_drew' _)) (fun hHeld => ?_)
        refine Ru.wpAnyU_take (i := 0) (v := .agg (svals X 6 6 zP).toArray) rfl (by kernel_rfl) (by kernel_rfl) (by kernel_rfl) (by kernel_rfl) (by kernel_rfl) (by kernel_rfl) (fun _ _ _ h => h) (Ru.yieldsC isS (by kernel_rfl) _ (by rfl) wq2.heap.size _ (by rfl) (fun w h => h.1) (svals_len _ _ _ _)) hHeld ?_
        simp only [Act.put, List.getElem_toArray, List.getElem_cons_zero, List.getElem_cons_succ, List.setIfInBounds_toArray, List.set_cons_zero, List.set_cons_succ]
        refine Ru.wpAnyU_take (i := 1) (v := .slice a1 6 c1p) rfl (by kernel_rfl) (by kernel_rfl) (by kernel_rfl) (by kernel_rfl) (by kernel_rfl) (by kernel_rfl) (fun _ _ _ h => h) (Or.inl ⟨by kernel_rfl, fun w hS => by obtain ⟨sc0, sc1⟩ := hS; go_simp⟩) hHeld ?_
        simp only [Act.put, List.getElem_toArray, List.getElem_cons_zero, List.getElem_cons_succ, List.setIfInBounds_toArray, List.set_cons_zero, List.set_cons_succ]
        refine Ru.wpAnyU_take (i := 3) (v := .agg (mvals 6 6 (fun _ => 0)).toArray) rfl (by kernel_rfl) (by kernel_rfl) (by kernel_rfl) (by kernel_rfl) (by kernel_rfl) (by kernel_rfl) (fun _ _ _ h => h) (Ru.yieldsM (by kernel_rfl) _ (by rfl) (ws5.heap.size) 6 6 (fun _ => 0) (by rfl) (fun w h => h.2)) hHeld ?_
        simp only [Act.put, List.getElem_toArray, List.getElem_cons_zero, List.getElem_cons_succ, List.setIfInBounds_toArray, List.set_cons_zero, List.set_cons_succ]
        refine Ru.wpAnyU_ready (rs := [2, 9]) (by kernel_rfl) (by simp) ?_
        refine Ru.AllReadyU.cons rfl (by kernel_rfl) (fun K hK => ?_) ?_
        · go_simp
          refine (HF.out _ (below_tr KQ.out (Vc.below_drew' w5))).mono ?_
          rintro e v_1 ⟨rfl, k_1⟩
          have D_1 := below_tr (Vc.below_drew' w5) k_1
          go_wp2_with fail
          refine hK.out _ _ (hS _ D_1) (fun hHeld => ?_)
          clear hK K
          try simp only [Act.put, List.getElem_toArray, List.getElem_cons_zero, List.getElem_cons_succ, List.setIfInBounds_toArray, List.set_cons_zero, List.set_cons_succ]
          refine Ru.wpAnyU_ready (rs := [4, 9]) (by kernel_rfl) (by simp) ?_
          refine Ru.AllReadyU.cons rfl (by kernel_rfl) (fun K hK => ?_) ?_
          · go_simp
            refine (HNx.out _).mono ?_
            rintro e v_2 ⟨rfl, k_2⟩
            have D_2 := below_tr D_1 k_2
            go_wp2_with fail
            refine hK.out _ _ (hS _ D_2) (fun hHeld => ?_)
            clear hK K
            try simp only [Act.put, List.getElem_toArray, List.getElem_cons_zero, List.getElem_cons_succ, List.setIfInBounds_toArray, List.set_cons_zero, List.set_cons_succ]
            refine Ru.wpAnyU_take (i := 5) (v := .tuple #[.agg (svals Y 6 6 zA).toArray, .bool q, .nilIface]) rfl (by kernel_rfl) (by kernel_rfl) (by kernel_rfl) (by kernel_rfl) (by kernel_rfl) (by kernel_rfl) (fun _ _ _ h => h) (Or.inl ⟨by kernel_rfl, fun w hS => by obtain ⟨sc0, sc1⟩ := hS; go_simp⟩) hHeld ?_
            simp only [Act.put, List.getElem_toArray, List.getElem_cons_zero, List.getElem_cons_succ, List.setIfInBounds_toArray, List.set_cons_zero, List.set_cons_succ]
            refine Ru.wpAnyU_take (i := 6) (v := .agg (svals Y 6 6 zA).toArray) rfl (by kernel_rfl) (by kernel_rfl) (by kernel_rfl) (by kernel_rfl) (by kernel_rfl) (by kernel_rfl) (fun _ _ _ h => h) (Or.inl ⟨by kernel_rfl, fun w hS => by obtain ⟨sc0, sc1⟩ := hS; go_simp⟩) hHeld ?_
            simp only [Act.put, List.getElem_toArray, List.getElem_cons_zero, List.getElem_cons_succ, List.setIfInBounds_toArray, List.set_cons_zero, List.set_cons_succ]
            refine Ru.wpAnyU_take (i := 7) (v := .bool q) rfl (by kernel_rfl) (by kernel_rfl) (by kernel_rfl) (by kernel_rfl) (by kernel_rfl) (by kernel_rfl) (fun _ _ _ h => h) (Or.inl ⟨by kernel_rfl, fun w hS => by obtain ⟨sc0, sc1⟩ := hS; go_simp⟩) hHeld ?_
            simp only [Act.put, List.getElem_toArray, List.getElem_cons_zero, List.getElem_cons_succ, List.setIfInBounds_toArray, List.set_cons_zero, List.set_cons_succ]
            refine Ru.wpAnyU_take (i := 8) (v := .nilIface) rfl (by kernel_rfl) (by kernel_rfl) (by kernel_rfl) (by kernel_rfl) (by kernel_rfl) (by kernel_rfl) (fun _ _ _ h => h) (Or.inl ⟨by kernel_rfl, fun w hS => by obtain ⟨sc0, sc1⟩ := hS; go_simp⟩) hHeld ?_
            simp only [Act.put, List.getElem_toArray, List.getElem_cons_zero, List.getElem_cons_succ, List.setIfInBounds_toArray, List.set_cons_zero, List.set_cons_succ]
            refine Ru.wpAnyU_ready (rs := [9]) (by kernel_rfl) (by simp) ?_
            refine Ru.AllReadyU.cons rfl (by kernel_rfl) (fun K hK => ?_) Ru.AllReadyU.nil
            go_simp
            try rw [zeroS]
            have n_3 : CRow (v_2.alloc (.cells (svals (fun _ => 0) 0 0 (fun _ => 0)).toArray 29)) v_2.heap.size 29 (svals (fun _ => 0) 0 0 (fun _ => 0)) := crow_new v_2 29 (svals (fun _ => 0) 0 0 (fun _ => 0))
            have a_3 := below_al (Below.refl _ v_2) (.cells (svals (fun _ => 0) 0 0 (fun _ => 0)).toArray 29)
            have g_3 := D_2.size
            have D_3 := below_tr D_2 a_3
            refine hK.out _ _ (hS _ D_3) (fun hHeld => ?_)
            clear hK K
            try simp only [Act.put, List.getElem_toArray, List.getElem_cons_zero, List.getElem_cons_succ, List.setIfInBounds_toArray, List.set_cons_zero, List.set_cons_succ]
            refine Ru.wpAnyU_ready (rs := [10]) (by kernel_rfl) (by simp) ?_
            refine Ru.AllReadyU.cons rfl (by kernel_rfl) (fun K hK => ?_) Ru.AllReadyU.nil
            refine Ru.stepC isS (by kernel_rfl) _ _ (by rfl) (v_2.heap.size) _ (svals Y 6 6 zA) (by rfl) (by rfl) n_3 (svals_len _ _ _ _) (svals_len _ _ _ _) (one_svals _ _ _ _) ?_
            have nE := CRow.row n_3 (svals Y 6 6 zA)
            have xE := CRow.rowOther (hS _ D_3).1 (g := v_2.heap.size) (by omega) (svals Y 6 6 zA).toArray
            have yE := (hS _ D_3).2.rowOther (g := v_2.heap.size) (by omega) (svals Y 6 6 zA).toArray
            have bE := St.below_row D_3 (g := v_2.heap.size) (by omega) (svals Y 6 6 zA).toArray
            refine hK.out _ _ ⟨xE, yE⟩ (fun hHeld => ?_)
            clear hK K
            try simp only [Act.put, List.getElem_toArray, List.getElem_cons_zero, List.getElem_cons_succ, List.setIfInBounds_toArray, List.set_cons_zero, List.set_cons_succ]
            refine Ru.wpAnyU_take (i := 11) (v := .bool q) rfl (by kernel_rfl) (by kernel_rfl) (by kernel_rfl) (by kernel_rfl) (by kernel_rfl) (by kernel_rfl) (fun _ _ _ h => h) (Or.inl ⟨by kernel_rfl, fun w hS => by obtain ⟨sc0, sc1⟩ := hS; go_simp⟩) hHeld ?_
            simp only [Act.put, List.getElem_toArray, List.getElem_cons_zero, List.getElem_cons_succ, List.setIfInBounds_toArray, List.set_cons_zero, List.set_cons_succ]
            refine Ru.wpAnyU_take (i := 12) (v := .nilIface) rfl (by kernel_rfl) (by kernel_rfl) (by kernel_rfl) (by kernel_rfl) (by kernel_rfl) (by kernel_rfl) (fun _ _ _ h => h) (Or.inl ⟨by kernel_rfl, fun w hS => by obtain ⟨sc0, sc1⟩ := hS; go_simp⟩) hHeld ?_
            simp only [Act.put, List.getElem_toArray, List.getElem_cons_zero, List.getElem_cons_succ, List.setIfInBounds_toArray, List.set_cons_zero, List.set_cons_succ]
            refine Ru.wpAnyU_done (by kernel_rfl) ?_
            go_wp2_with fail
            go_meet
            exact ⟨_, rfl, rfl, rfl, nE, bE⟩
          refine Ru.AllReadyU.cons rfl (by kernel_rfl) (fun K hK => ?_) Ru.AllReadyU.nil
          go_simp
          try rw [zeroS]
          have n_4 : CRow (v_1.alloc (.cells (svals (fun _ => 0) 0 0 (fun _ => 0)).toArray 29)) v_1.heap.size 29 (svals (fun _ => 0) 0 0 (fun _ => 0)) := crow_new v_1 29 (svals (fun _ => 0) 0 0 (fun _ => 0))
          have a_4 := below_al (Below.refl _ v_1) (.cells (svals (fun _ => 0) 0 0 (fun _ => 0)).toArray 29)
          have g_4 := D_1.size
          have D_4 := below_tr D_1 a_4
          refine hK.out _ _ (hS _ D_4) (fun hHeld => ?_)
          clear hK K
          try simp only [Act.put, List.getElem_toArray, List.getElem_cons_zero, List.getElem_cons_succ, List.setIfInBounds_toArray, List.set_cons_zero, List.set_cons_succ]
          refine Ru.wpAnyU_ready (rs := [4]) (by kernel_rfl) (by simp) ?_
          refine Ru.AllReadyU.cons rfl (by kernel_rfl) (fun K hK => ?_) Ru.AllReadyU.nil
          go_simp
          refine (HNx.out _).mono ?_
          rintro e v_5 ⟨rfl, k_5⟩
          have D_5 := below_tr D_4 k_5
          have n_5 := CRow.keep n_4 k_5
          go_wp2_with fail
          refine hK.out _ _ (hS _ D_5) (fun hHeld => ?_)
          clear hK K
          try simp only [Act.put, List.getElem_toArray, List.getElem_cons_zero, List.getElem_cons_succ, List.setIfInBounds_toArray, List.set_cons_zero, List.set_cons_succ]
          refine Ru.wpAnyU_take (i := 5) (v := .tuple #[.agg (svals Y 6 6 zA).toArray, .bool q, .nilIface]) rfl (by kernel_rfl) (by kernel_rfl) (by kernel_rfl) (by kernel_rfl) (by kernel_rfl) (by kernel_rfl) (fun _ _ _ h => h) (Or.inl ⟨by kernel_rfl, fun w hS => by obtain ⟨sc0, sc1⟩ := hS; go_simp⟩) hHeld ?_
          simp only [Act.put, List.getElem_toArray, List.getElem_cons_zero, List.getElem_cons_succ, List.setIfInBounds_toArray, List.set_cons_zero, List.set_cons_succ]
          refine Ru.wpAnyU_take (i := 6) (v := .agg (svals Y 6 6 zA).toArray) rfl (by kernel_rfl) (by kernel_rfl) (by kernel_rfl) (by kernel_rfl) (by kernel_rfl) (by kernel_rfl) (fun _ _ _ h => h) (Or.inl ⟨by kernel_rfl, fun w hS => by obtain ⟨sc0, sc1⟩ := hS; go_simp⟩) hHeld ?_
          simp only [Act.put, List.getElem_toArray, List.getElem_cons_zero, List.getElem_cons_succ, List.setIfInBounds_toArray, List.set_cons_zero, List.set_cons_succ]
          refine Ru.wpAnyU_take (i := 7) (v := .bool q) rfl (by kernel_rfl) (by kernel_rfl) (by kernel_rfl) (by kernel_rfl) (by kernel_rfl) (by kernel_rfl) (fun _ _ _ h => h) (Or.inl ⟨by kernel_rfl, fun w hS => by obtain ⟨sc0, sc1⟩ := hS; go_simp⟩) hHeld ?_
          simp only [Act.put, List.getElem_toArray, List.getElem_cons_zero, List.getElem_cons_succ, List.setIfInBounds_toArray, List.set_cons_zero, List.set_cons_succ]
          refine Ru.wpAnyU_take (i := 8) (v := .nilIface) rfl (by kernel_rfl) (by kernel_rfl) (by kernel_rfl) (by kernel_rfl) (by kernel_rfl) (by kernel_rfl) (fun _ _ _ h => h) (Or.inl ⟨by kernel_rfl, fun w hS => by obtain ⟨sc0, sc1⟩ := hS; go_simp⟩) hHeld ?_
          simp only [Act.put, List.getElem_toArray, List.getElem_cons_zero, List.getElem_cons_succ, List.setIfInBounds_toArray, List.set_cons_zero, List.set_cons_succ]
          refine Ru.wpAnyU_ready (rs := [10]) (by kernel_rfl) (by simp) ?_
          refine Ru.AllReadyU.cons rfl (by kernel_rfl) (fun K hK => ?_) Ru.AllReadyU.nil
          refine Ru.stepC isS (by kernel_rfl) _ _ (by rfl) (v_1.heap.size) _ (svals Y 6 6 zA) (by rfl) (by rfl) n_5 (svals_len _ _ _ _) (svals_len _ _ _ _) (one_svals _ _ _ _) ?_
          have nE := CRow.row n_5 (svals Y 6 6 zA)
          have xE := CRow.rowOther (hS _ D_5).1 (g := v_1.heap.size) (by omega) (svals Y 6 6 zA).toArray
          have yE := (hS _ D_5).2.rowOther (g := v_1.heap.size) (by omega) (svals Y 6 6 zA).toArray
          have bE := St.below_row D_5 (g := v_1.heap.size) (by omega) (svals Y 6 6 zA).toArray
          refine hK.out _ _ ⟨xE, yE⟩ (fun hHeld => ?_)
          clear hK K
          try simp only [Act.put, List.getElem_toArray, List.getElem_cons_zero, List.getElem_cons_succ, List.setIfInBounds_toArray, List.set_cons_zero, List.set_cons_succ]
          refine Ru.wpAnyU_take (i := 11) (v := .bool q) rfl (by kernel_rfl) (by kernel_rfl) (by kernel_rfl) (by kernel_rfl) (by kernel_rfl) (by kernel_rfl) (fun _ _ _ h => h) (Or.inl ⟨by kernel_rfl, fun w hS => by obtain ⟨sc0, sc1⟩ := hS; go_simp⟩) hHeld ?_
          simp only [Act.put, List.getElem_toArray, List.getElem_cons_zero, List.getElem_cons_succ, List.setIfInBounds_toArray, List.set_cons_zero, List.set_cons_succ]
          refine Ru.wpAnyU_take (i := 12) (v := .nilIface) rfl (by kernel_rfl) (by kernel_rfl) (by kernel_rfl) (by kernel_rfl) (by kernel_rfl) (by kernel_rfl) (fun _ _ _ h => h) (Or.inl ⟨by kernel_rfl, fun w hS => by obtain ⟨sc0, sc1⟩ := hS; go_simp⟩) hHeld ?_
          simp only [Act.put, List.getElem_toArray, List.getElem_cons_zero, List.getElem_cons_succ, List.setIfInBounds_toArray, List.set_cons_zero, List.set_cons_succ]
          refine Ru.wpAnyU_done (by kernel_rfl) ?_
          go_wp2_with fail
          go_meet
          exact ⟨_, rfl, rfl, rfl, nE, bE⟩
        refine Ru.AllReadyU.cons rfl (by kernel_rfl) (fun K hK => ?_) Ru.AllReadyU.nil
        go_simp
        try rw [zeroS]
        have n_6 : CRow (w5.drew.alloc (.cells (svals (fun _ => 0) 0 0 (fun _ => 0)).toArray 29)) w5.heap.size 29 (svals (fun _ => 0) 0 0 (fun _ => 0)) := crow_new w5.drew 29 (svals (fun _ => 0) 0 0 (fun _ => 0))
        have a_6 := below_al (Below.refl _ w5.drew) (.cells (svals (fun _ => 0) 0 0 (fun _ => 0)).toArray 29)
        have g_6 := (Vc.below_drew' w5).size
        have e_6 : w5.drew.heap.size = w5.heap.size := rfl
        have D_6 := below_tr (Vc.below_drew' w5) a_6
        refine hK.out _ _ (hS _ D_6) (fun hHeld => ?_)
        clear hK K
        try simp only [Act.put, List.getElem_toArray, List.getElem_cons_zero, List.getElem_cons_succ, List.setIfInBounds_toArray, List.set_cons_zero, List.set_cons_succ]
        refine Ru.wpAnyU_ready (rs := [2]) (by kernel_rfl) (by simp) ?_
        refine Ru.AllReadyU.cons rfl (by kernel_rfl) (fun K hK => ?_) Ru.AllReadyU.nil
        go_simp
        refine (HF.out _ (below_tr KQ.out D_6)).mono ?_
        rintro e v_7 ⟨rfl, k_7⟩
        have D_7 := below_tr D_6 k_7
        have n_7 := CRow.keep n_6 k_7
        go_wp2_with fail
        refine hK.out _ _ (hS _ D_7) (fun hHeld => ?_)
        clear hK K
        try simp only [Act.put, List.getElem_toArray, List.getElem_cons_zero, List.getElem_cons_succ, List.setIfInBounds_toArray, List.set_cons_zero, List.set_cons_succ]
        refine Ru.wpAnyU_ready (rs := [4]) (by kernel_rfl) (by simp) ?_
        refine Ru.AllReadyU.cons rfl (by kernel_rfl) (fun K hK => ?_) Ru.AllReadyU.nil
        go_simp
        refine (HNx.out _).mono ?_
        rintro e v_8 ⟨rfl, k_8⟩
        have D_8 := below_tr D_7 k_8
        have n_8 := CRow.keep n_7 k_8
        go_wp2_with fail
        refine hK.out _ _ (hS _ D_8) (fun hHeld => ?_)
        clear hK K
        try simp only [Act.put, List.getElem_toArray, List.getElem_cons_zero, List.getElem_cons_succ, List.setIfInBounds_toArray, List.set_cons_zero, List.set_cons_succ]
        refine Ru.wpAnyU_take (i := 5) (v := .tuple #[.agg (svals Y 6 6 zA).toArray, .bool q, .nilIface]) rfl (by kernel_rfl) (by kernel_rfl) (by kernel_rfl) (by kernel_rfl) (by kernel_rfl) (by kernel_rfl) (fun _ _ _ h => h) (Or.inl ⟨by kernel_rfl, fun w hS => by obtain ⟨sc0, sc1⟩ := hS; go_simp⟩) hHeld ?_
        simp only [Act.put, List.getElem_toArray, List.getElem_cons_zero, List.getElem_cons_succ, List.setIfInBounds_toArray, List.set_cons_zero, List.set_cons_succ]
        refine Ru.wpAnyU_take (i := 6) (v := .agg (svals Y 6 6 zA).toArray) rfl (by kernel_rfl) (by kernel_rfl) (by kernel_rfl) (by kernel_rfl) (by kernel_rfl) (by kernel_rfl) (fun _ _ _ h => h) (Or.inl ⟨by kernel_rfl, fun w hS => by obtain ⟨sc0, sc1⟩ := hS; go_simp⟩) hHeld ?_
        simp only [Act.put, List.getElem_toArray, List.getElem_cons_zero, List.getElem_cons_succ, List.setIfInBounds_toArray, List.set_cons_zero, List.set_cons_succ]
        refine Ru.wpAnyU_take (i := 7) (v := .bool q) rfl (by kernel_rfl) (by kernel_rfl) (by kernel_rfl) (by kernel_rfl) (by kernel_rfl) (by kernel_rfl) (fun _ _ _ h => h) (Or.inl ⟨by kernel_rfl, fun w hS => by obtain ⟨sc0, sc1⟩ := hS; go_simp⟩) hHeld ?_
        simp only [Act.put, List.getElem_toArray, List.getElem_cons_zero, List.getElem_cons_succ, List.setIfInBounds_toArray, List.set_cons_zero, List.set_cons_succ]
        refine Ru.wpAnyU_take (i := 8) (v := .nilIface) rfl (by kernel_rfl) (by kernel_rfl) (by kernel_rfl) (by kernel_rfl) (by kernel_rfl) (by kernel_rfl) (fun _ _ _ h => h) (Or.inl ⟨by kernel_rfl, fun w hS => by obtain ⟨sc0, sc1⟩ := hS; go_simp⟩) hHeld ?_
        simp only [Act.put, List.getElem_toArray, List.getElem_cons_zero, List.getElem_cons_succ, List.setIfInBounds_toArray, List.set_cons_zero, List.set_cons_succ]
        refine Ru.wpAnyU_ready (rs := [10]) (by kernel_rfl) (by simp) ?_
        refine Ru.AllReadyU.cons rfl (by kernel_rfl) (fun K hK => ?_) Ru.AllReadyU.nil
        refine Ru.stepC isS (by kernel_rfl) _ _ (by rfl) (w5.heap.size) _ (svals Y 6 6 zA) (by rfl) (by rfl) n_8 (svals_len _ _ _ _) (svals_len _ _ _ _) (one_svals _ _ _ _) ?_
        have nE := CRow.row n_8 (svals Y 6 6 zA)
        have xE := CRow.rowOther (hS _ D_8).1 (g := w5.heap.size) (by omega) (svals Y 6 6 zA).toArray
        have yE := (hS _ D_8).2.rowOther (g := w5.heap.size) (by omega) (svals Y 6 6 zA).toArray
        have bE := St.below_row D_8 (g := w5.heap.size) (by omega) (svals Y 6 6 zA).toArray
        refine hK.out _ _ ⟨xE, yE⟩ (fun hHeld => ?_)
        clear hK K
        try simp only [Act.put, List.getElem_toArray, List.getElem_cons_zero, List.getElem_cons_succ, List.setIfInBounds_toArray, List.set_cons_zero, List.set_cons_succ]
        refine Ru.wpAnyU_take (i := 11) (v := .bool q) rfl (by kernel_rfl) (by kernel_rfl) (by kernel_rfl) (by kernel_rfl) (by kernel_rfl) (by kernel_rfl) (fun _ _ _ h => h) (Or.inl ⟨by kernel_rfl, fun w hS => by obtain ⟨sc0, sc1⟩ := hS; go_simp⟩) hHeld ?_
        simp only [Act.put, List.getElem_toArray, List.getElem_cons_zero, List.getElem_cons_succ, List.setIfInBounds_toArray, List.set_cons_zero, List.set_cons_succ]
        refine Ru.wpAnyU_take (i := 12) (v := .nilIface) rfl (by kernel_rfl) (by kernel_rfl) (by kernel_rfl) (by kernel_rfl) (by kernel_rfl) (by kernel_rfl) (fun _ _ _ h => h) (Or.inl ⟨by kernel_rfl, fun w hS => by obtain ⟨sc0, sc1⟩ := hS; go_simp⟩) hHeld ?_
        simp only [Act.put, List.getElem_toArray, List.getElem_cons_zero, List.getElem_cons_succ, List.setIfInBounds_toArray, List.set_cons_zero, List.set_cons_succ]
        refine Ru.wpAnyU_done (by kernel_rfl) ?_
        go_wp2_with fail
        go_meet
        exact ⟨_, rfl, rfl, rfl, nE, bE⟩
      rename World => w7
      obtain ⟨ga, rfl, rfl, rfl, ta, k7⟩ := hcut
      have s7 := CRow.keep s5 k7
      have n7 := n5.keep k7
      have K7 := below_tr K5 k7
      clear s5 z5 n5 K5 k7 HNa
      go_upto_region 22 with fail
      go_cut [22, 23, 24] (fun p o f wx => ∃ g : Nat, p = .pointer (some ⟨g, 0, none⟩) ∧ o = .bool r ∧ f = .nilIface ∧ CRow wx g 29 (svals Y 6 6 zB) ∧ Below w7.heap.size w7 wx)
      case first =>
        have hS : ∀ W, Below w7.heap.size w7 W → (SRow W wq2.heap.size X 6 6 zP ∧ MRow W gn 6 6 zk) := fun W k => ⟨CRow.keep s7 k, n7.keep k⟩
        have KQ := hide K7
        have HNx := hide HNb.out
        have lx := CRow.lt s7
        have ly := n7.lt
        clear s7 n7 K7 ta
        refine Ru.wp_region_U [] (fun w' => SRow w' wq2.heap.size X 6 6 zP ∧ MRow w' gn 6 6 zk) (by kernel_rfl) (hS _ (Vc.below_drew' _)) (fun hHeld => ?_)
        refine Ru.wpAnyU_take (i := 0) (v := .agg (svals X 6 6 zP).toArray) rfl (by kernel_rfl) (by kernel_rfl) (by kernel_rfl) (by kernel_rfl) (by kernel_rfl) (by kernel_rfl) (fun _ _ _ h => h) (Ru.yieldsC isS (by kernel_rfl) _ (by rfl) wq2.heap.size _ (by rfl) (fun w h => h.1) (svals_len _ _ _ _)) hHeld ?_
        simp only [Act.put, List.getElem_toArray, List.getElem_cons_zero, List.getElem_cons_succ, List.setIfInBounds_toArray, List.set_cons_zero, List.set_cons_succ]
        refine Ru.wpAnyU_take (i := 1) (v := .slice a1 6 c1p) rfl (by kernel_rfl) (by kernel_rfl) (by kernel_rfl) (by kernel_rfl) (by kernel_rfl) (by kernel_rfl) (fun _ _ _ h => h) (Or.inl ⟨by kernel_rfl, fun w hS => by obtain ⟨sc0, sc1⟩ := hS; go_simp⟩) hHeld ?_
        simp only [Act.put, List.getElem_toArray, List.getElem_cons_zero, List.getElem_cons_succ, List.setIfInBounds_toArray, List.set_cons_zero, List.set_cons_succ]
        refine Ru.wpAnyU_take (i := 3) (v := .agg (mvals 6 6 zk).toArray) rfl (by kernel_rfl) (by kernel_rfl) (by kernel_rfl) (by kernel_rfl) (by kernel_rfl) (by kernel_rfl) (fun _ _ _ h => h) (Ru.yieldsM (by kernel_rfl) _ (by rfl) gn 6 6 zk (by rfl) (fun w h => h.2)) hHeld ?_
        simp only [Act.put, List.getElem_toArray, List.getElem_cons_zero, List.getElem_cons_succ, List.setIfInBounds_toArray, List.set_cons_zero, List.set_cons_succ]
        refine Ru.wpAnyU_ready (rs := [2, 9]) (by kernel_rfl) (by simp) ?_
        refine Ru.AllReadyU.cons rfl (by kernel_rfl) (fun K hK => ?_) ?_
        · go_simp
          refine (HF.out _ (below_tr KQ.out (Vc.below_drew' w7))).mono ?_
          rintro e v_1 ⟨rfl, k_1⟩
          have D_1 := below_tr (Vc.below_drew' w7) k_1
          go_wp2_with fail
          refine hK.out _ _ (hS _ D_1) (fun hHeld => ?_)
          clear hK K
          try simp only [Act.put, List.getElem_toArray, List.getElem_cons_zero, List.getElem_cons_succ, List.setIfInBounds_toArray, List.set_cons_zero, List.set_cons_succ]
          refine Ru.wpAnyU_ready (rs := [4, 9]) (by kernel_rfl) (by simp) ?_
          refine Ru.AllReadyU.cons rfl (by kernel_rfl) (fun K hK => ?_) ?_
          · go_simp
            refine (HNx.out _).mono ?_
            rintro e v_2 ⟨rfl, k_2⟩
            have D_2 := below_tr D_1 k_2
            go_wp2_with fail
            refine hK.out _ _ (hS _ D_2) (fun hHeld => ?_)
            clear hK K
            try simp only [Act.put, List.getElem_toArray, List.getElem_cons_zero, List.getElem_cons_succ, List.setIfInBounds_toArray, List.set_cons_zero, List.set_cons_succ]
            refine Ru.wpAnyU_take (i := 5) (v := .tuple #[.agg (svals Y 6 6 zB).toArray, .bool r, .nilIface]) rfl (by kernel_rfl) (by kernel_rfl) (by kernel_rfl) (by kernel_rfl) (by kernel_rfl) (by kernel_rfl) (fun _ _ _ h => h) (Or.inl ⟨by kernel_rfl, fun w hS => by obtain ⟨sc0, sc1⟩ := hS; go_simp⟩) hHeld ?_
            simp only [Act.put, List.getElem_toArray, List.getElem_cons_zero, List.getElem_cons_succ, List.setIfInBounds_toArray, List.set_cons_zero, List.set_cons_succ]
            refine Ru.wpAnyU_take (i := 6) (v := .agg (svals Y 6 6 zB).toArray) rfl (by kernel_rfl) (by kernel_rfl) (by kernel_rfl) (by kernel_rfl) (by kernel_rfl) (by kernel_rfl) (fun _ _ _ h => h) (Or.inl ⟨by kernel_rfl, fun w hS => by obtain ⟨sc0, sc1⟩ := hS; go_simp⟩) hHeld ?_
            simp only [Act.put, List.getElem_toArray, List.getElem_cons_zero, List.getElem_cons_succ, List.setIfInBounds_toArray, List.set_cons_zero, List.set_cons_succ]
            refine Ru.wpAnyU_take (i := 7) (v := .bool r) rfl (by kernel_rfl) (by kernel_rfl) (by kernel_rfl) (by kernel_rfl) (by kernel_rfl) (by kernel_rfl) (fun _ _ _ h => h) (Or.inl ⟨by kernel_rfl, fun w hS => by obtain ⟨sc0, sc1⟩ := hS; go_simp⟩) hHeld ?_
            simp only [Act.put, List.getElem_toArray, List.getElem_cons_zero, List.getElem_cons_succ, List.setIfInBounds_toArray, List.set_cons_zero, List.set_cons_succ]
            refine Ru.wpAnyU_take (i := 8) (v := .nilIface) rfl (by kernel_rfl) (by kernel_rfl) (by kernel_rfl) (by kernel_rfl) (by kernel_rfl) (by kernel_rfl) (fun _ _ _ h => h) (Or.inl ⟨by kernel_rfl, fun w hS => by obtain ⟨sc0, sc1⟩ := hS; go_simp⟩) hHeld ?_
            simp only [Act.put, List.getElem_toArray, List.getElem_cons_zero, List.getElem_cons_succ, List.setIfInBounds_toArray, List.set_cons_zero, List.set_cons_succ]
            refine Ru.wpAnyU_ready (rs := [9]) (by kernel_rfl) (by simp) ?_
            refine Ru.AllReadyU.cons rfl (by kernel_rfl) (fun K hK => ?_) Ru.AllReadyU.nil
            go_simp
            try rw [zeroS]
            have n_3 : CRow (v_2.alloc (.cells (svals (fun _ => 0) 0 0 (fun _ => 0)).toArray 29)) v_2.heap.size 29 (svals (fun _ => 0) 0 0 (fun _ => 0)) := crow_new v_2 29 (svals (fun _ => 0) 0 0 (fun _ => 0))
            have a_3 := below_al (Below.refl _ v_2) (.cells (svals (fun _ => 0) 0 0 (fun _ => 0)).toArray 29)
            have g_3 := D_2.size
            have D_3 := below_tr D_2 a_3
            refine hK.out _ _ (hS _ D_3) (fun hHeld => ?_)
            clear hK K
            try simp only [Act.put, List.getElem_toArray, List.getElem_cons_zero, List.getElem_cons_succ, List.setIfInBounds_toArray, List.set_cons_zero, List.set_cons_succ]
            refine Ru.wpAnyU_ready (rs := [10]) (by kernel_rfl) (by simp) ?_
            refine Ru.AllReadyU.cons rfl (by kernel_rfl) (fun K hK => ?_) Ru.AllReadyU.nil
            refine Ru.stepC isS (by kernel_rfl) _ _ (by rfl) (v_2.heap.size) _ (svals Y 6 6 zB) (by rfl) (by rfl) n_3 (svals_len _ _ _ _) (svals_len _ _ _ _) (one_svals _ _ _ _) ?_
            have nE := CRow.row n_3 (svals Y 6 6 zB)
            have xE := CRow.rowOther (hS _ D_3).1 (g := v_2.heap.size) (by omega) (svals Y 6 6 zB).toArray
            have yE := (hS _ D_3).2.rowOther (g := v_2.heap.size) (by omega) (svals Y 6 6 zB).toArray
            have bE := St.below_row D_3 (g := v_2.heap.size) (by omega) (svals Y 6 6 zB).toArray
            refine hK.out _ _ ⟨xE, yE⟩ (fun hHeld => ?_)
            clear hK K
            try simp only [Act.put, List.getElem_toArray, List.getElem_cons_zero, List.getElem_cons_succ, List.setIfInBounds_toArray, List.set_cons_zero, List.set_cons_succ]
            refine Ru.wpAnyU_take (i := 11) (v := .bool r) rfl (by kernel_rfl) (by kernel_rfl) (by kernel_rfl) (by kernel_rfl) (by kernel_rfl) (by kernel_rfl) (fun _ _ _ h => h) (Or.inl ⟨by kernel_rfl, fun w hS => by obtain ⟨sc0, sc1⟩ := hS; go_simp⟩) hHeld ?_
            simp only [Act.put, List.getElem_toArray, List.getElem_cons_zero, List.getElem_cons_succ, List.setIfInBounds_toArray, List.set_cons_zero, List.set_cons_succ]
            refine Ru.wpAnyU_take (i := 12) (v := .nilIface) rfl (by kernel_rfl) (by kernel_rfl) (by kernel_rfl) (by kernel_rfl) (by kernel_rfl) (by kernel_rfl) (fun _ _ _ h => h) (Or.inl ⟨by kernel_rfl, fun w hS => by obtain ⟨sc0, sc1⟩ := hS; go_simp⟩) hHeld ?_
            simp only [Act.put, List.getElem_toArray, List.getElem_cons_zero, List.getElem_cons_succ, List.setIfInBounds_toArray, List.set_cons_zero, List.set_cons_succ]
            refine Ru.wpAnyU_done (by kernel_rfl) ?_
            go_wp2_with fail
            go_meet
            exact ⟨_, rfl, rfl, rfl, nE, bE⟩
          refine Ru.AllReadyU.cons rfl (by kernel_rfl) (fun K hK => ?_) Ru.AllReadyU.nil
          go_simp
          try rw [zeroS]
          have n_4 : CRow (v_1.alloc (.cells (svals (fun _ => 0) 0 0 (fun _ => 0)).toArray 29)) v_1.heap.size 29 (svals (fun _ => 0) 0 0 (fun _ => 0)) := crow_new v_1 29 (svals (fun _ => 0) 0 0 (fun _ => 0))
          have a_4 := below_al (Below.refl _ v_1) (.cells (svals (fun _ => 0) 0 0 (fun _ => 0)).toArray 29)
          have g_4 := D_1.size
          have D_4 := below_tr D_1 a_4
          refine hK.out _ _ (hS _ D_4) (fun hHeld => ?_)
          clear hK K
          try simp only [Act.put, List.getElem_toArray, List.getElem_cons_zero, List.getElem_cons_succ, List.setIfInBounds_toArray, List.set_cons_zero, List.set_cons_succ]
          refine Ru.wpAnyU_ready (rs := [4]) (by kernel_rfl) (by simp) ?_
          refine Ru.AllReadyU.cons rfl (by kernel_rfl) (fun K hK => ?_) Ru.AllReadyU.nil
          go_simp
          refine (HNx.out _).mono ?_
          rintro e v_5 ⟨rfl, k_5⟩
          have D_5 := below_tr D_4 k_5
          have n_5 := CRow.keep n_4 k_5
          go_wp2_with fail
          refine hK.out _ _ (hS _ D_5) (fun hHeld => ?_)
          clear hK K
          try simp only [Act.put, List.getElem_toArray, List.getElem_cons_zero, List.getElem_cons_succ, List.setIfInBounds_toArray, List.set_cons_zero, List.set_cons_succ]
          refine Ru.wpAnyU_take (i := 5) (v := .tuple #[.agg (svals Y 6 6 zB).toArray, .bool r, .nilIface]) rfl (by kernel_rfl) (by kernel_rfl) (by kernel_rfl) (by kernel_rfl) (by kernel_rfl) (by kernel_rfl) (fun _ _ _ h => h) (Or.inl ⟨by kernel_rfl, fun w hS => by obtain ⟨sc0, sc1⟩ := hS; go_simp⟩) hHeld ?_
          simp only [Act.put, List.getElem_toArray, List.getElem_cons_zero, List.getElem_cons_succ, List.setIfInBounds_toArray, List.set_cons_zero, List.set_cons_succ]
          refine Ru.wpAnyU_take (i := 6) (v := .agg (svals Y 6 6 zB).toArray) rfl (by kernel_rfl) (by kernel_rfl) (by kernel_rfl) (by kernel_rfl) (by kernel_rfl) (by kernel_rfl) (fun _ _ _ h => h) (Or.inl ⟨by kernel_rfl, fun w hS => by obtain ⟨sc0, sc1⟩ := hS; go_simp⟩) hHeld ?_
          simp only [Act.put, List.getElem_toArray, List.getElem_cons_zero, List.getElem_cons_succ, List.setIfInBounds_toArray, List.set_cons_zero, List.set_cons_succ]
          refine Ru.wpAnyU_take (i := 7) (v := .bool r) rfl (by kernel_rfl) (by kernel_rfl) (by kernel_rfl) (by kernel_rfl) (by kernel_rfl) (by kernel_rfl) (fun _ _ _ h => h) (Or.inl ⟨by kernel_rfl, fun w hS => by obtain ⟨sc0, sc1⟩ := hS; go_simp⟩) hHeld ?_
          simp only [Act.put, List.getElem_toArray, List.getElem_cons_zero, List.getElem_cons_succ, List.setIfInBounds_toArray, List.set_cons_zero, List.set_cons_succ]
          refine Ru.wpAnyU_take (i := 8) (v := .nilIface) rfl (by kernel_rfl) (by kernel_rfl) (by kernel_rfl) (by kernel_rfl) (by kernel_rfl) (by kernel_rfl) (fun _ _ _ h => h) (Or.inl ⟨by kernel_rfl, fun w hS => by obtain ⟨sc0, sc1⟩ := hS; go_simp⟩) hHeld ?_
          simp only [Act.put, List.getElem_toArray, List.getElem_cons_zero, List.getElem_cons_succ, List.setIfInBounds_toArray, List.set_cons_zero, List.set_cons_succ]
          refine Ru.wpAnyU_ready (rs := [10]) (by kernel_rfl) (by simp) ?_
          refine Ru.AllReadyU.cons rfl (by kernel_rfl) (fun K hK => ?_) Ru.AllReadyU.nil
          refine Ru.stepC isS (by kernel_rfl) _ _ (by rfl) (v_1.heap.size) _ (svals Y 6 6 zB) (by rfl) (by rfl) n_5 (svals_len _ _ _ _) (svals_len _ _ _ _) (one_svals _ _ _ _) ?_
          have nE := CRow.row n_5 (svals Y 6 6 zB)
          have xE := CRow.rowOther (hS _ D_5).1 (g := v_1.heap.size) (by omega) (svals Y 6 6 zB).toArray
          have yE := (hS _ D_5).2.rowOther (g := v_1.heap.size) (by omega) (svals Y 6 6 zB).toArray
          have bE := St.below_row D_5 (g := v_1.heap.size) (by omega) (svals Y 6 6 zB).toArray
          refine hK.out _ _ ⟨xE, yE⟩ (fun hHeld => ?_)
          clear hK K
          try simp only [Act.put, List.getElem_toArray, List.getElem_cons_zero, List.getElem_cons_succ, List.setIfInBounds_toArray, List.set_cons_zero, List.set_cons_succ]
          refine Ru.wpAnyU_take (i := 11) (v := .bool r) rfl (by kernel_rfl) (by kernel_rfl) (by kernel_rfl) (by kernel_rfl) (by kernel_rfl) (by kernel_rfl) (fun _ _ _ h => h) (Or.inl ⟨by kernel_rfl, fun w hS => by obtain ⟨sc0, sc1⟩ := hS; go_simp⟩) hHeld ?_
          simp only [Act.put, List.getElem_toArray, List.getElem_cons_zero, List.getElem_cons_succ, List.setIfInBounds_toArray, List.set_cons_zero, List.set_cons_succ]
          refine Ru.wpAnyU_take (i := 12) (v := .nilIface) rfl (by kernel_rfl) (by kernel_rfl) (by kernel_rfl) (by kernel_rfl) (by kernel_rfl) (by kernel_rfl) (fun _ _ _ h => h) (Or.inl ⟨by kernel_rfl, fun w hS => by obtain ⟨sc0, sc1⟩ := hS; go_simp⟩) hHeld ?_
          simp only [Act.put, List.getElem_toArray, List.getElem_cons_zero, List.getElem_cons_succ, List.setIfInBounds_toArray, List.set_cons_zero, List.set_cons_succ]
          refine Ru.wpAnyU_done (by kernel_rfl) ?_
          go_wp2_with fail
          go_meet
          exact ⟨_, rfl, rfl, rfl, nE, bE⟩
        refine Ru.AllReadyU.cons rfl (by kernel_rfl) (fun K hK => ?_) Ru.AllReadyU.nil
        go_simp
        try rw [zeroS]
        have n_6 : CRow (w7.drew.alloc (.cells (svals (fun _ => 0) 0 0 (fun _ => 0)).toArray 29)) w7.heap.size 29 (svals (fun _ => 0) 0 0 (fun _ => 0)) := crow_new w7.drew 29 (svals (fun _ => 0) 0 0 (fun _ => 0))
        have a_6 := below_al (Below.refl _ w7.drew) (.cells (svals (fun _ => 0) 0 0 (fun _ => 0)).toArray 29)
        have g_6 := (Vc.below_drew' w7).size
        have e_6 : w7.drew.heap.size = w7.heap.size := rfl
        have D_6 := below_tr (Vc.below_drew' w7) a_6
        refine hK.out _ _ (hS _ D_6) (fun hHeld => ?_)
        clear hK K
        try simp only [Act.put, List.getElem_toArray, List.getElem_cons_zero, List.getElem_cons_succ, List.setIfInBounds_toArray, List.set_cons_zero, List.set_cons_succ]
        refine Ru.wpAnyU_ready (rs := [2]) (by kernel_rfl) (by simp) ?_
        refine Ru.AllReadyU.cons rfl (by kernel_rfl) (fun K hK => ?_) Ru.AllReadyU.nil
        go_simp
        refine (HF.out _ (below_tr KQ.out D_6)).mono ?_
        rintro e v_7 ⟨rfl, k_7⟩
        have D_7 := below_tr D_6 k_7
        have n_7 := CRow.keep n_6 k_7
        go_wp2_with fail
        refine hK.out _ _ (hS _ D_7) (fun hHeld => ?_)
        clear hK K
        try simp only [Act.put, List.getElem_toArray, List.getElem_cons_zero, List.getElem_cons_succ, List.setIfInBounds_toArray, List.set_cons_zero, List.set_cons_succ]
        refine Ru.wpAnyU_ready (rs := [4]) (by kernel_rfl) (by simp) ?_
        refine Ru.AllReadyU.cons rfl (by kernel_rfl) (fun K hK => ?_) Ru.AllReadyU.nil
        go_simp
        refine (HNx.out _).mono ?_
        rintro e v_8 ⟨rfl, k_8⟩
        have D_8 := below_tr D_7 k_8
        have n_8 := CRow.keep n_7 k_8
        go_wp2_with fail
        refine hK.out _ _ (hS _ D_8) (fun hHeld => ?_)
        clear hK K
        try simp only [Act.put, List.getElem_toArray, List.getElem_cons_zero, List.getElem_cons_succ, List.setIfInBounds_toArray, List.set_cons_zero, List.set_cons_succ]
        refine Ru.wpAnyU_take (i := 5) (v := .tuple #[.agg (svals Y 6 6 zB).toArray, .bool r, .nilIface]) rfl (by kernel_rfl) (by kernel_rfl) (by kernel_rfl) (by kernel_rfl) (by kernel_rfl) (by kernel_rfl) (fun _ _ _ h => h) (Or.inl ⟨by kernel_rfl, fun w hS => by obtain ⟨sc0, sc1⟩ := hS; go_simp⟩) hHeld ?_
        simp only [Act.put, List.getElem_toArray, List.getElem_cons_zero, List.getElem_cons_succ, List.setIfInBounds_toArray, List.set_cons_zero, List.set_cons_succ]
        refine Ru.wpAnyU_take (i := 6) (v := .agg (svals Y 6 6 zB).toArray) rfl (by kernel_rfl) (by kernel_rfl) (by kernel_rfl) (by kernel_rfl) (by kernel_rfl) (by kernel_rfl) (fun _ _ _ h => h) (Or.inl ⟨by kernel_rfl, fun w hS => by obtain ⟨sc0, sc1⟩ := hS; go_simp⟩) hHeld ?_
        simp only [Act.put, List.getElem_toArray, List.getElem_cons_zero, List.getElem_cons_succ, List.setIfInBounds_toArray, List.set_cons_zero, List.set_cons_succ]
        refine Ru.wpAnyU_take (i := 7) (v := .bool r) rfl (by kernel_rfl) (by kernel_rfl) (by kernel_rfl) (by kernel_rfl) (by kernel_rfl) (by kernel_rfl) (fun _ _ _ h => h) (Or.inl ⟨by kernel_rfl, fun w hS => by obtain ⟨sc0, sc1⟩ := hS; go_simp⟩) hHeld ?_
        simp only [Act.put, List.getElem_toArray, List.getElem_cons_zero, List.getElem_cons_succ, List.setIfInBounds_toArray, List.set_cons_zero, List.set_cons_succ]
        refine Ru.wpAnyU_take (i := 8) (v := .nilIface) rfl (by kernel_rfl) (by kernel_rfl) (by kernel_rfl) (by kernel_rfl) (by kernel_rfl) (by kernel_rfl) (fun _ _ _ h => h) (Or.inl ⟨by kernel_rfl, fun w hS => by obtain ⟨sc0, sc1⟩ := hS; go_simp⟩) hHeld ?_
        simp only [Act.put, List.getElem_toArray, List.getElem_cons_zero, List.getElem_cons_succ, List.setIfInBounds_toArray, List.set_cons_zero, List.set_cons_succ]
        refine Ru.wpAnyU_ready (rs := [10]) (by kernel_rfl) (by simp) ?_
        refine Ru.AllReadyU.cons rfl (by kernel_rfl) (fun K hK => ?_) Ru.AllReadyU.nil
        refine Ru.stepC isS (by kernel_rfl) _ _ (by rfl) (w7.heap.size) _ (svals Y 6 6 zB) (by rfl) (by rfl) n_8 (svals_len _ _ _ _) (svals_len _ _ _ _) (one_svals _ _ _ _) ?_
        have nE := CRow.row n_8 (svals Y 6 6 zB)
        have xE := CRow.rowOther (hS _ D_8).1 (g := w7.heap.size) (by omega) (svals Y 6 6 zB).toArray
        have yE := (hS _ D_8).2.rowOther (g := w7.heap.size) (by omega) (svals Y 6 6 zB).toArray
        have bE := St.below_row D_8 (g := w7.heap.size) (by omega) (svals Y 6 6 zB).toArray
        refine hK.out _ _ ⟨xE, yE⟩ (fun hHeld => ?_)
        clear hK K
        try simp only [Act.put, List.getElem_toArray, List.getElem_cons_zero, List.getElem_cons_succ, List.setIfInBounds_toArray, List.set_cons_zero, List.set_cons_succ]
        refine Ru.wpAnyU_take (i := 11) (v := .bool r) rfl (by kernel_rfl) (by kernel_rfl) (by kernel_rfl) (by kernel_rfl) (by kernel_rfl) (by kernel_rfl) (fun _ _ _ h => h) (Or.inl ⟨by kernel_rfl, fun w hS => by obtain ⟨sc0, sc1⟩ := hS; go_simp⟩) hHeld ?_
        simp only [Act.put, List.getElem_toArray, List.getElem_cons_zero, List.getElem_cons_succ, List.setIfInBounds_toArray, List.set_cons_zero, List.set_cons_succ]
        refine Ru.wpAnyU_take (i := 12) (v := .nilIface) rfl (by kernel_rfl) (by kernel_rfl) (by kernel_rfl) (by kernel_rfl) (by kernel_rfl) (by kernel_rfl) (fun _ _ _ h => h) (Or.inl ⟨by kernel_rfl, fun w hS => by obtain ⟨sc0, sc1⟩ := hS; go_simp⟩) hHeld ?_
        simp only [Act.put, List.getElem_toArray, List.getElem_cons_zero, List.getElem_cons_succ, List.setIfInBounds_toArray, List.set_cons_zero, List.set_cons_succ]
        refine Ru.wpAnyU_done (by kernel_rfl) ?_
        go_wp2_with fail
        go_meet
        exact ⟨_, rfl, rfl, rfl, nE, bE⟩
      rename World => w8
      obtain ⟨gb, rfl, rfl, rfl, tb, k8⟩ := hcut
      have t8 := CRow.keep ta k8
      have K8 := below_tr K7 k8
      clear s7 n7 ta K7 k8 HNb HF
      go_wp2_with (first
        | ((with_reducible show wpList _ _ _ _ _ _); refine St.wpList_load isS (by rfl) _ (by rfl) _ _ (by rfl) (by with_reducible exact t8) (svals_len _ _ _ _) ?_)
        | fail)
      refine (HCa.out _).mono ?_
      rintro e w9 ⟨rfl, k9⟩
      have ta9 := CRow.keep t8 k9
      have tb9 := CRow.keep tb k9
      have K9 := below_tr K8 k9
      clear t8 tb K8 k9
      go_wp2_with (first
        | ((with_reducible show wpList _ _ _ _ _ _); refine St.wpList_load isS (by rfl) _ (by rfl) _ _ (by rfl) (by with_reducible exact tb9) (svals_len _ _ _ _) ?_)
        | fail)
      refine (HCb.out _).mono ?_
      rintro e w10 ⟨rfl, k10⟩
      have ta0 := CRow.keep ta9 k10
      have tb0 := CRow.keep tb9 k10
      have K0 := below_tr K9 k10
      have eY : Hid ((!eqz 6 Y Y) = false) := by show _ = _; rw [eqz_same]; rfl
      clear ta9 tb9 K9 k10
      go_wp2_with (first
        | ((with_reducible show wpList _ _ _ _ _ _); refine St.wpList_part is6 (by rfl) _ (by rfl) _ _ _ (by rfl) (by with_reducible exact SRow.rx ta0) (vals_len _ _) ?_)
        | ((with_reducible show wpList _ _ _ _ _ _); refine St.wpList_part is6 (by rfl) _ (by rfl) _ _ _ (by rfl) (by with_reducible exact SRow.rx tb0) (vals_len _ _) ?_)
        | ((with_reducible show wpList _ _ _ _ _ _); refine Pd.neq6 _ _ _ (by with_reducible rfl) _ _ false (by rfl) (by rfl) eY.out (by kernel_rfl) ?_)
        | fail)
      go_loopw [25] (fun i wl => ∃ (k t : Nat), k ≤ 6 ∧ i = .int .i64 (k : Int) ∧ wl = w10.drewN t) (fun i _ => 6 - (intOf i).toNat)
      case atStart => exact ⟨0, 0, by omega, rfl, rfl⟩
      case round =>
        rename World => wl
        obtain ⟨k, t, hk, rfl, rfl⟩ := hrel
        by_cases h : k < 6
        · cases q with
          | true =>
            go_wp2_with fail
            refine (psure_any _).mono ?_
            rintro e w6 ⟨rfl, k6⟩
            go_wp2
            go_ret
            exact ⟨rfl, below_tr (below_drewN K0 _) k6⟩
          | false =>
            cases r with
            | true =>
              go_wp2_with fail
              refine (psure_any _).mono ?_
              rintro e w6 ⟨rfl, k6⟩
              go_wp2
              go_ret
              exact ⟨rfl, below_tr (below_drewN K0 _) k6⟩
            | false =>
              rcases (by omega : k = 0 ∨ k = 1 ∨ k = 2 ∨ k = 3 ∨ k = 4 ∨ k = 5) with rfl | rfl | rfl | rfl | rfl | rfl
              · have ca : w10.cell? ⟨ga, 8, none⟩ = some (.int .i64 (zA 0)) := SRow.z ta0 (k := 0) (by omega) rfl
                have cb : w10.cell? ⟨gb, 8, none⟩ = some (.int .i64 (zB 0)) := SRow.z tb0 (k := 0) (by omega) rfl
                have ge := HGe.out 0 (by omega)
                have dl : decide (zB 0 < zA 0) = false := decide_eq_false (by have e : zA 0 ≤ zB 0 := ge; omega)
                clear ge
                go_wp2
                go_quiet (fail)
                go_wp2
                go_roundw
                case rel => exact ⟨1, _, by omega, rfl, rfl⟩
                case measure => simp [intOf]
              · have ca : w10.cell? ⟨ga, 15, none⟩ = some (.int .i64 (zA 7)) := SRow.z ta0 (k := 7) (by omega) rfl
                have cb : w10.cell? ⟨gb, 15, none⟩ = some (.int .i64 (zB 7)) := SRow.z tb0 (k := 7) (by omega) rfl
                have ge := HGe.out 1 (by omega)
                have dl : decide (zB 7 < zA 7) = false := decide_eq_false (by have e : zA 7 ≤ zB 7 := ge; omega)
                clear ge
                go_wp2
                go_quiet (fail)
                go_wp2
                go_roundw
                case rel => exact ⟨2, _, by omega, rfl, rfl⟩
                case measure => simp [intOf]
              · have ca : w10.cell? ⟨ga, 22, none⟩ = some (.int .i64 (zA 14)) := SRow.z ta0 (k := 14) (by omega) rfl
                have cb : w10.cell? ⟨gb, 22, none⟩ = some (.int .i64 (zB 14)) := SRow.z tb0 (k := 14) (by omega) rfl
                have ge := HGe.out 2 (by omega)
                have dl : decide (zB 14 < zA 14) = false := decide_eq_false (by have e : zA 14 ≤ zB 14 := ge; omega)
                clear ge
                go_wp2
                go_quiet (fail)
                go_wp2
                go_roundw
                case rel => exact ⟨3, _, by omega, rfl, rfl⟩
                case measure => simp [intOf]
              · have ca : w10.cell? ⟨ga, 29, none⟩ = some (.int .i64 (zA 21)) := SRow.z ta0 (k := 21) (by omega) rfl
                have cb : w10.cell? ⟨gb, 29, none⟩ = some (.int .i64 (zB 21)) := SRow.z tb0 (k := 21) (by omega) rfl
                have ge := HGe.out 3 (by omega)
                have dl : decide (zB 21 < zA 21) = false := decide_eq_false (by have e : zA 21 ≤ zB 21 := ge; omega)
                clear ge
                go_wp2
                go_quiet (fail)
                go_wp2
                go_roundw
                case rel => exact ⟨4, _, by omega, rfl, rfl⟩
                case measure => simp [intOf]
              · have ca : w10.cell? ⟨ga, 36, none⟩ = some (.int .i64 (zA 28)) := SRow.z ta0 (k := 28) (by omega) rfl
                have cb : w10.cell? ⟨gb, 36, none⟩ = some (.int .i64 (zB 28)) := SRow.z tb0 (k := 28) (by omega) rfl
                have ge := HGe.out 4 (by omega)
                have dl : decide (zB 28 < zA 28) = false := decide_eq_false (by have e : zA 28 ≤ zB 28 := ge; omega)
                clear ge
                go_wp2
                go_quiet (fail)
                go_wp2
                go_roundw
                case rel => exact ⟨5, _, by omega, rfl, rfl⟩
                case measure => simp [intOf]
              · have ca : w10.cell? ⟨ga, 43, none⟩ = some (.int .i64 (zA 35)) := SRow.z ta0 (k := 35) (by omega) rfl
                have cb : w10.cell? ⟨gb, 43, none⟩ = some (.int .i64 (zB 35)) := SRow.z tb0 (k := 35) (by omega) rfl
                have ge := HGe.out 5 (by omega)
                have dl : decide (zB 35 < zA 35) = false := decide_eq_false (by have e : zA 35 ≤ zB 35 := ge; omega)
                clear ge
                go_wp2
                go_quiet (fail)
                go_wp2
                go_roundw
                case rel => exact ⟨6, _, by omega, rfl, rfl⟩
                case measure => simp [intOf]
        · obtain rfl : k = 6 := by omega
          go_wp2_with fail
          refine (psure_any _).mono ?_
          rintro e w6 ⟨rfl, k6⟩
          go_wp2
          go_ret
          exact ⟨rfl, below_tr (below_drewN K0 _) k6⟩

theorem plaws_walk : FPredictLaws.Walk := by
  intro a0 len0 cap0 A0 L0 C0 Z0 a1 len1 cap1 A1 L1 C1 Z1 more w h0 h1 h2
  obtain ⟨s0, q0⟩ := isrows12 h0
  obtain ⟨s1, q1⟩ := isrows12 h1
  have b := Lie.wf64 h2
  rcases six_cases s1 q1 with ⟨F, rfl, g1, b1⟩ | ⟨r1, c1, z1, _, _, hs1⟩
  · exact pl_good a0 a1 len0 cap0 cap1 A0 L0 C0 _ more F w s0 (fun r hr => (q0 r hr).1) b (six_yes g1) g1 b1
  · exact pl_bad a0 a1 len0 cap0 len1 cap1 A0 L0 C0 _ more w s0 (fun r hr => (q0 r hr).1) b hs1

/-- The law PredictLaws, of any input. -/
theorem predictlaws_holds : Rows.PredictLawsSaid := FPredictLaws.row plaws_walk
end Go.Proofs.Ytbdcbobmfkdalaa
