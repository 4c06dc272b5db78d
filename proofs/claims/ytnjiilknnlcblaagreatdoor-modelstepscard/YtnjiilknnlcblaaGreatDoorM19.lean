/-
  How things move (model): a turn's numbers, rows of both axes.
-/
import Derived.Test.YtnjiilknnlcblaaGreatDoorM16
import Derived.Test.YtnjiilknnlcblaaGreatDoorM18
import Derived.Test.YtnjiilknnlcblaaGreatDoorM13
import Derived.Deep.RegionLaw
import Derived.ChangeKeysEq
set_option linter.unusedSimpArgs false
set_option linter.unusedVariables false
namespace Go.Proofs.YtnjiilknnlcblaaGreatDoor
open Go.RowKit Vc St Qn Dt Tg Ld Mt Mo
attribute [local go_sem ↓] Go.wp_at_zero Go.wp_at_succ

namespace Mo
/-- A turn's numbers, as cells. -/
def arcL (s c p q : Int) : List Value := [.int .i64 s, .int .i64 c, .int .i64 p, .int .i64 q]
theorem one_arc (s c p q : Int) : ∀ v ∈ arcL s c p q, v.oneCell' = true := by
  intro v hv
  simp only [arcL, List.mem_cons, List.not_mem_nil, or_false] at hv
  rcases hv with rfl | rfl | rfl | rfl <;> rfl
theorem zeroAc : (#[.int .i64 0, .int .i64 0, .int .i64 0, .int .i64 0] : Array Value) = (arcL 0 0 0 0).toArray := rfl
end Mo

set_option maxRecDepth 10000 in
set_option maxHeartbeats 1000000 in
theorem mirror_any (s c p q : Int) (w : World) (s0 : -9000000000000000000 ≤ s) (s1 : s ≤ 9000000000000000000) (q0 : -9000000000000000000 ≤ q) (q1 : q ≤ 9000000000000000000) :
    Calls Tryz.prog 41 #[.agg (arcL s c p q).toArray] w fun e w' => e = .returned (.agg (arcL (-s) c p (-q)).toArray) ∧ Below w.heap.size w w' := by
  have s0' := crow_new1 w (.cells #[.int .i64 s, .int .i64 c, .int .i64 p, .int .i64 q] 82) 82 (arcL (-s) c p (-q))
  have e1 : IntKind.i64.wrap (-s) = -s := by rw [IntKind.wrap_i64]; omega
  have e2 : IntKind.i64.wrap (-q) = -q := by rw [IntKind.wrap_i64]; omega
  show Calls Tryz.prog 41 #[.agg #[.int .i64 s, .int .i64 c, .int .i64 p, .int .i64 q]] w fun e w' => e = .returned (.agg (arcL (-s) c p (-q)).toArray) ∧ Below w.heap.size w w'
  go_enter Tryz.func41, Tryz.ntmps41
  go_wp2
  exact bodyPost_ret (v := .agg (arcL (-s) c p (-q)).toArray) (results_1 isAc Tryz.results41 _ _ (w.heap.size + 1) (arcL (-s) c p (-q)) rfl s0' rfl) rfl ⟨rfl, below_al (below_al (Below.refl _ _) _) _⟩

namespace Mo
theorem isB9 : Is 55 9 := ⟨by kernel_rfl, ⟨_, Tryz.underlying55, rfl⟩⟩
theorem isA3 : Is 53 3 := ⟨by kernel_rfl, ⟨_, Tryz.underlying53, rfl⟩⟩
/-- Three by three numbers, as cells. -/
def bl (b : Nat → Nat → Int) : List Value := vals 9 (fun t => b (t / 3) (t % 3))
theorem bl_len (b : Nat → Nat → Int) : (bl b).length = 9 := vals_len _ _
theorem run_row (b : Nat → Nat → Int) (w : World) : ∀ {k : Nat}, k < 3 → (Instr.index 55 (.agg (bl b).toArray) (.int .i64 (k : Int))).run Tryz.prog w = .ok (.agg (vals 3 (b k)).toArray) w
  | 0, _ => by kernel_rfl
  | 1, _ => by kernel_rfl
  | 2, _ => by kernel_rfl
  | n + 3, h => by omega
theorem zero3 : (#[.int .i64 0, .int .i64 0, .int .i64 0] : Array Value) = (vals 3 (fun _ => 0)).toArray := rfl
theorem splice_tw (b : Nat → Nat → Int) {f k : Nat} (hf : f < 2) (hk : k < 3) : splice (vals 6 (fun _ => 0)) (3 * f) (vals 3 (b k)) = vals 6 (tw b (3 * f + k)) := by
  have e1 : (3 * f + k) / 3 = f := by omega
  have e2 : (3 * f + k) % 3 = k := by omega
  rcases f with _ | _ | f
  · simp [splice, vals, List.range, List.range.loop, tw, Nat.div_eq_of_lt hk, Nat.mod_eq_of_lt hk]
  · simp [splice, vals, List.range, List.range.loop, tw, e1, e2]
  · omega
end Mo

set_option maxRecDepth 10000 in
set_option maxHeartbeats 2000000 in
theorem twice_any (b : Nat → Nat → Int) (w : World) :
    Calls Tryz.prog 21 #[.agg (bl b).toArray] w fun e w' => ∃ lo cm, e = .returned (.slice lo 6 cm) ∧ Grid w' lo 6 cm 6 (tw b) ∧ Below w.heap.size w w' := by
  obtain ⟨i0, hi, hz0, hz1, hz2⟩ := info_parts infoI64
  obtain ⟨i1, hj, hy0, hy1, hy2⟩ := info_parts infoSl
  have r0 := crow_new w 55 (bl b)
  have B0 := below_al (Below.refl _ w) (.cells (bl b).toArray 55)
  obtain ⟨W, hW⟩ : ∃ W, W = w.alloc (.cells (bl b).toArray 55) := ⟨_, rfl⟩
  rw [← hW] at r0 B0
  have HW := hide hW
  have HI := hide (fun (w : World) (k : Nat) (hk : k < 3) => run_row b w hk)
  have HL := hide (bl_len b)
  obtain ⟨L, hL⟩ : ∃ L, L = bl b := ⟨_, rfl⟩
  rw [← hL] at r0 HI HW HL
  rw [← hL]
  clear hW hL
  go_enter Tryz.func21, Tryz.ntmps21
  go_wp2_with (first
    | (rw [← HW.out]; at_make; refine wpList_make_own _ rfl _ _ 39 rfl W.heap.size 61 i1 (.slice none 0 0) 1 Tryz.underlying39 hj hy0 hy1 _ _ _ 6 rfl rfl rfl (by rw [hy2]; omega) (by unfold maxLen; omega) (Nat.le_refl _) ?_))
  intro w1 ho1 hg1
  have L1 : Lst W.heap.size W w1 (.slice (some ⟨W.heap.size, 0, none⟩) 0 6) 0 6 (tw b) := ⟨⟨fun _ => undef, ho1, fun j hj => by omega⟩, (Below.refl _ _).grown hg1 (Nat.le_refl _) (fun k h => by cases h), hg1.size⟩
  clear ho1 hg1
  go_wp2
  go_loopw [3, 9] (fun rows i wr => ∃ f : Nat, f ≤ 2 ∧ i = .int .i64 (f : Int) ∧ Lst W.heap.size W wr rows (3 * f) 6 (tw b)) (fun _ i _ => 2 - (intOf i).toNat)
  case atStart => exact ⟨0, by omega, rfl, L1⟩
  case round =>
    rename World => wo
    obtain ⟨f, hf, rfl, hL⟩ := hrel
    by_cases h : f < 2
    · have r1 := CRow.keep r0 hL.below
      go_wp2_with (first | (refine St.wpList_load isB9 (by rfl) _ (by rfl) _ _ (by rfl) (by with_reducible exact r1) HL.out ?_))
      go_loopw [3, 13] (fun rows i wr => ∃ k : Nat, k ≤ 3 ∧ i = .int .i64 (k : Int) ∧ Lst W.heap.size W wr rows (3 * f + k) 6 (tw b)) (fun _ i _ => 3 - (intOf i).toNat)
      case atStart => exact ⟨0, by omega, rfl, hL⟩
      case round =>
        rename World => wi
        obtain ⟨k, hk, rfl, hM⟩ := hrel
        by_cases h5 : k < 3
        · have hidx := fun (w : World) => HI.out w k h5
          obtain ⟨V, hV⟩ : ∃ V, V = vals 3 (b k) := ⟨_, rfl⟩
          rw [← hV] at hidx
          have HV := hide hV
          clear hV
          go_wp2_with (first
            | (rw [zero3]; refine St.wpList_storeNew isA3 (by rfl) _ _ (by rfl) _ _ V (by rfl) (by rfl) rfl (by rw [HV.out]; rfl) (by rw [HV.out]; exact one_vals _ _) ?_; intro w3 n3 k3)
            | (at_make; refine wpList_make_full _ rfl _ _ 61 rfl w3.heap.size 2 i0 (.int .i64 0) 1 Tryz.underlying61 hi hz0 hz1 _ _ _ _ 6 rfl rfl rfl rfl (by rw [hz2]; omega) (by unfold maxLen; omega) (Nat.le_refl _) ?_))
          intro w4 hown hgrow
          have hO := own_made hown hgrow (Nat.le_refl _)
          have hW4 := hide (own_whole hO)
          have hB4 := hO.below
          have n4 := CRow.keep n3 hB4
          have hM4 := hM.keep (below_tr k3 hB4)
          have HS := hide (fun j v (hv : V[j]? = some v) => show w4.cell? (Addr.add ⟨wi.heap.size, 0, none⟩ j) = some v by rw [Addr.add_lit, Nat.zero_add]; exact CRow.cell n4 hv rfl)
          obtain ⟨Z0, hZ0⟩ : ∃ Z, Z = vals 6 (fun _ => 0) := ⟨_, rfl⟩
          rw [← hZ0] at hW4
          have HZ := hide hZ0
          have hp := hide (splice_tw b h h5)
          have hsz : wi.heap.size ≤ w3.heap.size := k3.size
          have HM := hide hM
          have HB4 := hide hB4
          have K3 := hide k3
          clear hZ0 hown hgrow hO n3 n4 k3 hM hB4 hM4
          obtain ⟨q, hq⟩ : ∃ q, q = 3 * f := ⟨_, rfl⟩
          rw [← hq] at hp
          have q3 : q ≤ 3 := by omega
          have wr : IntKind.i64.wrap ((f : Int) * 3) = (q : Int) := by rw [IntKind.wrap_i64, hq]; omega
          have q6 : (6 = q) = False := eq_false (by omega)
          have q7 : (q : Int) ≤ 6 := by omega
          have HQ := hide hq
          clear hq
          go_wp2
          go_region_law (refine step_copy_splice rfl (.tmp 20) (.tmp 21) 61 61 rfl 2 Tryz.underlying61 sizeI64 (some ⟨w3.heap.size, q, none⟩) (some ⟨wi.heap.size, 0, none⟩) (6 - q) (6 - q) 3 3 (by rfl) (by rfl) w3.heap.size q Z0 2 hW4.out V (by rw [HV.out, vals_len]; exact (Nat.min_eq_left (by omega)).symm) (fun h0 => ⟨rfl, ⟨wi.heap.size, 0, none⟩, rfl, HS.out⟩) (by rw [HV.out, HZ.out, vals_len, vals_len]; omega) (by rw [HV.out]; exact one_vals _ _) w3.heap.size w3 (by first | exact HB4.out | exact HB4.out.drew | exact Vc.below_drewN HB4.out _) (Nat.le_refl _) ?_; intro w5 hg5 hb5)
          have hO5 : Own w3.heap.size w3 w5 (.slice (some ⟨w3.heap.size, 0, none⟩) 6 6) 6 (tw b (3 * f + k)) := by
            have e := hg5.out
            rw [HZ.out, HV.out, hp.out, HQ.out] at e
            exact own_of_whole e hb5 (Nat.le_refl _) (by unfold maxLen; omega)
          obtain ⟨ao, ca, e1, s1, f1⟩ := own_fresh hO5
          injection e1 with ea _ ec
          subst ea ec
          have hL5 := HM.out.keep (below_tr K3.out hb5)
          have HS5 := hide s1
          have HAP := hide (HM.out.apart K3.out.size f1)
          clear hO5 s1 f1 hg5 hb5 HS
          go_wp2_with (at_builtin; refine wpList_pushS (by rfl) _ _ (by rfl) W.heap.size W _ (3 * f + k) 6 (tw b) (by rfl) hL5 (by omega) (by omega) _ _ HS5.out HAP.out (by rfl) ?_)
          intro v' w' hL'
          go_wp2
          go_roundw
          case rel => exact ⟨k + 1, by omega, by go_num, hL'⟩
          case measure => simp [intOf]; omega
        · obtain rfl : k = 3 := by omega
          go_wp2
          go_roundw
          case rel => exact ⟨f + 1, by omega, by go_num, hM⟩
          case measure => simp [intOf]; omega
    · obtain rfl : f = 2 := by omega
      obtain ⟨lo, cm, rfl, hG⟩ := hL.grid
      go_wp2
      go_ret
      exact ⟨lo, cm, rfl, hG, below_tr B0 hL.below⟩
end Go.Proofs.YtnjiilknnlcblaaGreatDoor

/-
  How things move (model): a turn's numbers by a rate and a time, and its rows.
-/
set_option linter.unusedSimpArgs false
set_option linter.unusedVariables false
namespace Go.Proofs.YtnjiilknnlcblaaGreatDoor
open Go.RowKit Vc St Qn Dt Tg Ld Mt Mo
attribute [local go_sem ↓] Go.wp_at_zero Go.wp_at_succ

set_option maxRecDepth 10000 in
set_option maxHeartbeats 2000000 in
theorem arc_any (g : Nat) (R d : Int) (w : World) (hT : AngTab w) (h : Sure w g) (hr : MayR R) (ht : MayT d) :
    Calls Tryz.prog 40 #[.pointer (some ⟨g, 0, none⟩), .int .i64 R, .int .i64 d] w fun e w' => e = .returned (.agg (arcL (sV R d) (cV R d) (pV R d) (qV R d)).toArray) ∧ Below w.heap.size w w' := by
  have tb := tn_bd R d
  have sb := sine_bd (tn R d)
  have cb := cosine_bd (tn R d)
  have s1 := sV_in R d
  have c1 := cV_in R d
  have w1 := wV_in hr
  have p1 := pV_in (d := d) hr
  have q1 := qV_in (d := d) hr
  have HB := hide (fun W (h : AngTab W) => both_any (tn R d) W h tb.1 tb.2)
  have HS := hide (fun W => qmove_any (sine (tn R d)) 30 20 W (by omega) (by omega) (by omega) (by omega))
  have HC := hide (fun W => qmove_any (cosine (tn R d)) 30 20 W (by omega) (by omega) (by omega) (by omega))
  have HR := hide (fun W => radians_any R 20 W (by have := hr.1; omega) (by have := hr.2; omega) (by omega))
  have HP := hide (fun W => qdiv_any (sV R d) (wV R) 20 W (by omega) (by omega) (by omega) (by omega) (by omega) (by omega))
  have HU := hide (fun W => qsub_any 1048576 (cV R d) W (by omega) (by omega) (by omega) (by omega))
  have HQ := hide (fun W => qdiv_any (1048576 - cV R d) (wV R) 20 W (by omega) (by omega) (by omega) (by omega) (by omega) (by omega))
  have HN := hide (fun n W (k : Sure W g) => number_no g n .nilIface W k)
  have HE := hide (fun n W (k : Sure W g) => bounded_no g n W k)
  rw [s1.1] at HS
  rw [c1.1] at HC
  have e1 : clamp (rne (sine (tn R d) * 2 ^ (20 - 30)) (2 ^ (30 - 20))) = sV R d := rfl
  have e2 : clamp (rne (cosine (tn R d) * 2 ^ (20 - 30)) (2 ^ (30 - 20))) = cV R d := rfl
  have e3 : Tn.rad R 20 = wV R := rfl
  have e4 : signed (sV R d) (wV R) (clamp (rne (((sV R d).natAbs : Int) * 2 ^ 20) (wV R).natAbs)) = pV R d := rfl
  have e5 : great (rne (((sV R d).natAbs : Int) * 2 ^ 20) (wV R).natAbs) = false := p1.1
  have e6 : signed (1048576 - cV R d) (wV R) (clamp (rne (((1048576 - cV R d).natAbs : Int) * 2 ^ 20) (wV R).natAbs)) = qV R d := rfl
  have e7 : great (rne (((1048576 - cV R d).natAbs : Int) * 2 ^ 20) (wV R).natAbs) = false := q1.1
  rw [e1] at HS
  rw [e2] at HC
  rw [e3] at HR
  rw [e4, e5] at HP
  rw [clampId (by omega) (by omega), greatNo (by omega) (by omega)] at HU
  rw [e6, e7] at HQ
  obtain ⟨r0, r1⟩ := id hr
  obtain ⟨t0, t1⟩ := id ht
  have m0 : 0 ≤ R * d := Int.mul_nonneg (by omega) (by omega)
  have m1 : R * d ≤ 268435456 * 67108864 := Int.mul_le_mul r1 t1 (by omega) (by omega)
  have HM : Hid (tn R d = R * d / 1048576 % 4294967296) := rfl
  obtain ⟨M, hM⟩ : ∃ M, M = R * d := ⟨_, rfl⟩
  have wM : IntKind.i64.wrap (R * d) = M := by rw [IntKind.wrap_i64, hM]; omega
  rw [← hM] at HM m0 m1
  clear e1 e2 e3 e4 e5 e6 e7 s1 c1 p1 q1 hM
  generalize tn R d = t at *
  generalize sine t = S at *
  generalize cosine t = C at *
  generalize sV R d = s at *
  generalize cV R d = c at *
  generalize wV R = v at *
  generalize pV R d = p at *
  generalize qV R d = q at *
  obtain ⟨u, hu⟩ : ∃ u, u = 1048576 - c := ⟨_, rfl⟩
  rw [← hu] at HU HQ
  clear hu
  have hmt : M / 1048576 % 4294967296 = t := HM.out.symm
  clear HM
  have rR : R % 4294967296 = R := by omega
  have z0 := crow_new w 82 (arcL 0 0 0 0)
  have B0 := below_al (Below.refl _ w) (.cells (arcL 0 0 0 0).toArray 82)
  have T0 := hT.below B0
  have g0 := h.keep B0
  go_enter Tryz.func40, Tryz.ntmps40
  go_wp2_with fail
  refine (HB.out _ T0).mono ?_
  rintro e w1 ⟨rfl, k1⟩
  have z1 := CRow.keep z0 k1
  have g1 := g0.keep k1
  have B1 := below_tr B0 k1
  have A1 := crow_new w1 82 (arcL 0 0 0 0)
  have K1 := below_al (Below.refl _ w1) (.cells (arcL 0 0 0 0).toArray 82)
  obtain ⟨W1, hW1⟩ : ∃ W, W = w1.alloc (.cells (arcL 0 0 0 0).toArray 82) := ⟨_, rfl⟩
  rw [← hW1] at A1 K1
  have HW := hide hW1
  have z2 := CRow.keep z1 K1
  have g2 := g1.keep K1
  have B2 := below_tr B1 K1
  have ne : w.heap.size ≠ w1.heap.size := by have := z1.lt; omega
  have neg : g ≠ w1.heap.size := by have := CRow.lt g1; omega
  have lb : w.heap.size ≤ w1.heap.size := by have := z1.lt; omega
  clear hW1 z0 z1 g0 g1 B0 B1 K1 k1 T0 hT HB
  go_wp2_with fail
  rw [zeroAc, ← HW.out]
  refine (HS.out _).mono ?_
  rintro e w3 ⟨rfl, k3⟩
  have z3 := CRow.keep z2 k3
  have g3 := g2.keep k3
  have A3 := CRow.keep A1 k3
  have B3 := below_tr B2 k3
  clear z2 g2 A1 B2 k3
  go_wp2_with fail
  refine (HN.out s _ g3).mono ?_
  rintro e w4 ⟨rfl, k4⟩
  have z4 := CRow.keep z3 k4
  have g4 := g3.keep k4
  have A4 := CRow.keep A3 k4
  have B4 := below_tr B3 k4
  clear z3 g3 A3 B3 k4
  have c4_0 : w4.cell? ⟨w1.heap.size, 0, none⟩ = some (.int .i64 0) := CRow.cell A4 (k := 0) rfl rfl
  have f4_0 := CRow.free A4 0
  have A4s : CRow (w4.setCell ⟨w1.heap.size, 0, none⟩ (.int .i64 s)) w1.heap.size 82 (arcL s 0 0 0) := CRow.set A4 0 _
  have z4s := CRow.other z4 (p := ⟨w1.heap.size, 0, none⟩) (.int .i64 s) ne
  have g4s : Sure _ g := CRow.other g4 (p := ⟨w1.heap.size, 0, none⟩) (.int .i64 s) neg
  have B4s := B4.setCell (p := ⟨w1.heap.size, 0, none⟩) lb (.int .i64 s)
  go_wp2_with fail
  refine (HC.out _).mono ?_
  rintro e w5 ⟨rfl, k5⟩
  have z5 := CRow.keep z4s k5
  have g5 := g4s.keep k5
  have A5 := CRow.keep A4s k5
  have B5 := below_tr B4s k5
  clear z4s g4s A4s B4s k5
  go_wp2_with fail
  refine (HN.out c _ g5).mono ?_
  rintro e w6 ⟨rfl, k6⟩
  have z6 := CRow.keep z5 k6
  have g6 := g5.keep k6
  have A6 := CRow.keep A5 k6
  have B6 := below_tr B5 k6
  clear z5 g5 A5 B5 k6
  have c6_1 : w6.cell? ⟨w1.heap.size, 1, none⟩ = some (.int .i64 0) := CRow.cell A6 (k := 1) rfl rfl
  have f6_1 := CRow.free A6 1
  have A6s : CRow (w6.setCell ⟨w1.heap.size, 1, none⟩ (.int .i64 c)) w1.heap.size 82 (arcL s c 0 0) := CRow.set A6 1 _
  have z6s := CRow.other z6 (p := ⟨w1.heap.size, 1, none⟩) (.int .i64 c) ne
  have g6s : Sure _ g := CRow.other g6 (p := ⟨w1.heap.size, 1, none⟩) (.int .i64 c) neg
  have B6s := B6.setCell (p := ⟨w1.heap.size, 1, none⟩) lb (.int .i64 c)
  go_wp2_with fail
  refine (HR.out _).mono ?_
  rintro e w7 ⟨rfl, k7⟩
  have z7 := CRow.keep z6s k7
  have g7 := g6s.keep k7
  have A7 := CRow.keep A6s k7
  have B7 := below_tr B6s k7
  clear z6s g6s A6s B6s k7
  have c7_0 : w7.cell? ⟨w1.heap.size, 0, none⟩ = some (.int .i64 s) := CRow.cell A7 (k := 0) rfl rfl
  have f7_0 := CRow.free A7 0
  go_wp2_with fail
  refine (HP.out _).mono ?_
  rintro e w8 ⟨rfl, k8⟩
  have z8 := CRow.keep z7 k8
  have g8 := g7.keep k8
  have A8 := CRow.keep A7 k8
  have B8 := below_tr B7 k8
  clear z7 g7 A7 B7 k8
  go_wp2_with fail
  refine (HN.out p _ g8).mono ?_
  rintro e w9 ⟨rfl, k9⟩
  have z9 := CRow.keep z8 k9
  have g9 := g8.keep k9
  have A9 := CRow.keep A8 k9
  have B9 := below_tr B8 k9
  clear z8 g8 A8 B8 k9
  have c9_1 : w9.cell? ⟨w1.heap.size, 1, none⟩ = some (.int .i64 c) := CRow.cell A9 (k := 1) rfl rfl
  have f9_1 := CRow.free A9 1
  have c9_2 : w9.cell? ⟨w1.heap.size, 2, none⟩ = some (.int .i64 0) := CRow.cell A9 (k := 2) rfl rfl
  have f9_2 := CRow.free A9 2
  have A9s : CRow (w9.setCell ⟨w1.heap.size, 2, none⟩ (.int .i64 p)) w1.heap.size 82 (arcL s c p 0) := CRow.set A9 2 _
  have z9s := CRow.other z9 (p := ⟨w1.heap.size, 2, none⟩) (.int .i64 p) ne
  have g9s : Sure _ g := CRow.other g9 (p := ⟨w1.heap.size, 2, none⟩) (.int .i64 p) neg
  have B9s := B9.setCell (p := ⟨w1.heap.size, 2, none⟩) lb (.int .i64 p)
  go_wp2_with fail
  refine (HU.out _).mono ?_
  rintro e w10 ⟨rfl, k10⟩
  have z10 := CRow.keep z9s k10
  have g10 := g9s.keep k10
  have A10 := CRow.keep A9s k10
  have B10 := below_tr B9s k10
  clear z9s g9s A9s B9s k10
  go_wp2_with fail
  refine (HE.out u _ g10).mono ?_
  rintro e w11 ⟨rfl, k11⟩
  have z11 := CRow.keep z10 k11
  have g11 := g10.keep k11
  have A11 := CRow.keep A10 k11
  have B11 := below_tr B10 k11
  clear z10 g10 A10 B10 k11
  go_wp2_with fail
  refine (HQ.out _).mono ?_
  rintro e w12 ⟨rfl, k12⟩
  have z12 := CRow.keep z11 k12
  have g12 := g11.keep k12
  have A12 := CRow.keep A11 k12
  have B12 := below_tr B11 k12
  clear z11 g11 A11 B11 k12
  go_wp2_with fail
  refine (HN.out q _ g12).mono ?_
  rintro e w13 ⟨rfl, k13⟩
  have z13 := CRow.keep z12 k13
  have g13 := g12.keep k13
  have A13 := CRow.keep A12 k13
  have B13 := below_tr B12 k13
  clear z12 g12 A12 B12 k13
  have c13_3 : w13.cell? ⟨w1.heap.size, 3, none⟩ = some (.int .i64 0) := CRow.cell A13 (k := 3) rfl rfl
  have f13_3 := CRow.free A13 3
  have A13s : CRow (w13.setCell ⟨w1.heap.size, 3, none⟩ (.int .i64 q)) w1.heap.size 82 (arcL s c p q) := CRow.set A13 3 _
  have z13s := CRow.other z13 (p := ⟨w1.heap.size, 3, none⟩) (.int .i64 q) ne
  have g13s : Sure _ g := CRow.other g13 (p := ⟨w1.heap.size, 3, none⟩) (.int .i64 q) neg
  have B13s := B13.setCell (p := ⟨w1.heap.size, 3, none⟩) lb (.int .i64 q)
  go_wp2_with (first
    | (refine St.wpList_load isAc (by rfl) _ (by rfl) _ _ (by rfl) (by with_reducible exact A13s) rfl ?_)
    | (refine St.wpList_store isAc (by rfl) _ _ (by rfl) _ (arcL 0 0 0 0) (arcL s c p q) (by rfl) (by rfl) (by with_reducible exact z13s) rfl rfl (one_arc _ _ _ _) ?_))
  exact bodyPost_ret (v := .agg (arcL s c p q).toArray) (results_1 isAc Tryz.results40 _ _ w.heap.size (arcL s c p q) rfl (CRow.row z13s _) rfl) rfl ⟨rfl, St.below_row B13s (Nat.le_refl _) _⟩
end Go.Proofs.YtnjiilknnlcblaaGreatDoor

/-
  How things move (model): the rows of a turn, the noise, Step and Noise.
-/
set_option linter.unusedSimpArgs false
set_option linter.unusedVariables false
namespace Go.Proofs.YtnjiilknnlcblaaGreatDoor
open Go.RowKit Vc St Qn Dt Tg Ld Mt Mo
attribute [local go_sem ↓] Go.wp_at_zero Go.wp_at_succ

namespace Mo
/-- Six rows that were just built, and the list of them. -/
theorem grid_six (w : World) (n : Nat) (hn : w.heap.size = n) (F : Nat → Nat → Int) (r0 r1 r2 r3 r4 r5 : Array Value) (h0 : r0 = (vals 6 (F 0)).toArray) (h1 : r1 = (vals 6 (F 1)).toArray) (h2 : r2 = (vals 6 (F 2)).toArray) (h3 : r3 = (vals 6 (F 3)).toArray) (h4 : r4 = (vals 6 (F 4)).toArray) (h5 : r5 = (vals 6 (F 5)).toArray) :
    Grid (((((((w.alloc (.cells r0 2)).alloc (.cells r1 2)).alloc (.cells r2 2)).alloc (.cells r3 2)).alloc (.cells r4 2)).alloc (.cells r5 2)).alloc (.cells #[.slice (some ⟨n, 0, none⟩) 6 6, .slice (some ⟨n + 1, 0, none⟩) 6 6, .slice (some ⟨n + 1 + 1, 0, none⟩) 6 6, .slice (some ⟨n + 1 + 1 + 1, 0, none⟩) 6 6, .slice (some ⟨n + 1 + 1 + 1 + 1, 0, none⟩) 6 6, .slice (some ⟨n + 1 + 1 + 1 + 1 + 1, 0, none⟩) 6 6] 61)) (some ⟨n + 1 + 1 + 1 + 1 + 1 + 1, 0, none⟩) 6 6 6 F := by
  have z0 : w.heap.size = n := hn
  obtain ⟨W0, e0⟩ : ∃ W, W = w.alloc (.cells r0 2) := ⟨_, rfl⟩
  have z1 : W0.heap.size = n + 1 := by rw [e0]; simp [z0]
  have b0_0 : W0.heap[n]? = some (.cells r0 2 (0, 0)) := by rw [e0, ← z0]; exact heap_alloc_new _ _
  rw [← e0]
  obtain ⟨W1, e1⟩ : ∃ W, W = W0.alloc (.cells r1 2) := ⟨_, rfl⟩
  have z2 : W1.heap.size = n + 1 + 1 := by rw [e1]; simp [z1]
  have b1_1 : W1.heap[n + 1]? = some (.cells r1 2 (0, 0)) := by rw [e1, ← z1]; exact heap_alloc_new _ _
  have b1_0 : W1.heap[n]? = some (.cells r0 2 (0, 0)) := by rw [e1]; exact (Below.heap_alloc _ _ _ (by omega)).trans b0_0
  rw [← e1]
  obtain ⟨W2, e2⟩ : ∃ W, W = W1.alloc (.cells r2 2) := ⟨_, rfl⟩
  have z3 : W2.heap.size = n + 1 + 1 + 1 := by rw [e2]; simp [z2]
  have b2_2 : W2.heap[n + 1 + 1]? = some (.cells r2 2 (0, 0)) := by rw [e2, ← z2]; exact heap_alloc_new _ _
  have b2_0 : W2.heap[n]? = some (.cells r0 2 (0, 0)) := by rw [e2]; exact (Below.heap_alloc _ _ _ (by omega)).trans b1_0
  have b2_1 : W2.heap[n + 1]? = some (.cells r1 2 (0, 0)) := by rw [e2]; exact (Below.heap_alloc _ _ _ (by omega)).trans b1_1
  rw [← e2]
  obtain ⟨W3, e3⟩ : ∃ W, W = W2.alloc (.cells r3 2) := ⟨_, rfl⟩
  have z4 : W3.heap.size = n + 1 + 1 + 1 + 1 := by rw [e3]; simp [z3]
  have b3_3 : W3.heap[n + 1 + 1 + 1]? = some (.cells r3 2 (0, 0)) := by rw [e3, ← z3]; exact heap_alloc_new _ _
  have b3_0 : W3.heap[n]? = some (.cells r0 2 (0, 0)) := by rw [e3]; exact (Below.heap_alloc _ _ _ (by omega)).trans b2_0
  have b3_1 : W3.heap[n + 1]? = some (.cells r1 2 (0, 0)) := by rw [e3]; exact (Below.heap_alloc _ _ _ (by omega)).trans b2_1
  have b3_2 : W3.heap[n + 1 + 1]? = some (.cells r2 2 (0, 0)) := by rw [e3]; exact (Below.heap_alloc _ _ _ (by omega)).trans b2_2
  rw [← e3]
  obtain ⟨W4, e4⟩ : ∃ W, W = W3.alloc (.cells r4 2) := ⟨_, rfl⟩
  have z5 : W4.heap.size = n + 1 + 1 + 1 + 1 + 1 := by rw [e4]; simp [z4]
  have b4_4 : W4.heap[n + 1 + 1 + 1 + 1]? = some (.cells r4 2 (0, 0)) := by rw [e4, ← z4]; exact heap_alloc_new _ _
  have b4_0 : W4.heap[n]? = some (.cells r0 2 (0, 0)) := by rw [e4]; exact (Below.heap_alloc _ _ _ (by omega)).trans b3_0
  have b4_1 : W4.heap[n + 1]? = some (.cells r1 2 (0, 0)) := by rw [e4]; exact (Below.heap_alloc _ _ _ (by omega)).trans b3_1
  have b4_2 : W4.heap[n + 1 + 1]? = some (.cells r2 2 (0, 0)) := by rw [e4]; exact (Below.heap_alloc _ _ _ (by omega)).trans b3_2
  have b4_3 : W4.heap[n + 1 + 1 + 1]? = some (.cells r3 2 (0, 0)) := by rw [e4]; exact (Below.heap_alloc _ _ _ (by omega)).trans b3_3
  rw [← e4]
  obtain ⟨W5, e5⟩ : ∃ W, W = W4.alloc (.cells r5 2) := ⟨_, rfl⟩
  have z6 : W5.heap.size = n + 1 + 1 + 1 + 1 + 1 + 1 := by rw [e5]; simp [z5]
  have b5_5 : W5.heap[n + 1 + 1 + 1 + 1 + 1]? = some (.cells r5 2 (0, 0)) := by rw [e5, ← z5]; exact heap_alloc_new _ _
  have b5_0 : W5.heap[n]? = some (.cells r0 2 (0, 0)) := by rw [e5]; exact (Below.heap_alloc _ _ _ (by omega)).trans b4_0
  have b5_1 : W5.heap[n + 1]? = some (.cells r1 2 (0, 0)) := by rw [e5]; exact (Below.heap_alloc _ _ _ (by omega)).trans b4_1
  have b5_2 : W5.heap[n + 1 + 1]? = some (.cells r2 2 (0, 0)) := by rw [e5]; exact (Below.heap_alloc _ _ _ (by omega)).trans b4_2
  have b5_3 : W5.heap[n + 1 + 1 + 1]? = some (.cells r3 2 (0, 0)) := by rw [e5]; exact (Below.heap_alloc _ _ _ (by omega)).trans b4_3
  have b5_4 : W5.heap[n + 1 + 1 + 1 + 1]? = some (.cells r4 2 (0, 0)) := by rw [e5]; exact (Below.heap_alloc _ _ _ (by omega)).trans b4_4
  rw [← e5]
  obtain ⟨V, e⟩ : ∃ V, V = W5.alloc (.cells #[.slice (some ⟨n, 0, none⟩) 6 6, .slice (some ⟨n + 1, 0, none⟩) 6 6, .slice (some ⟨n + 1 + 1, 0, none⟩) 6 6, .slice (some ⟨n + 1 + 1 + 1, 0, none⟩) 6 6, .slice (some ⟨n + 1 + 1 + 1 + 1, 0, none⟩) 6 6, .slice (some ⟨n + 1 + 1 + 1 + 1 + 1, 0, none⟩) 6 6] 61) := ⟨_, rfl⟩
  have bl : V.heap[n + 1 + 1 + 1 + 1 + 1 + 1]? = some (.cells #[.slice (some ⟨n, 0, none⟩) 6 6, .slice (some ⟨n + 1, 0, none⟩) 6 6, .slice (some ⟨n + 1 + 1, 0, none⟩) 6 6, .slice (some ⟨n + 1 + 1 + 1, 0, none⟩) 6 6, .slice (some ⟨n + 1 + 1 + 1 + 1, 0, none⟩) 6 6, .slice (some ⟨n + 1 + 1 + 1 + 1 + 1, 0, none⟩) 6 6] 61 (0, 0)) := by rw [e, ← z6]; exact heap_alloc_new _ _
  have c0 : V.heap[n]? = some (.cells (vals 6 (F 0)).toArray 2 (0, 0)) := by rw [e, ← h0]; exact (Below.heap_alloc _ _ _ (by omega)).trans b5_0
  have c1 : V.heap[n + 1]? = some (.cells (vals 6 (F 1)).toArray 2 (0, 0)) := by rw [e, ← h1]; exact (Below.heap_alloc _ _ _ (by omega)).trans b5_1
  have c2 : V.heap[n + 1 + 1]? = some (.cells (vals 6 (F 2)).toArray 2 (0, 0)) := by rw [e, ← h2]; exact (Below.heap_alloc _ _ _ (by omega)).trans b5_2
  have c3 : V.heap[n + 1 + 1 + 1]? = some (.cells (vals 6 (F 3)).toArray 2 (0, 0)) := by rw [e, ← h3]; exact (Below.heap_alloc _ _ _ (by omega)).trans b5_3
  have c4 : V.heap[n + 1 + 1 + 1 + 1]? = some (.cells (vals 6 (F 4)).toArray 2 (0, 0)) := by rw [e, ← h4]; exact (Below.heap_alloc _ _ _ (by omega)).trans b5_4
  have c5 : V.heap[n + 1 + 1 + 1 + 1 + 1]? = some (.cells (vals 6 (F 5)).toArray 2 (0, 0)) := by rw [e, ← h5]; exact (Below.heap_alloc _ _ _ (by omega)).trans b5_5
  rw [← e]
  have key : ∀ j, j < 6 → V.heap[n + j]? = some (.cells (vals 6 (F j)).toArray 2 (0, 0)) := fun j hj => by
    rcases j with _ | _ | _ | _ | _ | _ | j
    · exact c0
    · exact c1
    · exact c2
    · exact c3
    · exact c4
    · exact c5
    · omega
  refine ⟨fun k => some ⟨n + k, 0, none⟩, fun _ => 6, ⟨by omega, by omega, fun j hj => ⟨_, rfl, ?_⟩⟩, fun k hk => ⟨Nat.le_refl _, (by decide : 6 ≤ 9223372036854775807), fun j hj => ⟨_, rfl, ?_⟩⟩⟩
  · rw [Addr.add_lit, Nat.zero_add]
    rcases j with _ | _ | _ | _ | _ | _ | j
    · simp [World.cell?, bl, Nat.add_assoc]
    · simp [World.cell?, bl, Nat.add_assoc]
    · simp [World.cell?, bl, Nat.add_assoc]
    · simp [World.cell?, bl, Nat.add_assoc]
    · simp [World.cell?, bl, Nat.add_assoc]
    · simp [World.cell?, bl, Nat.add_assoc]
    · omega
  · rw [Addr.add_lit, Nat.zero_add]
    simp [World.cell?, key k hk, vals_at hj]
end Mo

set_option maxRecDepth 10000 in
set_option maxHeartbeats 2000000 in
theorem arows_any (s c p q : Int) (w : World) (s0 : -9000000000000000000 ≤ s) (s1 : s ≤ 9000000000000000000) (q0 : -9000000000000000000 ≤ q) (q1 : q ≤ 9000000000000000000) :
    Calls Tryz.prog 42 #[.agg (arcL s c p q).toArray] w fun e w' => ∃ lo cm, e = .returned (.slice lo 6 cm) ∧ Grid w' lo 6 cm 6 (arcF s c p q) ∧ Below w.heap.size w w' := by
  have e1 : IntKind.i64.wrap (-s) = -s := by rw [IntKind.wrap_i64]; omega
  have e2 : IntKind.i64.wrap (-q) = -q := by rw [IntKind.wrap_i64]; omega
  show Calls Tryz.prog 42 #[.agg #[.int .i64 s, .int .i64 c, .int .i64 p, .int .i64 q]] w fun e w' => ∃ lo cm, e = .returned (.slice lo 6 cm) ∧ Grid w' lo 6 cm 6 (arcF s c p q) ∧ Below w.heap.size w w'
  go_enter Tryz.func42, Tryz.ntmps42
  go_wp2
  go_ret
  refine ⟨_, _, rfl, ?_, below_al (below_al (below_al (below_al (below_al (below_al (below_al (below_al (Below.refl _ _) _) _) _) _) _) _) _) _⟩
  exact grid_six (w.alloc (.cells #[.int .i64 s, .int .i64 c, .int .i64 p, .int .i64 q] 82)) (w.heap.size + 1) (by simp) (arcF s c p q) _ _ _ _ _ _ rfl rfl rfl rfl rfl rfl

namespace Mo
/-- A noise's numbers, as far as they are reckoned: i rows whole, j numbers of the next. -/
def pt (K d N : Int) (i j : Nat) : Nat → Int := fun t => if t < 3 * i then nz K d N (t / 3) (t % 3) else if t < 3 * i + j then ng K d N (t / 3) (t % 3) else 0
theorem pt_zero (K d N : Int) (k : Nat) : pt K d N 0 0 k = 0 := by unfold pt; rw [if_neg (by omega), if_neg (by omega)]
theorem pt_next (K d N : Int) {i j : Nat} (hj : j < 3) (k : Nat) : (if k = 3 * i + j then ng K d N i j else pt K d N i j k) = pt K d N i (j + 1) k := by
  unfold pt
  by_cases e : k = 3 * i + j
  · rw [if_pos e, if_neg (by omega), if_pos (by omega)]
    have e1 : k / 3 = i := by omega
    have e2 : k % 3 = j := by omega
    rw [e1, e2]
  · rw [if_neg e]
    by_cases h : k < 3 * i
    · rw [if_pos h, if_pos h]
    · rw [if_neg h, if_neg h]
      by_cases h2 : k < 3 * i + j
      · rw [if_pos h2, if_pos (by omega)]
      · rw [if_neg h2, if_neg (by omega)]
theorem pt_at (K d N : Int) {i : Nat} (hi : i < 3) : pt K d N i 3 (3 * i + i) = ng K d N i i := by
  unfold pt
  rw [if_neg (by omega), if_pos (by omega)]
  have e1 : (3 * i + i) / 3 = i := by omega
  have e2 : (3 * i + i) % 3 = i := by omega
  rw [e1, e2]
theorem pt_row (K d N : Int) {i : Nat} (hi : i < 3) (k : Nat) : (if k = 3 * i + i then ng K d N i i + 16 else pt K d N i 3 k) = pt K d N (i + 1) 0 k := by
  unfold pt
  by_cases e : k = 3 * i + i
  · rw [if_pos e, if_pos (by omega)]
    have e1 : k / 3 = i := by omega
    have e2 : k % 3 = i := by omega
    rw [e1, e2]
    unfold nz
    rw [if_pos rfl]
  · rw [if_neg e]
    by_cases h : k < 3 * i
    · rw [if_pos h, if_pos (by omega)]
    · rw [if_neg h]
      by_cases h2 : k < 3 * i + 3
      · rw [if_pos h2, if_pos (by omega)]
        unfold nz
        rw [if_neg (by omega)]
        omega
      · rw [if_neg h2, if_neg (by omega), if_neg (by omega)]
theorem pt_end (K d N : Int) (k : Nat) (h : k < 9) : pt K d N 3 0 k = nz K d N (k / 3) (k % 3) := by unfold pt; rw [if_pos (by omega)]
/-- Nine numbers in a block. -/
def NRow (w : World) (b : Nat) (z : Nat → Int) : Prop := CRow w b 55 (vals 9 z)
theorem NRow.keep {w w' : World} {b : Nat} {z : Nat → Int} (h : NRow w b z) (k : Below w.heap.size w w') : NRow w' b z := CRow.keep h k
theorem NRow.cell {w : World} {b : Nat} {z : Nat → Int} (h : NRow w b z) {k : Nat} (hk : k < 9) : w.cell? ⟨b, k, none⟩ = some (.int .i64 (z k)) := CRow.cell h (vals_at hk) rfl
theorem NRow.set {w : World} {b : Nat} {z : Nat → Int} (h : NRow w b z) (j : Nat) (x : Int) : NRow (w.setCell ⟨b, j, none⟩ (.int .i64 x)) b (fun k => if k = j then x else z k) := by
  have e := CRow.set h j (.int .i64 x)
  rw [vals_set] at e
  exact e
theorem NRow.congr {w : World} {b : Nat} {z z' : Nat → Int} (h : NRow w b z) (e : ∀ k, k < 9 → z k = z' k) : NRow w b z' := by
  unfold NRow; rw [← vals_congr e]; exact h
theorem run_g (z : Nat → Int) (w : World) : ∀ {k : Nat}, k < 3 → (Instr.index 53 (.agg (vals 3 z).toArray) (.int .i64 (k : Int))).run Tryz.prog w = .ok (.int .i64 (z k)) w
  | 0, _ => by kernel_rfl
  | 1, _ => by kernel_rfl
  | 2, _ => by kernel_rfl
  | n + 3, h => by omega
theorem gv_list (K d : Int) (h : K ≠ 1) : vals 3 (gv K d) = [.int .i64 (hf d), .int .i64 d, .int .i64 0] := by
  simp [vals, List.range, List.range.loop, gv, h]
theorem gv_list1 (d : Int) : vals 3 (gv 1 d) = [.int .i64 (hf d), .int .i64 d, .int .i64 1048576] := by
  simp [vals, List.range, List.range.loop, gv]
theorem zero9 : (#[.int .i64 0, .int .i64 0, .int .i64 0, .int .i64 0, .int .i64 0, .int .i64 0, .int .i64 0, .int .i64 0, .int .i64 0] : Array Value) = (vals 9 (fun _ => 0)).toArray := by kernel_rfl
end Mo

end Go.Proofs.YtnjiilknnlcblaaGreatDoor

/-
  Matrices (mat): two that are the same compared; a matrix into a new variable; what must come whatever the input is (sure of the laws of layer 8).
-/
set_option linter.unusedSimpArgs false
set_option linter.unusedVariables false
namespace Go.Proofs.YtnjiilknnlcblaaGreatDoor
open Go.RowKit Vc Mt Qn Dt

namespace Mt
theorem fieldsM : (Tryz.prog.fieldsOf 26).toList.map (fun f => (f.name, f.type, f.offset)) = [("Rows", 3, 0), ("Cols", 3, 1), ("A", 24, 2)] := by kernel_rfl
theorem structM : Tryz.prog.underlying 26 = some (.struct (Tryz.prog.fieldsOf 26)) := by kernel_rfl
theorem stoodM : Tryz.prog.stoodInHeld 26 = false := by kernel_rfl
theorem guardM : Tryz.prog.eqGuardType Tryz.prog.depth 26 = false := by kernel_rfl
theorem arrM36 : Tryz.prog.underlying 24 = some (.array 36 2) := by kernel_rfl
theorem cellsI64 : Tryz.prog.cellsOf 2 = 1 := by kernel_rfl
theorem sizeA36 (w : World) : (sizeOf 24).run Tryz.prog w = .ok 36 w := by
  have h : (Tryz.prog.info? 24).map (·.size) = some 36 := by kernel_rfl
  cases hq : Tryz.prog.info? 24 with
  | none => rw [hq] at h; cases h
  | some i =>
    have hi : i.size = 36 := by rw [hq] at h; simpa using h
    simp [sizeOf, typeInfo, hq, hi]

theorem take_mvals (r c : Int) (z : Nat → Int) : List.take 36 (List.drop 2 (mvals r c z)) = vals 36 z := by
  have h : (vals 36 z).length = 36 := vals_len 36 z
  show List.take 36 (vals 36 z) = vals 36 z
  exact List.take_of_length_le (by omega)

theorem run_part_int (w : World) (xs : Array Value) (o : Nat) (v : Int) (h : xs[o]? = some (.int .i64 v)) : (Go.part 3 xs o).run Tryz.prog w = .ok (.int .i64 v) w := by
  simp [Go.part, isAgg, run_underlying Tryz.underlying3, h]
theorem run_part_i64 (w : World) (xs : Array Value) (o : Nat) (v : Int) (h : xs[o]? = some (.int .i64 v)) : (Go.part 2 xs o).run Tryz.prog w = .ok (.int .i64 v) w := by
  simp [Go.part, isAgg, run_underlying Tryz.underlying2, h]
theorem run_part_A (w : World) (r c : Int) (z : Nat → Int) : (Go.part 24 (mvals r c z).toArray 2).run Tryz.prog w = .ok (.agg (vals 36 z).toArray) w := by
  simp [Go.part, isAgg, run_underlying arrM36, sizeA36]
  exact take_mvals r c z

theorem run_items36 (z : Nat → Int) (w : World) (d : Nat) : ∀ is : List Nat, (∀ i ∈ is, i < 36) → (Op.eqItems (d + 1) 2 1 (vals 36 z).toArray (vals 36 z).toArray is).run Tryz.prog w = .ok true w
  | [], _ => by simp [Op.eqItems]
  | i :: is, h => by
    have hi : i < 36 := h i (by simp)
    have px := run_part_i64 w (vals 36 z).toArray (i * 1) (z i) (by rw [List.getElem?_toArray, Nat.mul_one]; exact vals_at hi)
    have pe : (Op.equalIn (d + 1) 2 (.int .i64 (z i)) (.int .i64 (z i))).run Tryz.prog w = .ok true w := by
      rw [run_equalIn_int w d 2 .i64 .i64 _ _ Tryz.underlying2]; simp
    simp only [Op.eqItems, Sem.run_bind, px, pe, Result.andThen_ok, Bool.not_true, Bool.false_eq_true, if_false]
    exact run_items36 z w d is fun j hj => h j (by simp [hj])

theorem list3 {α β : Type} {g : α → β} : ∀ {fs : List α} {a b c : β}, fs.map g = [a, b, c] → ∃ x y z, fs = [x, y, z] ∧ g x = a ∧ g y = b ∧ g z = c
  | [], a, b, c, h => by simp at h
  | [x], a, b, c, h => by simp at h
  | [x, y], a, b, c, h => by simp at h
  | [x, y, z], a, b, c, h => by simp at h; exact ⟨x, y, z, rfl, h.1, h.2.1, h.2.2⟩
  | x :: y :: z :: u :: r, a, b, c, h => by simp at h

theorem eqFields_step (d : Nat) (xs ys : Array Value) (f : Field) (fs : List Field) (w : World) (v u : Value) (hn : f.name ≠ "_") (p1 : (Go.part f.type xs f.offset).run Tryz.prog w = .ok v w) (p2 : (Go.part f.type ys f.offset).run Tryz.prog w = .ok u w) (pe : (Op.equalIn d f.type v u).run Tryz.prog w = .ok true w) :
    (Op.eqFields d xs ys (f :: fs)).run Tryz.prog w = (Op.eqFields d xs ys fs).run Tryz.prog w := by
  rw [Op.eqFields, if_pos hn]
  simp only [Sem.run_bind, p1, p2, pe, Result.andThen_ok, Bool.not_true, Bool.false_eq_true, if_false]

theorem eqFields_nil (d : Nat) (xs ys : Array Value) (w : World) : (Op.eqFields d xs ys []).run Tryz.prog w = .ok true w := by simp [Op.eqFields]

set_option maxRecDepth 20000 in
theorem run_same (r c : Int) (z : Nat → Int) (w : World) : (Op.equalIn 10000 26 (.agg (mvals r c z).toArray) (.agg (mvals r c z).toArray)).run Tryz.prog w = .ok true w := by
  obtain ⟨f0, f1, f2, hf, h0, h1, h2⟩ := list3 fieldsM
  injection h0 with n0 h0
  injection h0 with t0 o0
  injection h1 with n1 h1
  injection h1 with t1 o1
  injection h2 with n2 h2
  injection h2 with t2 o2
  rw [run_equalIn_struct w 9999 26 _ _ structM stoodM, hf]
  clear hf
  obtain ⟨i0, hi, _, _, _⟩ := info_parts infoI64
  have p0 := run_part_int w (mvals r c z).toArray 0 r (by simp [mvals])
  have p1 := run_part_int w (mvals r c z).toArray 1 c (by simp [mvals])
  have p2 := run_part_A w r c z
  have q0 : (Op.equalIn 9999 3 (.int .i64 r) (.int .i64 r)).run Tryz.prog w = .ok true w := by rw [run_equalIn_int w 9998 3 .i64 .i64 _ _ Tryz.underlying3]; simp
  have q1 : (Op.equalIn 9999 3 (.int .i64 c) (.int .i64 c)).run Tryz.prog w = .ok true w := by rw [run_equalIn_int w 9998 3 .i64 .i64 _ _ Tryz.underlying3]; simp
  have q2 : (Op.equalIn 9999 24 (.agg (vals 36 z).toArray) (.agg (vals 36 z).toArray)).run Tryz.prog w = .ok true w := by
    rw [run_equalIn_array w 9998 (vals 36 z).toArray (vals 36 z).toArray arrM36 hi, cellsI64]
    exact run_items36 z w 9997 _ (fun i hi => by simpa using hi)
  rw [eqFields_step 9999 _ _ f0 _ w _ _ (by rw [n0]; simp) (by rw [t0, o0]; exact p0) (by rw [t0, o0]; exact p0) (by rw [t0]; exact q0)]
  rw [eqFields_step 9999 _ _ f1 _ w _ _ (by rw [n1]; simp) (by rw [t1, o1]; exact p1) (by rw [t1, o1]; exact p1) (by rw [t1]; exact q1)]
  rw [eqFields_step 9999 _ _ f2 _ w _ _ (by rw [n2]; simp) (by rw [t2, o2]; exact p2) (by rw [t2, o2]; exact p2) (by rw [t2]; exact q2)]
  exact eqFields_nil _ _ _ w

/-- Two that are the same are compared. -/
theorem wpList_eqM {ops : Array Oper} {rest : List Oper} {o : Oper} {a : Act} {w : World} {Q : Exit → Act → World → Prop} (hw : Region.wanted o (yielded ops a.tmps) = true) (x y : Operand) (u : TypeId) (ho : o.op = .binOp .eql 26 x y u)
    (r c : Int) (z : Nat → Int) (hx : a.eval x = .agg (mvals r c z).toArray) (hy : a.eval y = .agg (mvals r c z).toArray)
    (h : wpList Tryz.prog ops Q rest (a.put o.dst (.bool true)) w) : wpList Tryz.prog ops Q (o :: rest) a w :=
  wpList_wanted hw fun _ hK => by
    unfold Oper.wp execOp
    simp only [ho, hx, hy, Sem.run_bind, run_eqGuard_agg w _ _ x y _ _ guardM, Result.andThen_ok, run_eql_struct, run_same]
    exact hK _ _ h
theorem wpList_neM {ops : Array Oper} {rest : List Oper} {o : Oper} {a : Act} {w : World} {Q : Exit → Act → World → Prop} (hw : Region.wanted o (yielded ops a.tmps) = true) (x y : Operand) (u : TypeId) (ho : o.op = .binOp .neq 26 x y u)
    (r c : Int) (z : Nat → Int) (hx : a.eval x = .agg (mvals r c z).toArray) (hy : a.eval y = .agg (mvals r c z).toArray)
    (h : wpList Tryz.prog ops Q rest (a.put o.dst (.bool false)) w) : wpList Tryz.prog ops Q (o :: rest) a w :=
  wpList_wanted hw fun _ hK => by
    unfold Oper.wp execOp
    simp only [ho, hx, hy, Sem.run_bind, run_eqGuard_agg w _ _ x y _ _ guardM, Result.andThen_ok, run_neq_struct, run_same]
    exact hK _ _ h

theorem wpList_build0g {ops : Array Oper} {rest : List Oper} {o : Oper} {a : Act} {w : World} {Q : Exit → Act → World → Prop} (hw : Region.wanted o (yielded ops a.tmps) = true) (ho : o.op = .build 26 #[])
    (h : wpList Tryz.prog ops Q rest (a.put o.dst (.agg (mvals 0 0 (fun _ => 0)).toArray)) w) : wpList Tryz.prog ops Q (o :: rest) a w :=
  wpList_wanted hw fun _ hK => by
    unfold Oper.wp execOp
    have em : ((#[] : Array (Nat × Operand)).map fun (i, x) => (i, a.eval x)).toList = [] := by simp
    simp only [ho, Sem.run_bind, run_build w 26 _ _ (by rw [em]; exact built0), Result.andThen_ok]
    exact hK _ _ h

/-- A matrix into a new variable. -/
theorem wpList_storeNew {ops : Array Oper} {rest : List Oper} {o : Oper} {a : Act} {Q : Exit → Act → World → Prop} (hgd : o.guard = none) (x y : Operand) (ho : o.op = .store 26 x y) (w2 : World)
    (r c : Int) (z : Nat → Int) (hx : a.eval x = .pointer (some ⟨w2.heap.size, 0, none⟩)) (hy : a.eval y = .agg (mvals r c z).toArray)
    (h : ∀ w3, MRow w3 w2.heap.size r c z → Below w2.heap.size w2 w3 → wpList Tryz.prog ops Q rest (a.put o.dst undef) w3) : wpList Tryz.prog ops Q (o :: rest) a (w2.alloc (.cells (mvals 0 0 (fun _ => 0)).toArray 26)) :=
  wpList_storeM hgd x y ho _ _ _ _ _ _ _ hx hy (mrow_new w2 0 0 (fun _ => 0)) (h _ ((mrow_new w2 0 0 (fun _ => 0)).row _ _ _) (below_row (below_al (Below.refl _ _) _) (Nat.le_refl _) _))

/-- The matrix of sure. -/
def sureF : Nat → Nat → Int := fun i j => if i = 0 then (if j = 0 then 1048576 else 2097152) else (if j = 0 then 3145728 else 4194304)
theorem sureF_bd : B2 sureF := by
  intro i j
  unfold sureF
  split <;> split <;> omega
theorem sl_du {w : World} {x : Addr} {a b : Int} (h : w.cell? x = some (.int .i64 a)) (h2 : w.cell? (x.add 1) = some (.int .i64 b)) : Sl w (some x) 2 2 (fun k => if k = 0 then a else b) :=
  ⟨Nat.le_refl _, by omega, fun k hk => ⟨x, rfl, by
    match k, hk with
    | 0, _ => exact h
    | 1, _ => exact h2⟩⟩
end Mt

theorem sure_of (w : World) (x y0 y1 : Addr) (c0 : w.cell? x = some (.slice (some y0) 2 2)) (c1 : w.cell? (x.add 1) = some (.slice (some y1) 2 2)) (d0 : w.cell? y0 = some (.int .i64 1048576)) (d1 : w.cell? (y0.add 1) = some (.int .i64 2097152)) (d2 : w.cell? y1 = some (.int .i64 3145728)) (d3 : w.cell? (y1.add 1) = some (.int .i64 4194304)) :
    Calls Tryz.prog 39 #[.slice (some x) 2 2] w fun e w' => e = .returned (.tuple #[.agg (mvals ((2 : Nat) : Int) ((2 : Nat) : Int) (mz 2 2 sureF)).toArray, .nilIface]) ∧ Below w.heap.size w w' := by
  refine mof_any 2 2 (some x) 2 (fun j => if j = 0 then some y0 else some y1) (fun _ => 2) sureF w (by omega) (by omega) (by omega) (by omega) ⟨Nat.le_refl _, by omega, fun j hj => ⟨x, rfl, ?_⟩⟩ (fun k hk => ?_)
  · match j, hj with
    | 0, _ => exact c0
    | 1, _ => exact c1
  · match k, hk with
    | 0, _ => exact (sl_du d0 d1).congr (fun j hj => by unfold sureF; simp)
    | 1, _ => exact (sl_du d2 d3).congr (fun j hj => by unfold sureF; simp)

end Go.Proofs.YtnjiilknnlcblaaGreatDoor

/-
  The walk's laws of whole loads, stores and comparisons, their cheap conditions first (an operation of another kind is left at once).
-/
set_option linter.unusedSimpArgs false
set_option linter.unusedVariables false
namespace Go.Proofs.YtnjiilknnlcblaaGreatDoor
open Go.RowKit Mt
namespace Hk
variable {ops : Array Oper} {rest : List Oper} {o : Oper} {a : Act} {w : World} {Q : Exit → Act → World → Prop}
theorem loadM (x : Operand) (ho : o.op = .load 26 x) (b : Nat) (r c : Int) (z : Nat → Int) (hx : a.eval x = .pointer (some ⟨b, 0, none⟩)) (hr : MRow w b r c z) (hw : Region.wanted o (yielded ops a.tmps) = true)
    (h : wpList Tryz.prog ops Q rest (a.put o.dst (.agg (mvals r c z).toArray)) w) : wpList Tryz.prog ops Q (o :: rest) a w := wpList_loadM hw x ho b r c z hx hr h
theorem eqM (x y : Operand) (u : TypeId) (ho : o.op = .binOp .eql 26 x y u)
    (r c : Int) (z : Nat → Int) (hx : a.eval x = .agg (mvals r c z).toArray) (hy : a.eval y = .agg (mvals r c z).toArray) (hw : Region.wanted o (yielded ops a.tmps) = true)
    (h : wpList Tryz.prog ops Q rest (a.put o.dst (.bool true)) w) : wpList Tryz.prog ops Q (o :: rest) a w := wpList_eqM hw x y u ho r c z hx hy h
theorem neM (x y : Operand) (u : TypeId) (ho : o.op = .binOp .neq 26 x y u)
    (r c : Int) (z : Nat → Int) (hx : a.eval x = .agg (mvals r c z).toArray) (hy : a.eval y = .agg (mvals r c z).toArray) (hw : Region.wanted o (yielded ops a.tmps) = true)
    (h : wpList Tryz.prog ops Q rest (a.put o.dst (.bool false)) w) : wpList Tryz.prog ops Q (o :: rest) a w := wpList_neM hw x y u ho r c z hx hy h
theorem build0 (ho : o.op = .build 26 #[]) (hw : Region.wanted o (yielded ops a.tmps) = true)
    (h : wpList Tryz.prog ops Q rest (a.put o.dst (.agg (mvals 0 0 (fun _ => 0)).toArray)) w) : wpList Tryz.prog ops Q (o :: rest) a w := wpList_build0g hw ho h
end Hk
end Go.Proofs.YtnjiilknnlcblaaGreatDoor
