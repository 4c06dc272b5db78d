/-
  What is proved: whatever weights, floor and number it is given, the law ChanceOf of layer 14 returns true, ends without a panic, and leaves what was there as it was; its condition: the library's variable errors.errorType holds what the program's text lays there, which the card ties.
-/
import Derived.Test.YtlomfjacgomhdaaDoorM7
import Derived.Test.YtlomfjacgomhdaaDoorM24
import Derived.Test.YtlomfjacgomhdaaDoorFChanceOf
import Derived.Deep.DeepCutAuto
import Derived.Deep.CutRange
set_option linter.unusedSimpArgs false
set_option linter.unusedVariables false
namespace Go.Proofs.YtlomfjacgomhdaaDoor
open Go.RowKit Vc Cn
attribute [local go_sem ↓] Go.wp_at_zero Go.wp_at_succ

namespace Cn
theorem isrowO {w : World} {a : Option Addr} {len cap : Nat} {z : List Int} (h : FChanceOf.IsRow .i64 w a len cap z) : Sl w a len cap (fun k => z.getD k 0) ∧ B64 (fun k => z.getD k 0) := by
  rcases h with ⟨rfl, rfl, rfl, rfl⟩ | ⟨x, rfl, h1, h2, h3, h4, h5⟩
  · exact ⟨Sl.none _ _, fun k => by simp⟩
  · refine ⟨⟨h1, h2, fun k hk => ⟨x, rfl, h4 k (by omega)⟩⟩, ?_⟩
    intro k
    show _ ≤ z.getD k 0 ∧ z.getD k 0 ≤ _
    by_cases hk : k < z.length
    · have e : z.getD k 0 = z[k] := by simp [List.getD, List.getElem?_eq_getElem hk]
      rw [e]
      exact bounds_i64 (h5 _ (List.getElem_mem hk))
    · have e : z.getD k 0 = 0 := by simp [List.getD, List.getElem?_eq_none (Nat.le_of_not_lt hk)]
      rw [e]; omega
theorem of_meet {w1 w2 : World} {n vn : Nat} {z : Nat → Int} {fl er : Int} {v ev : Value} {vo : Option Addr} {vc : Nat} (H1 : (¬ MayW n z fl ∧ vn = 0 ∧ ev = errV 1) ∨ (MayW n z fl ∧ tot z n = 0 ∧ vn = 0 ∧ ev = errV 11) ∨ (MayW n z fl ∧ 0 < tot z n ∧ vn = n ∧ ev = .nilIface))
    (H2 : OfR w1 w2 n z fl v er) : ∃ xo xc, v = .slice xo vn xc ∧ Sl w2 xo vn xc (fun k => sh (1073741824 - fl * n) z n k + fl) ∧ Below w1.heap.size w1 w2 ∧ ∀ W, ErrTab W → Calls Tryd.prog 12 #[ev] W fun e w' => e = .returned (.int .i64 er) ∧ Below W.heap.size W w' := by
  rcases H1 with ⟨h, rfl, rfl⟩ | ⟨h, h0, rfl, rfl⟩ | ⟨h, h0, rfl, rfl⟩
  · rcases H2 with ⟨_, rfl, rfl, k⟩ | ⟨q, _⟩ | ⟨q, _⟩
    · exact ⟨none, 0, rfl, Sl.none _ _, k, fun W hW => num_err 1 W hW⟩
    · exact absurd q h
    · exact absurd q h
  · rcases H2 with ⟨q, _⟩ | ⟨_, _, rfl, rfl, k⟩ | ⟨_, q, _⟩
    · exact absurd h q
    · exact ⟨none, 0, rfl, Sl.none _ _, k, fun W hW => num_err 11 W hW⟩
    · omega
  · rcases H2 with ⟨q, _⟩ | ⟨_, q, _⟩ | ⟨_, _, rfl, ow⟩
    · exact absurd h q
    · omega
    · obtain ⟨xo, xc, rfl, s⟩ := ow.sl
      exact ⟨xo, xc, rfl, s, ow.below, fun W _ => num_nil W⟩
theorem mst_next (z : Nat → Int) (k : Nat) : mst z (k + 1) = if z (mst z k) < z k then k else mst z k := rfl
theorem mst_in (z : Nat → Int) {k n : Nat} (hk : k ≤ n) (hn : 0 < n) : mst z k < n := by
  cases k with
  | zero => exact hn
  | succ k => have := mst_lt z k; omega
end Cn

set_option maxRecDepth 20000 in
set_option maxHeartbeats 4000000 in
theorem cof_any (P : Pkg) (ao : Option Addr) (n ca : Nat) (z : Nat → Int) (fl N : Int) (w : World) (hs : Sl w ao n ca z) (hz : B64 z) (f0 : -9223372036854775808 ≤ fl) (f1 : fl ≤ 9223372036854775807) (N0 : -9223372036854775808 ≤ N) (N1 : N ≤ 9223372036854775807) (hE : ErrTab w) :
    Calls Tryd.prog 3 #[.slice ao n ca, .int .i64 fl, .int .i64 N] w fun e w' => e = .returned (.bool true) ∧ Below w.heap.size w w' := by
  have H1 := hideQ (P.of w ao n ca z fl hs hz f0 f1)
  have H2 := hideQ (fun W (b : Below w.heap.size w W) => dof14_any ao n ca z fl W (hs.keep b) hz f0 f1)
  have H3 := hideQ (fun W => P.even W N N0 N1)
  have H4 := hideQ (fun W (b : Below w.heap.size w W) => P.check W ao n ca z fl (hs.keep b) hz f0 f1)
  have H5 := hideQ (fun W (b : Below w.heap.size w W) => P.most W ao n ca z (hs.keep b) hz)
  have H6 := hideQ (fun W (b : Below w.heap.size w W) b' (hb : b' = true ↔ Ch n z fl) => dcheck14_any ao n ca z fl W (hs.keep b) hz b' hb f0 f1)
  have HSu := hideQ (csure_any P)
  have HE := hideQ hE
  have l1 := hs.le
  have l2 := hs.cap
  obtain ⟨x, hao, hc⟩ := hs.get
  have HAO := hideQ hao
  have HC := hideQ hc
  have HZ := hideQ hz
  clear hs hz hE hao hc
  go_enter Tryd.func3, Tryd.ntmps3
  go_wp2_with fail
  refine (H1.out).mono ?_
  rintro e w1 ⟨vo, vn, vc, ev, rfl, k1, s1, A1⟩
  go_wp2_with fail
  refine (H2.out _ k1).mono ?_
  rintro e w2 ⟨v, er, rfl, A2⟩
  obtain ⟨xo, xc, rfl, s2, k2, HN⟩ := of_meet (vo := vo) (vc := vc) A1 A2
  have K2 := below_tr k1 k2
  have s1 := s1.keep k2
  have HNm := hideQ HN
  clear A1 A2 HN H1 H2 k1 k2
  go_wp2_with fail
  refine (H3.out _).mono ?_
  rintro e w3 ⟨bo, bn, bc, gv, rfl, k3, s3, A3⟩
  have K3 := below_tr K2 k3
  have s1 := s1.keep k3
  have s2 := s2.keep k3
  clear K2 k3 H3
  go_wp2_with fail
  refine (H4.out _ K3).mono ?_
  rintro e w4 ⟨hv, rfl, k4, A4⟩
  have K4 := below_tr K3 k4
  have s1 := s1.keep k4
  have s2 := s2.keep k4
  have s3 := s3.keep k4
  clear K3 k4 H4
  go_wp2_with fail
  refine (H5.out _ K4).mono ?_
  rintro e w5 ⟨mk, iv, rfl, k5, A5⟩
  have K5 := below_tr K4 k5
  have S1 := hideQ (s1.keep k5)
  have S2 := hideQ (s2.keep k5)
  have S3 := hideQ (s3.keep k5)
  clear K4 k5 H5 s1 s2 s3
  obtain ⟨F, hF⟩ : ∃ F : Nat → Int, F = fun k => sh (1073741824 - fl * n) z n k + fl := ⟨_, rfl⟩
  rw [← hF] at S1 S2
  clear hF
  go_upto_region 6 with fail
  go_cut [69] (fun b wx => b = .bool false ∧ Below w5.heap.size w5 wx)
  case first =>
    have D0 := Vc.below_drew' w5
    rcases A4 with ⟨hch, rfl⟩ | ⟨hch, rfl⟩
    · have HK := hideQ (fun W (b : Below w.heap.size w W) => H6.out W b true ⟨fun q => hch, fun q => rfl⟩)
      clear hch H6
      refine Ru.wp_region_U [] (fun w' => True) (by kernel_rfl) trivial (fun hHeld => ?_)
      refine Ru.wpAnyU_take (i := 0) (v := .slice vo vn vc) rfl (by kernel_rfl) (by kernel_rfl) (by kernel_rfl) (by kernel_rfl) (by kernel_rfl) (by kernel_rfl) (fun _ _ _ h => h) (Or.inl ⟨by kernel_rfl, fun w hS => by obtain _ := hS; go_simp⟩) hHeld ?_
      simp only [Act.put, List.getElem_toArray, List.getElem_cons_zero, List.getElem_cons_succ, List.setIfInBounds_toArray, List.set_cons_zero, List.set_cons_succ]
      refine Ru.wpAnyU_take (i := 1) (v := .slice xo vn xc) rfl (by kernel_rfl) (by kernel_rfl) (by kernel_rfl) (by kernel_rfl) (by kernel_rfl) (by kernel_rfl) (fun _ _ _ h => h) (Or.inl ⟨by kernel_rfl, fun w hS => by obtain _ := hS; go_simp⟩) hHeld ?_
      simp only [Act.put, List.getElem_toArray, List.getElem_cons_zero, List.getElem_cons_succ, List.setIfInBounds_toArray, List.set_cons_zero, List.set_cons_succ]
      refine Ru.wpAnyU_ready (rs := [2]) (by kernel_rfl) (by simp) ?_
      refine Ru.AllReadyU.cons rfl (by kernel_rfl) (fun K hK => ?_) Ru.AllReadyU.nil
      go_simp
      refine (nums_yes _ _ vn _ _ F _ (S1.out.keep D0) (S2.out.keep D0)).mono ?_
      rintro e x1 ⟨rfl, k_x1⟩
      have D1 := below_tr D0 k_x1
      go_wp2_with fail
      refine hK.out _ _ trivial (fun hHeld => ?_)
      clear hK K
      try simp only [Act.put, List.getElem_toArray, List.getElem_cons_zero, List.getElem_cons_succ, List.setIfInBounds_toArray, List.set_cons_zero, List.set_cons_succ]
      refine Ru.wpAnyU_take (i := 3) (v := .bool false) rfl (by kernel_rfl) (by kernel_rfl) (by kernel_rfl) (by kernel_rfl) (by kernel_rfl) (by kernel_rfl) (fun _ _ _ h => h) (Or.inl ⟨by kernel_rfl, fun w hS => by obtain _ := hS; go_simp⟩) hHeld ?_
      simp only [Act.put, List.getElem_toArray, List.getElem_cons_zero, List.getElem_cons_succ, List.setIfInBounds_toArray, List.set_cons_zero, List.set_cons_succ]
      refine Ru.wpAnyU_take (i := 4) (v := .bool false) rfl (by kernel_rfl) (by kernel_rfl) (by kernel_rfl) (by kernel_rfl) (by kernel_rfl) (by kernel_rfl) (fun _ _ _ h => h) (Or.inl ⟨by kernel_rfl, fun w hS => by obtain _ := hS; go_simp⟩) hHeld ?_
      simp only [Act.put, List.getElem_toArray, List.getElem_cons_zero, List.getElem_cons_succ, List.setIfInBounds_toArray, List.set_cons_zero, List.set_cons_succ]
      refine Ru.wpAnyU_take (i := 5) (v := ev) rfl (by kernel_rfl) (by kernel_rfl) (by kernel_rfl) (by kernel_rfl) (by kernel_rfl) (by kernel_rfl) (fun _ _ _ h => h) (Or.inl ⟨by kernel_rfl, fun w hS => by obtain _ := hS; go_simp⟩) hHeld ?_
      simp only [Act.put, List.getElem_toArray, List.getElem_cons_zero, List.getElem_cons_succ, List.setIfInBounds_toArray, List.set_cons_zero, List.set_cons_succ]
      refine Ru.wpAnyU_take (i := 7) (v := .int .i64 er) rfl (by kernel_rfl) (by kernel_rfl) (by kernel_rfl) (by kernel_rfl) (by kernel_rfl) (by kernel_rfl) (fun _ _ _ h => h) (Or.inl ⟨by kernel_rfl, fun w hS => by obtain _ := hS; go_simp⟩) hHeld ?_
      simp only [Act.put, List.getElem_toArray, List.getElem_cons_zero, List.getElem_cons_succ, List.setIfInBounds_toArray, List.set_cons_zero, List.set_cons_succ]
      refine Ru.wpAnyU_ready (rs := [6]) (by kernel_rfl) (by simp) ?_
      refine Ru.AllReadyU.cons rfl (by kernel_rfl) (fun K hK => ?_) Ru.AllReadyU.nil
      go_simp
      refine (HNm.out _ (HE.out.below (below_tr K5 D1))).mono ?_
      rintro e x2 ⟨rfl, k_x2⟩
      have D2 := below_tr D1 k_x2
      go_wp2_with fail
      refine hK.out _ _ trivial (fun hHeld => ?_)
      clear hK K
      try simp only [Act.put, List.getElem_toArray, List.getElem_cons_zero, List.getElem_cons_succ, List.setIfInBounds_toArray, List.set_cons_zero, List.set_cons_succ]
      refine Ru.wpAnyU_take (i := 8) (v := .bool false) rfl (by kernel_rfl) (by kernel_rfl) (by kernel_rfl) (by kernel_rfl) (by kernel_rfl) (by kernel_rfl) (fun _ _ _ h => h) (Or.inl ⟨by kernel_rfl, fun w hS => by obtain _ := hS; go_simp⟩) hHeld ?_
      simp only [Act.put, List.getElem_toArray, List.getElem_cons_zero, List.getElem_cons_succ, List.setIfInBounds_toArray, List.set_cons_zero, List.set_cons_succ]
      refine Ru.wpAnyU_take (i := 9) (v := .bool false) rfl (by kernel_rfl) (by kernel_rfl) (by kernel_rfl) (by kernel_rfl) (by kernel_rfl) (by kernel_rfl) (fun _ _ _ h => h) (Or.inl ⟨by kernel_rfl, fun w hS => by obtain _ := hS; go_simp⟩) hHeld ?_
      simp only [Act.put, List.getElem_toArray, List.getElem_cons_zero, List.getElem_cons_succ, List.setIfInBounds_toArray, List.set_cons_zero, List.set_cons_succ]
      refine Ru.wpAnyU_take (i := 10) (v := .bool false) rfl (by kernel_rfl) (by kernel_rfl) (by kernel_rfl) (by kernel_rfl) (by kernel_rfl) (by kernel_rfl) (fun _ _ _ h => h) (Or.inl ⟨by kernel_rfl, fun w hS => by obtain _ := hS; go_simp⟩) hHeld ?_
      simp only [Act.put, List.getElem_toArray, List.getElem_cons_zero, List.getElem_cons_succ, List.setIfInBounds_toArray, List.set_cons_zero, List.set_cons_succ]
      refine Ru.wpAnyU_take (i := 11) (v := .nilIface) rfl (by kernel_rfl) (by kernel_rfl) (by kernel_rfl) (by kernel_rfl) (by kernel_rfl) (by kernel_rfl) (fun _ _ _ h => h) (Or.inl ⟨by kernel_rfl, fun w hS => by obtain _ := hS; go_simp⟩) hHeld ?_
      simp only [Act.put, List.getElem_toArray, List.getElem_cons_zero, List.getElem_cons_succ, List.setIfInBounds_toArray, List.set_cons_zero, List.set_cons_succ]
      refine Ru.wpAnyU_take (i := 12) (v := .bool true) rfl (by kernel_rfl) (by kernel_rfl) (by kernel_rfl) (by kernel_rfl) (by kernel_rfl) (by kernel_rfl) (fun _ _ _ h => h) (Or.inl ⟨by kernel_rfl, fun w hS => by obtain _ := hS; go_simp⟩) hHeld ?_
      simp only [Act.put, List.getElem_toArray, List.getElem_cons_zero, List.getElem_cons_succ, List.setIfInBounds_toArray, List.set_cons_zero, List.set_cons_succ]
      refine Ru.wpAnyU_take (i := 13) (v := .slice ao n ca) rfl (by kernel_rfl) (by kernel_rfl) (by kernel_rfl) (by kernel_rfl) (by kernel_rfl) (by kernel_rfl) (fun _ _ _ h => h) (Or.inl ⟨by kernel_rfl, fun w hS => by obtain _ := hS; go_simp⟩) hHeld ?_
      simp only [Act.put, List.getElem_toArray, List.getElem_cons_zero, List.getElem_cons_succ, List.setIfInBounds_toArray, List.set_cons_zero, List.set_cons_succ]
      refine Ru.wpAnyU_take (i := 14) (v := .int .i64 fl) rfl (by kernel_rfl) (by kernel_rfl) (by kernel_rfl) (by kernel_rfl) (by kernel_rfl) (by kernel_rfl) (fun _ _ _ h => h) (Or.inl ⟨by kernel_rfl, fun w hS => by obtain _ := hS; go_simp⟩) hHeld ?_
      simp only [Act.put, List.getElem_toArray, List.getElem_cons_zero, List.getElem_cons_succ, List.setIfInBounds_toArray, List.set_cons_zero, List.set_cons_succ]
      refine Ru.wpAnyU_ready (rs := [15]) (by kernel_rfl) (by simp) ?_
      refine Ru.AllReadyU.cons rfl (by kernel_rfl) (fun K hK => ?_) Ru.AllReadyU.nil
      go_simp
      refine (HK.out _ (below_tr K5 D2)).mono ?_
      rintro e x3 ⟨rfl, k_x3⟩
      have D3 := below_tr D2 k_x3
      go_wp2_with fail
      refine hK.out _ _ trivial (fun hHeld => ?_)
      clear hK K
      try simp only [Act.put, List.getElem_toArray, List.getElem_cons_zero, List.getElem_cons_succ, List.setIfInBounds_toArray, List.set_cons_zero, List.set_cons_succ]
      refine Ru.wpAnyU_take (i := 16) (v := .bool false) rfl (by kernel_rfl) (by kernel_rfl) (by kernel_rfl) (by kernel_rfl) (by kernel_rfl) (by kernel_rfl) (fun _ _ _ h => h) (Or.inl ⟨by kernel_rfl, fun w hS => by obtain _ := hS; go_simp⟩) hHeld ?_
      simp only [Act.put, List.getElem_toArray, List.getElem_cons_zero, List.getElem_cons_succ, List.setIfInBounds_toArray, List.set_cons_zero, List.set_cons_succ]
      refine Ru.wpAnyU_take (i := 17) (v := .bool false) rfl (by kernel_rfl) (by kernel_rfl) (by kernel_rfl) (by kernel_rfl) (by kernel_rfl) (by kernel_rfl) (fun _ _ _ h => h) (Or.inl ⟨by kernel_rfl, fun w hS => by obtain _ := hS; go_simp⟩) hHeld ?_
      simp only [Act.put, List.getElem_toArray, List.getElem_cons_zero, List.getElem_cons_succ, List.setIfInBounds_toArray, List.set_cons_zero, List.set_cons_succ]
      refine Ru.wpAnyU_take (i := 18) (v := .bool false) rfl (by kernel_rfl) (by kernel_rfl) (by kernel_rfl) (by kernel_rfl) (by kernel_rfl) (by kernel_rfl) (fun _ _ _ h => h) (Or.inl ⟨by kernel_rfl, fun w hS => by obtain _ := hS; go_simp⟩) hHeld ?_
      simp only [Act.put, List.getElem_toArray, List.getElem_cons_zero, List.getElem_cons_succ, List.setIfInBounds_toArray, List.set_cons_zero, List.set_cons_succ]
      refine Ru.wpAnyU_take (i := 19) (v := .nilIface) rfl (by kernel_rfl) (by kernel_rfl) (by kernel_rfl) (by kernel_rfl) (by kernel_rfl) (by kernel_rfl) (fun _ _ _ h => h) (Or.inl ⟨by kernel_rfl, fun w hS => by obtain _ := hS; go_simp⟩) hHeld ?_
      simp only [Act.put, List.getElem_toArray, List.getElem_cons_zero, List.getElem_cons_succ, List.setIfInBounds_toArray, List.set_cons_zero, List.set_cons_succ]
      refine Ru.wpAnyU_take (i := 20) (v := .bool false) rfl (by kernel_rfl) (by kernel_rfl) (by kernel_rfl) (by kernel_rfl) (by kernel_rfl) (by kernel_rfl) (fun _ _ _ h => h) (Or.inl ⟨by kernel_rfl, fun w hS => by obtain _ := hS; go_simp⟩) hHeld ?_
      simp only [Act.put, List.getElem_toArray, List.getElem_cons_zero, List.getElem_cons_succ, List.setIfInBounds_toArray, List.set_cons_zero, List.set_cons_succ]
      refine Ru.wpAnyU_take (i := 21) (v := .bool false) rfl (by kernel_rfl) (by kernel_rfl) (by kernel_rfl) (by kernel_rfl) (by kernel_rfl) (by kernel_rfl) (fun _ _ _ h => h) (Or.inl ⟨by kernel_rfl, fun w hS => by obtain _ := hS; go_simp⟩) hHeld ?_
      simp only [Act.put, List.getElem_toArray, List.getElem_cons_zero, List.getElem_cons_succ, List.setIfInBounds_toArray, List.set_cons_zero, List.set_cons_succ]
      refine Ru.wpAnyU_take (i := 22) (v := undef) rfl (by kernel_rfl) (by kernel_rfl) (by kernel_rfl) (by kernel_rfl) (by kernel_rfl) (by kernel_rfl) (fun _ _ _ h => h) (Or.inr ⟨by kernel_rfl, rfl⟩) hHeld ?_
      simp only [Act.put, List.getElem_toArray, List.getElem_cons_zero, List.getElem_cons_succ, List.setIfInBounds_toArray, List.set_cons_zero, List.set_cons_succ]
      refine Ru.wpAnyU_take (i := 23) (v := undef) rfl (by kernel_rfl) (by kernel_rfl) (by kernel_rfl) (by kernel_rfl) (by kernel_rfl) (by kernel_rfl) (fun _ _ _ h => h) (Or.inr ⟨by kernel_rfl, rfl⟩) hHeld ?_
      simp only [Act.put, List.getElem_toArray, List.getElem_cons_zero, List.getElem_cons_succ, List.setIfInBounds_toArray, List.set_cons_zero, List.set_cons_succ]
      refine Ru.wpAnyU_take (i := 24) (v := undef) rfl (by kernel_rfl) (by kernel_rfl) (by kernel_rfl) (by kernel_rfl) (by kernel_rfl) (by kernel_rfl) (fun _ _ _ h => h) (Or.inr ⟨by kernel_rfl, rfl⟩) hHeld ?_
      simp only [Act.put, List.getElem_toArray, List.getElem_cons_zero, List.getElem_cons_succ, List.setIfInBounds_toArray, List.set_cons_zero, List.set_cons_succ]
      refine Ru.wpAnyU_take (i := 25) (v := .bool false) rfl (by kernel_rfl) (by kernel_rfl) (by kernel_rfl) (by kernel_rfl) (by kernel_rfl) (by kernel_rfl) (fun _ _ _ h => h) (Or.inl ⟨by kernel_rfl, fun w hS => by obtain _ := hS; go_simp⟩) hHeld ?_
      simp only [Act.put, List.getElem_toArray, List.getElem_cons_zero, List.getElem_cons_succ, List.setIfInBounds_toArray, List.set_cons_zero, List.set_cons_succ]
      refine Ru.wpAnyU_take (i := 26) (v := .bool false) rfl (by kernel_rfl) (by kernel_rfl) (by kernel_rfl) (by kernel_rfl) (by kernel_rfl) (by kernel_rfl) (fun _ _ _ h => h) (Or.inl ⟨by kernel_rfl, fun w hS => by obtain _ := hS; go_simp⟩) hHeld ?_
      simp only [Act.put, List.getElem_toArray, List.getElem_cons_zero, List.getElem_cons_succ, List.setIfInBounds_toArray, List.set_cons_zero, List.set_cons_succ]
      refine Ru.wpAnyU_done (by kernel_rfl) ?_
      go_wp2_with fail
      go_meet
      exact ⟨rfl, D3⟩
    · have HK := hideQ (fun W (b : Below w.heap.size w W) => H6.out W b false ⟨fun q => (by cases q), fun q => absurd q hch⟩)
      clear hch H6
      unfold errV
      refine Ru.wp_region_U [] (fun w' => True) (by kernel_rfl) trivial (fun hHeld => ?_)
      refine Ru.wpAnyU_take (i := 0) (v := .slice vo vn vc) rfl (by kernel_rfl) (by kernel_rfl) (by kernel_rfl) (by kernel_rfl) (by kernel_rfl) (by kernel_rfl) (fun _ _ _ h => h) (Or.inl ⟨by kernel_rfl, fun w hS => by obtain _ := hS; go_simp⟩) hHeld ?_
      simp only [Act.put, List.getElem_toArray, List.getElem_cons_zero, List.getElem_cons_succ, List.setIfInBounds_toArray, List.set_cons_zero, List.set_cons_succ]
      refine Ru.wpAnyU_take (i := 1) (v := .slice xo vn xc) rfl (by kernel_rfl) (by kernel_rfl) (by kernel_rfl) (by kernel_rfl) (by kernel_rfl) (by kernel_rfl) (fun _ _ _ h => h) (Or.inl ⟨by kernel_rfl, fun w hS => by obtain _ := hS; go_simp⟩) hHeld ?_
      simp only [Act.put, List.getElem_toArray, List.getElem_cons_zero, List.getElem_cons_succ, List.setIfInBounds_toArray, List.set_cons_zero, List.set_cons_succ]
      refine Ru.wpAnyU_ready (rs := [2]) (by kernel_rfl) (by simp) ?_
      refine Ru.AllReadyU.cons rfl (by kernel_rfl) (fun K hK => ?_) Ru.AllReadyU.nil
      go_simp
      refine (nums_yes _ _ vn _ _ F _ (S1.out.keep D0) (S2.out.keep D0)).mono ?_
      rintro e x1 ⟨rfl, k_x1⟩
      have D1 := below_tr D0 k_x1
      go_wp2_with fail
      refine hK.out _ _ trivial (fun hHeld => ?_)
      clear hK K
      try simp only [Act.put, List.getElem_toArray, List.getElem_cons_zero, List.getElem_cons_succ, List.setIfInBounds_toArray, List.set_cons_zero, List.set_cons_succ]
      refine Ru.wpAnyU_take (i := 3) (v := .bool false) rfl (by kernel_rfl) (by kernel_rfl) (by kernel_rfl) (by kernel_rfl) (by kernel_rfl) (by kernel_rfl) (fun _ _ _ h => h) (Or.inl ⟨by kernel_rfl, fun w hS => by obtain _ := hS; go_simp⟩) hHeld ?_
      simp only [Act.put, List.getElem_toArray, List.getElem_cons_zero, List.getElem_cons_succ, List.setIfInBounds_toArray, List.set_cons_zero, List.set_cons_succ]
      refine Ru.wpAnyU_take (i := 4) (v := .bool false) rfl (by kernel_rfl) (by kernel_rfl) (by kernel_rfl) (by kernel_rfl) (by kernel_rfl) (by kernel_rfl) (fun _ _ _ h => h) (Or.inl ⟨by kernel_rfl, fun w hS => by obtain _ := hS; go_simp⟩) hHeld ?_
      simp only [Act.put, List.getElem_toArray, List.getElem_cons_zero, List.getElem_cons_succ, List.setIfInBounds_toArray, List.set_cons_zero, List.set_cons_succ]
      refine Ru.wpAnyU_take (i := 5) (v := ev) rfl (by kernel_rfl) (by kernel_rfl) (by kernel_rfl) (by kernel_rfl) (by kernel_rfl) (by kernel_rfl) (fun _ _ _ h => h) (Or.inl ⟨by kernel_rfl, fun w hS => by obtain _ := hS; go_simp⟩) hHeld ?_
      simp only [Act.put, List.getElem_toArray, List.getElem_cons_zero, List.getElem_cons_succ, List.setIfInBounds_toArray, List.set_cons_zero, List.set_cons_succ]
      refine Ru.wpAnyU_take (i := 7) (v := .int .i64 er) rfl (by kernel_rfl) (by kernel_rfl) (by kernel_rfl) (by kernel_rfl) (by kernel_rfl) (by kernel_rfl) (fun _ _ _ h => h) (Or.inl ⟨by kernel_rfl, fun w hS => by obtain _ := hS; go_simp⟩) hHeld ?_
      simp only [Act.put, List.getElem_toArray, List.getElem_cons_zero, List.getElem_cons_succ, List.setIfInBounds_toArray, List.set_cons_zero, List.set_cons_succ]
      refine Ru.wpAnyU_ready (rs := [6]) (by kernel_rfl) (by simp) ?_
      refine Ru.AllReadyU.cons rfl (by kernel_rfl) (fun K hK => ?_) Ru.AllReadyU.nil
      go_simp
      refine (HNm.out _ (HE.out.below (below_tr K5 D1))).mono ?_
      rintro e x2 ⟨rfl, k_x2⟩
      have D2 := below_tr D1 k_x2
      go_wp2_with fail
      refine hK.out _ _ trivial (fun hHeld => ?_)
      clear hK K
      try simp only [Act.put, List.getElem_toArray, List.getElem_cons_zero, List.getElem_cons_succ, List.setIfInBounds_toArray, List.set_cons_zero, List.set_cons_succ]
      refine Ru.wpAnyU_take (i := 8) (v := .bool false) rfl (by kernel_rfl) (by kernel_rfl) (by kernel_rfl) (by kernel_rfl) (by kernel_rfl) (by kernel_rfl) (fun _ _ _ h => h) (Or.inl ⟨by kernel_rfl, fun w hS => by obtain _ := hS; go_simp⟩) hHeld ?_
      simp only [Act.put, List.getElem_toArray, List.getElem_cons_zero, List.getElem_cons_succ, List.setIfInBounds_toArray, List.set_cons_zero, List.set_cons_succ]
      refine Ru.wpAnyU_take (i := 9) (v := .bool false) rfl (by kernel_rfl) (by kernel_rfl) (by kernel_rfl) (by kernel_rfl) (by kernel_rfl) (by kernel_rfl) (fun _ _ _ h => h) (Or.inl ⟨by kernel_rfl, fun w hS => by obtain _ := hS; go_simp⟩) hHeld ?_
      simp only [Act.put, List.getElem_toArray, List.getElem_cons_zero, List.getElem_cons_succ, List.setIfInBounds_toArray, List.set_cons_zero, List.set_cons_succ]
      refine Ru.wpAnyU_take (i := 10) (v := .bool false) rfl (by kernel_rfl) (by kernel_rfl) (by kernel_rfl) (by kernel_rfl) (by kernel_rfl) (by kernel_rfl) (fun _ _ _ h => h) (Or.inl ⟨by kernel_rfl, fun w hS => by obtain _ := hS; go_simp⟩) hHeld ?_
      simp only [Act.put, List.getElem_toArray, List.getElem_cons_zero, List.getElem_cons_succ, List.setIfInBounds_toArray, List.set_cons_zero, List.set_cons_succ]
      refine Ru.wpAnyU_take (i := 11) (v := (.iface 46 (.int .i64 1))) rfl (by kernel_rfl) (by kernel_rfl) (by kernel_rfl) (by kernel_rfl) (by kernel_rfl) (by kernel_rfl) (fun _ _ _ h => h) (Or.inl ⟨by kernel_rfl, fun w hS => by obtain _ := hS; go_simp⟩) hHeld ?_
      simp only [Act.put, List.getElem_toArray, List.getElem_cons_zero, List.getElem_cons_succ, List.setIfInBounds_toArray, List.set_cons_zero, List.set_cons_succ]
      refine Ru.wpAnyU_take (i := 12) (v := .bool false) rfl (by kernel_rfl) (by kernel_rfl) (by kernel_rfl) (by kernel_rfl) (by kernel_rfl) (by kernel_rfl) (fun _ _ _ h => h) (Or.inl ⟨by kernel_rfl, fun w hS => by obtain _ := hS; go_simp⟩) hHeld ?_
      simp only [Act.put, List.getElem_toArray, List.getElem_cons_zero, List.getElem_cons_succ, List.setIfInBounds_toArray, List.set_cons_zero, List.set_cons_succ]
      refine Ru.wpAnyU_take (i := 13) (v := .slice ao n ca) rfl (by kernel_rfl) (by kernel_rfl) (by kernel_rfl) (by kernel_rfl) (by kernel_rfl) (by kernel_rfl) (fun _ _ _ h => h) (Or.inl ⟨by kernel_rfl, fun w hS => by obtain _ := hS; go_simp⟩) hHeld ?_
      simp only [Act.put, List.getElem_toArray, List.getElem_cons_zero, List.getElem_cons_succ, List.setIfInBounds_toArray, List.set_cons_zero, List.set_cons_succ]
      refine Ru.wpAnyU_take (i := 14) (v := .int .i64 fl) rfl (by kernel_rfl) (by kernel_rfl) (by kernel_rfl) (by kernel_rfl) (by kernel_rfl) (by kernel_rfl) (fun _ _ _ h => h) (Or.inl ⟨by kernel_rfl, fun w hS => by obtain _ := hS; go_simp⟩) hHeld ?_
      simp only [Act.put, List.getElem_toArray, List.getElem_cons_zero, List.getElem_cons_succ, List.setIfInBounds_toArray, List.set_cons_zero, List.set_cons_succ]
      refine Ru.wpAnyU_ready (rs := [15]) (by kernel_rfl) (by simp) ?_
      refine Ru.AllReadyU.cons rfl (by kernel_rfl) (fun K hK => ?_) Ru.AllReadyU.nil
      go_simp
      refine (HK.out _ (below_tr K5 D2)).mono ?_
      rintro e x3 ⟨rfl, k_x3⟩
      have D3 := below_tr D2 k_x3
      go_wp2_with fail
      refine hK.out _ _ trivial (fun hHeld => ?_)
      clear hK K
      try simp only [Act.put, List.getElem_toArray, List.getElem_cons_zero, List.getElem_cons_succ, List.setIfInBounds_toArray, List.set_cons_zero, List.set_cons_succ]
      refine Ru.wpAnyU_take (i := 16) (v := .bool false) rfl (by kernel_rfl) (by kernel_rfl) (by kernel_rfl) (by kernel_rfl) (by kernel_rfl) (by kernel_rfl) (fun _ _ _ h => h) (Or.inl ⟨by kernel_rfl, fun w hS => by obtain _ := hS; go_simp⟩) hHeld ?_
      simp only [Act.put, List.getElem_toArray, List.getElem_cons_zero, List.getElem_cons_succ, List.setIfInBounds_toArray, List.set_cons_zero, List.set_cons_succ]
      refine Ru.wpAnyU_take (i := 17) (v := .bool false) rfl (by kernel_rfl) (by kernel_rfl) (by kernel_rfl) (by kernel_rfl) (by kernel_rfl) (by kernel_rfl) (fun _ _ _ h => h) (Or.inl ⟨by kernel_rfl, fun w hS => by obtain _ := hS; go_simp⟩) hHeld ?_
      simp only [Act.put, List.getElem_toArray, List.getElem_cons_zero, List.getElem_cons_succ, List.setIfInBounds_toArray, List.set_cons_zero, List.set_cons_succ]
      refine Ru.wpAnyU_take (i := 18) (v := .bool false) rfl (by kernel_rfl) (by kernel_rfl) (by kernel_rfl) (by kernel_rfl) (by kernel_rfl) (by kernel_rfl) (fun _ _ _ h => h) (Or.inl ⟨by kernel_rfl, fun w hS => by obtain _ := hS; go_simp⟩) hHeld ?_
      simp only [Act.put, List.getElem_toArray, List.getElem_cons_zero, List.getElem_cons_succ, List.setIfInBounds_toArray, List.set_cons_zero, List.set_cons_succ]
      refine Ru.wpAnyU_take (i := 19) (v := (.iface 46 (.int .i64 1))) rfl (by kernel_rfl) (by kernel_rfl) (by kernel_rfl) (by kernel_rfl) (by kernel_rfl) (by kernel_rfl) (fun _ _ _ h => h) (Or.inl ⟨by kernel_rfl, fun w hS => by obtain _ := hS; go_simp⟩) hHeld ?_
      simp only [Act.put, List.getElem_toArray, List.getElem_cons_zero, List.getElem_cons_succ, List.setIfInBounds_toArray, List.set_cons_zero, List.set_cons_succ]
      refine Ru.wpAnyU_take (i := 20) (v := .bool true) rfl (by kernel_rfl) (by kernel_rfl) (by kernel_rfl) (by kernel_rfl) (by kernel_rfl) (by kernel_rfl) (fun _ _ _ h => h) (Or.inl ⟨by kernel_rfl, fun w hS => by obtain _ := hS; go_simp⟩) hHeld ?_
      simp only [Act.put, List.getElem_toArray, List.getElem_cons_zero, List.getElem_cons_succ, List.setIfInBounds_toArray, List.set_cons_zero, List.set_cons_succ]
      refine Ru.wpAnyU_take (i := 21) (v := .bool true) rfl (by kernel_rfl) (by kernel_rfl) (by kernel_rfl) (by kernel_rfl) (by kernel_rfl) (by kernel_rfl) (fun _ _ _ h => h) (Or.inl ⟨by kernel_rfl, fun w hS => by obtain _ := hS; go_simp⟩) hHeld ?_
      simp only [Act.put, List.getElem_toArray, List.getElem_cons_zero, List.getElem_cons_succ, List.setIfInBounds_toArray, List.set_cons_zero, List.set_cons_succ]
      refine Ru.wpAnyU_take (i := 22) (v := (.iface 46 (.int .i64 1))) rfl (by kernel_rfl) (by kernel_rfl) (by kernel_rfl) (by kernel_rfl) (by kernel_rfl) (by kernel_rfl) (fun _ _ _ h => h) (Or.inl ⟨by kernel_rfl, fun w hS => by obtain _ := hS; go_simp⟩) hHeld ?_
      simp only [Act.put, List.getElem_toArray, List.getElem_cons_zero, List.getElem_cons_succ, List.setIfInBounds_toArray, List.set_cons_zero, List.set_cons_succ]
      refine Ru.wpAnyU_ready (rs := [23]) (by kernel_rfl) (by simp) ?_
      refine Ru.AllReadyU.cons rfl (by kernel_rfl) (fun K hK => ?_) Ru.AllReadyU.nil
      go_simp
      refine (num_err 1 _ (HE.out.below (below_tr K5 D3))).mono ?_
      rintro e x4 ⟨rfl, k_x4⟩
      have D4 := below_tr D3 k_x4
      go_wp2_with fail
      refine hK.out _ _ trivial (fun hHeld => ?_)
      clear hK K
      try simp only [Act.put, List.getElem_toArray, List.getElem_cons_zero, List.getElem_cons_succ, List.setIfInBounds_toArray, List.set_cons_zero, List.set_cons_succ]
      refine Ru.wpAnyU_take (i := 24) (v := .bool false) rfl (by kernel_rfl) (by kernel_rfl) (by kernel_rfl) (by kernel_rfl) (by kernel_rfl) (by kernel_rfl) (fun _ _ _ h => h) (Or.inl ⟨by kernel_rfl, fun w hS => by obtain _ := hS; go_simp⟩) hHeld ?_
      simp only [Act.put, List.getElem_toArray, List.getElem_cons_zero, List.getElem_cons_succ, List.setIfInBounds_toArray, List.set_cons_zero, List.set_cons_succ]
      refine Ru.wpAnyU_take (i := 25) (v := .bool false) rfl (by kernel_rfl) (by kernel_rfl) (by kernel_rfl) (by kernel_rfl) (by kernel_rfl) (by kernel_rfl) (fun _ _ _ h => h) (Or.inl ⟨by kernel_rfl, fun w hS => by obtain _ := hS; go_simp⟩) hHeld ?_
      simp only [Act.put, List.getElem_toArray, List.getElem_cons_zero, List.getElem_cons_succ, List.setIfInBounds_toArray, List.set_cons_zero, List.set_cons_succ]
      refine Ru.wpAnyU_take (i := 26) (v := .bool false) rfl (by kernel_rfl) (by kernel_rfl) (by kernel_rfl) (by kernel_rfl) (by kernel_rfl) (by kernel_rfl) (fun _ _ _ h => h) (Or.inl ⟨by kernel_rfl, fun w hS => by obtain _ := hS; go_simp⟩) hHeld ?_
      simp only [Act.put, List.getElem_toArray, List.getElem_cons_zero, List.getElem_cons_succ, List.setIfInBounds_toArray, List.set_cons_zero, List.set_cons_succ]
      refine Ru.wpAnyU_done (by kernel_rfl) ?_
      go_wp2_with fail
      go_meet
      exact ⟨rfl, D4⟩
  rename World => wc
  obtain ⟨rfl, kc⟩ := hcut
  have KC := below_tr K5 kc
  have S3 := hideQ (S3.out.keep kc)
  clear K5 kc S1 S2 H6 HNm A4
  rcases A5 with ⟨hn, rfl, rfl⟩ | ⟨hn1, hn4, rfl, rfl⟩
  · rcases (by omega : n = 0 ∨ 4 < n) with hn0 | hn5
    · subst hn0
      clear HC HAO HZ
      unfold errV
      go_wp2_with fail
      refine (num_err 1 _ (HE.out.below KC)).mono ?_
      rintro e y0 ⟨rfl, q0⟩
      have KD := below_tr KC q0
      have S3 := hideQ (S3.out.keep q0)
      clear KC q0
      rcases A3 with ⟨hN, rfl, rfl⟩ | ⟨hN1, hN4, hN, rfl⟩
      · rcases (by omega : N < 1 ∨ (1 ≤ N ∧ 4 < N)) with hN | ⟨hN, hN2⟩
        · unfold errV
          go_wp2_with fail
          refine (num_err 1 _ (HE.out.below KD)).mono ?_
          rintro e y1 ⟨rfl, q1⟩
          go_wp2_with fail
          refine (HSu.out _).mono ?_
          rintro e y2 ⟨rfl, q2⟩
          go_wp2
          go_ret
          exact ⟨rfl, below_tr (below_tr KD q1) q2⟩
        · unfold errV
          go_wp2_with fail
          refine (num_err 1 _ (HE.out.below KD)).mono ?_
          rintro e y1 ⟨rfl, q1⟩
          go_wp2_with fail
          refine (HSu.out _).mono ?_
          rintro e y2 ⟨rfl, q2⟩
          go_wp2
          go_ret
          exact ⟨rfl, below_tr (below_tr KD q1) q2⟩
      · have HEv := hideQ (fun W => deven14 bn W (by omega) (by omega))
        subst hN
        have e3 : ¬ (bn : Int) < 1 := by omega
        have e4 : ¬ (4 : Int) < bn := by omega
        go_wp2_with fail
        refine (HEv.out _).mono ?_
        rintro e y1 ⟨v1, rfl, ow⟩
        obtain ⟨yo, yc, rfl, s4⟩ := ow.sl
        have q1 := ow.below
        have s5 := S3.out.keep q1
        clear ow
        go_wp2_with fail
        refine (nums_yes _ _ _ _ _ _ _ s5 s4).mono ?_
        rintro e y2 ⟨rfl, q2⟩
        go_wp2_with fail
        refine (HSu.out _).mono ?_
        rintro e y3 ⟨rfl, q3⟩
        go_wp2
        go_ret
        exact ⟨rfl, below_tr (below_tr (below_tr KD q1) q2) q3⟩
    · have e1 : ¬ (n : Int) < 1 := by omega
      have e2 : (4 : Int) < n := by omega
      clear HC HAO HZ
      unfold errV
      go_wp2_with fail
      refine (num_err 1 _ (HE.out.below KC)).mono ?_
      rintro e y0 ⟨rfl, q0⟩
      have KD := below_tr KC q0
      have S3 := hideQ (S3.out.keep q0)
      clear KC q0
      rcases A3 with ⟨hN, rfl, rfl⟩ | ⟨hN1, hN4, hN, rfl⟩
      · rcases (by omega : N < 1 ∨ (1 ≤ N ∧ 4 < N)) with hN | ⟨hN, hN2⟩
        · unfold errV
          go_wp2_with fail
          refine (num_err 1 _ (HE.out.below KD)).mono ?_
          rintro e y1 ⟨rfl, q1⟩
          go_wp2_with fail
          refine (HSu.out _).mono ?_
          rintro e y2 ⟨rfl, q2⟩
          go_wp2
          go_ret
          exact ⟨rfl, below_tr (below_tr KD q1) q2⟩
        · unfold errV
          go_wp2_with fail
          refine (num_err 1 _ (HE.out.below KD)).mono ?_
          rintro e y1 ⟨rfl, q1⟩
          go_wp2_with fail
          refine (HSu.out _).mono ?_
          rintro e y2 ⟨rfl, q2⟩
          go_wp2
          go_ret
          exact ⟨rfl, below_tr (below_tr KD q1) q2⟩
      · have HEv := hideQ (fun W => deven14 bn W (by omega) (by omega))
        subst hN
        have e3 : ¬ (bn : Int) < 1 := by omega
        have e4 : ¬ (4 : Int) < bn := by omega
        go_wp2_with fail
        refine (HEv.out _).mono ?_
        rintro e y1 ⟨v1, rfl, ow⟩
        obtain ⟨yo, yc, rfl, s4⟩ := ow.sl
        have q1 := ow.below
        have s5 := S3.out.keep q1
        clear ow
        go_wp2_with fail
        refine (nums_yes _ _ _ _ _ _ _ s5 s4).mono ?_
        rintro e y2 ⟨rfl, q2⟩
        go_wp2_with fail
        refine (HSu.out _).mono ?_
        rintro e y3 ⟨rfl, q3⟩
        go_wp2
        go_ret
        exact ⟨rfl, below_tr (below_tr (below_tr KD q1) q2) q3⟩
  · obtain rfl := HAO.out (by omega)
    have e1 : ¬ (n : Int) < 1 := by omega
    have e2 : ¬ (4 : Int) < n := by omega
    obtain ⟨M, hM⟩ : ∃ q, q = mst z n := ⟨_, rfl⟩
    rw [← hM]
    have HM := hideQ hM
    clear hM
    go_wp2
    go_loopw [16, 17] (fun b i wr => ∃ k : Nat, k ≤ n ∧ i = .int .i64 (k : Int) ∧ b = .int .i64 ((mst z k : Nat) : Int) ∧ Below wc.heap.size wc wr) (fun _ i _ => n - (intOf i).toNat)
    case atStart => exact ⟨0, by omega, rfl, rfl, Below.refl _ _⟩
    case round =>
      rename World => wr
      obtain ⟨k, hk, rfl, rfl, Br⟩ := hrel
      by_cases h : k < n
      · have hb := mst_in z hk (by omega)
        have KR := below_tr KC Br
        have ck := keep_cell KR (HC.out k h)
        have cb := keep_cell KR (HC.out (mst z k) hb)
        have HX := hideQ (mst_next z k)
        obtain ⟨bb, hbb⟩ : ∃ q, q = mst z k := ⟨_, rfl⟩
        rw [← hbb] at cb hb HX ⊢
        obtain ⟨zk, hzk⟩ : ∃ q, q = z k := ⟨_, rfl⟩
        obtain ⟨zb, hzb⟩ : ∃ q, q = z bb := ⟨_, rfl⟩
        rw [← hzk] at ck HX
        rw [← hzb] at cb HX
        have kn : (k : Int) < n := by omega
        have bn1 : (bb : Int) < n := by omega
        clear hbb hzk hzb KR
        by_cases c : zb < zk
        · have HY := hideQ (show mst z (k + 1) = k by rw [HX.out, if_pos c])
          go_wp2
          go_quiet (fail)
          go_wp2
          go_roundw
          case rel => exact ⟨k + 1, by omega, by go_num, by rw [HY.out], Vc.below_drewN Br _⟩
          case measure => simp [intOf]; omega
        · have HY := hideQ (show mst z (k + 1) = bb by rw [HX.out, if_neg c])
          go_wp2
          go_quiet (fail)
          go_wp2
          go_roundw
          case rel => exact ⟨k + 1, by omega, by go_num, by rw [HY.out], Vc.below_drewN Br _⟩
          case measure => simp [intOf]; omega
      · obtain rfl : n = k := by omega
        rw [← HM.out]
        have KD := below_tr KC Br
        have S3 := hideQ (S3.out.keep Br)
        clear KC Br HC HAO HZ HM
        rcases A3 with ⟨hN, rfl, rfl⟩ | ⟨hN1, hN4, hN, rfl⟩
        · rcases (by omega : N < 1 ∨ (1 ≤ N ∧ 4 < N)) with hN | ⟨hN, hN2⟩
          · unfold errV
            go_wp2_with fail
            refine (num_err 1 _ (HE.out.below KD)).mono ?_
            rintro e y1 ⟨rfl, q1⟩
            go_wp2_with fail
            refine (HSu.out _).mono ?_
            rintro e y2 ⟨rfl, q2⟩
            go_wp2
            go_ret
            exact ⟨rfl, below_tr (below_tr KD q1) q2⟩
          · unfold errV
            go_wp2_with fail
            refine (num_err 1 _ (HE.out.below KD)).mono ?_
            rintro e y1 ⟨rfl, q1⟩
            go_wp2_with fail
            refine (HSu.out _).mono ?_
            rintro e y2 ⟨rfl, q2⟩
            go_wp2
            go_ret
            exact ⟨rfl, below_tr (below_tr KD q1) q2⟩
        · have HEv := hideQ (fun W => deven14 bn W (by omega) (by omega))
          subst hN
          have e3 : ¬ (bn : Int) < 1 := by omega
          have e4 : ¬ (4 : Int) < bn := by omega
          go_wp2_with fail
          refine (HEv.out _).mono ?_
          rintro e y1 ⟨v1, rfl, ow⟩
          obtain ⟨yo, yc, rfl, s4⟩ := ow.sl
          have q1 := ow.below
          have s5 := S3.out.keep q1
          clear ow
          go_wp2_with fail
          refine (nums_yes _ _ _ _ _ _ _ s5 s4).mono ?_
          rintro e y2 ⟨rfl, q2⟩
          go_wp2_with fail
          refine (HSu.out _).mono ?_
          rintro e y3 ⟨rfl, q3⟩
          go_wp2
          go_ret
          exact ⟨rfl, below_tr (below_tr (below_tr KD q1) q2) q3⟩

theorem cof_walk (P : Pkg) : FChanceOf.Walk := by
  intro a0 len0 cap0 z0 fl N w h0 hf hN hE
  obtain ⟨s0, b0⟩ := isrowO h0
  have b1 := bounds_i64 hf
  have b2 := bounds_i64 hN
  exact cof_any P a0 len0 cap0 _ fl N w s0 b0 b1.1 b1.2 b2.1 b2.2 hE
end Go.Proofs.YtlomfjacgomhdaaDoor
