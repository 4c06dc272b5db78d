/-
  Matrices (mat): a copy of numbers, Check.
-/
import Derived.Test.YtfgjigkgfflofaaDoorRMtB
import Derived.Deep.DeepMust
set_option linter.unusedSimpArgs false
set_option linter.unusedVariables false
namespace Go.Proofs.YtfgjigkgfflofaaDoorR
open Go.RowKit Vc Mt

namespace Mt
/-- It lies from block B on. -/
def Fresh (B : Nat) (ao : Option Addr) : Prop := ∀ x, ao = some x → B ≤ x.block

theorem own_fresh {B : Nat} {w0 w : World} {v : Value} {n : Nat} {z : Nat → Int} (h : Own B w0 w v n z) : ∃ ao ca, v = .slice ao n ca ∧ Sl w ao n ca z ∧ Fresh B ao := by
  obtain ⟨ao, ca, rfl, hs⟩ := h.sl
  refine ⟨ao, ca, rfl, hs, fun x hx => ?_⟩
  subst hx
  exact (h.row.lt _ rfl).1

theorem own_whole {B : Nat} {w0 w : World} {g n : Nat} {z : Nat → Int} (h : Own B w0 w (.slice (some ⟨g, 0, none⟩) n n) n z) : w.heap[g]? = some (.cells (vals n z).toArray 2 (0, 0)) := by
  obtain ⟨h1, h2⟩ := h.row
  rcases h2 with ⟨e, _⟩ | ⟨g', cap, cur, e, hb, hg, hn, hc, hs, ht⟩
  · cases e
  · injection e with e1 e2 e3
    injection e1 with e1
    injection e1 with e1
    subst e1 e3
    have e4 : cur.toList = vals n z := by
      rw [← ht, List.take_of_length_le (by simp; omega)]
    rw [hg, ← e4]

theorem own_of_whole {B : Nat} {w0 w : World} {g n : Nat} {z : Nat → Int} (h : w.heap[g]? = some (.cells (vals n z).toArray 2 (0, 0))) (hb : Below B w0 w) (hg : B ≤ g) (hn : n ≤ maxLen) : Own B w0 w (.slice (some ⟨g, 0, none⟩) n n) n z := by
  have hlt : g < w.heap.size := by
    rcases Nat.lt_or_ge g w.heap.size with k | k
    · exact k
    · rw [Array.getElem?_eq_none k] at h; cases h
  refine ⟨⟨by simp [vals_len], Or.inr ⟨g, n, _, rfl, hg, h, Nat.le_refl _, hn, by simp [vals_len], ?_⟩⟩, hb, by omega⟩
  exact List.take_of_length_le (by simp [vals_len])

theorem splice_all (n : Nat) (z y : Nat → Int) : splice (vals n z) 0 (vals n y) = vals n y := by
  unfold splice
  rw [List.take_zero, List.nil_append, Nat.zero_add, vals_len, List.drop_eq_nil_of_le (by rw [vals_len]; exact Nat.le_refl _), List.append_nil]
theorem one_vals (n : Nat) (z : Nat → Int) : ∀ v ∈ vals n z, v.oneCell' = true := by
  intro v hv
  simp only [vals, List.mem_map] at hv
  obtain ⟨d, _, rfl⟩ := hv
  rfl
theorem Sl.src {w : World} {ao : Option Addr} {n ca : Nat} {z : Nat → Int} (h : Sl w ao n ca z) (h0 : 0 < n) : ∃ ad, ao = some ad ∧ ∀ j v, (vals n z)[j]? = some v → w.cell? (ad.add j) = some v := by
  obtain ⟨x, hx, hc⟩ := h.get
  refine ⟨x, hx h0, fun j v hv => ?_⟩
  have hj : j < n := by
    rcases Nat.lt_or_ge j n with k | k
    · exact k
    · rw [List.getElem?_eq_none (by rw [vals_len]; exact k)] at hv; cases hv
  rw [vals_at hj] at hv
  rw [hc j hj]
  exact hv
theorem sizeI64 : (Tryd.prog.info? 2).map (·.size) = some 1 := by kernel_rfl
end Mt

set_option maxRecDepth 10000 in
set_option maxHeartbeats 1000000 in
theorem copied_any (ao : Option Addr) (n ca : Nat) (z : Nat → Int) (w : World) (h : Sl w ao n ca z) (hn : n ≤ 36) :
    Calls Tryd.prog 65 #[.slice ao n ca] w fun e w' => ∃ co cc, e = .returned (.slice co n cc) ∧ Sl w' co n cc z ∧ Fresh w.heap.size co ∧ Below w.heap.size w w' := by
  have h1 := h.le
  have h2 := h.cap
  have HS := Hid.mkV h
  clear h
  obtain ⟨i0, hi, hz0, hz1, hz2⟩ := info_parts infoI64
  go_enter Tryd.func65, Tryd.ntmps65
  go_wp2_with (at_make; refine wpList_make_full _ rfl _ _ 22 rfl w.heap.size 2 i0 (.int .i64 0) 1 Tryd.underlying22 hi hz0 hz1 _ _ _ _ n rfl rfl (by omega) (by omega) (by rw [hz2]; omega) (by unfold maxLen; omega) (Nat.le_refl _) ?_)
  intro w0 hown0 hgrow0
  have hO0 := own_made hown0 hgrow0 (Nat.le_refl _)
  have hW := Hid.mkV (own_whole hO0)
  have hB := hO0.below
  have HS0 := Hid.mkV (HS.out.keep hB)
  clear hown0 hgrow0 hO0
  obtain ⟨Y, hY⟩ : ∃ Y, Y = vals n z := ⟨_, rfl⟩
  obtain ⟨Z0, hZ0⟩ : ∃ Z0, Z0 = vals n (fun _ => 0) := ⟨_, rfl⟩
  rw [← hZ0] at hW
  have HY := Hid.mkV hY
  have HZ := Hid.mkV hZ0
  clear hY hZ0
  go_wp2_with (refine wpList_copy_splice rfl (.tmp 7) (.tmp 8) 22 22 rfl 2 Tryd.underlying22 sizeI64 _ _ _ _ _ _ rfl rfl w.heap.size 0 Z0 2 hW.out Y (by rw [HY.out, vals_len]; exact (Nat.min_self n).symm) (fun h0 => ⟨rfl, by rw [HY.out] at h0 ⊢; exact Sl.src HS0.out (by rwa [vals_len] at h0)⟩) (by rw [HY.out, HZ.out, vals_len, vals_len]; omega) (by rw [HY.out]; exact one_vals n z) w.heap.size w hB (Nat.le_refl _) ?_)
  intro w2 hw2 hB2
  have hO2 : Own w.heap.size w w2 (.slice (some ⟨w.heap.size, 0, none⟩) n n) n z := by
    have e := hw2.out
    rw [HY.out, HZ.out, splice_all] at e
    exact own_of_whole e hB2 (Nat.le_refl _) (by unfold maxLen; omega)
  clear hw2
  go_wp2
  go_ret
  obtain ⟨co, cc, e1, e2, e3⟩ := own_fresh hO2
  cases e1
  exact ⟨_, _, rfl, e2, e3, hB2⟩

namespace Mt
theorem run_tail (b p : Nat) (h : p ≤ 36) : ∃ o, (p < 36 → o = p + 2) ∧ ∀ w : World, (Instr.sliceAt 23 (.pointer (some ⟨b, 2, none⟩)) (some (.int .i64 (p : Int))) none none).run Tryd.prog w = .ok (.slice (some ⟨b, o, none⟩) (36 - p) (36 - p)) w := by
  by_cases e : p = 36
  · refine ⟨2, fun h => by omega, fun w => ?_⟩
    rw [run_sliceAt_array_l w 23 _ Tryd.arrM .i64 _ (by omega) (by rw [Tryd.lenM]; omega), Tryd.elemM, run_size8, Tryd.lenM]
    simp only [Result.andThen_ok, slicedAt, Int.toNat_natCast, Nat.mul_one]
    rw [if_pos (by omega)]
  · refine ⟨p + 2, fun _ => rfl, fun w => ?_⟩
    rw [run_sliceAt_array_l w 23 _ Tryd.arrM .i64 _ (by omega) (by rw [Tryd.lenM]; omega), Tryd.elemM, run_size8, Tryd.lenM]
    simp only [Result.andThen_ok, slicedAt, Int.toNat_natCast, Nat.mul_one]
    rw [if_neg (by omega), Addr.add_lit, Nat.add_comm 2 p]
end Mt

set_option maxRecDepth 10000 in
set_option maxHeartbeats 1000000 in
theorem check_yes (n m : Nat) (z : Nat → Int) (w : World) (h1 : 1 ≤ n) (h2 : n ≤ 6) (h3 : 1 ≤ m) (h4 : m ≤ 6) (h0 : ∀ k, n * m ≤ k → k < 36 → z k = 0) :
    Calls Tryd.prog 61 #[.agg (mvals n m z).toArray] w fun e w' => e = .returned .nilIface ∧ Below w.heap.size w w' := by
  have rA := mrow_new w n m z
  have hB := below_al (Below.refl _ w) (.cells (mvals n m z).toArray 57)
  obtain ⟨W, hW⟩ : ∃ W, W = w.alloc (.cells (mvals n m z).toArray 57) := ⟨_, rfl⟩
  rw [← hW] at rA hB
  obtain ⟨g, hg⟩ : ∃ g, g = w.heap.size := ⟨_, rfl⟩
  rw [← hg] at rA
  have c0 := rA.rows
  have c1 := rA.cols
  have HR := Hid.mkV rA
  have hp36 := size_le h2 h4
  obtain ⟨p, hp⟩ : ∃ p, p = n * m := ⟨_, rfl⟩
  rw [← hp] at h0 hp36
  have e1 : IntKind.i64.wrap ((n : Int) * (m : Int)) = (p : Int) := by
    have : ((n * m : Nat) : Int) = (n : Int) * (m : Int) := by push_cast; rfl
    rw [← this, ← hp, IntKind.wrap_i64]; omega
  obtain ⟨o, ho, e2⟩ := run_tail g p hp36
  have HO := Hid.mkV ho
  have H0 := Hid.mkV h0
  have HS := Hid.mkV (size_yes n m W h1 h2 h3 h4)
  have HW := Hid.mkV hW
  have HG := Hid.mkV hg
  clear hp rA h0 ho hW hg
  go_enter Tryd.func61, Tryd.ntmps61
  go_wp2_with (first
    | (rw [← HW.out, ← HG.out]; refine wpList_loadF (by rfl) _ (by rfl) _ _ _ (by rfl) (by with_reducible exact c0) ?_)
    | fail)
  refine HS.out.mono ?_
  rintro e w' ⟨rfl, rfl⟩
  go_wp2
  go_loopw [20] (fun i wr => ∃ k : Nat, k ≤ 36 - p ∧ i = .int .i64 (k : Int) ∧ wr = w') (fun i _ => (36 - p) - (intOf i).toNat)
  case atStart => exact ⟨0, by omega, rfl, rfl⟩
  case round =>
    obtain ⟨k, hk, rfl, rfl⟩ := hrel
    by_cases h : k < 36 - p
    · have cc := HR.out.cell (show p + k < 36 by omega) (show o + k = p + k + 2 by have := HO.out (by omega); omega)
      rw [H0.out (p + k) (by omega) (by omega)] at cc
      go_wp2
      go_roundw
      case rel => exact ⟨k + 1, by omega, by go_num, trivial⟩
      case measure => simp [intOf]; omega
    · obtain rfl : k = 36 - p := by omega
      go_wp2
      go_ret
      exact ⟨rfl, hB⟩

set_option maxRecDepth 10000 in
set_option maxHeartbeats 1000000 in
theorem check_size (r c : Int) (z : Nat → Int) (w : World) (h : ¬ (1 ≤ r ∧ r ≤ 6 ∧ 1 ≤ c ∧ c ≤ 6)) :
    Calls Tryd.prog 61 #[.agg (mvals r c z).toArray] w fun e w' => e = .returned (.iface 39 (.int .i64 1)) ∧ Below w.heap.size w w' := by
  have rA := mrow_new w r c z
  have hB := below_al (Below.refl _ w) (.cells (mvals r c z).toArray 57)
  obtain ⟨W, hW⟩ : ∃ W, W = w.alloc (.cells (mvals r c z).toArray 57) := ⟨_, rfl⟩
  rw [← hW] at rA hB
  obtain ⟨g, hg⟩ : ∃ g, g = w.heap.size := ⟨_, rfl⟩
  rw [← hg] at rA
  have c0 := rA.rows
  have c1 := rA.cols
  have HW := Hid.mkV hW
  have HG := Hid.mkV hg
  have HS := Hid.mkV (size_no r c W h)
  clear rA hW hg h
  go_enter Tryd.func61, Tryd.ntmps61
  go_wp2_with (first
    | (rw [← HW.out, ← HG.out]; refine wpList_loadF (by rfl) _ (by rfl) _ _ _ (by rfl) (by with_reducible exact c0) ?_)
    | fail)
  refine HS.out.mono ?_
  rintro e w' ⟨rfl, rfl⟩
  go_wp2
  go_ret
  exact ⟨rfl, hB⟩

set_option maxRecDepth 10000 in
set_option maxHeartbeats 1000000 in
/-- The number at place q, behind the last, is the first that is not 0. -/
theorem check_nz (n m q : Nat) (z : Nat → Int) (w : World) (h1 : 1 ≤ n) (h2 : n ≤ 6) (h3 : 1 ≤ m) (h4 : m ≤ 6) (hq0 : n * m ≤ q) (hq : q < 36) (hz : z q ≠ 0) (h0 : ∀ k, n * m ≤ k → k < q → z k = 0) :
    Calls Tryd.prog 61 #[.agg (mvals n m z).toArray] w fun e w' => e = .returned (.iface 39 (.int .i64 1)) ∧ Below w.heap.size w w' := by
  have rA := mrow_new w n m z
  have hB := below_al (Below.refl _ w) (.cells (mvals n m z).toArray 57)
  obtain ⟨W, hW⟩ : ∃ W, W = w.alloc (.cells (mvals n m z).toArray 57) := ⟨_, rfl⟩
  rw [← hW] at rA hB
  obtain ⟨g, hg⟩ : ∃ g, g = w.heap.size := ⟨_, rfl⟩
  rw [← hg] at rA
  have c0 := rA.rows
  have c1 := rA.cols
  have HR := Hid.mkV rA
  have hp36 := size_le h2 h4
  obtain ⟨p, hp⟩ : ∃ p, p = n * m := ⟨_, rfl⟩
  rw [← hp] at h0 hp36 hq0
  have e1 : IntKind.i64.wrap ((n : Int) * (m : Int)) = (p : Int) := by
    have : ((n * m : Nat) : Int) = (n : Int) * (m : Int) := by push_cast; rfl
    rw [← this, ← hp, IntKind.wrap_i64]; omega
  obtain ⟨o, ho, e2⟩ := run_tail g p hp36
  have HO := Hid.mkV ho
  have H0 := Hid.mkV h0
  have HZ := Hid.mkV hz
  have HS := Hid.mkV (size_yes n m W h1 h2 h3 h4)
  have HW := Hid.mkV hW
  have HG := Hid.mkV hg
  clear hp rA h0 ho hW hg hz
  go_enter Tryd.func61, Tryd.ntmps61
  go_wp2_with (first
    | (rw [← HW.out, ← HG.out]; refine wpList_loadF (by rfl) _ (by rfl) _ _ _ (by rfl) (by with_reducible exact c0) ?_)
    | fail)
  refine HS.out.mono ?_
  rintro e w' ⟨rfl, rfl⟩
  go_wp2
  go_loopw [20] (fun i wr => ∃ k : Nat, k ≤ q - p ∧ i = .int .i64 (k : Int) ∧ wr = w') (fun i _ => (36 - p) - (intOf i).toNat)
  case atStart => exact ⟨0, by omega, rfl, rfl⟩
  case round =>
    obtain ⟨k, hk, rfl, rfl⟩ := hrel
    have cc := HR.out.cell (show p + k < 36 by omega) (show o + k = p + k + 2 by have := HO.out (by omega); omega)
    by_cases h : k < q - p
    · rw [H0.out (p + k) (by omega) (by omega)] at cc
      go_wp2
      go_roundw
      case rel => exact ⟨k + 1, by omega, by go_num, trivial⟩
      case measure => simp [intOf]; omega
    · have hh := HZ.out
      rw [show q = p + k by omega] at hh
      obtain ⟨x, hx⟩ : ∃ x, x = z (p + k) := ⟨_, rfl⟩
      rw [← hx] at hh cc
      have e4 : (x != 0) = true := by rw [bne_iff_ne]; exact hh
      clear hh hx
      go_wp2
      go_ret
      exact ⟨rfl, hB⟩

namespace Mt
theorem first_nz (z : Nat → Int) (p : Nat) : ∀ t, (∀ k, p ≤ k → k < t → z k = 0) ∨ ∃ q, p ≤ q ∧ q < t ∧ z q ≠ 0 ∧ ∀ k, p ≤ k → k < q → z k = 0
  | 0 => Or.inl fun k _ hk => by omega
  | t + 1 => by
    rcases first_nz z p t with h | ⟨q, h1, h2, h3, h4⟩
    · by_cases c : p ≤ t ∧ z t ≠ 0
      · exact Or.inr ⟨t, c.1, by omega, c.2, h⟩
      · refine Or.inl fun k hp hk => ?_
        rcases Nat.lt_or_ge k t with d | d
        · exact h k hp d
        · obtain rfl : k = t := by omega
          exact Classical.byContradiction fun e => c ⟨hp, e⟩
    · exact Or.inr ⟨q, h1, by omega, h3, h4⟩
end Mt

theorem check_may {r c : Int} {z : Nat → Int} (w : World) (h : May r c z) : Calls Tryd.prog 61 #[.agg (mvals r c z).toArray] w fun e w' => e = .returned .nilIface ∧ Below w.heap.size w w' := by
  obtain ⟨n, m, rfl, rfl, h1, h2, h3, h4, h5⟩ := h
  exact check_yes n m z w h1 h2 h3 h4 h5

theorem check_not {r c : Int} {z : Nat → Int} (w : World) (h : ¬ May r c z) : Calls Tryd.prog 61 #[.agg (mvals r c z).toArray] w fun e w' => e = .returned (.iface 39 (.int .i64 1)) ∧ Below w.heap.size w w' := by
  by_cases hs : 1 ≤ r ∧ r ≤ 6 ∧ 1 ≤ c ∧ c ≤ 6
  · obtain ⟨n, rfl⟩ : ∃ n : Nat, r = n := ⟨r.toNat, by omega⟩
    obtain ⟨m, rfl⟩ : ∃ m : Nat, c = m := ⟨c.toNat, by omega⟩
    rcases first_nz z (n * m) 36 with h0 | ⟨q, h1, h2, h3, h4⟩
    · exact absurd ⟨n, m, rfl, rfl, by omega, by omega, by omega, by omega, h0⟩ h
    · exact check_nz n m q z w (by omega) (by omega) (by omega) (by omega) h1 h2 h3 h4
  · exact check_size r c z w hs

end Go.Proofs.YtfgjigkgfflofaaDoorR
