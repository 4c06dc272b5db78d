/-
  Matrices (mat): Of, Turn, or their errors.
-/
import Derived.Test.YtfgjigkgfflofaaDoorRMtE
set_option linter.unusedSimpArgs false
set_option linter.unusedVariables false
namespace Go.Proofs.YtfgjigkgfflofaaDoorR
open Go.RowKit Vc Mt

namespace Mt
theorem splice_mvals (r c : Int) (z y : Nat → Int) (p m : Nat) (h : p + m ≤ 36) : splice (mvals r c z) (p + 2) (vals m y) = mvals r c (fun k => if p ≤ k ∧ k < p + m then y (k - p) else z k) := by
  apply List.ext_getElem?
  intro i
  unfold splice
  rw [vals_len]
  have hl : (mvals r c z).length = 38 := mvals_len r c z
  match i with
  | 0 => simp [mvals, List.getElem?_append]
  | 1 => simp [mvals, List.getElem?_append]
  | i + 2 =>
    by_cases h1 : i < p
    · rw [List.getElem?_append_left (by rw [List.length_take, hl]; omega), List.getElem?_take, if_pos (by omega), mvals_at (by omega), mvals_at (by omega), if_neg (by omega)]
    · rw [List.getElem?_append_right (by rw [List.length_take, hl]; omega), List.length_take, hl]
      by_cases h2 : i < p + m
      · rw [List.getElem?_append_left (by rw [vals_len]; omega), show i + 2 - min (p + 2) 38 = i - p by omega, vals_at (by omega), mvals_at (by omega), if_pos ⟨by omega, h2⟩]
      · rw [List.getElem?_append_right (by rw [vals_len]; omega), vals_len, List.getElem?_drop, show p + 2 + m + (i + 2 - min (p + 2) 38 - m) = i + 2 by omega]
        by_cases h3 : i < 36
        · rw [mvals_at h3, mvals_at h3, if_neg (by omega)]
        · rw [List.getElem?_eq_none (by rw [mvals_len]; omega), List.getElem?_eq_none (by rw [mvals_len]; omega)]

theorem mpart_row {c i : Nat} {F : Nat → Nat → Int} (k : Nat) : (if i * c ≤ k ∧ k < i * c + c then F i (k - i * c) else mpart c F (i * c) k) = mpart c F ((i + 1) * c) k := by
  unfold mpart
  rw [Nat.succ_mul]
  by_cases h1 : k < i * c
  · rw [if_neg (by omega), if_pos h1, if_pos (by omega)]
  · by_cases h2 : k < i * c + c
    · rw [if_pos ⟨by omega, h2⟩, if_pos h2]
      have e : k = i * c + (k - i * c) := by omega
      rw [show F (k / c) (k % c) = F ((i * c + (k - i * c)) / c) ((i * c + (k - i * c)) % c) by rw [← e], place_div (by omega), place_mod (by omega)]
    · rw [if_neg (by omega), if_neg h1, if_neg h2]
end Mt

set_option maxRecDepth 10000 in
set_option maxHeartbeats 2000000 in
theorem mof_any (n m : Nat) (lo : Option Addr) (cm : Nat) (A : Nat → Option Addr) (C : Nat → Nat) (Z : Nat → Nat → Int) (w : World) (h1 : 1 ≤ n) (h2 : n ≤ 6) (h3 : 1 ≤ m) (h4 : m ≤ 6) (h : Sls w lo n cm A (fun _ => m) C) (hz : ∀ k, k < n → Sl w (A k) m (C k) (Z k)) :
    Calls Tryd.prog 44 #[.slice lo n cm] w fun e w' => e = .returned (.tuple #[.agg (mvals n m (mz n m Z)).toArray, .nilIface]) ∧ Below w.heap.size w w' := by
  obtain ⟨x, hlo, hc⟩ := h.get
  obtain rfl := hlo (by omega)
  have l1 := h.le
  have l2 := h.cap
  have rA := mrow_new w 0 0 (fun _ => 0)
  have hB := below_al (Below.refl _ w) (.cells (mvals 0 0 (fun _ => 0)).toArray 57)
  obtain ⟨W, hW⟩ : ∃ W, W = w.alloc (.cells (mvals 0 0 (fun _ => 0)).toArray 57) := ⟨_, rfl⟩
  have hsz : W.heap.size = w.heap.size + 1 := by rw [hW]; simp
  rw [← hW] at rA hB
  have c0 : W.cell? x = some (.slice (A 0) m (C 0)) := keep_cell hB (hc 0 (by omega))
  have HW := Hid.mkV hW
  have HC := Hid.mkV hc
  have HZ := Hid.mkV hz
  have HS := Hid.mkV (size_yes n m W h1 h2 h3 h4)
  have h36 := size_le h2 h4
  have rN := mrow_new W 0 0 (fun _ => 0)
  have rR := rA.alloc (.cells (mvals 0 0 (fun _ => 0)).toArray 57)
  have hBN := below_al hB (.cells (mvals 0 0 (fun _ => 0)).toArray 57)
  have en : ((n : Int) == 0) = false := beq_eq_false_iff_ne.2 (by omega)
  obtain ⟨g, hg⟩ : ∃ g, g = W.heap.size := ⟨_, rfl⟩
  rw [← hg] at rN
  have hwg : w.heap.size < g := by omega
  have HG := Hid.mkV hg
  clear hW hc hz h hlo hg hsz
  go_enter Tryd.func44, Tryd.ntmps44
  go_wp2_with (first
    | (rw [zeroM, ← HW.out])
    | fail)
  refine HS.out.mono ?_
  rintro e w' ⟨rfl, rfl⟩
  go_wp2_with (first
    | (refine wpList_build2 rfl _ _ (by rfl) _ _ (by rfl) (by rfl) ?_)
    | (rw [zeroM, ← HG.out]; refine wpList_storeM rfl _ _ (by rfl) _ _ _ _ _ _ _ (by rfl) (by rfl) (by with_reducible exact rN) ?_)
    | fail)
  go_loopw [31] (fun i wr => ∃ k : Nat, k ≤ n ∧ i = .int .i64 (k : Int) ∧ MRow wr g n m (mpart m Z (k * m)) ∧ MRow wr w.heap.size 0 0 (fun _ => 0) ∧ Below w.heap.size w wr) (fun i _ => n - (intOf i).toNat)
  case atStart => exact ⟨0, by omega, rfl, (rN.row _ _ _).congr (fun k _ => by rw [Nat.zero_mul, mpart_zero]), rR.rowOther (by omega) _, below_row hBN (by omega) _⟩
  case round =>
    obtain ⟨k, hk, rfl, rG, rR1, kB⟩ := hrel
    by_cases h : k < n
    · have c1 := keep_cell kB (HC.out k h)
      have cm1 := rG.cols
      have sZ := (HZ.out k h).keep kB
      obtain ⟨p, hp⟩ : ∃ p, p = k * m := ⟨_, rfl⟩
      rw [← hp] at rG
      have hpl : p + m ≤ n * m := by rw [hp]; exact place_le h
      have HP := Hid.mkV hp
      have l3 := sZ.le
      have l4 := sZ.cap
      have HSZ := Hid.mkV sZ
      obtain ⟨ak, hak⟩ : ∃ ak, ak = A k := ⟨_, rfl⟩
      obtain ⟨ck, hck⟩ : ∃ ck, ck = C k := ⟨_, rfl⟩
      rw [← hak, ← hck] at HSZ c1
      rw [← hck] at l3 l4
      clear hp sZ hak hck
      go_wp2_with fail
      refine (row_any g k m p n _ _ rG HP.out h4 (by omega) (by omega) (by omega)).mono ?_
      rintro e w3 ⟨rfl, k3⟩
      have r3 := rG.keep k3
      have q3 := rR1.keep k3
      have B3 := below_tr kB k3
      have S3 := Hid.mkV (HSZ.out.keep k3)
      obtain ⟨Y, hY⟩ : ∃ Y, Y = vals m (Z k) := ⟨_, rfl⟩
      obtain ⟨X, hX⟩ : ∃ X, X = mvals n m (mpart m Z p) := ⟨_, rfl⟩
      have r3' := Hid.mkV r3
      have hg3 : Hid (w3.heap[g]? = some (.cells X.toArray 57 (0, 0))) := by rw [hX]; exact r3
      have HY := Hid.mkV hY
      have HX := Hid.mkV hX
      have Q3 := Hid.mkV q3
      have BB3 := Hid.mkV B3
      clear hY hX rG rR1 kB r3 q3 B3
      go_wp2_with (refine wpList_copy_splice rfl _ _ 22 22 (by rfl) 2 Tryd.underlying22 sizeI64 _ _ _ _ _ _ (by rfl) (by rfl) g (p + 2) X 57 hg3.out Y (by rw [HY.out, vals_len]; exact (Nat.min_self m).symm) (fun h0 => ⟨rfl, by rw [HY.out] at h0 ⊢; exact Sl.src S3.out (by rwa [vals_len] at h0)⟩) (by rw [HY.out, HX.out, vals_len, mvals_len]; omega) (by rw [HY.out]; exact one_vals m _) g w3 (Below.refl _ _) (Nat.le_refl _) ?_)
      intro w4 hw4 hB4
      have r4 : MRow w4 g n m (mpart m Z ((k + 1) * m)) := by
        have e := hw4.out
        rw [HY.out, HX.out, splice_mvals _ _ _ _ p m (by omega)] at e
        exact (show MRow w4 g n m _ from e).congr (fun i _ => by rw [HP.out]; exact mpart_row i)
      have q4 : MRow w4 w.heap.size 0 0 (fun _ => 0) := by
        unfold MRow
        rw [hB4.block _ hwg]
        exact Q3.out
      have B4 : Below w.heap.size w w4 := BB3.out.trans (hB4.mono (by omega))
      clear hw4 hB4
      go_wp2
      go_roundw
      case rel => exact ⟨k + 1, by omega, by go_num, r4, q4, B4⟩
      case measure => simp [intOf]; omega
    · obtain rfl : k = n := by omega
      go_wp2_with (first
        | (refine wpList_loadM (by rfl) _ (by rfl) _ _ _ _ (by rfl) (by with_reducible exact rG) ?_)
        | (refine wpList_storeM rfl _ _ (by rfl) _ _ _ _ _ _ _ (by rfl) (by rfl) (by with_reducible exact rR1) ?_)
        | fail)
      exact bodyPost_ret (results_M2 Tryd.results44 _ _ w.heap.size _ _ _ rfl (rR1.row _ _ _)) rfl ⟨rfl, below_row kB (Nat.le_refl _) _⟩

set_option maxRecDepth 10000 in
set_option maxHeartbeats 1000000 in
theorem mof_nil (lo : Option Addr) (cm : Nat) (w : World) :
    Calls Tryd.prog 44 #[.slice lo 0 cm] w fun e w' => e = .returned (.tuple #[.agg (mvals 0 0 (fun _ => 0)).toArray, .iface 39 (.int .i64 1)]) ∧ Below w.heap.size w w' := by
  have rA := mrow_new w 0 0 (fun _ => 0)
  have hB := below_al (Below.refl _ w) (.cells (mvals 0 0 (fun _ => 0)).toArray 57)
  go_enter Tryd.func44, Tryd.ntmps44
  go_wp2_with (first
    | (refine wpList_build0 rfl (by rfl) ?_)
    | (rw [zeroM]; refine wpList_storeM rfl _ _ (by rfl) _ _ _ _ _ _ _ (by rfl) (by rfl) (by with_reducible exact rA) ?_)
    | fail)
  exact bodyPost_ret (results_M2 Tryd.results44 _ _ w.heap.size _ _ _ rfl (rA.row _ _ _)) rfl ⟨rfl, below_row hB (Nat.le_refl _) _⟩

set_option maxRecDepth 10000 in
set_option maxHeartbeats 1000000 in
theorem mof_size (n : Nat) (lo : Option Addr) (cm : Nat) (A : Nat → Option Addr) (L C : Nat → Nat) (w : World) (h1 : 1 ≤ n) (h : Sls w lo n cm A L C) (hL : L 0 ≤ 9223372036854775807) (hbad : ¬ (n ≤ 6 ∧ 1 ≤ L 0 ∧ L 0 ≤ 6)) :
    Calls Tryd.prog 44 #[.slice lo n cm] w fun e w' => e = .returned (.tuple #[.agg (mvals 0 0 (fun _ => 0)).toArray, .iface 39 (.int .i64 1)]) ∧ Below w.heap.size w w' := by
  obtain ⟨x, hlo, hc⟩ := h.get
  obtain rfl := hlo (by omega)
  have l1 := h.le
  have l2 := h.cap
  have rA := mrow_new w 0 0 (fun _ => 0)
  have hB := below_al (Below.refl _ w) (.cells (mvals 0 0 (fun _ => 0)).toArray 57)
  obtain ⟨W, hW⟩ : ∃ W, W = w.alloc (.cells (mvals 0 0 (fun _ => 0)).toArray 57) := ⟨_, rfl⟩
  rw [← hW] at rA hB
  obtain ⟨m, hm⟩ : ∃ m, m = L 0 := ⟨_, rfl⟩
  have c0 : W.cell? x = some (.slice (A 0) (L 0) (C 0)) := keep_cell hB (hc 0 (by omega))
  rw [← hm] at hbad hL c0
  have HW := Hid.mkV hW
  have HS := Hid.mkV (size_no n m W (by omega))
  have en : ((n : Int) == 0) = false := beq_eq_false_iff_ne.2 (by omega)
  clear hW hc h hlo hm hbad
  go_enter Tryd.func44, Tryd.ntmps44
  go_wp2_with (first
    | (rw [zeroM, ← HW.out])
    | fail)
  refine HS.out.mono ?_
  rintro e w' ⟨rfl, rfl⟩
  go_wp2_with (first
    | (refine wpList_build0 rfl (by rfl) ?_)
    | (refine wpList_storeM rfl _ _ (by rfl) _ _ _ _ _ _ _ (by rfl) (by rfl) (by with_reducible exact rA) ?_)
    | fail)
  exact bodyPost_ret (results_M2 Tryd.results44 _ _ w.heap.size _ _ _ rfl (rA.row _ _ _)) rfl ⟨rfl, below_row hB (Nat.le_refl _) _⟩

set_option maxRecDepth 10000 in
set_option maxHeartbeats 2000000 in
/-- Row q is the first that has not as many numbers as the first one. -/
theorem mof_other (n m q : Nat) (lo : Option Addr) (cm : Nat) (A : Nat → Option Addr) (L C : Nat → Nat) (Z : Nat → Nat → Int) (w : World) (h1 : 1 ≤ n) (h2 : n ≤ 6) (h3 : 1 ≤ m) (h4 : m ≤ 6) (h : Sls w lo n cm A L C) (hz : ∀ k, k < n → Sl w (A k) (L k) (C k) (Z k))
    (hm : L 0 = m) (hq : q < n) (hbad : L q ≠ m) (hok : ∀ k, k < q → L k = m) :
    Calls Tryd.prog 44 #[.slice lo n cm] w fun e w' => e = .returned (.tuple #[.agg (mvals 0 0 (fun _ => 0)).toArray, .iface 39 (.int .i64 1)]) ∧ Below w.heap.size w w' := by
  obtain ⟨x, hlo, hc⟩ := h.get
  obtain rfl := hlo (by omega)
  have l1 := h.le
  have l2 := h.cap
  have rA := mrow_new w 0 0 (fun _ => 0)
  have hB := below_al (Below.refl _ w) (.cells (mvals 0 0 (fun _ => 0)).toArray 57)
  obtain ⟨W, hW⟩ : ∃ W, W = w.alloc (.cells (mvals 0 0 (fun _ => 0)).toArray 57) := ⟨_, rfl⟩
  have hsz : W.heap.size = w.heap.size + 1 := by rw [hW]; simp
  rw [← hW] at rA hB
  have c0 : W.cell? x = some (.slice (A 0) m (C 0)) := by rw [← hm]; exact keep_cell hB (hc 0 (by omega))
  have HW := Hid.mkV hW
  have HC := Hid.mkV hc
  have HZ := Hid.mkV hz
  have HOK := Hid.mkV hok
  have HBAD := Hid.mkV hbad
  have HS := Hid.mkV (size_yes n m W h1 h2 h3 h4)
  have h36 := size_le h2 h4
  have rN := mrow_new W 0 0 (fun _ => 0)
  have rR := rA.alloc (.cells (mvals 0 0 (fun _ => 0)).toArray 57)
  have hBN := below_al hB (.cells (mvals 0 0 (fun _ => 0)).toArray 57)
  have en : ((n : Int) == 0) = false := beq_eq_false_iff_ne.2 (by omega)
  obtain ⟨g, hg⟩ : ∃ g, g = W.heap.size := ⟨_, rfl⟩
  rw [← hg] at rN
  have hwg : w.heap.size < g := by omega
  have HG := Hid.mkV hg
  clear hW hc hz h hlo hg hsz hbad hok hm
  go_enter Tryd.func44, Tryd.ntmps44
  go_wp2_with (first
    | (rw [zeroM, ← HW.out])
    | fail)
  refine HS.out.mono ?_
  rintro e w' ⟨rfl, rfl⟩
  go_wp2_with (first
    | (refine wpList_build2 rfl _ _ (by rfl) _ _ (by rfl) (by rfl) ?_)
    | (rw [zeroM, ← HG.out]; refine wpList_storeM rfl _ _ (by rfl) _ _ _ _ _ _ _ (by rfl) (by rfl) (by with_reducible exact rN) ?_)
    | fail)
  go_loopw [31] (fun i wr => ∃ (k : Nat) (z : Nat → Int), k ≤ q ∧ i = .int .i64 (k : Int) ∧ MRow wr g n m z ∧ MRow wr w.heap.size 0 0 (fun _ => 0) ∧ Below w.heap.size w wr) (fun i _ => n - (intOf i).toNat)
  case atStart => exact ⟨0, _, by omega, rfl, rN.row _ _ _, rR.rowOther (by omega) _, below_row hBN (by omega) _⟩
  case round =>
    obtain ⟨k, z, hk, rfl, rG, rR1, kB⟩ := hrel
    have h : k < n := by omega
    have c1 := keep_cell kB (HC.out k h)
    have cm1 := rG.cols
    have sZ := (HZ.out k h).keep kB
    by_cases hkq : k < q
    · rw [HOK.out k hkq] at c1 sZ
      obtain ⟨p, hp⟩ : ∃ p, p = k * m := ⟨_, rfl⟩
      have hpl : p + m ≤ n * m := by rw [hp]; exact place_le h
      have HP := Hid.mkV hp
      have l3 := sZ.le
      have l4 := sZ.cap
      have HSZ := Hid.mkV sZ
      obtain ⟨ak, hak⟩ : ∃ ak, ak = A k := ⟨_, rfl⟩
      obtain ⟨ck, hck⟩ : ∃ ck, ck = C k := ⟨_, rfl⟩
      rw [← hak, ← hck] at HSZ c1
      rw [← hck] at l3 l4
      clear hp sZ hak hck
      go_wp2_with fail
      refine (row_any g k m p n _ _ rG HP.out h4 (by omega) (by omega) (by omega)).mono ?_
      rintro e w3 ⟨rfl, k3⟩
      have r3 := rG.keep k3
      have q3 := rR1.keep k3
      have B3 := below_tr kB k3
      have S3 := Hid.mkV (HSZ.out.keep k3)
      obtain ⟨Y, hY⟩ : ∃ Y, Y = vals m (Z k) := ⟨_, rfl⟩
      obtain ⟨X, hX⟩ : ∃ X, X = mvals n m z := ⟨_, rfl⟩
      have hg3 : Hid (w3.heap[g]? = some (.cells X.toArray 57 (0, 0))) := by rw [hX]; exact r3
      have HY := Hid.mkV hY
      have HX := Hid.mkV hX
      have Q3 := Hid.mkV q3
      have BB3 := Hid.mkV B3
      clear hY hX rG rR1 kB r3 q3 B3
      go_wp2_with (refine wpList_copy_splice rfl _ _ 22 22 (by rfl) 2 Tryd.underlying22 sizeI64 _ _ _ _ _ _ (by rfl) (by rfl) g (p + 2) X 57 hg3.out Y (by rw [HY.out, vals_len]; exact (Nat.min_self m).symm) (fun h0 => ⟨rfl, by rw [HY.out] at h0 ⊢; exact Sl.src S3.out (by rwa [vals_len] at h0)⟩) (by rw [HY.out, HX.out, vals_len, mvals_len]; omega) (by rw [HY.out]; exact one_vals m _) g w3 (Below.refl _ _) (Nat.le_refl _) ?_)
      intro w4 hw4 hB4
      have r4 : ∃ z', MRow w4 g n m z' := by
        have e := hw4.out
        rw [HY.out, HX.out, splice_mvals _ _ _ _ p m (by omega)] at e
        exact ⟨_, e⟩
      obtain ⟨z', r4⟩ := r4
      have q4 : MRow w4 w.heap.size 0 0 (fun _ => 0) := by
        unfold MRow
        rw [hB4.block _ hwg]
        exact Q3.out
      have B4 : Below w.heap.size w w4 := BB3.out.trans (hB4.mono (by omega))
      clear hw4 hB4
      go_wp2
      go_roundw
      case rel => exact ⟨k + 1, z', by omega, by go_num, r4, q4, B4⟩
      case measure => simp [intOf]; omega
    · have hh := HBAD.out
      rw [show q = k by omega] at hh
      have l3 := sZ.le
      have l4 := sZ.cap
      obtain ⟨l, hl⟩ : ∃ l, l = L k := ⟨_, rfl⟩
      rw [← hl] at c1 hh l3
      have e4 : (((l : Nat) : Int) != ((m : Nat) : Int)) = true := by rw [bne_iff_ne]; omega
      clear hl hh sZ
      go_wp2_with (first
        | (refine wpList_build0 rfl (by rfl) ?_)
        | (refine wpList_storeM rfl _ _ (by rfl) _ _ _ _ _ _ _ (by rfl) (by rfl) (by with_reducible exact rR1) ?_)
        | fail)
      exact bodyPost_ret (results_M2 Tryd.results44 _ _ w.heap.size _ _ _ rfl (rR1.row _ _ _)) rfl ⟨rfl, below_row kB (Nat.le_refl _) _⟩

set_option maxRecDepth 10000 in
set_option maxHeartbeats 1000000 in
theorem mturn1_any (n m i j g : Nat) (F : Nat → Nat → Int) (w : World) (h1 : 1 ≤ n) (h2 : n ≤ 6) (h3 : 1 ≤ m) (h4 : m ≤ 6) (hi : i < m) (hj : j < n) (r : MRow w g n m (mz n m F)) :
    Calls Tryd.prog 63 #[.int .i64 (i : Int), .int .i64 (j : Int), .pointer (some ⟨g, 0, none⟩)] w fun e w' => e = .returned (.tuple #[.int .i64 (F j i), .bool false, .nilIface]) ∧ Below w.heap.size w w' := by
  have h36 := size_le h2 h4
  obtain ⟨p, hp⟩ : ∃ p, p = j * m := ⟨_, rfl⟩
  have hpl : p + m ≤ n * m := by rw [hp]; exact place_le hj
  have hF : Hid (mz n m F (p + i) = F j i) := by rw [hp]; exact mz_at hj hi
  have HP := Hid.mkV hp
  clear hp
  go_enter Tryd.func63, Tryd.ntmps63
  go_wp2_with fail
  refine (row_any g j m p n _ _ r HP.out h4 (by omega) (by omega) (by omega)).mono ?_
  rintro e w1 ⟨rfl, k1⟩
  have cc := (r.keep k1).cell (show p + i < 36 by omega) (show p + 2 + i = p + i + 2 by omega)
  rw [hF.out] at cc
  clear r
  go_wp2
  go_ret3
  exact ⟨rfl, k1⟩

set_option maxRecDepth 10000 in
set_option maxHeartbeats 1000000 in
theorem mturn_any (n m : Nat) (F : Nat → Nat → Int) (w : World) (h1 : 1 ≤ n) (h2 : n ≤ 6) (h3 : 1 ≤ m) (h4 : m ≤ 6) :
    Calls Tryd.prog 45 #[.agg (mvals n m (mz n m F)).toArray] w fun e w' => e = .returned (.tuple #[.agg (mvals m n (mz m n (fun i j => F j i))).toArray, .nilIface]) ∧ Below w.heap.size w w' := by
  have rM := (mrow_new w n m (mz n m F)).alloc (.cells (mvals 0 0 (fun _ => 0)).toArray 57)
  have rA := mrow_new1 w (.cells (mvals n m (mz n m F)).toArray 57) 0 0 (fun _ => 0)
  have hB := below_al (below_al (Below.refl _ w) (.cells (mvals n m (mz n m F)).toArray 57)) (.cells (mvals 0 0 (fun _ => 0)).toArray 57)
  obtain ⟨W, hW⟩ : ∃ W, W = (w.alloc (.cells (mvals n m (mz n m F)).toArray 57)).alloc (.cells (mvals 0 0 (fun _ => 0)).toArray 57) := ⟨_, rfl⟩
  rw [← hW] at rM rA hB
  have HCk := Hid.mkV (check_may W (may_mz (F := F) h1 h2 h3 h4))
  have HN := Hid.mkV (fun W' (b : Below W.heap.size W W') => byNumber_Turn (.pointer (some ⟨w.heap.size, 0, none⟩)) m n (fun i j => F j i) (fun _ _ => false) W' h3 h4 h1 h2 (fun i j hi hj w1 k1 => mturn1_any n m i j w.heap.size F w1 h1 h2 h3 h4 hi hj (rM.keep (below_tr b k1))))
  rw [any2_no] at HN
  obtain ⟨z, hz⟩ : ∃ z, z = mz n m F := ⟨_, rfl⟩
  obtain ⟨z2, hz2⟩ : ∃ z, z = mz m n (fun i j => F j i) := ⟨_, rfl⟩
  rw [← hz] at HCk rM hW
  rw [← hz2] at HN
  rw [← hz, ← hz2]
  have HW := Hid.mkV hW
  clear hz hz2 hW
  go_enter Tryd.func45, Tryd.ntmps45
  go_wp2_with (first
    | (rw [zeroM, ← HW.out]; refine wpList_loadM (by rfl) _ (by rfl) _ _ _ _ (by rfl) (by with_reducible exact rM) ?_)
    | fail)
  refine HCk.out.mono ?_
  rintro e w1 ⟨rfl, k1⟩
  have m1 := rM.keep k1
  have r1 := rA.keep k1
  have B1 := below_tr hB k1
  have c0 := m1.rows
  have c1 := m1.cols
  have HN1 := Hid.mkV (HN.out w1 k1)
  clear HCk HN rM rA hB k1
  go_wp2_with fail
  refine HN1.out.mono ?_
  rintro e w2 ⟨rfl, k2⟩
  have r2 := r1.keep k2
  have rR := r2.alloc (.cells (mvals 0 0 (fun _ => 0)).toArray 57)
  have rN := mrow_new w2 0 0 (fun _ => 0)
  have B2 := below_tr B1 k2
  have B3 := below_al B2 (.cells (mvals 0 0 (fun _ => 0)).toArray 57)
  have hne : w.heap.size + 1 ≠ w2.heap.size := by have := r2.lt; omega
  go_wp2_with (first
    | (rw [zeroM]; refine wpList_storeM rfl _ _ (by rfl) _ _ _ _ _ _ _ (by rfl) (by rfl) (by with_reducible exact rN) ?_)
    | (refine wpList_loadM (by rfl) _ (by rfl) _ _ _ _ (by rfl) (by with_reducible exact rN.row _ _ _) ?_)
    | (refine wpList_storeM rfl _ _ (by rfl) _ _ _ _ _ _ _ (by rfl) (by rfl) (by with_reducible exact rR.rowOther hne _) ?_)
    | fail)
  exact bodyPost_ret (results_M2 Tryd.results45 _ _ (w.heap.size + 1) _ _ _ rfl ((rR.rowOther hne _).row _ _ _)) rfl ⟨rfl, below_row (below_row B3 B2.size _) (by omega) _⟩

set_option maxRecDepth 10000 in
set_option maxHeartbeats 1000000 in
theorem mturn_not (r c : Int) (z : Nat → Int) (w : World) (h : ¬ May r c z) :
    Calls Tryd.prog 45 #[.agg (mvals r c z).toArray] w fun e w' => e = .returned (.tuple #[.agg (mvals 0 0 (fun _ => 0)).toArray, .iface 39 (.int .i64 1)]) ∧ Below w.heap.size w w' := by
  have rM := (mrow_new w r c z).alloc (.cells (mvals 0 0 (fun _ => 0)).toArray 57)
  have rA := mrow_new1 w (.cells (mvals r c z).toArray 57) 0 0 (fun _ => 0)
  have hB := below_al (below_al (Below.refl _ w) (.cells (mvals r c z).toArray 57)) (.cells (mvals 0 0 (fun _ => 0)).toArray 57)
  obtain ⟨W, hW⟩ : ∃ W, W = (w.alloc (.cells (mvals r c z).toArray 57)).alloc (.cells (mvals 0 0 (fun _ => 0)).toArray 57) := ⟨_, rfl⟩
  rw [← hW] at rM rA hB
  have HCk := Hid.mkV (check_not W h)
  have HW := Hid.mkV hW
  clear hW h
  go_enter Tryd.func45, Tryd.ntmps45
  go_wp2_with (first
    | (rw [zeroM, ← HW.out]; refine wpList_loadM (by rfl) _ (by rfl) _ _ _ _ (by rfl) (by with_reducible exact rM) ?_)
    | fail)
  refine HCk.out.mono ?_
  rintro e w1 ⟨rfl, k1⟩
  have r1 := rA.keep k1
  have B1 := below_tr hB k1
  go_wp2_with (first
    | (refine wpList_build0 rfl (by rfl) ?_)
    | (refine wpList_storeM rfl _ _ (by rfl) _ _ _ _ _ _ _ (by rfl) (by rfl) (by with_reducible exact r1) ?_)
    | fail)
  exact bodyPost_ret (results_M2 Tryd.results45 _ _ (w.heap.size + 1) _ _ _ rfl (r1.row _ _ _)) rfl ⟨rfl, below_row B1 (by omega) _⟩

end Go.Proofs.YtfgjigkgfflofaaDoorR
