/-
  Matrices (mat): Mul, Apply, Even, Outer, or their errors.
-/
import Derived.Test.YtbdcbobmfkdalaaM2
import Derived.Test.YtbdcbobmfkdalaaM15
import Derived.Deep.RegionHeld3
set_option linter.unusedSimpArgs false
set_option linter.unusedVariables false
namespace Go.Proofs.Ytbdcbobmfkdalaa
open Go.RowKit Vc Mt Qn Dt

theorem mdot_sl (ao bo : Option Addr) (n ca cb : Nat) (za zb : Nat → Int) (q : Int) (b : Nat) (w : World) (hq : q = (b : Int)) (hn : n ≤ 64) (ha : Sl w ao n ca za) (hb : Sl w bo n cb zb) (ba : B64 za) (bb : B64 zb) (hp : b ≤ 62) :
    Calls Try.prog 38 #[.slice ao n ca, .slice bo n cb, .int .i64 q] w fun e w' => e = .returned (.tuple #[.int .i64 (clamp (rne (dk za zb n) (2 ^ b))), .bool (great (rne (dk za zb n) (2 ^ b))), .nilIface]) ∧ Below w.heap.size w w' := by
  subst hq
  obtain ⟨xa, hao, hca⟩ := ha.get
  obtain ⟨xb, hbo, hcb⟩ := hb.get
  exact qdot_any ao bo xa xb n ca cb za zb b w hn hao hbo hca hcb ba bb hp

namespace Mt
theorem MRow.rowSl {w : World} {g n m i p : Nat} {F : Nat → Nat → Int} (r : MRow w g n m (mz n m F)) (hi : i < n) (h36 : n * m ≤ 36) (hp : p = i * m) : Sl w (some ⟨g, p + 2, none⟩) m (36 - p) (F i) := by
  subst hp
  have := place_le (c := m) hi
  exact (r.sl (by omega) (by omega) (by omega) rfl).congr (fun j hj => mz_at hi hj)
end Mt

namespace Mt
/-- The exact sum of products, rounded. -/
def mulR (F G : Nat → Nat → Int) (m : Nat) : Nat → Nat → Int := fun i j => rne (dk (F i) (fun k => G k j) m) (2 ^ 20)
end Mt

set_option maxRecDepth 10000 in
set_option maxHeartbeats 1000000 in
theorem mmul1_any (n m q i j ga gc : Nat) (F G : Nat → Nat → Int) (w : World) (h1 : 1 ≤ n) (h2 : n ≤ 6) (h3 : 1 ≤ m) (h4 : m ≤ 6) (h5 : 1 ≤ q) (h6 : q ≤ 6) (hi : i < n) (hj : j < q) (ra : MRow w ga n m (mz n m F)) (rc : MRow w gc q m (mz q m (fun i j => G j i))) (hF : B2 F) (hG : B2 G) :
    Calls Try.prog 41 #[.int .i64 (i : Int), .int .i64 (j : Int), .pointer (some ⟨ga, 0, none⟩), .pointer (some ⟨gc, 0, none⟩)] w fun e w' => e = .returned (.tuple #[.int .i64 (clamp (mulR F G m i j)), .bool (great (mulR F G m i j)), .nilIface]) ∧ Below w.heap.size w w' := by
  have h36 := size_le h2 h4
  have h36' := size_le h6 h4
  obtain ⟨p, hp⟩ : ∃ p, p = i * m := ⟨_, rfl⟩
  obtain ⟨s, hs⟩ : ∃ s, s = j * m := ⟨_, rfl⟩
  have hpl : p + m ≤ n * m := by rw [hp]; exact place_le hi
  have hsl : s + m ≤ q * m := by rw [hs]; exact place_le hj
  have RA : Hid (∀ W, Below w.heap.size w W → Calls Try.prog 25 #[.pointer (some ⟨ga, 0, none⟩), .int .i64 (i : Int)] W fun e w' => e = .returned (.slice (some ⟨ga, p + 2, none⟩) m (36 - p)) ∧ Below W.heap.size W w') := fun W b => row_any ga i m p n _ W (ra.keep b) hp h4 (by omega) (by omega) (by omega)
  have RC : Hid (∀ W, Below w.heap.size w W → Calls Try.prog 25 #[.pointer (some ⟨gc, 0, none⟩), .int .i64 (j : Int)] W fun e w' => e = .returned (.slice (some ⟨gc, s + 2, none⟩) m (36 - s)) ∧ Below W.heap.size W w') := fun W b => row_any gc j m s q _ W (rc.keep b) hs h4 (by omega) (by omega) (by omega)
  have HD : Hid (∀ W, Below w.heap.size w W → Calls Try.prog 38 #[.slice (some ⟨ga, p + 2, none⟩) m (36 - p), .slice (some ⟨gc, s + 2, none⟩) m (36 - s), .int .i64 20] W fun e w' => e = .returned (.tuple #[.int .i64 (clamp (mulR F G m i j)), .bool (great (mulR F G m i j)), .nilIface]) ∧ Below W.heap.size W w') :=
    fun W b => mdot_sl _ _ m _ _ (F i) (fun k => G k j) 20 20 W rfl (by omega) ((ra.keep b).rowSl hi h36 hp) ((rc.keep b).rowSl hj h36' hs) (hF i) (fun k => hG k j) (by omega)
  obtain ⟨X, hX⟩ : ∃ X, X = clamp (mulR F G m i j) := ⟨_, rfl⟩
  obtain ⟨Y, hY⟩ : ∃ Y, Y = great (mulR F G m i j) := ⟨_, rfl⟩
  rw [← hX, ← hY] at HD
  rw [← hX, ← hY]
  clear hX hY hF hG ra rc hp hs
  go_enter Try.func41, Try.ntmps41
  go_wp2_with fail
  refine (RA.out _ (Below.refl _ _)).mono ?_
  rintro e w1 ⟨rfl, k1⟩
  go_wp2_with fail
  refine (RC.out _ k1).mono ?_
  rintro e w2 ⟨rfl, k2⟩
  have K2 := below_tr k1 k2
  go_wp2_with fail
  refine (HD.out _ K2).mono ?_
  rintro e w3 ⟨rfl, k3⟩
  go_wp2
  go_ret3
  exact ⟨rfl, below_tr K2 k3⟩

set_option maxRecDepth 10000 in
set_option maxHeartbeats 1000000 in
theorem mmul_any (n m q : Nat) (F G : Nat → Nat → Int) (w : World) (h1 : 1 ≤ n) (h2 : n ≤ 6) (h3 : 1 ≤ m) (h4 : m ≤ 6) (h5 : 1 ≤ q) (h6 : q ≤ 6) (hF : B2 F) (hG : B2 G) :
    Calls Try.prog 30 #[.agg (mvals n m (mz n m F)).toArray, .agg (mvals m q (mz m q G)).toArray] w fun e w' => e = .returned (.tuple #[.agg (mvals n q (mz n q (fun i j => clamp (mulR F G m i j)))).toArray, .bool (any2 (fun i j => great (mulR F G m i j)) n q), .nilIface]) ∧ Below w.heap.size w w' := by
  have rA := ((mrow_new w n m (mz n m F)).alloc (.cells (mvals m q (mz m q G)).toArray 27)).alloc (.cells (mvals 0 0 (fun _ => 0)).toArray 27)
  have rB := (mrow_new1 w (.cells (mvals n m (mz n m F)).toArray 27) m q (mz m q G)).alloc (.cells (mvals 0 0 (fun _ => 0)).toArray 27)
  have rZ := mrow_new2 w (.cells (mvals n m (mz n m F)).toArray 27) (.cells (mvals m q (mz m q G)).toArray 27) 0 0 (fun _ => 0)
  have hB := below_al (below_al (below_al (Below.refl _ w) (.cells (mvals n m (mz n m F)).toArray 27)) (.cells (mvals m q (mz m q G)).toArray 27)) (.cells (mvals 0 0 (fun _ => 0)).toArray 27)
  obtain ⟨W, hW⟩ : ∃ W, W = ((w.alloc (.cells (mvals n m (mz n m F)).toArray 27)).alloc (.cells (mvals m q (mz m q G)).toArray 27)).alloc (.cells (mvals 0 0 (fun _ => 0)).toArray 27) := ⟨_, rfl⟩
  rw [← hW] at rA rB rZ hB
  have HCa := Hid.mkV (fun W' => check_may W' (may_mz (F := F) h1 h2 h3 h4))
  have HTb := Hid.mkV (fun W' => mturn_any m q G W' h3 h4 h5 h6)
  have HN := Hid.mkV (fun gc W' (b : Below W.heap.size W W') (rc : MRow W' gc q m (mz q m (fun i j => G j i))) => byNumber_Mul (.pointer (some ⟨w.heap.size, 0, none⟩)) (.pointer (some ⟨gc, 0, none⟩)) n q (fun i j => clamp (mulR F G m i j)) (fun i j => great (mulR F G m i j)) W' h1 h2 h5 h6
    (fun i j hi hj w1 k1 => mmul1_any n m q i j w.heap.size gc F G w1 h1 h2 h3 h4 h5 h6 hi hj (rA.keep (below_tr b k1)) (rc.keep k1) hF hG))
  obtain ⟨z, hz⟩ : ∃ z, z = mz n m F := ⟨_, rfl⟩
  obtain ⟨y, hy⟩ : ∃ y, y = mz m q G := ⟨_, rfl⟩
  obtain ⟨u, hu⟩ : ∃ u, u = mz q m (fun i j => G j i) := ⟨_, rfl⟩
  obtain ⟨v, hv⟩ : ∃ v, v = mz n q (fun i j => clamp (mulR F G m i j)) := ⟨_, rfl⟩
  obtain ⟨t, ht⟩ : ∃ t, t = any2 (fun i j => great (mulR F G m i j)) n q := ⟨_, rfl⟩
  rw [← hz] at HCa rA hW
  rw [← hy, ← hu] at HTb
  rw [← hy] at rB hW
  rw [← hu, ← hv, ← ht] at HN
  rw [← hz, ← hy, ← hv, ← ht]
  have HW := Hid.mkV hW
  clear hz hy hu hv ht hW hF hG
  go_enter Try.func30, Try.ntmps30
  go_wp2_with (first
    | (rw [zeroM, ← HW.out]; refine wpList_loadM (by rfl) _ (by rfl) _ _ _ _ (by rfl) (by with_reducible exact rA) ?_)
    | fail)
  refine (HCa.out _).mono ?_
  rintro e w1 ⟨rfl, k1⟩
  have a1 := rA.keep k1
  have b1 := rB.keep k1
  have z1 := rZ.keep k1
  have B1 := below_tr hB k1
  have c0 := a1.rows
  have c1 := a1.cols
  have d0 := b1.rows
  clear rA rB rZ hB HCa
  go_wp2_with (first
    | (refine wpList_loadM (by rfl) _ (by rfl) _ _ _ _ (by rfl) (by with_reducible exact b1) ?_)
    | fail)
  refine (HTb.out _).mono ?_
  rintro e w2 ⟨rfl, k2⟩
  have a2 := a1.keep k2
  have b2 := b1.keep k2
  have z2 := z1.keep k2
  have B2' := below_tr B1 k2
  have rN := mrow_new w2 0 0 (fun _ => 0)
  have hz2 := z2.lt
  have a3 := (a2.alloc (.cells (mvals 0 0 (fun _ => 0)).toArray 27)).rowOther (g := w2.heap.size) (by omega) (mvals q m u).toArray
  have b3 := (b2.alloc (.cells (mvals 0 0 (fun _ => 0)).toArray 27)).rowOther (g := w2.heap.size) (by omega) (mvals q m u).toArray
  have z3 := (z2.alloc (.cells (mvals 0 0 (fun _ => 0)).toArray 27)).rowOther (g := w2.heap.size) (by omega) (mvals q m u).toArray
  have u3 := rN.row q m u
  have B3' := below_row (below_al (Below.refl _ w2) (.cells (mvals 0 0 (fun _ => 0)).toArray 27)) (Nat.le_refl _) (mvals q m u).toArray
  obtain ⟨w3, hw3⟩ : ∃ w3, w3 = (w2.alloc (.cells (mvals 0 0 (fun _ => 0)).toArray 27)).setRow w2.heap.size (mvals q m u).toArray := ⟨_, rfl⟩
  rw [← hw3] at a3 b3 z3 u3 B3'
  have HN3 := Hid.mkV (HN.out w2.heap.size w3 (below_tr (below_tr k1 k2) B3') u3)
  have B3 := below_tr B2' B3'
  have HW3 := Hid.mkV hw3
  have c0 := a3.rows
  have d1 := b3.cols
  clear hw3 a1 b1 z1 B1 HTb HN k1 k2 a2 b2 z2 B2' c1 d0
  go_wp2_with (first
    | (rw [zeroM]; refine wpList_storeM rfl _ _ (by rfl) _ _ _ _ _ _ _ (by rfl) (by rfl) (by with_reducible exact rN) ?_; rw [← HW3.out])
    | fail)
  refine HN3.out.mono ?_
  rintro e w4 ⟨rfl, k4⟩
  have z4 := z3.keep k4
  have B4 := below_tr B3 k4
  go_wp2_with (first
    | (refine wpList_storeM rfl _ _ (by rfl) _ _ _ _ _ _ _ (by rfl) (by rfl) (by with_reducible exact z4) ?_)
    | fail)
  exact bodyPost_ret (results_M3 Try.results30 _ _ (w.heap.size + 1 + 1) _ _ _ rfl (z4.row _ _ _)) rfl ⟨rfl, below_row B4 (by omega) _⟩

set_option maxRecDepth 10000 in
set_option maxHeartbeats 1000000 in
/-- The first may not be, or the second has not as many rows as it has columns. -/
theorem mmul_no (r c r' c' : Int) (z y : Nat → Int) (w : World) (h : ¬ May r c z ∨ (May r c z ∧ c ≠ r')) :
    Calls Try.prog 30 #[.agg (mvals r c z).toArray, .agg (mvals r' c' y).toArray] w fun e w' => e = .returned (.tuple #[.agg (mvals 0 0 (fun _ => 0)).toArray, .bool false, .iface 50 (.int .i64 1)]) ∧ Below w.heap.size w w' := by
  have rA := ((mrow_new w r c z).alloc (.cells (mvals r' c' y).toArray 27)).alloc (.cells (mvals 0 0 (fun _ => 0)).toArray 27)
  have rB := (mrow_new1 w (.cells (mvals r c z).toArray 27) r' c' y).alloc (.cells (mvals 0 0 (fun _ => 0)).toArray 27)
  have rZ := mrow_new2 w (.cells (mvals r c z).toArray 27) (.cells (mvals r' c' y).toArray 27) 0 0 (fun _ => 0)
  have hB := below_al (below_al (below_al (Below.refl _ w) (.cells (mvals r c z).toArray 27)) (.cells (mvals r' c' y).toArray 27)) (.cells (mvals 0 0 (fun _ => 0)).toArray 27)
  obtain ⟨W, hW⟩ : ∃ W, W = ((w.alloc (.cells (mvals r c z).toArray 27)).alloc (.cells (mvals r' c' y).toArray 27)).alloc (.cells (mvals 0 0 (fun _ => 0)).toArray 27) := ⟨_, rfl⟩
  rw [← hW] at rA rB rZ hB
  have HW := Hid.mkV hW
  clear hW
  rcases h with h | ⟨h, h'⟩
  · have HC := Hid.mkV (fun W' => check_not W' h)
    clear h
    go_enter Try.func30, Try.ntmps30
    go_wp2_with (first
      | (rw [zeroM, ← HW.out]; refine wpList_loadM (by rfl) _ (by rfl) _ _ _ _ (by rfl) (by with_reducible exact rA) ?_)
      | fail)
    refine (HC.out _).mono ?_
    rintro e w1 ⟨rfl, k1⟩
    have z1 := rZ.keep k1
    have B1 := below_tr hB k1
    go_wp2_with (first
      | (refine wpList_build0 rfl (by rfl) ?_)
      | (refine wpList_storeM rfl _ _ (by rfl) _ _ _ _ _ _ _ (by rfl) (by rfl) (by with_reducible exact z1) ?_)
      | fail)
    exact bodyPost_ret (results_M3 Try.results30 _ _ (w.heap.size + 1 + 1) _ _ _ rfl (z1.row _ _ _)) rfl ⟨rfl, below_row B1 (by omega) _⟩
  · have HC := Hid.mkV (fun W' => check_may W' h)
    have ec : (c != r') = true := by rw [bne_iff_ne]; exact h'
    clear h h'
    go_enter Try.func30, Try.ntmps30
    go_wp2_with (first
      | (rw [zeroM, ← HW.out]; refine wpList_loadM (by rfl) _ (by rfl) _ _ _ _ (by rfl) (by with_reducible exact rA) ?_)
      | fail)
    refine (HC.out _).mono ?_
    rintro e w1 ⟨rfl, k1⟩
    have z1 := rZ.keep k1
    have c1 := (rA.keep k1).cols
    have d0 := (rB.keep k1).rows
    have B1 := below_tr hB k1
    clear rA rB rZ hB HC
    go_wp2_with (first
      | (refine wpList_build0 rfl (by rfl) ?_)
      | (refine wpList_storeM rfl _ _ (by rfl) _ _ _ _ _ _ _ (by rfl) (by rfl) (by with_reducible exact z1) ?_)
      | fail)
    exact bodyPost_ret (results_M3 Try.results30 _ _ (w.heap.size + 1 + 1) _ _ _ rfl (z1.row _ _ _)) rfl ⟨rfl, below_row B1 (by omega) _⟩

namespace Mt
/-- The exact sum of products, rounded. -/
def appR (F : Nat → Nat → Int) (v : Nat → Int) (m : Nat) : Nat → Int := fun i => rne (dk (F i) v m) (2 ^ 20)
theorem run_head (b q : Nat) (w : World) (h3 : q ≤ 36) :
    (Instr.sliceAt 25 (.pointer (some ⟨b, 2, none⟩)) none (some (.int .i64 (q : Int))) none).run Try.prog w = .ok (.slice (some ⟨b, 2, none⟩) q 36) w := by
  rw [run_sliceAt_array_h w 25 _ Try.arrM .i64 _ (by omega) (by rw [Try.lenM]; omega), Try.elemM, run_size8, Try.lenM]
  simp only [Result.andThen_ok, slicedAt, Int.toNat_natCast, Nat.mul_one]
  rw [if_neg (by omega), Addr.add_lit]
  rfl
end Mt

set_option maxRecDepth 10000 in
set_option maxHeartbeats 1000000 in
theorem mapply1_any (n m i ga gv cv : Nat) (j : Int) (vo : Option Addr) (F : Nat → Nat → Int) (v : Nat → Int) (w : World) (h1 : 1 ≤ n) (h2 : n ≤ 6) (h3 : 1 ≤ m) (h4 : m ≤ 6) (hi : i < n) (ra : MRow w ga n m (mz n m F)) (hF : B2 F) (hv : Sl w vo m cv v) (bv : B64 v) (cg : w.cell? ⟨gv, 0, none⟩ = some (.slice vo m cv)) :
    Calls Try.prog 37 #[.int .i64 (i : Int), .int .i64 j, .pointer (some ⟨ga, 0, none⟩), .pointer (some ⟨gv, 0, none⟩)] w fun e w' => e = .returned (.tuple #[.int .i64 (clamp (appR F v m i)), .bool (great (appR F v m i)), .nilIface]) ∧ Below w.heap.size w w' := by
  have h36 := size_le h2 h4
  obtain ⟨p, hp⟩ : ∃ p, p = i * m := ⟨_, rfl⟩
  have hpl : p + m ≤ n * m := by rw [hp]; exact place_le hi
  have RA : Hid (∀ W, Below w.heap.size w W → Calls Try.prog 25 #[.pointer (some ⟨ga, 0, none⟩), .int .i64 (i : Int)] W fun e w' => e = .returned (.slice (some ⟨ga, p + 2, none⟩) m (36 - p)) ∧ Below W.heap.size W w') := fun W b => row_any ga i m p n _ W (ra.keep b) hp h4 (by omega) (by omega) (by omega)
  have HD : Hid (∀ W, Below w.heap.size w W → Calls Try.prog 38 #[.slice (some ⟨ga, p + 2, none⟩) m (36 - p), .slice vo m cv, .int .i64 20] W fun e w' => e = .returned (.tuple #[.int .i64 (clamp (appR F v m i)), .bool (great (appR F v m i)), .nilIface]) ∧ Below W.heap.size W w') :=
    fun W b => mdot_sl _ _ m _ _ (F i) v 20 20 W rfl (by omega) ((ra.keep b).rowSl hi h36 hp) (hv.keep b) (hF i) bv (by omega)
  obtain ⟨X, hX⟩ : ∃ X, X = clamp (appR F v m i) := ⟨_, rfl⟩
  obtain ⟨Y, hY⟩ : ∃ Y, Y = great (appR F v m i) := ⟨_, rfl⟩
  rw [← hX, ← hY] at HD
  rw [← hX, ← hY]
  clear hX hY hF hv bv ra hp
  go_enter Try.func37, Try.ntmps37
  go_wp2
  go_region_held3 (fun w' => w'.cell? ⟨gv, 0, none⟩ = some (.slice vo m cv))
    (first
      | (refine keep_cell (W := w) ?_ cg; first | with_reducible exact Below.refl _ _ | with_reducible exact Vc.below_drew' _ | with_reducible exact kd | with_reducible exact ka))
    (first
      | (go_at_call 25; refine (RA.out _ (by first | with_reducible exact Vc.below_drew' _)).mono ?_; rintro e wa ⟨rfl, ka'⟩
         have ka : Below w.heap.size w wa := below_tr (Vc.below_drew' _) ka')
      | (go_at_call 38; refine (HD.out _ (by first | with_reducible exact ka)).mono ?_; rintro e wq ⟨rfl, kq'⟩
         have kd : Below w.heap.size w wq := below_tr ka kq'))
  all_goals go_wp2
  all_goals go_ret3
  all_goals exact ⟨rfl, kd⟩

set_option maxRecDepth 10000 in
set_option maxHeartbeats 1000000 in
theorem mapply_any (n m cv : Nat) (vo : Option Addr) (F : Nat → Nat → Int) (v : Nat → Int) (w : World) (h1 : 1 ≤ n) (h2 : n ≤ 6) (h3 : 1 ≤ m) (h4 : m ≤ 6) (hF : B2 F) (hv : Sl w vo m cv v) (bv : B64 v) :
    Calls Try.prog 27 #[.agg (mvals n m (mz n m F)).toArray, .slice vo m cv] w fun e w' => ∃ co cc, e = .returned (.tuple #[.slice co n cc, .bool (anyb (fun i => great (appR F v m i)) n), .nilIface]) ∧ Sl w' co n cc (fun i => clamp (appR F v m i)) ∧ Fresh w.heap.size co ∧ Below w.heap.size w w' := by
  have rA := (mrow_new w n m (mz n m F)).alloc (.cells #[.slice vo m cv] 23)
  have hB := below_al (below_al (Below.refl _ w) (.cells (mvals n m (mz n m F)).toArray 27)) (.cells #[.slice vo m cv] 23)
  have cg : ((w.alloc (.cells (mvals n m (mz n m F)).toArray 27)).alloc (.cells #[.slice vo m cv] 23)).cell? ⟨w.heap.size + 1, 0, none⟩ = some (.slice vo m cv) := by go_simp
  obtain ⟨W, hW⟩ : ∃ W, W = (w.alloc (.cells (mvals n m (mz n m F)).toArray 27)).alloc (.cells #[.slice vo m cv] 23) := ⟨_, rfl⟩
  rw [← hW] at rA hB cg
  have l1 := hv.le
  have l2 := hv.cap
  have HCa := Hid.mkV (fun W' => check_may W' (may_mz (F := F) h1 h2 h3 h4))
  have HN := Hid.mkV (fun W' (b : Below W.heap.size W W') => byNumber_Apply (.pointer (some ⟨w.heap.size, 0, none⟩)) (.pointer (some ⟨w.heap.size + 1, 0, none⟩)) n 1 (fun i _ => clamp (appR F v m i)) (fun i _ => great (appR F v m i)) W' h1 h2 (by omega) (by omega)
    (fun i j hi hj w1 k1 => mapply1_any n m i w.heap.size (w.heap.size + 1) cv j vo F v w1 h1 h2 h3 h4 hi (rA.keep (below_tr b k1)) hF (hv.keep (below_tr hB (below_tr b k1))) bv (keep_cell (below_tr b k1) cg)))
  have hA : any2 (fun i _ => great (appR F v m i)) n 1 = anyb (fun i => great (appR F v m i)) n := anyb_congr fun i _ => by show (false || _) = _; rw [Bool.false_or]
  rw [hA] at HN
  have hS : Hid (∀ k, k < n → mz n 1 (fun i _ => clamp (appR F v m i)) (0 + k) = clamp (appR F v m k)) := fun k hk => by
    have := mz_at (n := n) (c := 1) (F := fun i _ => clamp (appR F v m i)) hk (show 0 < 1 by omega)
    rw [Nat.mul_one, Nat.add_zero] at this
    rw [Nat.zero_add]
    exact this
  obtain ⟨z, hz⟩ : ∃ z, z = mz n m F := ⟨_, rfl⟩
  obtain ⟨y, hy⟩ : ∃ y, y = mz n 1 (fun i _ => clamp (appR F v m i)) := ⟨_, rfl⟩
  obtain ⟨t, ht⟩ : ∃ t, t = anyb (fun i => great (appR F v m i)) n := ⟨_, rfl⟩
  obtain ⟨s, hs⟩ : ∃ s : Nat → Int, s = fun i => clamp (appR F v m i) := ⟨_, rfl⟩
  have hS' : Hid (∀ k, k < n → y (0 + k) = s k) := by rw [hy, hs]; exact hS
  rw [← hz] at HCa rA hW
  rw [← hy, ← ht] at HN
  rw [← hz, ← hs, ← ht]
  have HW := Hid.mkV hW
  clear hz hy ht hs hW hF hv bv hA hS
  go_enter Try.func27, Try.ntmps27
  go_wp2_with (first
    | (rw [← HW.out]; refine wpList_loadM (by rfl) _ (by rfl) _ _ _ _ (by rfl) (by with_reducible exact rA) ?_)
    | fail)
  refine (HCa.out _).mono ?_
  rintro e w1 ⟨rfl, k1⟩
  have a1 := rA.keep k1
  have B1 := below_tr hB k1
  have c0 := a1.rows
  have c1 := a1.cols
  have cg1 := keep_cell k1 cg
  have HN1 := Hid.mkV (HN.out w1 k1)
  clear rA hB cg HCa HN k1
  go_wp2_with fail
  refine HN1.out.mono ?_
  rintro e w2 ⟨rfl, k2⟩
  have B2' := below_tr B1 k2
  have rN := mrow_new w2 0 0 (fun _ => 0)
  have u3 := rN.row n 1 y
  have B3' := below_row (below_al (Below.refl _ w2) (.cells (mvals 0 0 (fun _ => 0)).toArray 27)) (Nat.le_refl _) (mvals n 1 y).toArray
  obtain ⟨w3, hw3⟩ : ∃ w3, w3 = (w2.alloc (.cells (mvals 0 0 (fun _ => 0)).toArray 27)).setRow w2.heap.size (mvals n 1 y).toArray := ⟨_, rfl⟩
  rw [← hw3] at u3 B3'
  have HW3 := Hid.mkV hw3
  have B3 := below_tr B2' B3'
  have e0 := u3.rows
  have e1 : ∀ W, (Instr.sliceAt 25 (.pointer (some ⟨w2.heap.size, 2, none⟩)) none (some (.int .i64 (n : Int))) none).run Try.prog W = .ok (.slice (some ⟨w2.heap.size, 2, none⟩) n 36) W := fun W => run_head _ n W (by omega)
  have s3 : Sl w3 (some ⟨w2.heap.size, 2, none⟩) n 36 s := (u3.sl (p := 0) (by omega) (by omega) (by omega) rfl).congr hS'.out
  have HC3 := Hid.mkV (copied_any _ n _ _ w3 s3 (by omega))
  have hsz := B3.size
  clear hw3 a1 c0 c1 cg1 s3
  go_wp2_with (first
    | (rw [zeroM]; refine wpList_storeM rfl _ _ (by rfl) _ _ _ _ _ _ _ (by rfl) (by rfl) (by with_reducible exact rN) ?_; rw [← HW3.out])
    | fail)
  refine HC3.out.mono ?_
  rintro e w5 ⟨co, cc, rfl, s5, f5, k5⟩
  go_wp2
  go_ret3
  exact ⟨co, cc, rfl, s5, fun x hx => Nat.le_trans hsz (f5 x hx), below_tr B3 k5⟩

set_option maxRecDepth 10000 in
set_option maxHeartbeats 1000000 in
theorem mapply_no (r c : Int) (z : Nat → Int) (vo : Option Addr) (l cv : Nat) (w : World) (hl : l ≤ 9223372036854775807) (h : ¬ May r c z ∨ (May r c z ∧ (l : Int) ≠ c)) :
    Calls Try.prog 27 #[.agg (mvals r c z).toArray, .slice vo l cv] w fun e w' => e = .returned (.tuple #[.slice none 0 0, .bool false, .iface 50 (.int .i64 1)]) ∧ Below w.heap.size w w' := by
  have rA := (mrow_new w r c z).alloc (.cells #[.slice vo l cv] 23)
  have hB := below_al (below_al (Below.refl _ w) (.cells (mvals r c z).toArray 27)) (.cells #[.slice vo l cv] 23)
  have cg : ((w.alloc (.cells (mvals r c z).toArray 27)).alloc (.cells #[.slice vo l cv] 23)).cell? ⟨w.heap.size + 1, 0, none⟩ = some (.slice vo l cv) := by go_simp
  obtain ⟨W, hW⟩ : ∃ W, W = (w.alloc (.cells (mvals r c z).toArray 27)).alloc (.cells #[.slice vo l cv] 23) := ⟨_, rfl⟩
  rw [← hW] at rA hB cg
  have HW := Hid.mkV hW
  clear hW
  rcases h with h | ⟨h, h'⟩
  · have HC := Hid.mkV (fun W' => check_not W' h)
    clear h
    go_enter Try.func27, Try.ntmps27
    go_wp2_with (first
      | (rw [← HW.out]; refine wpList_loadM (by rfl) _ (by rfl) _ _ _ _ (by rfl) (by with_reducible exact rA) ?_)
      | fail)
    refine (HC.out _).mono ?_
    rintro e w1 ⟨rfl, k1⟩
    go_wp2
    go_ret3
    exact ⟨rfl, below_tr hB k1⟩
  · have HC := Hid.mkV (fun W' => check_may W' h)
    have ec : (((l : Nat) : Int) != c) = true := by rw [bne_iff_ne]; exact h'
    clear h h'
    go_enter Try.func27, Try.ntmps27
    go_wp2_with (first
      | (rw [← HW.out]; refine wpList_loadM (by rfl) _ (by rfl) _ _ _ _ (by rfl) (by with_reducible exact rA) ?_)
      | fail)
    refine (HC.out _).mono ?_
    rintro e w1 ⟨rfl, k1⟩
    have c1 := (rA.keep k1).cols
    have cg1 := keep_cell k1 cg
    have B1 := below_tr hB k1
    clear rA hB cg HC
    go_wp2
    go_ret3
    exact ⟨rfl, B1⟩

namespace Mt
/-- The half of both, rounded. -/
def evR (F : Nat → Nat → Int) : Nat → Nat → Int := fun i j => rne (F i j + F j i) (2 ^ 1)
theorem dk_two (a b : Int) (z : Nat → Int) (h0 : z 0 = a) (h1 : z 1 = b) : dk z (fun _ => 1) 2 = a + b := by
  show 0 + z 0 * 1 + z 1 * 1 = a + b
  rw [h0, h1]; omega
theorem sl_duo {w : World} {x : Addr} {a b : Int} (h : w.cell? x = some (.int .i64 a)) (h2 : w.cell? (x.add 1) = some (.int .i64 b)) : Sl w (some x) 2 2 (fun k => if k = 0 then a else b) :=
  ⟨Nat.le_refl _, by omega, fun k hk => ⟨x, rfl, by
    match k, hk with
    | 0, _ => exact h
    | 1, _ => exact h2⟩⟩
end Mt

/-- The halves' Dot: of a and b, by ones. -/
theorem mhalf_any (a b : Int) (x y : Addr) (w : World) (ca : w.cell? x = some (.int .i64 a)) (cb : w.cell? (x.add 1) = some (.int .i64 b)) (d0 : w.cell? y = some (.int .i64 1)) (d1 : w.cell? (y.add 1) = some (.int .i64 1)) (ha0 : -9223372036854775808 ≤ a) (ha1 : a ≤ 9223372036854775807) (hb0 : -9223372036854775808 ≤ b) (hb1 : b ≤ 9223372036854775807) :
    Calls Try.prog 38 #[.slice (some x) 2 2, .slice (some y) 2 2, .int .i64 1] w fun e w' => e = .returned (.tuple #[.int .i64 (clamp (rne (a + b) (2 ^ 1))), .bool (great (rne (a + b) (2 ^ 1))), .nilIface]) ∧ Below w.heap.size w w' := by
  have h := mdot_sl (some x) (some y) 2 2 2 (fun k => if k = 0 then a else b) (fun _ => 1) 1 1 w rfl (by omega) (sl_duo ca cb) ((sl_duo d0 d1).congr (fun k _ => by split <;> rfl)) (fun k => by show _ ≤ (if k = 0 then a else b) ∧ (if k = 0 then a else b) ≤ _; split <;> exact ⟨by assumption, by assumption⟩) (fun _ => ⟨by show (-9223372036854775808 : Int) ≤ 1; omega, by show (1 : Int) ≤ 9223372036854775807; omega⟩) (by omega)
  rw [dk_two a b _ rfl rfl] at h
  exact h

set_option maxRecDepth 10000 in
set_option maxHeartbeats 1000000 in
theorem meven1_any (n i j g : Nat) (F : Nat → Nat → Int) (w : World) (h1 : 1 ≤ n) (h2 : n ≤ 6) (hi : i < n) (hj : j < n) (ra : MRow w g n n (mz n n F)) (hF : B2 F) :
    Calls Try.prog 44 #[.int .i64 (i : Int), .int .i64 (j : Int), .pointer (some ⟨g, 0, none⟩)] w fun e w' => e = .returned (.tuple #[.int .i64 (clamp (evR F i j)), .bool (great (evR F i j)), .nilIface]) ∧ Below w.heap.size w w' := by
  have h36 := size_le h2 h2
  obtain ⟨p, hp⟩ : ∃ p, p = i * n := ⟨_, rfl⟩
  obtain ⟨s, hs⟩ : ∃ s, s = j * n := ⟨_, rfl⟩
  have hpl : p + n ≤ n * n := by rw [hp]; exact place_le hi
  have hsl : s + n ≤ n * n := by rw [hs]; exact place_le hj
  have ca := ra.cell (show p + j < 36 by omega) (show p + 2 + j = p + j + 2 by omega)
  have cb := ra.cell (show s + i < 36 by omega) (show s + 2 + i = s + i + 2 by omega)
  rw [hp, mz_at hi hj, ← hp] at ca
  rw [hs, mz_at hj hi, ← hs] at cb
  have RA : Hid (∀ W, Below w.heap.size w W → Calls Try.prog 25 #[.pointer (some ⟨g, 0, none⟩), .int .i64 (i : Int)] W fun e w' => e = .returned (.slice (some ⟨g, p + 2, none⟩) n (36 - p)) ∧ Below W.heap.size W w') := fun W b => row_any g i n p n _ W (ra.keep b) hp h2 (by omega) (by omega) (by omega)
  have RB : Hid (∀ W, Below w.heap.size w W → Calls Try.prog 25 #[.pointer (some ⟨g, 0, none⟩), .int .i64 (j : Int)] W fun e w' => e = .returned (.slice (some ⟨g, s + 2, none⟩) n (36 - s)) ∧ Below W.heap.size W w') := fun W b => row_any g j n s n _ W (ra.keep b) hs h2 (by omega) (by omega) (by omega)
  have HD := Hid.mkV (fun x y W ca cb d0 d1 => mhalf_any (F i j) (F j i) x y W ca cb d0 d1 (hF i j).1 (hF i j).2 (hF j i).1 (hF j i).2)
  have eR : rne (F i j + F j i) (2 ^ 1) = evR F i j := rfl
  rw [eR] at HD
  obtain ⟨R, hR⟩ : ∃ R, R = clamp (evR F i j) := ⟨_, rfl⟩
  obtain ⟨t, ht⟩ : ∃ t, t = great (evR F i j) := ⟨_, rfl⟩
  obtain ⟨x, hx⟩ : ∃ x, x = F i j := ⟨_, rfl⟩
  obtain ⟨y, hy⟩ : ∃ y, y = F j i := ⟨_, rfl⟩
  rw [← hR, ← ht, ← hx, ← hy] at HD
  rw [← hx] at ca
  rw [← hy] at cb
  rw [← hR, ← ht]
  clear hR ht hx hy eR hF ra hp hs
  go_enter Try.func44, Try.ntmps44
  go_wp2
  go_region_held3 (fun w' => w'.cell? ⟨g, p + 2 + j, none⟩ = some (.int .i64 x) ∧ w'.cell? ⟨g, s + 2 + i, none⟩ = some (.int .i64 y))
    (first
      | (refine ⟨keep_cell (W := w) ?_ ca, keep_cell (W := w) ?_ cb⟩ <;> first | with_reducible exact Below.refl _ _ | with_reducible exact Vc.below_drew' _ | with_reducible exact kb | with_reducible exact ka | with_reducible exact below_al kb _ | with_reducible exact below_al ka _))
    (first
      | (go_at_call_of 25 (Value.int IntKind.i64 (i : Int)); refine (RA.out _ (by first | with_reducible exact Vc.below_drew' _ | with_reducible exact kb)).mono ?_; rintro e wa ⟨rfl, ka'⟩
         have ka : Below w.heap.size w wa := by first | exact below_tr (Vc.below_drew' _) ka' | exact below_tr kb ka')
      | (go_at_call_of 25 (Value.int IntKind.i64 (j : Int)); refine (RB.out _ (by first | with_reducible exact Vc.below_drew' _ | with_reducible exact ka)).mono ?_; rintro e wb ⟨rfl, kb'⟩
         have kb : Below w.heap.size w wb := by first | exact below_tr (Vc.below_drew' _) kb' | exact below_tr ka kb'))
  all_goals go_wp2_with fail
  all_goals refine (HD.out _ _ _ (by go_simp) (by rw [Addr.add_lit]; go_simp) (by go_simp) (by rw [Addr.add_lit]; go_simp)).mono ?_
  all_goals rintro e w3 ⟨rfl, k3⟩
  all_goals go_wp2
  all_goals go_ret3
  all_goals first
    | exact ⟨rfl, below_tr (below_al (below_al kb _) _) k3⟩
    | exact ⟨rfl, below_tr (below_al (below_al ka _) _) k3⟩

set_option maxRecDepth 10000 in
set_option maxHeartbeats 1000000 in
theorem meven_any (n : Nat) (F : Nat → Nat → Int) (w : World) (h1 : 1 ≤ n) (h2 : n ≤ 6) (hF : B2 F) :
    Calls Try.prog 33 #[.agg (mvals n n (mz n n F)).toArray] w fun e w' => e = .returned (.tuple #[.agg (mvals n n (mz n n (fun i j => clamp (evR F i j)))).toArray, .bool (any2 (fun i j => great (evR F i j)) n n), .nilIface]) ∧ Below w.heap.size w w' := by
  have rM := (mrow_new w n n (mz n n F)).alloc (.cells (mvals 0 0 (fun _ => 0)).toArray 27)
  have rA := mrow_new1 w (.cells (mvals n n (mz n n F)).toArray 27) 0 0 (fun _ => 0)
  have hB := below_al (below_al (Below.refl _ w) (.cells (mvals n n (mz n n F)).toArray 27)) (.cells (mvals 0 0 (fun _ => 0)).toArray 27)
  obtain ⟨W, hW⟩ : ∃ W, W = (w.alloc (.cells (mvals n n (mz n n F)).toArray 27)).alloc (.cells (mvals 0 0 (fun _ => 0)).toArray 27) := ⟨_, rfl⟩
  rw [← hW] at rM rA hB
  have HCk := Hid.mkV (check_may W (may_mz (F := F) h1 h2 h1 h2))
  have HN := Hid.mkV (fun W' (b : Below W.heap.size W W') => byNumber_Even (.pointer (some ⟨w.heap.size, 0, none⟩)) n n (fun i j => clamp (evR F i j)) (fun i j => great (evR F i j)) W' h1 h2 h1 h2 (fun i j hi hj w1 k1 => meven1_any n i j w.heap.size F w1 h1 h2 hi hj (rM.keep (below_tr b k1)) hF))
  obtain ⟨z, hz⟩ : ∃ z, z = mz n n F := ⟨_, rfl⟩
  obtain ⟨z2, hz2⟩ : ∃ z, z = mz n n (fun i j => clamp (evR F i j)) := ⟨_, rfl⟩
  obtain ⟨t, ht⟩ : ∃ t, t = any2 (fun i j => great (evR F i j)) n n := ⟨_, rfl⟩
  rw [← hz] at HCk rM hW
  rw [← hz2, ← ht] at HN
  rw [← hz, ← hz2, ← ht]
  have HW := Hid.mkV hW
  clear hz hz2 hW ht hF
  go_enter Try.func33, Try.ntmps33
  go_wp2_with (first
    | (rw [zeroM, ← HW.out]; refine wpList_loadM (by rfl) _ (by rfl) _ _ _ _ (by rfl) (by with_reducible exact rM) ?_)
    | fail)
  refine HCk.out.mono ?_
  rintro e w1 ⟨rfl, k1⟩
  have m1 := rM.keep k1
  have r1 := rA.keep k1
  have B1 := below_tr hB k1
  have c0 := m1.rows
  have c1 := m1.cols
  have HN1 := Hid.mkV (HN.out w1 k1)
  clear HCk HN rM rA hB k1
  go_wp2_with fail
  refine HN1.out.mono ?_
  rintro e w2 ⟨rfl, k2⟩
  have r2 := r1.keep k2
  have B2 := below_tr B1 k2
  go_wp2_with (first
    | (refine wpList_storeM rfl _ _ (by rfl) _ _ _ _ _ _ _ (by rfl) (by rfl) (by with_reducible exact r2) ?_)
    | fail)
  exact bodyPost_ret (results_M3 Try.results33 _ _ (w.heap.size + 1) _ _ _ rfl (r2.row _ _ _)) rfl ⟨rfl, below_row B2 (by omega) _⟩

set_option maxRecDepth 10000 in
set_option maxHeartbeats 1000000 in
theorem meven_no (r c : Int) (z : Nat → Int) (w : World) (h : ¬ May r c z ∨ (May r c z ∧ r ≠ c)) :
    Calls Try.prog 33 #[.agg (mvals r c z).toArray] w fun e w' => e = .returned (.tuple #[.agg (mvals 0 0 (fun _ => 0)).toArray, .bool false, .iface 50 (.int .i64 1)]) ∧ Below w.heap.size w w' := by
  have rM := (mrow_new w r c z).alloc (.cells (mvals 0 0 (fun _ => 0)).toArray 27)
  have rA := mrow_new1 w (.cells (mvals r c z).toArray 27) 0 0 (fun _ => 0)
  have hB := below_al (below_al (Below.refl _ w) (.cells (mvals r c z).toArray 27)) (.cells (mvals 0 0 (fun _ => 0)).toArray 27)
  obtain ⟨W, hW⟩ : ∃ W, W = (w.alloc (.cells (mvals r c z).toArray 27)).alloc (.cells (mvals 0 0 (fun _ => 0)).toArray 27) := ⟨_, rfl⟩
  rw [← hW] at rM rA hB
  have HW := Hid.mkV hW
  clear hW
  rcases h with h | ⟨h, h'⟩
  · have HCk := Hid.mkV (check_not W h)
    clear h
    go_enter Try.func33, Try.ntmps33
    go_wp2_with (first
      | (rw [zeroM, ← HW.out]; refine wpList_loadM (by rfl) _ (by rfl) _ _ _ _ (by rfl) (by with_reducible exact rM) ?_)
      | fail)
    refine HCk.out.mono ?_
    rintro e w1 ⟨rfl, k1⟩
    have r1 := rA.keep k1
    have B1 := below_tr hB k1
    go_wp2_with (first
      | (refine wpList_build0 rfl (by rfl) ?_)
      | (refine wpList_storeM rfl _ _ (by rfl) _ _ _ _ _ _ _ (by rfl) (by rfl) (by with_reducible exact r1) ?_)
      | fail)
    exact bodyPost_ret (results_M3 Try.results33 _ _ (w.heap.size + 1) _ _ _ rfl (r1.row _ _ _)) rfl ⟨rfl, below_row B1 (by omega) _⟩
  · have HCk := Hid.mkV (check_may W h)
    have ec : (r != c) = true := by rw [bne_iff_ne]; exact h'
    clear h h'
    go_enter Try.func33, Try.ntmps33
    go_wp2_with (first
      | (rw [zeroM, ← HW.out]; refine wpList_loadM (by rfl) _ (by rfl) _ _ _ _ (by rfl) (by with_reducible exact rM) ?_)
      | fail)
    refine HCk.out.mono ?_
    rintro e w1 ⟨rfl, k1⟩
    have r1 := rA.keep k1
    have m1 := rM.keep k1
    have c0 := m1.rows
    have c1 := m1.cols
    have B1 := below_tr hB k1
    clear HCk rM rA hB
    go_wp2_with (first
      | (refine wpList_build0 rfl (by rfl) ?_)
      | (refine wpList_storeM rfl _ _ (by rfl) _ _ _ _ _ _ _ (by rfl) (by rfl) (by with_reducible exact r1) ?_)
      | fail)
    exact bodyPost_ret (results_M3 Try.results33 _ _ (w.heap.size + 1) _ _ _ rfl (r1.row _ _ _)) rfl ⟨rfl, below_row B1 (by omega) _⟩


end Go.Proofs.Ytbdcbobmfkdalaa

/-
  Matrices (mat): Add, Sub, or their errors. (By py/MtG.py.)
-/
set_option linter.unusedSimpArgs false
set_option linter.unusedVariables false
namespace Go.Proofs.Ytbdcbobmfkdalaa
open Go.RowKit Vc Mt Qn Dt

namespace Mt
theorem mrow_new3 (w : World) (A B C : Obj) (r c : Int) (z : Nat → Int) : MRow ((((w.alloc A).alloc B).alloc C).alloc (.cells (mvals r c z).toArray 27)) (w.heap.size + 1 + 1 + 1) r c z := by
  have h := mrow_new (((w.alloc A).alloc B).alloc C) r c z
  rwa [show (((w.alloc A).alloc B).alloc C).heap.size = w.heap.size + 1 + 1 + 1 by simp] at h
end Mt

set_option maxRecDepth 10000 in
set_option maxHeartbeats 1000000 in
theorem mpairs1_Add (n m i j gn ga gb : Nat) (F G : Nat → Nat → Int) (w : World) (h1 : 1 ≤ n) (h2 : n ≤ 6) (h3 : 1 ≤ m) (h4 : m ≤ 6) (hi : i < n) (hj : j < m) (ra : MRow w ga n m (mz n m F)) (rb : MRow w gb n m (mz n m G)) (hF : B2 F) (hG : B2 G) (cn : w.cell? ⟨gn, 0, none⟩ = some (.func (.func 43) #[] #[])) :
    Calls Try.prog 49 #[.int .i64 (i : Int), .int .i64 (j : Int), .pointer (some ⟨gn, 0, none⟩), .pointer (some ⟨ga, 0, none⟩), .pointer (some ⟨gb, 0, none⟩)] w fun e w' => e = .returned (.tuple #[.int .i64 (clamp (F i j + G i j)), .bool (great (F i j + G i j)), .nilIface]) ∧ Below w.heap.size w w' := by
  have h36 := size_le h2 h4
  obtain ⟨p, hp⟩ : ∃ p, p = i * m := ⟨_, rfl⟩
  have hpl : p + m ≤ n * m := by rw [hp]; exact place_le hi
  have ca := ra.cell (show p + j < 36 by omega) (show p + 2 + j = p + j + 2 by omega)
  have cb := rb.cell (show p + j < 36 by omega) (show p + 2 + j = p + j + 2 by omega)
  rw [hp, mz_at hi hj, ← hp] at ca cb
  have RA : Hid (∀ W, Below w.heap.size w W → Calls Try.prog 25 #[.pointer (some ⟨ga, 0, none⟩), .int .i64 (i : Int)] W fun e w' => e = .returned (.slice (some ⟨ga, p + 2, none⟩) m (36 - p)) ∧ Below W.heap.size W w') := fun W b => row_any ga i m p n _ W (ra.keep b) hp h4 (by omega) (by omega) (by omega)
  have RB : Hid (∀ W, Below w.heap.size w W → Calls Try.prog 25 #[.pointer (some ⟨gb, 0, none⟩), .int .i64 (i : Int)] W fun e w' => e = .returned (.slice (some ⟨gb, p + 2, none⟩) m (36 - p)) ∧ Below W.heap.size W w') := fun W b => row_any gb i m p n _ W (rb.keep b) hp h4 (by omega) (by omega) (by omega)
  have QA := Hid.mkV (fun W => qadd_any (F i j) (G i j) W (hF i j).1 (hF i j).2 (hG i j).1 (hG i j).2)
  obtain ⟨R, hR⟩ : ∃ R, R = clamp (F i j + G i j) := ⟨_, rfl⟩
  obtain ⟨g, hg⟩ : ∃ g, g = great (F i j + G i j) := ⟨_, rfl⟩
  obtain ⟨x, hx⟩ : ∃ x, x = F i j := ⟨_, rfl⟩
  obtain ⟨y, hy⟩ : ∃ y, y = G i j := ⟨_, rfl⟩
  rw [← hR, ← hg] at QA
  rw [← hx] at ca
  rw [← hy] at cb
  rw [← hx, ← hy] at QA
  rw [← hR, ← hg]
  clear hR hg hx hy hF hG ra rb hp
  go_enter Try.func49, Try.ntmps49
  go_wp2
  go_region_held3 (fun w' => w'.cell? ⟨gn, 0, none⟩ = some (.func (.func 43) #[] #[]) ∧ w'.cell? ⟨ga, p + 2 + j, none⟩ = some (.int .i64 x) ∧ w'.cell? ⟨gb, p + 2 + j, none⟩ = some (.int .i64 y))
    (first
      | (refine ⟨keep_cell (W := w) ?_ cn, keep_cell (W := w) ?_ ca, keep_cell (W := w) ?_ cb⟩ <;> first | with_reducible exact Below.refl _ _ | with_reducible exact Vc.below_drew' _ | with_reducible exact kb | with_reducible exact ka | with_reducible exact kq))
    (first
      | (go_at_call_of 25 (Value.pointer (some ⟨ga, 0, none⟩)); refine (RA.out _ (by first | with_reducible exact Vc.below_drew' _ | with_reducible exact kb)).mono ?_; rintro e wa ⟨rfl, ka'⟩
         have ka : Below w.heap.size w wa := by first | exact below_tr (Vc.below_drew' _) ka' | exact below_tr kb ka')
      | (go_at_call_of 25 (Value.pointer (some ⟨gb, 0, none⟩)); refine (RB.out _ (by first | with_reducible exact Vc.below_drew' _ | with_reducible exact ka)).mono ?_; rintro e wb ⟨rfl, kb'⟩
         have kb : Below w.heap.size w wb := by first | exact below_tr (Vc.below_drew' _) kb' | exact below_tr ka kb')
      | (go_at_call 43; refine (QA.out _).mono ?_; rintro e wq ⟨rfl, kq'⟩
         have kq : Below w.heap.size w wq := by first | with_reducible exact below_tr kb kq' | with_reducible exact below_tr ka kq'))
  all_goals go_wp2
  all_goals go_ret3
  all_goals exact ⟨rfl, kq⟩

set_option maxRecDepth 10000 in
set_option maxHeartbeats 1000000 in
theorem byPairs_Add (n m : Nat) (F G : Nat → Nat → Int) (w : World) (h1 : 1 ≤ n) (h2 : n ≤ 6) (h3 : 1 ≤ m) (h4 : m ≤ 6) (hF : B2 F) (hG : B2 G) :
    Calls Try.prog 42 #[.agg (mvals n m (mz n m F)).toArray, .agg (mvals n m (mz n m G)).toArray, .func (.func 43) #[] #[]] w fun e w' => e = .returned (.tuple #[.agg (mvals n m (mz n m (fun i j => clamp (F i j + G i j)))).toArray, .bool (any2 (fun i j => great (F i j + G i j)) n m), .nilIface]) ∧ Below w.heap.size w w' := by
  have rA := (((mrow_new w n m (mz n m F)).alloc (.cells (mvals n m (mz n m G)).toArray 27)).alloc (.cells #[.func (.func 43) #[] #[]] 79)).alloc (.cells (mvals 0 0 (fun _ => 0)).toArray 27)
  have rB := ((mrow_new1 w (.cells (mvals n m (mz n m F)).toArray 27) n m (mz n m G)).alloc (.cells #[.func (.func 43) #[] #[]] 79)).alloc (.cells (mvals 0 0 (fun _ => 0)).toArray 27)
  have rZ := mrow_new3 w (.cells (mvals n m (mz n m F)).toArray 27) (.cells (mvals n m (mz n m G)).toArray 27) (.cells #[.func (.func 43) #[] #[]] 79) 0 0 (fun _ => 0)
  have hB := below_al (below_al (below_al (below_al (Below.refl _ w) (.cells (mvals n m (mz n m F)).toArray 27)) (.cells (mvals n m (mz n m G)).toArray 27)) (.cells #[.func (.func 43) #[] #[]] 79)) (.cells (mvals 0 0 (fun _ => 0)).toArray 27)
  have cn : ((((w.alloc (.cells (mvals n m (mz n m F)).toArray 27)).alloc (.cells (mvals n m (mz n m G)).toArray 27)).alloc (.cells #[.func (.func 43) #[] #[]] 79)).alloc (.cells (mvals 0 0 (fun _ => 0)).toArray 27)).cell? ⟨w.heap.size + 1 + 1, 0, none⟩ = some (.func (.func 43) #[] #[]) := by go_simp
  obtain ⟨W, hW⟩ : ∃ W, W = (((w.alloc (.cells (mvals n m (mz n m F)).toArray 27)).alloc (.cells (mvals n m (mz n m G)).toArray 27)).alloc (.cells #[.func (.func 43) #[] #[]] 79)).alloc (.cells (mvals 0 0 (fun _ => 0)).toArray 27) := ⟨_, rfl⟩
  rw [← hW] at rA rB rZ hB cn
  have HCa := Hid.mkV (fun W' => check_may W' (may_mz (F := F) h1 h2 h3 h4))
  have HCb := Hid.mkV (fun W' => check_may W' (may_mz (F := G) h1 h2 h3 h4))
  have HN := Hid.mkV (fun W' (b : Below W.heap.size W W') => byNumber_byPairs (.pointer (some ⟨w.heap.size + 1 + 1, 0, none⟩)) (.pointer (some ⟨w.heap.size, 0, none⟩)) (.pointer (some ⟨w.heap.size + 1, 0, none⟩)) n m (fun i j => clamp (F i j + G i j)) (fun i j => great (F i j + G i j)) W' h1 h2 h3 h4
    (fun i j hi hj w1 k1 => mpairs1_Add n m i j (w.heap.size + 1 + 1) w.heap.size (w.heap.size + 1) F G w1 h1 h2 h3 h4 hi hj (rA.keep (below_tr b k1)) (rB.keep (below_tr b k1)) hF hG (keep_cell (below_tr b k1) cn)))
  obtain ⟨z, hz⟩ : ∃ z, z = mz n m F := ⟨_, rfl⟩
  obtain ⟨y, hy⟩ : ∃ y, y = mz n m G := ⟨_, rfl⟩
  obtain ⟨v, hv⟩ : ∃ v, v = mz n m (fun i j => clamp (F i j + G i j)) := ⟨_, rfl⟩
  obtain ⟨t, ht⟩ : ∃ t, t = any2 (fun i j => great (F i j + G i j)) n m := ⟨_, rfl⟩
  rw [← hz] at HCa rA hW
  rw [← hy] at HCb rB hW
  rw [← hv, ← ht] at HN
  rw [← hz, ← hy, ← hv, ← ht]
  have HW := Hid.mkV hW
  clear hz hy hv ht hW hF hG
  go_enter Try.func42, Try.ntmps42
  go_wp2_with (first
    | (rw [zeroM, ← HW.out]; refine wpList_loadM (by rfl) _ (by rfl) _ _ _ _ (by rfl) (by with_reducible exact rA) ?_)
    | fail)
  refine (HCa.out _).mono ?_
  rintro e w1 ⟨rfl, k1⟩
  have a1 := rA.keep k1
  have b1 := rB.keep k1
  have z1 := rZ.keep k1
  have B1 := below_tr hB k1
  clear rA rB rZ hB cn HCa
  go_wp2_with (first
    | (refine wpList_loadM (by rfl) _ (by rfl) _ _ _ _ (by rfl) (by with_reducible exact b1) ?_)
    | fail)
  refine (HCb.out _).mono ?_
  rintro e w2 ⟨rfl, k2⟩
  have a2 := a1.keep k2
  have b2 := b1.keep k2
  have z2 := z1.keep k2
  have B2' := below_tr B1 k2
  have c0 := a2.rows
  have c1 := a2.cols
  have d0 := b2.rows
  have d1 := b2.cols
  have HN2 := Hid.mkV (HN.out w2 (below_tr k1 k2))
  clear a1 b1 z1 B1 HCb HN k1 k2
  go_wp2_with fail
  refine HN2.out.mono ?_
  rintro e w3 ⟨rfl, k3⟩
  have z3 := z2.keep k3
  have B3 := below_tr B2' k3
  go_wp2_with (first
    | (refine wpList_storeM rfl _ _ (by rfl) _ _ _ _ _ _ _ (by rfl) (by rfl) (by with_reducible exact z3) ?_)
    | fail)
  exact bodyPost_ret (results_M3 Try.results42 _ _ (w.heap.size + 1 + 1 + 1) _ _ _ rfl (z3.row _ _ _)) rfl ⟨rfl, below_row B3 (by omega) _⟩

set_option maxRecDepth 10000 in
set_option maxHeartbeats 1000000 in
theorem byPairs_Add_no (r c r' c' : Int) (z y : Nat → Int) (w : World) (h : ¬ May r c z ∨ (May r c z ∧ ¬ May r' c' y) ∨ (May r c z ∧ May r' c' y ∧ (r ≠ r' ∨ c ≠ c'))) :
    Calls Try.prog 42 #[.agg (mvals r c z).toArray, .agg (mvals r' c' y).toArray, .func (.func 43) #[] #[]] w fun e w' => e = .returned (.tuple #[.agg (mvals 0 0 (fun _ => 0)).toArray, .bool false, .iface 50 (.int .i64 1)]) ∧ Below w.heap.size w w' := by
  have rA := (((mrow_new w r c z).alloc (.cells (mvals r' c' y).toArray 27)).alloc (.cells #[.func (.func 43) #[] #[]] 79)).alloc (.cells (mvals 0 0 (fun _ => 0)).toArray 27)
  have rB := ((mrow_new1 w (.cells (mvals r c z).toArray 27) r' c' y).alloc (.cells #[.func (.func 43) #[] #[]] 79)).alloc (.cells (mvals 0 0 (fun _ => 0)).toArray 27)
  have rZ := mrow_new3 w (.cells (mvals r c z).toArray 27) (.cells (mvals r' c' y).toArray 27) (.cells #[.func (.func 43) #[] #[]] 79) 0 0 (fun _ => 0)
  have hB := below_al (below_al (below_al (below_al (Below.refl _ w) (.cells (mvals r c z).toArray 27)) (.cells (mvals r' c' y).toArray 27)) (.cells #[.func (.func 43) #[] #[]] 79)) (.cells (mvals 0 0 (fun _ => 0)).toArray 27)
  obtain ⟨W, hW⟩ : ∃ W, W = (((w.alloc (.cells (mvals r c z).toArray 27)).alloc (.cells (mvals r' c' y).toArray 27)).alloc (.cells #[.func (.func 43) #[] #[]] 79)).alloc (.cells (mvals 0 0 (fun _ => 0)).toArray 27) := ⟨_, rfl⟩
  rw [← hW] at rA rB rZ hB
  have HW := Hid.mkV hW
  clear hW
  rcases h with h | ⟨h, h'⟩ | ⟨h, h', h''⟩
  · have HC := Hid.mkV (fun W' => check_not W' h)
    clear h
    go_enter Try.func42, Try.ntmps42
    go_wp2_with (first
      | (rw [zeroM, ← HW.out]; refine wpList_loadM (by rfl) _ (by rfl) _ _ _ _ (by rfl) (by with_reducible exact rA) ?_)
      | fail)
    refine (HC.out _).mono ?_
    rintro e w1 ⟨rfl, k1⟩
    have z1 := rZ.keep k1
    have B1 := below_tr hB k1
    go_wp2_with (first
      | (refine wpList_build0 rfl (by rfl) ?_)
      | (refine wpList_storeM rfl _ _ (by rfl) _ _ _ _ _ _ _ (by rfl) (by rfl) (by with_reducible exact z1) ?_)
      | fail)
    exact bodyPost_ret (results_M3 Try.results42 _ _ (w.heap.size + 1 + 1 + 1) _ _ _ rfl (z1.row _ _ _)) rfl ⟨rfl, below_row B1 (by omega) _⟩
  · have HC := Hid.mkV (fun W' => check_may W' h)
    have HC' := Hid.mkV (fun W' => check_not W' h')
    clear h h'
    go_enter Try.func42, Try.ntmps42
    go_wp2_with (first
      | (rw [zeroM, ← HW.out]; refine wpList_loadM (by rfl) _ (by rfl) _ _ _ _ (by rfl) (by with_reducible exact rA) ?_)
      | fail)
    refine (HC.out _).mono ?_
    rintro e w1 ⟨rfl, k1⟩
    have b1 := rB.keep k1
    have z1 := rZ.keep k1
    have B1 := below_tr hB k1
    clear rA rB rZ hB HC
    go_wp2_with (first
      | (refine wpList_loadM (by rfl) _ (by rfl) _ _ _ _ (by rfl) (by with_reducible exact b1) ?_)
      | fail)
    refine (HC'.out _).mono ?_
    rintro e w2 ⟨rfl, k2⟩
    have z2 := z1.keep k2
    have B2' := below_tr B1 k2
    go_wp2_with (first
      | (refine wpList_build0 rfl (by rfl) ?_)
      | (refine wpList_storeM rfl _ _ (by rfl) _ _ _ _ _ _ _ (by rfl) (by rfl) (by with_reducible exact z2) ?_)
      | fail)
    exact bodyPost_ret (results_M3 Try.results42 _ _ (w.heap.size + 1 + 1 + 1) _ _ _ rfl (z2.row _ _ _)) rfl ⟨rfl, below_row B2' (by omega) _⟩
  · have HC := Hid.mkV (fun W' => check_may W' h)
    have HC' := Hid.mkV (fun W' => check_may W' h')
    have HH := Hid.mkV h''
    clear h h' h''
    go_enter Try.func42, Try.ntmps42
    go_wp2_with (first
      | (rw [zeroM, ← HW.out]; refine wpList_loadM (by rfl) _ (by rfl) _ _ _ _ (by rfl) (by with_reducible exact rA) ?_)
      | fail)
    refine (HC.out _).mono ?_
    rintro e w1 ⟨rfl, k1⟩
    have a1 := rA.keep k1
    have b1 := rB.keep k1
    have z1 := rZ.keep k1
    have B1 := below_tr hB k1
    clear rA rB rZ hB HC
    go_wp2_with (first
      | (refine wpList_loadM (by rfl) _ (by rfl) _ _ _ _ (by rfl) (by with_reducible exact b1) ?_)
      | fail)
    refine (HC'.out _).mono ?_
    rintro e w2 ⟨rfl, k2⟩
    have z2 := z1.keep k2
    have a2 := a1.keep k2
    have b2 := b1.keep k2
    have c0 := a2.rows
    have c1 := a2.cols
    have d0 := b2.rows
    have d1 := b2.cols
    have B2' := below_tr B1 k2
    clear a1 b1 a2 b2
    by_cases hr : r = r'
    · have er : (r != r') = false := by rw [hr]; simp
      have ec : (c != c') = true := by rw [bne_iff_ne]; rcases HH.out with h | h; exact absurd hr h; exact h
      clear hr
      go_wp2_with (first
        | (refine wpList_build0 rfl (by rfl) ?_)
        | (refine wpList_storeM rfl _ _ (by rfl) _ _ _ _ _ _ _ (by rfl) (by rfl) (by with_reducible exact z2) ?_)
        | fail)
      exact bodyPost_ret (results_M3 Try.results42 _ _ (w.heap.size + 1 + 1 + 1) _ _ _ rfl (z2.row _ _ _)) rfl ⟨rfl, below_row B2' (by omega) _⟩
    · have er : (r != r') = true := by rw [bne_iff_ne]; exact hr
      clear hr
      go_wp2_with (first
        | (refine wpList_build0 rfl (by rfl) ?_)
        | (refine wpList_storeM rfl _ _ (by rfl) _ _ _ _ _ _ _ (by rfl) (by rfl) (by with_reducible exact z2) ?_)
        | fail)
      exact bodyPost_ret (results_M3 Try.results42 _ _ (w.heap.size + 1 + 1 + 1) _ _ _ rfl (z2.row _ _ _)) rfl ⟨rfl, below_row B2' (by omega) _⟩

set_option maxRecDepth 10000 in
set_option maxHeartbeats 1000000 in
theorem madd_by (r c r' c' : Int) (z y : Nat → Int) (R : Value) (w : World) (r2 c2 : Int) (z2 : Nat → Int) (t : Bool) (er : Value)
    (h : ∀ W, Below w.heap.size w W → Calls Try.prog 42 #[.agg (mvals r c z).toArray, .agg (mvals r' c' y).toArray, .func (.func 43) #[] #[]] W fun e w' => e = .returned (.tuple #[.agg (mvals r2 c2 z2).toArray, .bool t, er]) ∧ Below W.heap.size W w') :
    Calls Try.prog 31 #[.agg (mvals r c z).toArray, .agg (mvals r' c' y).toArray] w fun e w' => e = .returned (.tuple #[.agg (mvals r2 c2 z2).toArray, .bool t, er]) ∧ Below w.heap.size w w' := by
  have rA := ((mrow_new w r c z).alloc (.cells (mvals r' c' y).toArray 27)).alloc (.cells (mvals 0 0 (fun _ => 0)).toArray 27)
  have rB := (mrow_new1 w (.cells (mvals r c z).toArray 27) r' c' y).alloc (.cells (mvals 0 0 (fun _ => 0)).toArray 27)
  have rZ := mrow_new2 w (.cells (mvals r c z).toArray 27) (.cells (mvals r' c' y).toArray 27) 0 0 (fun _ => 0)
  have hB := below_al (below_al (below_al (Below.refl _ w) (.cells (mvals r c z).toArray 27)) (.cells (mvals r' c' y).toArray 27)) (.cells (mvals 0 0 (fun _ => 0)).toArray 27)
  obtain ⟨W, hW⟩ : ∃ W, W = ((w.alloc (.cells (mvals r c z).toArray 27)).alloc (.cells (mvals r' c' y).toArray 27)).alloc (.cells (mvals 0 0 (fun _ => 0)).toArray 27) := ⟨_, rfl⟩
  rw [← hW] at rA rB rZ hB
  have HW := Hid.mkV hW
  have HN := Hid.mkV (h W hB)
  clear hW h
  go_enter Try.func31, Try.ntmps31
  go_wp2_with (first
    | (rw [zeroM, ← HW.out]; refine wpList_loadM (by rfl) _ (by rfl) _ _ _ _ (by rfl) (by with_reducible exact rA) ?_)
    | (refine wpList_loadM (by rfl) _ (by rfl) _ _ _ _ (by rfl) (by with_reducible exact rB) ?_)
    | fail)
  refine HN.out.mono ?_
  rintro e w1 ⟨rfl, k1⟩
  have z1 := rZ.keep k1
  have B1 := below_tr hB k1
  go_wp2_with (first
    | (refine wpList_storeM rfl _ _ (by rfl) _ _ _ _ _ _ _ (by rfl) (by rfl) (by with_reducible exact z1) ?_)
    | fail)
  exact bodyPost_ret (results_M3 Try.results31 _ _ (w.heap.size + 1 + 1) _ _ _ rfl (z1.row _ _ _)) rfl ⟨rfl, below_row B1 (by omega) _⟩

theorem madd_any (n m : Nat) (F G : Nat → Nat → Int) (w : World) (h1 : 1 ≤ n) (h2 : n ≤ 6) (h3 : 1 ≤ m) (h4 : m ≤ 6) (hF : B2 F) (hG : B2 G) :
    Calls Try.prog 31 #[.agg (mvals n m (mz n m F)).toArray, .agg (mvals n m (mz n m G)).toArray] w fun e w' => e = .returned (.tuple #[.agg (mvals n m (mz n m (fun i j => clamp (F i j + G i j)))).toArray, .bool (any2 (fun i j => great (F i j + G i j)) n m), .nilIface]) ∧ Below w.heap.size w w' :=
  madd_by _ _ _ _ _ _ undef w _ _ _ _ _ (fun W _ => byPairs_Add n m F G W h1 h2 h3 h4 hF hG)

theorem madd_no (r c r' c' : Int) (z y : Nat → Int) (w : World) (h : ¬ May r c z ∨ (May r c z ∧ ¬ May r' c' y) ∨ (May r c z ∧ May r' c' y ∧ (r ≠ r' ∨ c ≠ c'))) :
    Calls Try.prog 31 #[.agg (mvals r c z).toArray, .agg (mvals r' c' y).toArray] w fun e w' => e = .returned (.tuple #[.agg (mvals 0 0 (fun _ => 0)).toArray, .bool false, .iface 50 (.int .i64 1)]) ∧ Below w.heap.size w w' :=
  madd_by _ _ _ _ _ _ undef w _ _ _ _ _ (fun W _ => byPairs_Add_no r c r' c' z y W h)


end Go.Proofs.Ytbdcbobmfkdalaa
