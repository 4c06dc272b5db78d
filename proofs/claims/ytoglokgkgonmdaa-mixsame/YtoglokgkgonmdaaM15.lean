/-
  Matrices (mat): Mul, Apply, Even, Outer, or their errors.
-/
import Derived.Test.YtoglokgkgonmdaaM3
import Derived.Test.YtoglokgkgonmdaaM14
import Derived.Deep.RegionHeld3
set_option linter.unusedSimpArgs false
set_option linter.unusedVariables false
namespace Go.Proofs.Ytoglokgkgonmdaa
open Go.RowKit Vc Mt Qn Dt

theorem mdot_sl (ao bo : Option Addr) (n ca cb : Nat) (za zb : Nat → Int) (q : Int) (b : Nat) (w : World) (hq : q = (b : Int)) (hn : n ≤ 64) (ha : Sl w ao n ca za) (hb : Sl w bo n cb zb) (ba : B64 za) (bb : B64 zb) (hp : b ≤ 62) :
    Calls Try.prog 42 #[.slice ao n ca, .slice bo n cb, .int .i64 q] w fun e w' => e = .returned (.tuple #[.int .i64 (clamp (rne (dk za zb n) (2 ^ b))), .bool (great (rne (dk za zb n) (2 ^ b))), .nilIface]) ∧ Below w.heap.size w w' := by
  subst hq
  obtain ⟨xa, hao, hca⟩ := ha.get
  obtain ⟨xb, hbo, hcb⟩ := hb.get
  exact qdot_any ao bo xa xb n ca cb za zb b w hn hao hbo hca hcb ba bb hp

namespace Mt
theorem MRow.rowSl {w : World} {g n m i p : Nat} {F : Nat → Nat → Int} (r : MRow w g n m (mz n m F)) (hi : i < n) (h36 : n * m ≤ 36) (hp : p = i * m) : Sl w (some ⟨g, p + 2, none⟩) m (36 - p) (F i) := by
  subst hp
  have := place_le (c := m) hi
  exact (r.sl (by omega) (by omega) (by omega) rfl).congr (fun j hj => mz_at hi hj)
end Mt



namespace Mt
/-- The half of both, rounded. -/
def evR (F : Nat → Nat → Int) : Nat → Nat → Int := fun i j => rne (F i j + F j i) (2 ^ 1)
theorem dk_two (a b : Int) (z : Nat → Int) (h0 : z 0 = a) (h1 : z 1 = b) : dk z (fun _ => 1) 2 = a + b := by
  show 0 + z 0 * 1 + z 1 * 1 = a + b
  rw [h0, h1]; omega
theorem sl_duo {w : World} {x : Addr} {a b : Int} (h : w.cell? x = some (.int .i64 a)) (h2 : w.cell? (x.add 1) = some (.int .i64 b)) : Sl w (some x) 2 2 (fun k => if k = 0 then a else b) :=
  ⟨Nat.le_refl _, by omega, fun k hk => ⟨x, rfl, by
    match k, hk with
    | 0, _ => exact h
    | 1, _ => exact h2⟩⟩
end Mt

/-- The halves' Dot: of a and b, by ones. -/
theorem mhalf_any (a b : Int) (x y : Addr) (w : World) (ca : w.cell? x = some (.int .i64 a)) (cb : w.cell? (x.add 1) = some (.int .i64 b)) (d0 : w.cell? y = some (.int .i64 1)) (d1 : w.cell? (y.add 1) = some (.int .i64 1)) (ha0 : -9223372036854775808 ≤ a) (ha1 : a ≤ 9223372036854775807) (hb0 : -9223372036854775808 ≤ b) (hb1 : b ≤ 9223372036854775807) :
    Calls Try.prog 42 #[.slice (some x) 2 2, .slice (some y) 2 2, .int .i64 1] w fun e w' => e = .returned (.tuple #[.int .i64 (clamp (rne (a + b) (2 ^ 1))), .bool (great (rne (a + b) (2 ^ 1))), .nilIface]) ∧ Below w.heap.size w w' := by
  have h := mdot_sl (some x) (some y) 2 2 2 (fun k => if k = 0 then a else b) (fun _ => 1) 1 1 w rfl (by omega) (sl_duo ca cb) ((sl_duo d0 d1).congr (fun k _ => by split <;> rfl)) (fun k => by show _ ≤ (if k = 0 then a else b) ∧ (if k = 0 then a else b) ≤ _; split <;> exact ⟨by assumption, by assumption⟩) (fun _ => ⟨by show (-9223372036854775808 : Int) ≤ 1; omega, by show (1 : Int) ≤ 9223372036854775807; omega⟩) (by omega)
  rw [dk_two a b _ rfl rfl] at h
  exact h

set_option maxRecDepth 10000 in
set_option maxHeartbeats 1000000 in
theorem meven1_any (n i j g : Nat) (F : Nat → Nat → Int) (w : World) (h1 : 1 ≤ n) (h2 : n ≤ 6) (hi : i < n) (hj : j < n) (ra : MRow w g n n (mz n n F)) (hF : B2 F) :
    Calls Try.prog 68 #[.int .i64 (i : Int), .int .i64 (j : Int), .pointer (some ⟨g, 0, none⟩)] w fun e w' => e = .returned (.tuple #[.int .i64 (clamp (evR F i j)), .bool (great (evR F i j)), .nilIface]) ∧ Below w.heap.size w w' := by
  have h36 := size_le h2 h2
  obtain ⟨p, hp⟩ : ∃ p, p = i * n := ⟨_, rfl⟩
  obtain ⟨s, hs⟩ : ∃ s, s = j * n := ⟨_, rfl⟩
  have hpl : p + n ≤ n * n := by rw [hp]; exact place_le hi
  have hsl : s + n ≤ n * n := by rw [hs]; exact place_le hj
  have ca := ra.cell (show p + j < 36 by omega) (show p + 2 + j = p + j + 2 by omega)
  have cb := ra.cell (show s + i < 36 by omega) (show s + 2 + i = s + i + 2 by omega)
  rw [hp, mz_at hi hj, ← hp] at ca
  rw [hs, mz_at hj hi, ← hs] at cb
  have RA : Hid (∀ W, Below w.heap.size w W → Calls Try.prog 35 #[.pointer (some ⟨g, 0, none⟩), .int .i64 (i : Int)] W fun e w' => e = .returned (.slice (some ⟨g, p + 2, none⟩) n (36 - p)) ∧ Below W.heap.size W w') := fun W b => row_any g i n p n _ W (ra.keep b) hp h2 (by omega) (by omega) (by omega)
  have RB : Hid (∀ W, Below w.heap.size w W → Calls Try.prog 35 #[.pointer (some ⟨g, 0, none⟩), .int .i64 (j : Int)] W fun e w' => e = .returned (.slice (some ⟨g, s + 2, none⟩) n (36 - s)) ∧ Below W.heap.size W w') := fun W b => row_any g j n s n _ W (ra.keep b) hs h2 (by omega) (by omega) (by omega)
  have HD := Hid.mkV (fun x y W ca cb d0 d1 => mhalf_any (F i j) (F j i) x y W ca cb d0 d1 (hF i j).1 (hF i j).2 (hF j i).1 (hF j i).2)
  have eR : rne (F i j + F j i) (2 ^ 1) = evR F i j := rfl
  rw [eR] at HD
  obtain ⟨R, hR⟩ : ∃ R, R = clamp (evR F i j) := ⟨_, rfl⟩
  obtain ⟨t, ht⟩ : ∃ t, t = great (evR F i j) := ⟨_, rfl⟩
  obtain ⟨x, hx⟩ : ∃ x, x = F i j := ⟨_, rfl⟩
  obtain ⟨y, hy⟩ : ∃ y, y = F j i := ⟨_, rfl⟩
  rw [← hR, ← ht, ← hx, ← hy] at HD
  rw [← hx] at ca
  rw [← hy] at cb
  rw [← hR, ← ht]
  clear hR ht hx hy eR hF ra hp hs
  go_enter Try.func68, Try.ntmps68
  go_wp2
  go_region_held3 (fun w' => w'.cell? ⟨g, p + 2 + j, none⟩ = some (.int .i64 x) ∧ w'.cell? ⟨g, s + 2 + i, none⟩ = some (.int .i64 y))
    (first
      | (refine ⟨keep_cell (W := w) ?_ ca, keep_cell (W := w) ?_ cb⟩ <;> first | with_reducible exact Below.refl _ _ | with_reducible exact Vc.below_drew' _ | with_reducible exact kb | with_reducible exact ka | with_reducible exact below_al kb _ | with_reducible exact below_al ka _))
    (first
      | (go_at_call_of 35 (Value.int IntKind.i64 (i : Int)); refine (RA.out _ (by first | with_reducible exact Vc.below_drew' _ | with_reducible exact kb)).mono ?_; rintro e wa ⟨rfl, ka'⟩
         have ka : Below w.heap.size w wa := by first | exact below_tr (Vc.below_drew' _) ka' | exact below_tr kb ka')
      | (go_at_call_of 35 (Value.int IntKind.i64 (j : Int)); refine (RB.out _ (by first | with_reducible exact Vc.below_drew' _ | with_reducible exact ka)).mono ?_; rintro e wb ⟨rfl, kb'⟩
         have kb : Below w.heap.size w wb := by first | exact below_tr (Vc.below_drew' _) kb' | exact below_tr ka kb'))
  all_goals go_wp2_with fail
  all_goals refine (HD.out _ _ _ (by go_simp) (by rw [Addr.add_lit]; go_simp) (by go_simp) (by rw [Addr.add_lit]; go_simp)).mono ?_
  all_goals rintro e w3 ⟨rfl, k3⟩
  all_goals go_wp2
  all_goals go_ret3
  all_goals first
    | exact ⟨rfl, below_tr (below_al (below_al kb _) _) k3⟩
    | exact ⟨rfl, below_tr (below_al (below_al ka _) _) k3⟩

set_option maxRecDepth 10000 in
set_option maxHeartbeats 1000000 in
theorem meven_any (n : Nat) (F : Nat → Nat → Int) (w : World) (h1 : 1 ≤ n) (h2 : n ≤ 6) (hF : B2 F) :
    Calls Try.prog 48 #[.agg (mvals n n (mz n n F)).toArray] w fun e w' => e = .returned (.tuple #[.agg (mvals n n (mz n n (fun i j => clamp (evR F i j)))).toArray, .bool (any2 (fun i j => great (evR F i j)) n n), .nilIface]) ∧ Below w.heap.size w w' := by
  have rM := (mrow_new w n n (mz n n F)).alloc (.cells (mvals 0 0 (fun _ => 0)).toArray 27)
  have rA := mrow_new1 w (.cells (mvals n n (mz n n F)).toArray 27) 0 0 (fun _ => 0)
  have hB := below_al (below_al (Below.refl _ w) (.cells (mvals n n (mz n n F)).toArray 27)) (.cells (mvals 0 0 (fun _ => 0)).toArray 27)
  obtain ⟨W, hW⟩ : ∃ W, W = (w.alloc (.cells (mvals n n (mz n n F)).toArray 27)).alloc (.cells (mvals 0 0 (fun _ => 0)).toArray 27) := ⟨_, rfl⟩
  rw [← hW] at rM rA hB
  have HCk := Hid.mkV (check_may W (may_mz (F := F) h1 h2 h1 h2))
  have HN := Hid.mkV (fun W' (b : Below W.heap.size W W') => byNumber_Even (.pointer (some ⟨w.heap.size, 0, none⟩)) n n (fun i j => clamp (evR F i j)) (fun i j => great (evR F i j)) W' h1 h2 h1 h2 (fun i j hi hj w1 k1 => meven1_any n i j w.heap.size F w1 h1 h2 hi hj (rM.keep (below_tr b k1)) hF))
  obtain ⟨z, hz⟩ : ∃ z, z = mz n n F := ⟨_, rfl⟩
  obtain ⟨z2, hz2⟩ : ∃ z, z = mz n n (fun i j => clamp (evR F i j)) := ⟨_, rfl⟩
  obtain ⟨t, ht⟩ : ∃ t, t = any2 (fun i j => great (evR F i j)) n n := ⟨_, rfl⟩
  rw [← hz] at HCk rM hW
  rw [← hz2, ← ht] at HN
  rw [← hz, ← hz2, ← ht]
  have HW := Hid.mkV hW
  clear hz hz2 hW ht hF
  go_enter Try.func48, Try.ntmps48
  go_wp2_with (first
    | (rw [zeroM, ← HW.out]; refine wpList_loadM (by rfl) _ (by rfl) _ _ _ _ (by rfl) (by with_reducible exact rM) ?_)
    | fail)
  refine HCk.out.mono ?_
  rintro e w1 ⟨rfl, k1⟩
  have m1 := rM.keep k1
  have r1 := rA.keep k1
  have B1 := below_tr hB k1
  have c0 := m1.rows
  have c1 := m1.cols
  have HN1 := Hid.mkV (HN.out w1 k1)
  clear HCk HN rM rA hB k1
  go_wp2_with fail
  refine HN1.out.mono ?_
  rintro e w2 ⟨rfl, k2⟩
  have r2 := r1.keep k2
  have B2 := below_tr B1 k2
  go_wp2_with (first
    | (refine wpList_storeM rfl _ _ (by rfl) _ _ _ _ _ _ _ (by rfl) (by rfl) (by with_reducible exact r2) ?_)
    | fail)
  exact bodyPost_ret (results_M3 Try.results48 _ _ (w.heap.size + 1) _ _ _ rfl (r2.row _ _ _)) rfl ⟨rfl, below_row B2 (by omega) _⟩

set_option maxRecDepth 10000 in
set_option maxHeartbeats 1000000 in
theorem meven_no (r c : Int) (z : Nat → Int) (w : World) (h : ¬ May r c z ∨ (May r c z ∧ r ≠ c)) :
    Calls Try.prog 48 #[.agg (mvals r c z).toArray] w fun e w' => e = .returned (.tuple #[.agg (mvals 0 0 (fun _ => 0)).toArray, .bool false, .iface 52 (.int .i64 1)]) ∧ Below w.heap.size w w' := by
  have rM := (mrow_new w r c z).alloc (.cells (mvals 0 0 (fun _ => 0)).toArray 27)
  have rA := mrow_new1 w (.cells (mvals r c z).toArray 27) 0 0 (fun _ => 0)
  have hB := below_al (below_al (Below.refl _ w) (.cells (mvals r c z).toArray 27)) (.cells (mvals 0 0 (fun _ => 0)).toArray 27)
  obtain ⟨W, hW⟩ : ∃ W, W = (w.alloc (.cells (mvals r c z).toArray 27)).alloc (.cells (mvals 0 0 (fun _ => 0)).toArray 27) := ⟨_, rfl⟩
  rw [← hW] at rM rA hB
  have HW := Hid.mkV hW
  clear hW
  rcases h with h | ⟨h, h'⟩
  · have HCk := Hid.mkV (check_not W h)
    clear h
    go_enter Try.func48, Try.ntmps48
    go_wp2_with (first
      | (rw [zeroM, ← HW.out]; refine wpList_loadM (by rfl) _ (by rfl) _ _ _ _ (by rfl) (by with_reducible exact rM) ?_)
      | fail)
    refine HCk.out.mono ?_
    rintro e w1 ⟨rfl, k1⟩
    have r1 := rA.keep k1
    have B1 := below_tr hB k1
    go_wp2_with (first
      | (refine wpList_build0 rfl (by rfl) ?_)
      | (refine wpList_storeM rfl _ _ (by rfl) _ _ _ _ _ _ _ (by rfl) (by rfl) (by with_reducible exact r1) ?_)
      | fail)
    exact bodyPost_ret (results_M3 Try.results48 _ _ (w.heap.size + 1) _ _ _ rfl (r1.row _ _ _)) rfl ⟨rfl, below_row B1 (by omega) _⟩
  · have HCk := Hid.mkV (check_may W h)
    have ec : (r != c) = true := by rw [bne_iff_ne]; exact h'
    clear h h'
    go_enter Try.func48, Try.ntmps48
    go_wp2_with (first
      | (rw [zeroM, ← HW.out]; refine wpList_loadM (by rfl) _ (by rfl) _ _ _ _ (by rfl) (by with_reducible exact rM) ?_)
      | fail)
    refine HCk.out.mono ?_
    rintro e w1 ⟨rfl, k1⟩
    have r1 := rA.keep k1
    have m1 := rM.keep k1
    have c0 := m1.rows
    have c1 := m1.cols
    have B1 := below_tr hB k1
    clear HCk rM rA hB
    go_wp2_with (first
      | (refine wpList_build0 rfl (by rfl) ?_)
      | (refine wpList_storeM rfl _ _ (by rfl) _ _ _ _ _ _ _ (by rfl) (by rfl) (by with_reducible exact r1) ?_)
      | fail)
    exact bodyPost_ret (results_M3 Try.results48 _ _ (w.heap.size + 1) _ _ _ rfl (r1.row _ _ _)) rfl ⟨rfl, below_row B1 (by omega) _⟩

namespace Mt
/-- The exact product, rounded. -/
def outR (a b : Nat → Int) : Nat → Nat → Int := fun i j => rne (a i * b j) (2 ^ 20)
end Mt

set_option maxRecDepth 10000 in
set_option maxHeartbeats 1000000 in
theorem mouter1_any (n m i j ga gb ca cb : Nat) (ao bo : Option Addr) (a b : Nat → Int) (w : World) (hi : i < n) (hj : j < m) (ha : Sl w ao n ca a) (hb : Sl w bo m cb b) (ba : B64 a) (bb : B64 b) (cga : w.cell? ⟨ga, 0, none⟩ = some (.slice ao n ca)) (cgb : w.cell? ⟨gb, 0, none⟩ = some (.slice bo m cb)) :
    Calls Try.prog 79 #[.int .i64 (i : Int), .int .i64 (j : Int), .pointer (some ⟨ga, 0, none⟩), .pointer (some ⟨gb, 0, none⟩)] w fun e w' => e = .returned (.tuple #[.int .i64 (clamp (outR a b i j)), .bool (great (outR a b i j)), .nilIface]) ∧ Below w.heap.size w w' := by
  obtain ⟨xa, hao, hca⟩ := ha.get
  obtain ⟨xb, hbo, hcb⟩ := hb.get
  have l1 := ha.le
  have l2 := ha.cap
  have l3 := hb.le
  have l4 := hb.cap
  obtain rfl := hao (by omega)
  obtain rfl := hbo (by omega)
  have da := hca i hi
  have db := hcb j hj
  have HM : Hid (∀ W, Calls Try.prog 80 #[.int .i64 (a i), .int .i64 (b j), .int .i64 20] W fun e w' => e = .returned (.tuple #[.int .i64 (clamp (outR a b i j)), .bool (great (outR a b i j)), .nilIface]) ∧ Below W.heap.size W w') := fun W => qmul_any (a i) (b j) 20 W (ba i).1 (ba i).2 (bb j).1 (bb j).2 (by omega)
  obtain ⟨R, hR⟩ : ∃ R, R = clamp (outR a b i j) := ⟨_, rfl⟩
  obtain ⟨t, ht⟩ : ∃ t, t = great (outR a b i j) := ⟨_, rfl⟩
  obtain ⟨x, hx⟩ : ∃ x, x = a i := ⟨_, rfl⟩
  obtain ⟨y, hy⟩ : ∃ y, y = b j := ⟨_, rfl⟩
  rw [← hR, ← ht, ← hx, ← hy] at HM
  rw [← hx] at da
  rw [← hy] at db
  rw [← hR, ← ht]
  clear hR ht hx hy ha hb ba bb hca hcb hao hbo
  go_enter Try.func79, Try.ntmps79
  go_wp2
  go_region_held3 (fun w' => w'.cell? ⟨ga, 0, none⟩ = some (.slice (some xa) n ca) ∧ w'.cell? ⟨gb, 0, none⟩ = some (.slice (some xb) m cb) ∧ w'.cell? (xa.add i) = some (.int .i64 x) ∧ w'.cell? (xb.add j) = some (.int .i64 y))
    (first
      | (refine ⟨keep_cell (W := w) ?_ cga, keep_cell (W := w) ?_ cgb, keep_cell (W := w) ?_ da, keep_cell (W := w) ?_ db⟩ <;> first | with_reducible exact Below.refl _ _ | with_reducible exact Vc.below_drew' _ | with_reducible exact kq))
    (first
      | (go_at_call 80; refine (HM.out _).mono ?_; rintro e wq ⟨rfl, kq'⟩
         have kq : Below w.heap.size w wq := below_tr (Vc.below_drew' _) kq'))
  all_goals go_wp2
  all_goals go_ret3
  all_goals exact ⟨rfl, kq⟩

set_option maxRecDepth 10000 in
set_option maxHeartbeats 1000000 in
theorem mouter_any (n m ca cb : Nat) (ao bo : Option Addr) (a b : Nat → Int) (w : World) (h1 : 1 ≤ n) (h2 : n ≤ 6) (h3 : 1 ≤ m) (h4 : m ≤ 6) (ha : Sl w ao n ca a) (hb : Sl w bo m cb b) (ba : B64 a) (bb : B64 b) :
    Calls Try.prog 64 #[.slice ao n ca, .slice bo m cb] w fun e w' => e = .returned (.tuple #[.agg (mvals n m (mz n m (fun i j => clamp (outR a b i j)))).toArray, .bool (any2 (fun i j => great (outR a b i j)) n m), .nilIface]) ∧ Below w.heap.size w w' := by
  have rZ := mrow_new2 w (.cells #[.slice ao n ca] 22) (.cells #[.slice bo m cb] 22) 0 0 (fun _ => 0)
  have hB := below_al (below_al (below_al (Below.refl _ w) (.cells #[.slice ao n ca] 22)) (.cells #[.slice bo m cb] 22)) (.cells (mvals 0 0 (fun _ => 0)).toArray 27)
  have cga : (((w.alloc (.cells #[.slice ao n ca] 22)).alloc (.cells #[.slice bo m cb] 22)).alloc (.cells (mvals 0 0 (fun _ => 0)).toArray 27)).cell? ⟨w.heap.size, 0, none⟩ = some (.slice ao n ca) := by go_simp
  have cgb : (((w.alloc (.cells #[.slice ao n ca] 22)).alloc (.cells #[.slice bo m cb] 22)).alloc (.cells (mvals 0 0 (fun _ => 0)).toArray 27)).cell? ⟨w.heap.size + 1, 0, none⟩ = some (.slice bo m cb) := by go_simp
  obtain ⟨W, hW⟩ : ∃ W, W = ((w.alloc (.cells #[.slice ao n ca] 22)).alloc (.cells #[.slice bo m cb] 22)).alloc (.cells (mvals 0 0 (fun _ => 0)).toArray 27) := ⟨_, rfl⟩
  rw [← hW] at rZ hB cga cgb
  have l1 := ha.le
  have l2 := ha.cap
  have l3 := hb.le
  have l4 := hb.cap
  have HN := Hid.mkV (byNumber_Outer (.pointer (some ⟨w.heap.size, 0, none⟩)) (.pointer (some ⟨w.heap.size + 1, 0, none⟩)) n m (fun i j => clamp (outR a b i j)) (fun i j => great (outR a b i j)) W h1 h2 h3 h4
    (fun i j hi hj w1 k1 => mouter1_any n m i j w.heap.size (w.heap.size + 1) ca cb ao bo a b w1 hi hj (ha.keep (below_tr hB k1)) (hb.keep (below_tr hB k1)) ba bb (keep_cell k1 cga) (keep_cell k1 cgb)))
  obtain ⟨z2, hz2⟩ : ∃ z, z = mz n m (fun i j => clamp (outR a b i j)) := ⟨_, rfl⟩
  obtain ⟨t, ht⟩ : ∃ t, t = any2 (fun i j => great (outR a b i j)) n m := ⟨_, rfl⟩
  rw [← hz2, ← ht] at HN
  rw [← hz2, ← ht]
  have HW := Hid.mkV hW
  clear hz2 hW ht ha hb ba bb
  go_enter Try.func64, Try.ntmps64
  go_wp2_with (first
    | (rw [zeroM, ← HW.out])
    | fail)
  refine HN.out.mono ?_
  rintro e w2 ⟨rfl, k2⟩
  have r2 := rZ.keep k2
  have B2 := below_tr hB k2
  go_wp2_with (first
    | (refine wpList_storeM rfl _ _ (by rfl) _ _ _ _ _ _ _ (by rfl) (by rfl) (by with_reducible exact r2) ?_)
    | fail)
  exact bodyPost_ret (results_M3 Try.results64 _ _ (w.heap.size + 1 + 1) _ _ _ rfl (r2.row _ _ _)) rfl ⟨rfl, below_row B2 (by omega) _⟩

set_option maxRecDepth 10000 in
set_option maxHeartbeats 1000000 in
theorem mouter_no (n m ca cb : Nat) (ao bo : Option Addr) (w : World) (hn : n ≤ 9223372036854775807) (hm : m ≤ 9223372036854775807) (h : ¬ (1 ≤ n ∧ n ≤ 6 ∧ 1 ≤ m ∧ m ≤ 6)) :
    Calls Try.prog 64 #[.slice ao n ca, .slice bo m cb] w fun e w' => e = .returned (.tuple #[.agg (mvals 0 0 (fun _ => 0)).toArray, .bool false, .iface 52 (.int .i64 1)]) ∧ Below w.heap.size w w' := by
  have rZ := mrow_new2 w (.cells #[.slice ao n ca] 22) (.cells #[.slice bo m cb] 22) 0 0 (fun _ => 0)
  have hB := below_al (below_al (below_al (Below.refl _ w) (.cells #[.slice ao n ca] 22)) (.cells #[.slice bo m cb] 22)) (.cells (mvals 0 0 (fun _ => 0)).toArray 27)
  have cga : (((w.alloc (.cells #[.slice ao n ca] 22)).alloc (.cells #[.slice bo m cb] 22)).alloc (.cells (mvals 0 0 (fun _ => 0)).toArray 27)).cell? ⟨w.heap.size, 0, none⟩ = some (.slice ao n ca) := by go_simp
  have cgb : (((w.alloc (.cells #[.slice ao n ca] 22)).alloc (.cells #[.slice bo m cb] 22)).alloc (.cells (mvals 0 0 (fun _ => 0)).toArray 27)).cell? ⟨w.heap.size + 1, 0, none⟩ = some (.slice bo m cb) := by go_simp
  obtain ⟨W, hW⟩ : ∃ W, W = ((w.alloc (.cells #[.slice ao n ca] 22)).alloc (.cells #[.slice bo m cb] 22)).alloc (.cells (mvals 0 0 (fun _ => 0)).toArray 27) := ⟨_, rfl⟩
  rw [← hW] at rZ hB cga cgb
  have HN := Hid.mkV (fun f => byNumber_err n m f W (by omega))
  have HW := Hid.mkV hW
  clear hW h
  go_enter Try.func64, Try.ntmps64
  go_wp2_with (first
    | (rw [zeroM, ← HW.out])
    | fail)
  refine (HN.out _).mono ?_
  rintro e w2 ⟨rfl, k2⟩
  have r2 := rZ.keep k2
  have B2 := below_tr hB k2
  go_wp2_with (first
    | (refine wpList_storeM rfl _ _ (by rfl) _ _ _ _ _ _ _ (by rfl) (by rfl) (by with_reducible exact r2) ?_)
    | fail)
  exact bodyPost_ret (results_M3 Try.results64 _ _ (w.heap.size + 1 + 1) _ _ _ rfl (r2.row _ _ _)) rfl ⟨rfl, below_row B2 (by omega) _⟩

end Go.Proofs.Ytoglokgkgonmdaa

/-
  Matrices (mat): Add, Sub, or their errors. (By py/MtG.py.)
-/
set_option linter.unusedSimpArgs false
set_option linter.unusedVariables false
namespace Go.Proofs.Ytoglokgkgonmdaa
open Go.RowKit Vc Mt Qn Dt

namespace Mt
theorem mrow_new3 (w : World) (A B C : Obj) (r c : Int) (z : Nat → Int) : MRow ((((w.alloc A).alloc B).alloc C).alloc (.cells (mvals r c z).toArray 27)) (w.heap.size + 1 + 1 + 1) r c z := by
  have h := mrow_new (((w.alloc A).alloc B).alloc C) r c z
  rwa [show (((w.alloc A).alloc B).alloc C).heap.size = w.heap.size + 1 + 1 + 1 by simp] at h
end Mt

set_option maxRecDepth 10000 in
set_option maxHeartbeats 1000000 in
theorem mpairs1_Add (n m i j gn ga gb : Nat) (F G : Nat → Nat → Int) (w : World) (h1 : 1 ≤ n) (h2 : n ≤ 6) (h3 : 1 ≤ m) (h4 : m ≤ 6) (hi : i < n) (hj : j < m) (ra : MRow w ga n m (mz n m F)) (rb : MRow w gb n m (mz n m G)) (hF : B2 F) (hG : B2 G) (cn : w.cell? ⟨gn, 0, none⟩ = some (.func (.func 82) #[] #[])) :
    Calls Try.prog 86 #[.int .i64 (i : Int), .int .i64 (j : Int), .pointer (some ⟨gn, 0, none⟩), .pointer (some ⟨ga, 0, none⟩), .pointer (some ⟨gb, 0, none⟩)] w fun e w' => e = .returned (.tuple #[.int .i64 (clamp (F i j + G i j)), .bool (great (F i j + G i j)), .nilIface]) ∧ Below w.heap.size w w' := by
  have h36 := size_le h2 h4
  obtain ⟨p, hp⟩ : ∃ p, p = i * m := ⟨_, rfl⟩
  have hpl : p + m ≤ n * m := by rw [hp]; exact place_le hi
  have ca := ra.cell (show p + j < 36 by omega) (show p + 2 + j = p + j + 2 by omega)
  have cb := rb.cell (show p + j < 36 by omega) (show p + 2 + j = p + j + 2 by omega)
  rw [hp, mz_at hi hj, ← hp] at ca cb
  have RA : Hid (∀ W, Below w.heap.size w W → Calls Try.prog 35 #[.pointer (some ⟨ga, 0, none⟩), .int .i64 (i : Int)] W fun e w' => e = .returned (.slice (some ⟨ga, p + 2, none⟩) m (36 - p)) ∧ Below W.heap.size W w') := fun W b => row_any ga i m p n _ W (ra.keep b) hp h4 (by omega) (by omega) (by omega)
  have RB : Hid (∀ W, Below w.heap.size w W → Calls Try.prog 35 #[.pointer (some ⟨gb, 0, none⟩), .int .i64 (i : Int)] W fun e w' => e = .returned (.slice (some ⟨gb, p + 2, none⟩) m (36 - p)) ∧ Below W.heap.size W w') := fun W b => row_any gb i m p n _ W (rb.keep b) hp h4 (by omega) (by omega) (by omega)
  have QA := Hid.mkV (fun W => qadd_any (F i j) (G i j) W (hF i j).1 (hF i j).2 (hG i j).1 (hG i j).2)
  obtain ⟨R, hR⟩ : ∃ R, R = clamp (F i j + G i j) := ⟨_, rfl⟩
  obtain ⟨g, hg⟩ : ∃ g, g = great (F i j + G i j) := ⟨_, rfl⟩
  obtain ⟨x, hx⟩ : ∃ x, x = F i j := ⟨_, rfl⟩
  obtain ⟨y, hy⟩ : ∃ y, y = G i j := ⟨_, rfl⟩
  rw [← hR, ← hg] at QA
  rw [← hx] at ca
  rw [← hy] at cb
  rw [← hx, ← hy] at QA
  rw [← hR, ← hg]
  clear hR hg hx hy hF hG ra rb hp
  go_enter Try.func86, Try.ntmps86
  go_wp2
  go_region_held3 (fun w' => w'.cell? ⟨gn, 0, none⟩ = some (.func (.func 82) #[] #[]) ∧ w'.cell? ⟨ga, p + 2 + j, none⟩ = some (.int .i64 x) ∧ w'.cell? ⟨gb, p + 2 + j, none⟩ = some (.int .i64 y))
    (first
      | (refine ⟨keep_cell (W := w) ?_ cn, keep_cell (W := w) ?_ ca, keep_cell (W := w) ?_ cb⟩ <;> first | with_reducible exact Below.refl _ _ | with_reducible exact Vc.below_drew' _ | with_reducible exact kb | with_reducible exact ka | with_reducible exact kq))
    (first
      | (go_at_call_of 35 (Value.pointer (some ⟨ga, 0, none⟩)); refine (RA.out _ (by first | with_reducible exact Vc.below_drew' _ | with_reducible exact kb)).mono ?_; rintro e wa ⟨rfl, ka'⟩
         have ka : Below w.heap.size w wa := by first | exact below_tr (Vc.below_drew' _) ka' | exact below_tr kb ka')
      | (go_at_call_of 35 (Value.pointer (some ⟨gb, 0, none⟩)); refine (RB.out _ (by first | with_reducible exact Vc.below_drew' _ | with_reducible exact ka)).mono ?_; rintro e wb ⟨rfl, kb'⟩
         have kb : Below w.heap.size w wb := by first | exact below_tr (Vc.below_drew' _) kb' | exact below_tr ka kb')
      | (go_at_call 82; refine (QA.out _).mono ?_; rintro e wq ⟨rfl, kq'⟩
         have kq : Below w.heap.size w wq := by first | with_reducible exact below_tr kb kq' | with_reducible exact below_tr ka kq'))
  all_goals go_wp2
  all_goals go_ret3
  all_goals exact ⟨rfl, kq⟩

set_option maxRecDepth 10000 in
set_option maxHeartbeats 1000000 in
theorem byPairs_Add (n m : Nat) (F G : Nat → Nat → Int) (w : World) (h1 : 1 ≤ n) (h2 : n ≤ 6) (h3 : 1 ≤ m) (h4 : m ≤ 6) (hF : B2 F) (hG : B2 G) :
    Calls Try.prog 81 #[.agg (mvals n m (mz n m F)).toArray, .agg (mvals n m (mz n m G)).toArray, .func (.func 82) #[] #[]] w fun e w' => e = .returned (.tuple #[.agg (mvals n m (mz n m (fun i j => clamp (F i j + G i j)))).toArray, .bool (any2 (fun i j => great (F i j + G i j)) n m), .nilIface]) ∧ Below w.heap.size w w' := by
  have rA := (((mrow_new w n m (mz n m F)).alloc (.cells (mvals n m (mz n m G)).toArray 27)).alloc (.cells #[.func (.func 82) #[] #[]] 124)).alloc (.cells (mvals 0 0 (fun _ => 0)).toArray 27)
  have rB := ((mrow_new1 w (.cells (mvals n m (mz n m F)).toArray 27) n m (mz n m G)).alloc (.cells #[.func (.func 82) #[] #[]] 124)).alloc (.cells (mvals 0 0 (fun _ => 0)).toArray 27)
  have rZ := mrow_new3 w (.cells (mvals n m (mz n m F)).toArray 27) (.cells (mvals n m (mz n m G)).toArray 27) (.cells #[.func (.func 82) #[] #[]] 124) 0 0 (fun _ => 0)
  have hB := below_al (below_al (below_al (below_al (Below.refl _ w) (.cells (mvals n m (mz n m F)).toArray 27)) (.cells (mvals n m (mz n m G)).toArray 27)) (.cells #[.func (.func 82) #[] #[]] 124)) (.cells (mvals 0 0 (fun _ => 0)).toArray 27)
  have cn : ((((w.alloc (.cells (mvals n m (mz n m F)).toArray 27)).alloc (.cells (mvals n m (mz n m G)).toArray 27)).alloc (.cells #[.func (.func 82) #[] #[]] 124)).alloc (.cells (mvals 0 0 (fun _ => 0)).toArray 27)).cell? ⟨w.heap.size + 1 + 1, 0, none⟩ = some (.func (.func 82) #[] #[]) := by go_simp
  obtain ⟨W, hW⟩ : ∃ W, W = (((w.alloc (.cells (mvals n m (mz n m F)).toArray 27)).alloc (.cells (mvals n m (mz n m G)).toArray 27)).alloc (.cells #[.func (.func 82) #[] #[]] 124)).alloc (.cells (mvals 0 0 (fun _ => 0)).toArray 27) := ⟨_, rfl⟩
  rw [← hW] at rA rB rZ hB cn
  have HCa := Hid.mkV (fun W' => check_may W' (may_mz (F := F) h1 h2 h3 h4))
  have HCb := Hid.mkV (fun W' => check_may W' (may_mz (F := G) h1 h2 h3 h4))
  have HN := Hid.mkV (fun W' (b : Below W.heap.size W W') => byNumber_byPairs (.pointer (some ⟨w.heap.size + 1 + 1, 0, none⟩)) (.pointer (some ⟨w.heap.size, 0, none⟩)) (.pointer (some ⟨w.heap.size + 1, 0, none⟩)) n m (fun i j => clamp (F i j + G i j)) (fun i j => great (F i j + G i j)) W' h1 h2 h3 h4
    (fun i j hi hj w1 k1 => mpairs1_Add n m i j (w.heap.size + 1 + 1) w.heap.size (w.heap.size + 1) F G w1 h1 h2 h3 h4 hi hj (rA.keep (below_tr b k1)) (rB.keep (below_tr b k1)) hF hG (keep_cell (below_tr b k1) cn)))
  obtain ⟨z, hz⟩ : ∃ z, z = mz n m F := ⟨_, rfl⟩
  obtain ⟨y, hy⟩ : ∃ y, y = mz n m G := ⟨_, rfl⟩
  obtain ⟨v, hv⟩ : ∃ v, v = mz n m (fun i j => clamp (F i j + G i j)) := ⟨_, rfl⟩
  obtain ⟨t, ht⟩ : ∃ t, t = any2 (fun i j => great (F i j + G i j)) n m := ⟨_, rfl⟩
  rw [← hz] at HCa rA hW
  rw [← hy] at HCb rB hW
  rw [← hv, ← ht] at HN
  rw [← hz, ← hy, ← hv, ← ht]
  have HW := Hid.mkV hW
  clear hz hy hv ht hW hF hG
  go_enter Try.func81, Try.ntmps81
  go_wp2_with (first
    | (rw [zeroM, ← HW.out]; refine wpList_loadM (by rfl) _ (by rfl) _ _ _ _ (by rfl) (by with_reducible exact rA) ?_)
    | fail)
  refine (HCa.out _).mono ?_
  rintro e w1 ⟨rfl, k1⟩
  have a1 := rA.keep k1
  have b1 := rB.keep k1
  have z1 := rZ.keep k1
  have B1 := below_tr hB k1
  clear rA rB rZ hB cn HCa
  go_wp2_with (first
    | (refine wpList_loadM (by rfl) _ (by rfl) _ _ _ _ (by rfl) (by with_reducible exact b1) ?_)
    | fail)
  refine (HCb.out _).mono ?_
  rintro e w2 ⟨rfl, k2⟩
  have a2 := a1.keep k2
  have b2 := b1.keep k2
  have z2 := z1.keep k2
  have B2' := below_tr B1 k2
  have c0 := a2.rows
  have c1 := a2.cols
  have d0 := b2.rows
  have d1 := b2.cols
  have HN2 := Hid.mkV (HN.out w2 (below_tr k1 k2))
  clear a1 b1 z1 B1 HCb HN k1 k2
  go_wp2_with fail
  refine HN2.out.mono ?_
  rintro e w3 ⟨rfl, k3⟩
  have z3 := z2.keep k3
  have B3 := below_tr B2' k3
  go_wp2_with (first
    | (refine wpList_storeM rfl _ _ (by rfl) _ _ _ _ _ _ _ (by rfl) (by rfl) (by with_reducible exact z3) ?_)
    | fail)
  exact bodyPost_ret (results_M3 Try.results81 _ _ (w.heap.size + 1 + 1 + 1) _ _ _ rfl (z3.row _ _ _)) rfl ⟨rfl, below_row B3 (by omega) _⟩

set_option maxRecDepth 10000 in
set_option maxHeartbeats 1000000 in
theorem byPairs_Add_no (r c r' c' : Int) (z y : Nat → Int) (w : World) (h : ¬ May r c z ∨ (May r c z ∧ ¬ May r' c' y) ∨ (May r c z ∧ May r' c' y ∧ (r ≠ r' ∨ c ≠ c'))) :
    Calls Try.prog 81 #[.agg (mvals r c z).toArray, .agg (mvals r' c' y).toArray, .func (.func 82) #[] #[]] w fun e w' => e = .returned (.tuple #[.agg (mvals 0 0 (fun _ => 0)).toArray, .bool false, .iface 52 (.int .i64 1)]) ∧ Below w.heap.size w w' := by
  have rA := (((mrow_new w r c z).alloc (.cells (mvals r' c' y).toArray 27)).alloc (.cells #[.func (.func 82) #[] #[]] 124)).alloc (.cells (mvals 0 0 (fun _ => 0)).toArray 27)
  have rB := ((mrow_new1 w (.cells (mvals r c z).toArray 27) r' c' y).alloc (.cells #[.func (.func 82) #[] #[]] 124)).alloc (.cells (mvals 0 0 (fun _ => 0)).toArray 27)
  have rZ := mrow_new3 w (.cells (mvals r c z).toArray 27) (.cells (mvals r' c' y).toArray 27) (.cells #[.func (.func 82) #[] #[]] 124) 0 0 (fun _ => 0)
  have hB := below_al (below_al (below_al (below_al (Below.refl _ w) (.cells (mvals r c z).toArray 27)) (.cells (mvals r' c' y).toArray 27)) (.cells #[.func (.func 82) #[] #[]] 124)) (.cells (mvals 0 0 (fun _ => 0)).toArray 27)
  obtain ⟨W, hW⟩ : ∃ W, W = (((w.alloc (.cells (mvals r c z).toArray 27)).alloc (.cells (mvals r' c' y).toArray 27)).alloc (.cells #[.func (.func 82) #[] #[]] 124)).alloc (.cells (mvals 0 0 (fun _ => 0)).toArray 27) := ⟨_, rfl⟩
  rw [← hW] at rA rB rZ hB
  have HW := Hid.mkV hW
  clear hW
  rcases h with h | ⟨h, h'⟩ | ⟨h, h', h''⟩
  · have HC := Hid.mkV (fun W' => check_not W' h)
    clear h
    go_enter Try.func81, Try.ntmps81
    go_wp2_with (first
      | (rw [zeroM, ← HW.out]; refine wpList_loadM (by rfl) _ (by rfl) _ _ _ _ (by rfl) (by with_reducible exact rA) ?_)
      | fail)
    refine (HC.out _).mono ?_
    rintro e w1 ⟨rfl, k1⟩
    have z1 := rZ.keep k1
    have B1 := below_tr hB k1
    go_wp2_with (first
      | (refine wpList_build0 rfl (by rfl) ?_)
      | (refine wpList_storeM rfl _ _ (by rfl) _ _ _ _ _ _ _ (by rfl) (by rfl) (by with_reducible exact z1) ?_)
      | fail)
    exact bodyPost_ret (results_M3 Try.results81 _ _ (w.heap.size + 1 + 1 + 1) _ _ _ rfl (z1.row _ _ _)) rfl ⟨rfl, below_row B1 (by omega) _⟩
  · have HC := Hid.mkV (fun W' => check_may W' h)
    have HC' := Hid.mkV (fun W' => check_not W' h')
    clear h h'
    go_enter Try.func81, Try.ntmps81
    go_wp2_with (first
      | (rw [zeroM, ← HW.out]; refine wpList_loadM (by rfl) _ (by rfl) _ _ _ _ (by rfl) (by with_reducible exact rA) ?_)
      | fail)
    refine (HC.out _).mono ?_
    rintro e w1 ⟨rfl, k1⟩
    have b1 := rB.keep k1
    have z1 := rZ.keep k1
    have B1 := below_tr hB k1
    clear rA rB rZ hB HC
    go_wp2_with (first
      | (refine wpList_loadM (by rfl) _ (by rfl) _ _ _ _ (by rfl) (by with_reducible exact b1) ?_)
      | fail)
    refine (HC'.out _).mono ?_
    rintro e w2 ⟨rfl, k2⟩
    have z2 := z1.keep k2
    have B2' := below_tr B1 k2
    go_wp2_with (first
      | (refine wpList_build0 rfl (by rfl) ?_)
      | (refine wpList_storeM rfl _ _ (by rfl) _ _ _ _ _ _ _ (by rfl) (by rfl) (by with_reducible exact z2) ?_)
      | fail)
    exact bodyPost_ret (results_M3 Try.results81 _ _ (w.heap.size + 1 + 1 + 1) _ _ _ rfl (z2.row _ _ _)) rfl ⟨rfl, below_row B2' (by omega) _⟩
  · have HC := Hid.mkV (fun W' => check_may W' h)
    have HC' := Hid.mkV (fun W' => check_may W' h')
    have HH := Hid.mkV h''
    clear h h' h''
    go_enter Try.func81, Try.ntmps81
    go_wp2_with (first
      | (rw [zeroM, ← HW.out]; refine wpList_loadM (by rfl) _ (by rfl) _ _ _ _ (by rfl) (by with_reducible exact rA) ?_)
      | fail)
    refine (HC.out _).mono ?_
    rintro e w1 ⟨rfl, k1⟩
    have a1 := rA.keep k1
    have b1 := rB.keep k1
    have z1 := rZ.keep k1
    have B1 := below_tr hB k1
    clear rA rB rZ hB HC
    go_wp2_with (first
      | (refine wpList_loadM (by rfl) _ (by rfl) _ _ _ _ (by rfl) (by with_reducible exact b1) ?_)
      | fail)
    refine (HC'.out _).mono ?_
    rintro e w2 ⟨rfl, k2⟩
    have z2 := z1.keep k2
    have a2 := a1.keep k2
    have b2 := b1.keep k2
    have c0 := a2.rows
    have c1 := a2.cols
    have d0 := b2.rows
    have d1 := b2.cols
    have B2' := below_tr B1 k2
    clear a1 b1 a2 b2
    by_cases hr : r = r'
    · have er : (r != r') = false := by rw [hr]; simp
      have ec : (c != c') = true := by rw [bne_iff_ne]; rcases HH.out with h | h; exact absurd hr h; exact h
      clear hr
      go_wp2_with (first
        | (refine wpList_build0 rfl (by rfl) ?_)
        | (refine wpList_storeM rfl _ _ (by rfl) _ _ _ _ _ _ _ (by rfl) (by rfl) (by with_reducible exact z2) ?_)
        | fail)
      exact bodyPost_ret (results_M3 Try.results81 _ _ (w.heap.size + 1 + 1 + 1) _ _ _ rfl (z2.row _ _ _)) rfl ⟨rfl, below_row B2' (by omega) _⟩
    · have er : (r != r') = true := by rw [bne_iff_ne]; exact hr
      clear hr
      go_wp2_with (first
        | (refine wpList_build0 rfl (by rfl) ?_)
        | (refine wpList_storeM rfl _ _ (by rfl) _ _ _ _ _ _ _ (by rfl) (by rfl) (by with_reducible exact z2) ?_)
        | fail)
      exact bodyPost_ret (results_M3 Try.results81 _ _ (w.heap.size + 1 + 1 + 1) _ _ _ rfl (z2.row _ _ _)) rfl ⟨rfl, below_row B2' (by omega) _⟩

set_option maxRecDepth 10000 in
set_option maxHeartbeats 1000000 in
theorem madd_by (r c r' c' : Int) (z y : Nat → Int) (R : Value) (w : World) (r2 c2 : Int) (z2 : Nat → Int) (t : Bool) (er : Value)
    (h : ∀ W, Below w.heap.size w W → Calls Try.prog 81 #[.agg (mvals r c z).toArray, .agg (mvals r' c' y).toArray, .func (.func 82) #[] #[]] W fun e w' => e = .returned (.tuple #[.agg (mvals r2 c2 z2).toArray, .bool t, er]) ∧ Below W.heap.size W w') :
    Calls Try.prog 65 #[.agg (mvals r c z).toArray, .agg (mvals r' c' y).toArray] w fun e w' => e = .returned (.tuple #[.agg (mvals r2 c2 z2).toArray, .bool t, er]) ∧ Below w.heap.size w w' := by
  have rA := ((mrow_new w r c z).alloc (.cells (mvals r' c' y).toArray 27)).alloc (.cells (mvals 0 0 (fun _ => 0)).toArray 27)
  have rB := (mrow_new1 w (.cells (mvals r c z).toArray 27) r' c' y).alloc (.cells (mvals 0 0 (fun _ => 0)).toArray 27)
  have rZ := mrow_new2 w (.cells (mvals r c z).toArray 27) (.cells (mvals r' c' y).toArray 27) 0 0 (fun _ => 0)
  have hB := below_al (below_al (below_al (Below.refl _ w) (.cells (mvals r c z).toArray 27)) (.cells (mvals r' c' y).toArray 27)) (.cells (mvals 0 0 (fun _ => 0)).toArray 27)
  obtain ⟨W, hW⟩ : ∃ W, W = ((w.alloc (.cells (mvals r c z).toArray 27)).alloc (.cells (mvals r' c' y).toArray 27)).alloc (.cells (mvals 0 0 (fun _ => 0)).toArray 27) := ⟨_, rfl⟩
  rw [← hW] at rA rB rZ hB
  have HW := Hid.mkV hW
  have HN := Hid.mkV (h W hB)
  clear hW h
  go_enter Try.func65, Try.ntmps65
  go_wp2_with (first
    | (rw [zeroM, ← HW.out]; refine wpList_loadM (by rfl) _ (by rfl) _ _ _ _ (by rfl) (by with_reducible exact rA) ?_)
    | (refine wpList_loadM (by rfl) _ (by rfl) _ _ _ _ (by rfl) (by with_reducible exact rB) ?_)
    | fail)
  refine HN.out.mono ?_
  rintro e w1 ⟨rfl, k1⟩
  have z1 := rZ.keep k1
  have B1 := below_tr hB k1
  go_wp2_with (first
    | (refine wpList_storeM rfl _ _ (by rfl) _ _ _ _ _ _ _ (by rfl) (by rfl) (by with_reducible exact z1) ?_)
    | fail)
  exact bodyPost_ret (results_M3 Try.results65 _ _ (w.heap.size + 1 + 1) _ _ _ rfl (z1.row _ _ _)) rfl ⟨rfl, below_row B1 (by omega) _⟩

theorem madd_any (n m : Nat) (F G : Nat → Nat → Int) (w : World) (h1 : 1 ≤ n) (h2 : n ≤ 6) (h3 : 1 ≤ m) (h4 : m ≤ 6) (hF : B2 F) (hG : B2 G) :
    Calls Try.prog 65 #[.agg (mvals n m (mz n m F)).toArray, .agg (mvals n m (mz n m G)).toArray] w fun e w' => e = .returned (.tuple #[.agg (mvals n m (mz n m (fun i j => clamp (F i j + G i j)))).toArray, .bool (any2 (fun i j => great (F i j + G i j)) n m), .nilIface]) ∧ Below w.heap.size w w' :=
  madd_by _ _ _ _ _ _ undef w _ _ _ _ _ (fun W _ => byPairs_Add n m F G W h1 h2 h3 h4 hF hG)

theorem madd_no (r c r' c' : Int) (z y : Nat → Int) (w : World) (h : ¬ May r c z ∨ (May r c z ∧ ¬ May r' c' y) ∨ (May r c z ∧ May r' c' y ∧ (r ≠ r' ∨ c ≠ c'))) :
    Calls Try.prog 65 #[.agg (mvals r c z).toArray, .agg (mvals r' c' y).toArray] w fun e w' => e = .returned (.tuple #[.agg (mvals 0 0 (fun _ => 0)).toArray, .bool false, .iface 52 (.int .i64 1)]) ∧ Below w.heap.size w w' :=
  madd_by _ _ _ _ _ _ undef w _ _ _ _ _ (fun W _ => byPairs_Add_no r c r' c' z y W h)


end Go.Proofs.Ytoglokgkgonmdaa
