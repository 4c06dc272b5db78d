/-
  Matrices (mat): number by number, each told by a closure; one theorem a closure. (By py/MtD.py.)
-/
import Derived.Test.YtfgjigkgfflofaaDoorRMtC
set_option linter.unusedSimpArgs false
set_option linter.unusedVariables false
namespace Go.Proofs.YtfgjigkgfflofaaDoorR
open Go.RowKit Vc Mt

namespace Mt
/-- Whether one of n rows of m is so. -/
def any2 (G : Nat → Nat → Bool) (n m : Nat) : Bool := anyb (fun i => anyb (G i) m) n
theorem any2_zero (G : Nat → Nat → Bool) (m : Nat) : any2 G 0 m = false := rfl
theorem any2_row (G : Nat → Nat → Bool) (k m : Nat) : (any2 G k m || anyb (G k) m) = any2 G (k + 1) m := rfl
theorem any2_col (G : Nat → Nat → Bool) (k j m : Nat) : (any2 G k m || anyb (G k) (j + 1)) = ((any2 G k m || anyb (G k) j) || G k j) := by
  show (any2 G k m || (anyb (G k) j || G k j)) = _
  rw [Bool.or_assoc]
theorem any2_congr {G H : Nat → Nat → Bool} {n m : Nat} (h : ∀ i j, i < n → j < m → G i j = H i j) : any2 G n m = any2 H n m := anyb_congr fun i hi => anyb_congr fun j hj => h i j hi hj
theorem any2_false {G : Nat → Nat → Bool} {n m : Nat} : any2 G n m = false ↔ ∀ i j, i < n → j < m → G i j = false := by
  unfold any2
  rw [anyb_false]
  exact ⟨fun h i j hi hj => anyb_false.1 (h i hi) j hj, fun h i hi => anyb_false.2 fun j hj => h i j hi hj⟩
end Mt

set_option maxRecDepth 10000 in
set_option maxHeartbeats 1000000 in
theorem byNumber_err (r c : Int) (f : Value) (w : World) (h : ¬ (1 ≤ r ∧ r ≤ 6 ∧ 1 ≤ c ∧ c ≤ 6)) :
    Calls Tryd.prog 62 #[.int .i64 r, .int .i64 c, f] w fun e w' => e = .returned (.tuple #[.agg (mvals 0 0 (fun _ => 0)).toArray, .bool false, .iface 39 (.int .i64 1)]) ∧ Below w.heap.size w w' := by
  have rA := mrow_new w 0 0 (fun _ => 0)
  have hB := below_al (Below.refl _ w) (.cells (mvals 0 0 (fun _ => 0)).toArray 57)
  have HS := Hid.mkV (fun W => size_no r c W h)
  clear h
  go_enter Tryd.func62, Tryd.ntmps62
  go_wp2_with fail
  rw [zeroM]
  refine (HS.out _).mono ?_
  rintro e w' ⟨rfl, rfl⟩
  go_wp2_with (first
    | (refine wpList_build0 rfl (by rfl) ?_)
    | (refine wpList_storeM rfl _ _ (by rfl) _ _ _ _ _ _ _ (by rfl) (by rfl) (by with_reducible exact rA) ?_)
    | fail)
  exact bodyPost_ret (results_M3 Tryd.results62 _ _ w.heap.size _ _ _ rfl (rA.row _ _ _)) rfl ⟨rfl, below_row hB (Nat.le_refl _) _⟩


set_option maxRecDepth 10000 in
set_option maxHeartbeats 2000000 in
/-- Number by number, each told by the closure of Turn. -/
theorem byNumber_Turn (p0 : Value) (n m : Nat) (F : Nat → Nat → Int) (G : Nat → Nat → Bool) (w : World) (h1 : 1 ≤ n) (h2 : n ≤ 6) (h3 : 1 ≤ m) (h4 : m ≤ 6)
    (hcl : ∀ i j, i < n → j < m → ∀ w1, Below w.heap.size w w1 → Calls Tryd.prog 63 #[.int .i64 (i : Int), .int .i64 (j : Int), p0] w1 fun e w' => e = .returned (.tuple #[.int .i64 (F i j), .bool (G i j), .nilIface]) ∧ Below w1.heap.size w1 w') :
    Calls Tryd.prog 62 #[.int .i64 (n : Int), .int .i64 (m : Int), .func (.func 63) #[] #[p0]] w fun e w' => e = .returned (.tuple #[.agg (mvals n m (mz n m F)).toArray, .bool (any2 G n m), .nilIface]) ∧ Below w.heap.size w w' := by
  have rA := (mrow_new w 0 0 (fun _ => 0)).alloc (.cells (mvals 0 0 (fun _ => 0)).toArray 57)
  have rO := mrow_new1 w (.cells (mvals 0 0 (fun _ => 0)).toArray 57) 0 0 (fun _ => 0)
  have hB := below_al (below_al (Below.refl _ w) (.cells (mvals 0 0 (fun _ => 0)).toArray 57)) (.cells (mvals 0 0 (fun _ => 0)).toArray 57)
  have HS := Hid.mkV (fun W => size_yes n m W h1 h2 h3 h4)
  have HCL := Hid.mkV hcl
  have h36 := size_le h2 h4
  clear hcl
  go_enter Tryd.func62, Tryd.ntmps62
  go_wp2_with fail
  rw [zeroM]
  refine (HS.out _).mono ?_
  rintro e w' ⟨rfl, rfl⟩
  go_wp2_with (first
    | (refine wpList_build2 rfl _ _ (by rfl) _ _ (by rfl) (by rfl) ?_)
    | (rw [zeroM]; refine wpList_storeM rfl _ _ (by rfl) _ _ _ _ _ _ _ (by rfl) (by rfl) (by with_reducible exact rO) ?_)
    | fail)
  go_loopw [10, 26] (fun gr i wr => ∃ k : Nat, k ≤ n ∧ i = .int .i64 (k : Int) ∧ gr = .bool (any2 G k m) ∧ MRow wr (w.heap.size + 1) n m (mpart m F (k * m)) ∧ MRow wr w.heap.size 0 0 (fun _ => 0) ∧ Below w.heap.size w wr) (fun _ i _ => n - (intOf i).toNat)
  case atStart => exact ⟨0, by omega, rfl, rfl, (rO.row _ _ _).congr (fun k _ => by rw [Nat.zero_mul, mpart_zero]), rA.rowOther (by omega) _, below_row hB (by omega) _⟩
  case round =>
    rename World => wo
    obtain ⟨k, hk, rfl, rfl, rG, rR, kB⟩ := hrel
    obtain ⟨T0, hT0⟩ : ∃ T, T = any2 G k m := ⟨_, rfl⟩
    rw [← hT0]
    have HT0 := Hid.mkV hT0
    clear hT0
    by_cases h : k < n
    · obtain ⟨p, hp⟩ : ∃ p, p = k * m := ⟨_, rfl⟩
      rw [← hp] at rG
      have hpl : p + m ≤ n * m := by rw [hp]; exact place_le h
      have HP := Hid.mkV hp
      clear hp
      go_wp2
      go_loopw [10, 30] (fun gr j ws => ∃ t : Nat, t ≤ m ∧ j = .int .i64 (t : Int) ∧ gr = .bool (any2 G k m || anyb (G k) t) ∧ MRow ws (w.heap.size + 1) n m (mpart m F (p + t)) ∧ MRow ws w.heap.size 0 0 (fun _ => 0) ∧ Below w.heap.size w ws) (fun _ j _ => m - (intOf j).toNat)
      case atStart => exact ⟨0, by omega, rfl, by rw [HT0.out]; show _ = Value.bool (any2 G k m || false); rw [Bool.or_false], rG, rR, kB⟩
      case round =>
        obtain ⟨t, ht, rfl, rfl, rG1, rR1, kB1⟩ := hrel
        obtain ⟨T, hT⟩ : ∃ T, T = (any2 G k m || anyb (G k) t) := ⟨_, rfl⟩
        by_cases h5 : t < m
        · have HC := Hid.mkV (HCL.out k t h h5 _ kB1)
          have HA := Hid.mkV (any2_col G k t m)
          obtain ⟨R, hR⟩ : ∃ R, R = F k t := ⟨_, rfl⟩
          obtain ⟨g, hg⟩ : ∃ g, g = G k t := ⟨_, rfl⟩
          rw [← hR, ← hg] at HC
          rw [← hT, ← hg] at HA
          rw [← hT]
          have HR := Hid.mkV hR
          clear hR hg hT
          go_wp2_with fail
          refine HC.out.mono ?_
          rintro e w2 ⟨rfl, k2⟩
          have rG2 := rG1.keep k2
          have rR2 := rR1.keep k2
          have kB2 := below_tr kB1 k2
          go_wp2_with fail
          refine (row_any (w.heap.size + 1) k m p n _ _ rG2 HP.out h4 (by omega) (by omega) (by omega)).mono ?_
          rintro e w3 ⟨rfl, k3⟩
          have rG3 := rG2.keep k3
          have rR3 := rR2.keep k3
          have kB3 := below_tr kB2 k3
          have c3 := rG3.cell (show p + t < 36 by omega) (show p + 2 + t = p + t + 2 by omega)
          have f3 := rG3.free (p + 2 + t)
          have HG3 := Hid.mkV rG3
          have HR3 := Hid.mkV rR3
          have HB3 := Hid.mkV kB3
          clear rG3 rR3 kB3 rG2 rR2 kB2 rG1 rR1 kB1 rG rR kB k2 k3
          cases T
          all_goals go_wp2
          all_goals go_roundw
          all_goals first
            | (simp [intOf]; omega)
            | (refine ⟨t + 1, by omega, by go_num, by rw [HA.out]; first | rfl | simp, (HG3.out.set (p + t) R (by omega)).congr (fun i _ => ?_), HR3.out.other _ (by show w.heap.size ≠ w.heap.size + 1; omega), HB3.out.trans (below_setM HB3.out.size (by show w.heap.size ≤ w.heap.size + 1; omega) _)⟩
               rw [HR.out, HP.out]
               exact mpart_step h5 i)
        · obtain rfl : t = m := by omega
          rw [← hT]
          have HT := Hid.mkV hT
          clear hT
          go_wp2
          go_roundw
          case rel => exact ⟨k + 1, by omega, by go_num, by rw [HT.out, any2_row], by rw [Nat.succ_mul, ← HP.out]; exact rG1, rR1, kB1⟩
          case measure => simp [intOf]; omega
    · obtain rfl : k = n := by omega
      go_wp2_with (first
        | (refine wpList_loadM (by rfl) _ (by rfl) _ _ _ _ (by rfl) (by with_reducible exact rG) ?_)
        | (refine wpList_storeM rfl _ _ (by rfl) _ _ _ _ _ _ _ (by rfl) (by rfl) (by with_reducible exact rR) ?_)
        | fail)
      exact bodyPost_ret (results_M3 Tryd.results62 _ _ w.heap.size _ _ _ rfl (rR.row _ _ _)) rfl ⟨by rw [← HT0.out]; rfl, below_row kB (Nat.le_refl _) _⟩






end Go.Proofs.YtfgjigkgfflofaaDoorR
