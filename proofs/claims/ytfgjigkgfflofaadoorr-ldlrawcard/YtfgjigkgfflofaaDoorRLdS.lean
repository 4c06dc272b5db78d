/-
  Factors: what Of makes may be; what must come whatever the input is (sure of the laws of layer 9).
-/
import Derived.Test.YtfgjigkgfflofaaDoorRLdI
import Derived.Test.YtfgjigkgfflofaaDoorRLdL
import Derived.Test.YtfgjigkgfflofaaDoorRMtI
set_option linter.unusedSimpArgs false
set_option linter.unusedVariables false
namespace Go.Proofs.YtfgjigkgfflofaaDoorR
open Go.RowKit Vc Mt St Qn Dt Ld

namespace Ld
/-- What Of makes may be. -/
theorem may_st {n : Nat} {F : Nat → Nat → Int} (h1 : 1 ≤ n) (h2 : n ≤ 6) (hf : ∀ i, i < n → fine F i) : FMay n (mz n n (st F n).1) (st F n).2 := by
  refine ⟨by omega, by omega, fun k hk => ?_, fun k hk => ?_⟩
  · rw [Int.toNat_natCast]
    unfold okD
    by_cases e : n ≤ k
    · rw [if_pos e, st_behindD F e]; rfl
    · rw [if_neg e]
      have h3 := st_bdD F n k
      have h4 := (hf k (by omega)).2
      rw [st_D F (by omega)] at h3 ⊢
      rw [decide_eq_true (by omega), decide_eq_true (by omega)]; rfl
  · rw [Int.toNat_natCast]
    unfold okL
    by_cases e : n * n ≤ k
    · have e1 : n ≤ k / n := (Nat.le_div_iff_mul_le (by omega)).2 e
      rw [if_pos (Or.inl e1), mz_behind e]; rfl
    · have e1 : k / n < n := (Nat.div_lt_iff_lt_mul (by omega)).2 (by omega)
      have e2 : k % n < n := Nat.mod_lt _ (by omega)
      have e3 : k = k / n * n + k % n := by rw [Nat.mul_comm]; exact (Nat.div_add_mod k n).symm
      have e4 : mz n n (st F n).1 k = (st F n).1 (k / n) (k % n) := by
        have := mz_at (n := n) (c := n) (F := (st F n).1) e1 e2
        rwa [← e3] at this
      rw [e4]
      by_cases c1 : k / n < k % n
      · rw [if_pos (Or.inr c1), st_up F e1 c1]; rfl
      · rw [if_neg (by omega)]
        by_cases c2 : k % n = k / n
        · rw [if_pos c2, c2, st_one F e1]; rfl
        · rw [if_neg c2]
          have h3 := st_bdL F n (k / n) (k % n)
          rw [great_iff.2 h3]; rfl

theorem ofV_yes {n : Nat} {F : Nat → Nat → Int} (h : ∀ i, i < n → fine F i) : ofV n F = .tuple #[.agg (fvals n (mz n n (st F n).1) (st F n).2).toArray, .nilIface] := if_pos h
theorem ofV_no {n : Nat} {F : Nat → Nat → Int} (h : ¬ ∀ i, i < n → fine F i) : ofV n F = .tuple #[.agg f0.toArray, .iface 39 (.int .i64 8)] := if_neg h

/-- The matrix of sure. -/
def sF : Nat → Nat → Int := fun i j => if i = 0 then (if j = 0 then 4194304 else 2097152) else (if j = 0 then 2097152 else 3145728)
theorem sF_bd : B2 sF := by
  intro i j
  unfold sF
  split <;> split <;> omega
theorem sF_same : Same 2 sF := by
  intro i j hi hj
  match i, j, hi, hj with
  | 0, 0, _, _ => rfl
  | 0, 1, _, _ => rfl
  | 1, 0, _, _ => rfl
  | 1, 1, _, _ => rfl
theorem sF_fine : ∀ i, i < 2 → fine sF i := by
  intro i hi
  match i, hi with
  | 0, _ => exact ⟨by decide +kernel, by decide +kernel⟩
  | 1, _ => exact ⟨by decide +kernel, by decide +kernel⟩
def sV (a b : Int) : Nat → Int := fun k => if k = 0 then a else b
theorem sl_two {w : World} {x : Addr} {a b : Int} (h : w.cell? x = some (.int .i64 a)) (h2 : w.cell? (x.add 1) = some (.int .i64 b)) : Sl w (some x) 2 2 (sV a b) :=
  ⟨Nat.le_refl _, by omega, fun k hk => ⟨x, rfl, by
    match k, hk with
    | 0, _ => exact h
    | 1, _ => exact h2⟩⟩
theorem sV_bd {a b : Int} (h1 : -4611686018427387903 ≤ a ∧ a ≤ 4611686018427387903) (h2 : -4611686018427387903 ≤ b ∧ b ≤ 4611686018427387903) : B64 (sV a b) := by
  intro k
  unfold sV
  split <;> omega
end Ld

theorem lsure_matOf (w : World) (x y0 y1 : Addr) (c0 : w.cell? x = some (.slice (some y0) 2 2)) (c1 : w.cell? (x.add 1) = some (.slice (some y1) 2 2)) (d0 : w.cell? y0 = some (.int .i64 4194304)) (d1 : w.cell? (y0.add 1) = some (.int .i64 2097152)) (d2 : w.cell? y1 = some (.int .i64 2097152)) (d3 : w.cell? (y1.add 1) = some (.int .i64 3145728)) :
    Calls Tryd.prog 22 #[.slice (some x) 2 2] w fun e w' => e = .returned (.agg (mvals ((2 : Nat) : Int) ((2 : Nat) : Int) (mz 2 2 sF)).toArray) ∧ Below w.heap.size w w' := by
  refine matOf_by _ _ _ _ w fun W k => ?_
  refine mof_any 2 2 (some x) 2 (fun j => if j = 0 then some y0 else some y1) (fun _ => 2) sF W (by omega) (by omega) (by omega) (by omega) ⟨Nat.le_refl _, by omega, fun j hj => ⟨x, rfl, ?_⟩⟩ (fun q hq => ?_)
  · match j, hj with
    | 0, _ => exact keep_cell k c0
    | 1, _ => exact keep_cell k c1
  · match q, hq with
    | 0, _ => exact (sl_two (keep_cell k d0) (keep_cell k d1)).congr (fun j hj => by unfold sF sV; simp)
    | 1, _ => exact (sl_two (keep_cell k d2) (keep_cell k d3)).congr (fun j hj => by unfold sF sV; simp)

theorem lsure_of (w : World) : Calls Tryd.prog 23 #[.agg (mvals ((2 : Nat) : Int) ((2 : Nat) : Int) (mz 2 2 sF)).toArray] w fun e w' => e = .returned (.tuple #[.agg (fvals ((2 : Nat) : Int) (mz 2 2 (st sF 2).1) (st sF 2).2).toArray, .nilIface]) ∧ Below w.heap.size w w' := by
  have h := lof_any 2 sF w (by omega) (by omega) sF_same sF_bd
  rw [ofV_yes sF_fine] at h
  exact h

theorem lsure_solve (w : World) (vo : Option Addr) (hv : Sl w vo 2 2 (sV 4194304 2097152)) : Calls Tryd.prog 6 #[.agg (fvals ((2 : Nat) : Int) (mz 2 2 (st sF 2).1) (st sF 2).2).toArray, .slice vo 2 2] w fun e w' =>
    ∃ b, e = .returned (.tuple #[.slice (some ⟨b, 0, none⟩) 2 2, .bool false, .nilIface]) ∧ Sl w' (some ⟨b, 0, none⟩) 2 2 (sV 1048576 0) ∧ Below w.heap.size w w' := by
  refine (lsolve_any 2 vo 2 (sV 4194304 2097152) (st sF 2).1 (st sF 2).2 w (may_st (by omega) (by omega) sF_fine) hv (sV_bd (by omega) (by omega)) (fun a => b64_of (st_bdL sF 2 a))).mono ?_
  rintro e w1 ⟨b, rfl, _, hs, k⟩
  have e1 : solO 2 (st sF 2).1 (st sF 2).2 (sV 4194304 2097152) = false := by decide +kernel
  refine ⟨b, by rw [e1], hs.congr (fun j hj => ?_), k⟩
  match j, hj with
  | 0, _ => show solV 2 (st sF 2).1 (st sF 2).2 (sV 4194304 2097152) 0 = 1048576; decide +kernel
  | 1, _ => show solV 2 (st sF 2).1 (st sF 2).2 (sV 4194304 2097152) 1 = 0; decide +kernel

theorem lsure_far (w : World) (vo : Option Addr) (hv : Sl w vo 2 2 (sV 2097152 1048576)) : Calls Tryd.prog 7 #[.agg (fvals ((2 : Nat) : Int) (mz 2 2 (st sF 2).1) (st sF 2).2).toArray, .slice vo 2 2] w fun e w' =>
    e = .returned (.tuple #[.int .i64 1048576, .bool false, .nilIface]) ∧ Below w.heap.size w w' := by
  refine (lfar_any 2 vo 2 (sV 2097152 1048576) (st sF 2).1 (st sF 2).2 w (may_st (by omega) (by omega) sF_fine) hv (sV_bd (by omega) (by omega)) (fun a => b64_of (st_bdL sF 2 a))).mono ?_
  rintro e w1 ⟨rfl, k⟩
  have e1 : (downO (st sF 2).1 (sV 2097152 1048576) 2 || farO (downV (st sF 2).1 (sV 2097152 1048576) 2) (st sF 2).2 2) = false := by decide +kernel
  have e2 : farV (downV (st sF 2).1 (sV 2097152 1048576) 2) (st sF 2).2 2 = 1048576 := by decide +kernel
  exact ⟨by rw [e1, e2], k⟩

theorem lsure_log (w : World) : ∃ V : Int, Calls Tryd.prog 8 #[.agg (fvals ((2 : Nat) : Int) (mz 2 2 (st sF 2).1) (st sF 2).2).toArray] w fun e w' => e = .returned (.tuple #[.int .i64 V, .nilIface]) ∧ Below w.heap.size w w' :=
  ⟨_, llog_any 2 _ _ w (may_st (by omega) (by omega) sF_fine)⟩

set_option maxRecDepth 10000 in
set_option maxHeartbeats 1000000 in
theorem lsure_any (w : World) :
    Calls Tryd.prog 9 #[] w fun e w' => e = .returned (.bool true) ∧ Below w.heap.size w w' := by
  have M1 := Hid.mkV lsure_matOf
  have M2 := Hid.mkV lsure_of
  have M3 := Hid.mkV lsure_solve
  have M4 := Hid.mkV lsure_far
  have M5 := Hid.mkV lsure_log
  have eD0 : (st sF 2).2 0 = 4194304 := by decide +kernel
  have eD1 : (st sF 2).2 1 = 2097152 := by decide +kernel
  have eL2 : mz 2 2 (st sF 2).1 2 = 536870912 := by decide +kernel
  obtain ⟨z, hz⟩ : ∃ z, z = mz 2 2 sF := ⟨_, rfl⟩
  obtain ⟨l, hl⟩ : ∃ z, z = mz 2 2 (st sF 2).1 := ⟨_, rfl⟩
  obtain ⟨d, hd⟩ : ∃ z, z = (st sF 2).2 := ⟨_, rfl⟩
  rw [← hz] at M1 M2
  rw [← hl, ← hd] at M2 M3 M4 M5
  rw [← hd] at eD0 eD1
  rw [← hl] at eL2
  have E0 := Hid.mkV eD0
  have E1 := Hid.mkV eD1
  have E2 := Hid.mkV eL2
  clear hz hl hd eD0 eD1 eL2
  go_enter Tryd.func9, Tryd.ntmps9
  go_wp2_with fail
  refine (M1.out _ _ ⟨w.heap.size, 0, none⟩ ⟨w.heap.size + 1, 0, none⟩ (by go_simp) (by rw [Addr.add_lit]; go_simp) (by go_simp) (by rw [Addr.add_lit]; go_simp) (by go_simp) (by rw [Addr.add_lit]; go_simp)).mono ?_
  rintro e w1 ⟨rfl, k1⟩
  have K1 : Below w.heap.size w w1 := below_tr (below_al (below_al (below_al (Below.refl _ _) _) _) _) k1
  clear k1 M1
  go_wp2_with (first
    | (rw [zeroM]; refine Mt.wpList_storeNew rfl _ _ (by rfl) _ _ _ _ (by rfl) (by rfl) ?_; intro w2 m2 k2)
    | (refine wpList_loadM (by rfl) _ (by rfl) _ _ _ _ (by rfl) (by with_reducible exact m2) ?_)
    | fail)
  refine (M2.out _).mono ?_
  rintro e w3 ⟨rfl, k3⟩
  have K3 := below_tr (below_tr K1 k2) k3
  clear k2 k3 M2 m2 K1
  go_wp2_with (first
    | (rw [zeroF]; refine St.wpList_storeNew isF rfl _ _ (by rfl) _ _ _ (by rfl) (by rfl) (fvals_len _ _ _) (fvals_len _ _ _) (one_fvals _ _ _) ?_; intro w4 p4 k4)
    | (refine St.wpList_load isF (by rfl) _ (by rfl) _ _ (by rfl) (by with_reducible exact p4) (fvals_len _ _ _) ?_)
    | fail)
  refine (M3.out _ _ (sl_two (by go_simp) (by rw [Addr.add_lit]; go_simp))).mono ?_
  rintro e w5 ⟨b, rfl, s5, k5⟩
  have k5' : Below w4.heap.size w4 w5 := below_tr (below_al (Below.refl _ _) _) k5
  have p5 := CRow.keep p4 k5'
  have K5 := below_tr (below_tr K3 k4) k5'
  clear k4 k5 k5' M3 K3 p4
  go_wp2_with (first
    | (refine St.wpList_load isF (by rfl) _ (by rfl) _ _ (by rfl) (by with_reducible exact p5) (fvals_len _ _ _) ?_)
    | fail)
  refine (M4.out _ _ (sl_two (by go_simp) (by rw [Addr.add_lit]; go_simp))).mono ?_
  rintro e w6 ⟨rfl, k6⟩
  have k6' : Below w5.heap.size w5 w6 := below_tr (below_al (Below.refl _ _) _) k6
  have p6 := CRow.keep p5 k6'
  have s6 := s5.keep k6'
  have K6 := below_tr K5 k6'
  clear k6 k6' M4 K5 p5 s5
  go_wp2_with (first
    | (refine St.wpList_load isF (by rfl) _ (by rfl) _ _ (by rfl) (by with_reducible exact p6) (fvals_len _ _ _) ?_)
    | fail)
  obtain ⟨V, hV⟩ := M5.out w6
  refine hV.mono ?_
  rintro e w7 ⟨rfl, k7⟩
  have p7 := CRow.keep p6 k7
  have s7 := s6.keep k7
  have K7 := below_tr K6 k7
  have c0 := FRow.d p7 (k := 0) (o := 37) (by omega) rfl
  have c1 := FRow.d p7 (k := 1) (o := 38) (by omega) rfl
  have c2 := FRow.z p7 (k := 2) (o := 3) (by omega) rfl
  rw [E0.out] at c0
  rw [E1.out] at c1
  rw [E2.out] at c2
  clear k7 hV K6 p6 s6 M5
  go_wp2_with fail
  refine (nums_yes _ _ 2 _ 2 _ _ (s7.keep (below_al (Below.refl _ _) _)) (sl_two (by go_simp) (by rw [Addr.add_lit]; go_simp))).mono ?_
  rintro e w8 ⟨rfl, k8⟩
  have K8 := below_tr (below_al K7 _) k8
  go_wp2
  go_ret
  exact ⟨rfl, K8⟩

end Go.Proofs.YtfgjigkgfflofaaDoorR
