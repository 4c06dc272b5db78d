/-
  What must come whatever the input is (sure of the laws of layer 7).
-/
import Derived.Test.YtopffbidnpimcaaVcE
set_option linter.unusedSimpArgs false
set_option linter.unusedVariables false
namespace Go.Proofs.Ytopffbidnpimcaa
open Go.RowKit Vc Qn Dt

namespace Vc
theorem Sl.solo {w : World} {x : Addr} {a : Int} (h : w.cell? x = some (.int .i64 a)) : Sl w (some x) 1 1 (fun _ => a) :=
  ⟨Nat.le_refl _, by omega, fun k hk => ⟨x, rfl, by obtain rfl : k = 0 := by omega
                                                    exact h⟩⟩
theorem Sl.duo {w : World} {x : Addr} {a b : Int} (h : w.cell? x = some (.int .i64 a)) (h2 : w.cell? (x.add 1) = some (.int .i64 b)) : Sl w (some x) 2 2 (fun k => if k = 0 then a else b) :=
  ⟨Nat.le_refl _, by omega, fun k hk => ⟨x, rfl, by
    match k, hk with
    | 0, _ => exact h
    | 1, _ => exact h2⟩⟩
end Vc

theorem sure_add (w : World) (ao bo : Option Addr) (ha : Sl w ao 1 1 (fun _ => 1572864)) (hb : Sl w bo 1 1 (fun _ => 2621440)) :
    Calls Try.prog 4 #[.slice ao 1 1, .slice bo 1 1] w fun e w' => ∃ co cc, e = .returned (.tuple #[.slice co 1 cc, .bool false, .nilIface]) ∧ Sl w' co 1 cc (fun _ => 4194304) ∧ Below w.heap.size w w' := by
  refine (vadd_any 1 1 1 ao bo _ _ w (by omega) ha hb (fun _ => by omega) (fun _ => by omega)).mono ?_
  rintro e w1 ⟨co, cc, rfl, hs, k⟩
  have e1 : anyb (fun k => great ((1572864 : Int) + 2621440)) 1 = false := by decide +kernel
  exact ⟨co, cc, by rw [e1], hs.congr (fun k _ => by show clamp ((1572864 : Int) + 2621440) = 4194304; decide +kernel), k⟩

theorem sure_scale (w : World) (ao : Option Addr) (ha : Sl w ao 1 1 (fun _ => 2097152)) :
    Calls Try.prog 19 #[.slice ao 1 1, .int .i64 1572864] w fun e w' => ∃ co cc, e = .returned (.tuple #[.slice co 1 cc, .bool false, .nilIface]) ∧ Sl w' co 1 cc (fun _ => 3145728) ∧ Below w.heap.size w w' := by
  refine (vscale_any 1 1 1572864 ao _ w (by omega) ha (fun _ => by omega) (by omega) (by omega)).mono ?_
  rintro e w1 ⟨co, cc, rfl, hs, k⟩
  have e1 : anyb (fun k => great (rne ((2097152 : Int) * 1572864) (2 ^ 20))) 1 = false := by decide +kernel
  exact ⟨co, cc, by rw [e1], hs.congr (fun k _ => by show clamp (rne ((2097152 : Int) * 1572864) (2 ^ 20)) = 3145728; decide +kernel), k⟩

theorem sure_join (w : World) (x y0 y1 : Addr) (ho : Option Addr) (c0 : w.cell? x = some (.slice (some y0) 1 1)) (c1 : w.cell? (x.add 1) = some (.slice (some y1) 1 1)) (d0 : w.cell? y0 = some (.int .i64 4)) (d1 : w.cell? y1 = some (.int .i64 8)) (hh : Sl w ho 2 2 (fun k => if k = 0 then 536870912 else 536870912)) :
    Calls Try.prog 7 #[.slice (some x) 2 2, .slice ho 2 2] w fun e w' => ∃ co cc, e = .returned (.tuple #[.slice co 1 cc, .bool false, .nilIface]) ∧ Sl w' co 1 cc (fun _ => 6) ∧ Below w.heap.size w w' := by
  refine (vjoin_any 1 (some x) ho 2 2 2 _ _ (fun j _ => if j = 0 then 4 else 8) _ w ((Sls.two c0 c1).len (fun j _ => by split <;> rfl)) (fun j hj => ?_) (by omega) (by omega) (by omega) hh (fun j _ => by show _ ≤ (if j = 0 then (4 : Int) else 8) ∧ (if j = 0 then (4 : Int) else 8) ≤ _; split <;> omega) (fun j => by show _ ≤ (if j = 0 then (536870912 : Int) else 536870912) ∧ (if j = 0 then (536870912 : Int) else 536870912) ≤ _; split <;> omega)).mono ?_
  · match j, hj with
    | 0, _ => exact Sl.solo d0
    | 1, _ => exact Sl.solo d1
  · rintro e w1 ⟨co, cc, rfl, hs, k⟩
    have e1 : anyb (fun p => great (rne (dk (fun k => (fun (j _ : Nat) => if j = 0 then (4 : Int) else 8) k p) (fun k => if k = 0 then 536870912 else 536870912) 2) (2 ^ 30))) 1 = false := by decide +kernel
    exact ⟨co, cc, by rw [e1], hs.congr (fun k _ => by show clamp (rne (dk (fun k => if k = 0 then (4 : Int) else 8) (fun k => if k = 0 then 536870912 else 536870912) 2) (2 ^ 30)) = 6; decide +kernel), k⟩

theorem sure_size (w : World) (ao : Option Addr) (ha : Sl w ao 2 2 (fun k => if k = 0 then 1 else -9)) :
    Calls Try.prog 8 #[.slice ao 2 2] w fun e w' => e = .returned (.int .i64 9) ∧ w' = w := by
  refine (vsize_any 2 2 ao _ w ha).mono ?_
  rintro e w1 ⟨rfl, rfl⟩
  have e1 : Vc.mxs (fun k => if k = 0 then 1 else -9) 2 = 9 := by decide +kernel
  exact ⟨by rw [e1], rfl⟩

set_option maxRecDepth 10000 in
set_option maxHeartbeats 1000000 in
theorem vsure_any (w : World) :
    Calls Try.prog 9 #[] w fun e w' => e = .returned (.bool true) ∧ Below w.heap.size w w' := by
  go_enter Try.func9, Try.ntmps9
  go_wp2_with fail
  refine (sure_add _ _ _ (Sl.solo (by go_simp)) (Sl.solo (by go_simp))).mono ?_
  rintro e w1 ⟨o1, c1, rfl, s1, k1⟩
  have K1 : Below w.heap.size w w1 := below_tr (below_al (below_al (Below.refl _ _) _) _) k1
  clear k1
  go_wp2_with fail
  refine (sure_scale _ _ (Sl.solo (by go_simp))).mono ?_
  rintro e w2 ⟨o2, c2, rfl, s2, k2⟩
  have k2' := below_tr (below_al (Below.refl _ _) _) k2
  have K2 := below_tr K1 k2'
  have s1' := s1.keep k2'
  clear k2 k2' K1 s1
  go_wp2_with fail
  refine (sure_join _ _ ⟨w2.heap.size, 0, none⟩ ⟨w2.heap.size + 1, 0, none⟩ _ (by go_simp) (by rw [Addr.add_lit]; go_simp) (by go_simp) (by go_simp) (Sl.duo (by go_simp) (by rw [Addr.add_lit]; go_simp))).mono ?_
  rintro e w3 ⟨o3, c3, rfl, s3, k3⟩
  have k3' := below_tr (below_al (below_al (below_al (below_al (Below.refl _ _) _) _) _) _) k3
  have K3 := below_tr K2 k3'
  have s1 := s1'.keep k3'
  have s2' := s2.keep k3'
  clear k3 k3' K2 s1' s2
  go_wp2_with fail
  refine (nums_yes _ _ 1 _ 1 _ _ (s1.keep (below_al (Below.refl _ _) _)) (Sl.solo (by go_simp))).mono ?_
  rintro e w4 ⟨rfl, k4⟩
  have k4' := below_tr (below_al (Below.refl _ _) _) k4
  have K4 := below_tr K3 k4'
  have s2 := s2'.keep k4'
  have s3' := s3.keep k4'
  clear k4 k4' K3 s1 s2' s3
  go_wp2_with fail
  refine (nums_yes _ _ 1 _ 1 _ _ (s2.keep (below_al (Below.refl _ _) _)) (Sl.solo (by go_simp))).mono ?_
  rintro e w5 ⟨rfl, k5⟩
  have k5' := below_tr (below_al (Below.refl _ _) _) k5
  have K5 := below_tr K4 k5'
  have s3 := s3'.keep k5'
  clear k5 k5' K4 s2 s3'
  go_wp2_with fail
  refine (nums_yes _ _ 1 _ 1 _ _ (s3.keep (below_al (Below.refl _ _) _)) (Sl.solo (by go_simp))).mono ?_
  rintro e w6 ⟨rfl, k6⟩
  have K6 := below_tr K5 (below_tr (below_al (Below.refl _ _) _) k6)
  clear k6 K5 s3
  go_wp2_with fail
  refine (sure_size _ _ (Sl.duo (by go_simp) (by rw [Addr.add_lit]; go_simp))).mono ?_
  rintro e w7 ⟨rfl, rfl⟩
  go_wp2
  go_ret
  exact ⟨rfl, below_al K6 _⟩

end Go.Proofs.Ytopffbidnpimcaa
