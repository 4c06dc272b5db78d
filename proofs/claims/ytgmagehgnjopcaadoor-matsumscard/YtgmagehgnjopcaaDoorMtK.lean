/-
  What must come whatever the input is (sure of the laws of layer 8).
-/
import Derived.Test.YtgmagehgnjopcaaDoorMtJ
set_option linter.unusedSimpArgs false
set_option linter.unusedVariables false
namespace Go.Proofs.YtgmagehgnjopcaaDoor
open Go.RowKit Vc Mt Qn Dt

set_option maxRecDepth 10000 in
set_option maxHeartbeats 1000000 in
theorem msure_any (w : World) :
    Calls Tryd.prog 15 #[] w fun e w' => e = .returned (.bool true) ∧ Below w.heap.size w w' := by
  have M2 := Hid.mkV sure_mul
  have M3 := Hid.mkV sure_at
  have M4 := Hid.mkV sure_apply
  have M1 := Hid.mkV sure_of
  obtain ⟨z, hz⟩ : ∃ z, z = mz 2 2 sureF := ⟨_, rfl⟩
  obtain ⟨y, hy⟩ : ∃ y, y = mz 2 2 (fun i j => clamp (mulR sureF sureF 2 i j)) := ⟨_, rfl⟩
  rw [← hz, ← hy] at M2
  rw [← hy] at M3
  rw [← hz] at M1 M4
  clear hz hy
  go_enter Tryd.func15, Tryd.ntmps15
  go_wp2_with fail
  refine (M1.out _ _ ⟨w.heap.size, 0, none⟩ ⟨w.heap.size + 1, 0, none⟩ (by go_simp) (by rw [Addr.add_lit]; go_simp) (by go_simp) (by rw [Addr.add_lit]; go_simp) (by go_simp) (by rw [Addr.add_lit]; go_simp)).mono ?_
  rintro e w1 ⟨rfl, k1⟩
  have K1 : Below w.heap.size w w1 := below_tr (below_al (below_al (below_al (Below.refl _ _) _) _) _) k1
  clear k1 M1
  go_wp2_with (first
    | (rw [zeroM]; refine wpList_storeNew rfl _ _ (by rfl) _ _ _ _ (by rfl) (by rfl) ?_; intro w2 m2 k2)
    | (refine wpList_loadM (by rfl) _ (by rfl) _ _ _ _ (by rfl) (by with_reducible exact m2) ?_)
    | fail)
  refine (M2.out _).mono ?_
  rintro e w3 ⟨rfl, k3⟩
  have m3 := m2.keep k3
  have K3 := below_tr (below_tr K1 k2) k3
  clear k2 k3 M2 m2 K1
  go_wp2_with (first
    | (rw [zeroM]; refine wpList_storeNew rfl _ _ (by rfl) _ _ _ _ (by rfl) (by rfl) ?_; intro w4 p4 k4)
    | (refine wpList_loadM (by rfl) _ (by rfl) _ _ _ _ (by rfl) (by with_reducible exact p4) ?_)
    | fail)
  refine (M3.out _).mono ?_
  rintro e w5 ⟨rfl, k5⟩
  have m5 := m3.keep (below_tr k4 k5)
  have K5 := below_tr (below_tr K3 k4) k5
  clear k4 k5 M3 m3 K3 p4
  go_wp2_with (first
    | (refine wpList_loadM (by rfl) _ (by rfl) _ _ _ _ (by rfl) (by with_reducible exact m5) ?_)
    | fail)
  refine (M4.out _ _ (sl_du (by go_simp) (by rw [Addr.add_lit]; go_simp))).mono ?_
  rintro e w6 ⟨co, cc, rfl, s6, k6⟩
  have K6 := below_tr (below_al K5 _) k6
  clear k6 M4 m5 K5
  go_wp2_with fail
  refine (nums_yes _ _ 2 _ 2 _ _ (s6.keep (below_al (Below.refl _ _) _)) (sl_du (by go_simp) (by rw [Addr.add_lit]; go_simp))).mono ?_
  rintro e w7 ⟨rfl, k7⟩
  have K7 := below_tr (below_al K6 _) k7
  go_wp2
  go_ret
  exact ⟨rfl, K7⟩

end Go.Proofs.YtgmagehgnjopcaaDoor
