/-
  What must come whatever the input is (sure of the laws of layer 10).
-/
import Derived.Test.YtefgkeeeanakeaaDoorPoB
set_option linter.unusedSimpArgs false
set_option linter.unusedVariables false
namespace Go.Proofs.YtefgkeeeanakeaaDoor
open Go.RowKit Vc St Qn Dt Tg Ld Po
attribute [local go_sem ↓] Go.wp_at_zero Go.wp_at_succ

namespace Po
theorem isRn : Is 23 2 := ⟨by kernel_rfl, ⟨_, Tryd.underlying23, rfl⟩⟩
theorem isRl : Is 26 3 := ⟨by kernel_rfl, ⟨_, Tryd.underlying26, rfl⟩⟩
theorem isRe : Is 42 5 := ⟨by kernel_rfl, ⟨_, Tryd.underlying42, rfl⟩⟩
theorem v1 : px (65536 * 0) 1048576000 = 0 := by decide +kernel
theorem v2 : py (65536 * 0) 1048576000 = 1048576000 := by decide +kernel
theorem v3 : al 52428800 = 2621440000 := by decide +kernel
theorem v4 : ac 1048576000 1048576 = 1000000 := by decide +kernel
theorem v5 : xxV (65536 * 0) 2621440000 1000000 = 1000000 := by decide +kernel
theorem v6 : yyV (65536 * 0) 2621440000 1000000 = 2621440000 := by decide +kernel
theorem v7 : xyV (65536 * 0) 2621440000 1000000 = 0 := by decide +kernel
theorem v8 : ovV (65536 * 0) 2621440000 1000000 = false := by decide +kernel
end Po

set_option maxRecDepth 10000 in
set_option maxHeartbeats 1000000 in
theorem psure_any (w : World) (hT : AngTab w) :
    Calls Tryd.prog 12 #[] w fun e w' => e = .returned (.bool true) ∧ Below w.heap.size w w' := by
  have hS : MayS 52428800 1048576 := ⟨by omega, by omega, by omega, by omega⟩
  have hF : MayF 1048576000 := ⟨by omega, by omega⟩
  have HO := hide (fun W (h : AngTab W) => pof_yes 52428800 1048576 1048576000 0 (.int .i64 0) W h hS hF (by omega) (by omega))
  have HS := hide (fun W => spread_yes 52428800 1048576 1048576000 W hS hF)
  rw [v1, v2, v3, v4, v5, v6, v7, v8] at HO
  rw [v3, v4] at HS
  clear hS hF
  go_enter Tryd.func12, Tryd.ntmps12
  go_wp2_with fail
  refine (HO.out _ hT).mono ?_
  rintro e w1 ⟨rfl, k1⟩
  go_wp2_with (first
    | (rw [zeroSe]; refine St.wpList_storeNew isSe (by rfl) _ _ (by rfl) _ _ (see 0 1048576000 1000000 2621440000 0) (by rfl) (by rfl) rfl rfl (one_see _ _ _ _ _) ?_; intro w2 n2 k2; have B2 := below_tr k1 k2))
  refine (HS.out _).mono ?_
  rintro e w3 ⟨rfl, k3⟩
  have n3 := CRow.keep n2 k3
  have c0 : w3.cell? ⟨w1.heap.size, 0, none⟩ = some (.int .i64 0) := CRow.cell n3 (k := 0) rfl rfl
  have c1 : w3.cell? ⟨w1.heap.size, 1, none⟩ = some (.int .i64 1048576000) := CRow.cell n3 (k := 1) rfl rfl
  have c2 : w3.cell? ⟨w1.heap.size, 2, none⟩ = some (.int .i64 1000000) := CRow.cell n3 (k := 2) rfl rfl
  have c3 : w3.cell? ⟨w1.heap.size, 3, none⟩ = some (.int .i64 2621440000) := CRow.cell n3 (k := 3) rfl rfl
  go_wp2
  go_ret
  exact ⟨rfl, below_tr B2 k3⟩
end Go.Proofs.YtefgkeeeanakeaaDoor
