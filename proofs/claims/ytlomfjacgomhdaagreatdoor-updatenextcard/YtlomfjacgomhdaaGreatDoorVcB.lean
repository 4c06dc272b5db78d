/-
  Vectors (vec): whether vectors are alike, the part at one place of each; the laws' nums.
-/
import Derived.Test.YtlomfjacgomhdaaGreatDoorM1
import Derived.Deep.RegionWith
set_option linter.unusedSimpArgs false
set_option linter.unusedVariables false
namespace Go.Proofs.YtlomfjacgomhdaaGreatDoor
open Go.RowKit Vc
set_option maxRecDepth 10000 in
set_option maxHeartbeats 1000000 in
theorem nums_yes (ao bo : Option Addr) (n ca cb : Nat) (z : Nat → Int) (w : World) (ha : Sl w ao n ca z) (hb : Sl w bo n cb z) :
    Calls Tryz.prog 11 #[.slice ao n ca, .slice bo n cb] w fun e w' => e = .returned (.bool true) ∧ Below w.heap.size w w' := by
  obtain ⟨xa, hao, hca⟩ := ha.get
  obtain ⟨xb, hbo, hcb⟩ := hb.get
  have h1 := ha.le
  have h2 := ha.cap
  have h3 := hb.le
  have HAO := Hid.mkV hao
  have HBO := Hid.mkV hbo
  have HCA := Hid.mkV hca
  have HCB := Hid.mkV hcb
  clear hao hbo hca hcb ha hb
  go_enter Tryz.func11, Tryz.ntmps11
  go_wp2
  go_loopw [5] (fun i wr => ∃ k : Nat, k ≤ n ∧ i = .int .i64 (k : Int) ∧ Below w.heap.size w wr) (fun i _ => n - (intOf i).toNat)
  case atStart => exact ⟨0, by omega, rfl, Below.refl _ _⟩
  case round =>
    obtain ⟨k, hk, rfl, hbel⟩ := hrel
    by_cases h : k < n
    · obtain rfl := HAO.out (by omega)
      obtain rfl := HBO.out (by omega)
      have ca' := keep_cell hbel (HCA.out k h)
      have cb' := keep_cell hbel (HCB.out k h)
      obtain ⟨P, hP⟩ : ∃ P, P = z k := ⟨_, rfl⟩
      rw [← hP] at ca' cb'
      clear hP
      go_wp2
      go_quiet (fail)
      go_wp2
      go_roundw
      case rel => exact ⟨k + 1, by omega, by go_num, Vc.below_drewN hbel _⟩
      case measure => simp [intOf]; omega
    · obtain rfl : k = n := by omega
      go_wp2
      go_ret
      exact ⟨rfl, hbel⟩
end Go.Proofs.YtlomfjacgomhdaaGreatDoor
