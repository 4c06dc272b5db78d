/-
  Package grow: Exp, fromOneToTwo, logFromOne, Log, Decay.
-/
import Derived.Test.YtfgjigkgfflofaaDoorRGwA
import Derived.Test.YtfgjigkgfflofaaDoorRQL
import Derived.Lib.BitFns
set_option linter.unusedSimpArgs false
set_option linter.unusedVariables false
namespace Go.Proofs.YtfgjigkgfflofaaDoorR
open Go.RowKit Qn
attribute [local go_sem ↓] Go.wp_at_zero Go.wp_at_succ

namespace Gw
theorem bitLen_bd' : ∀ (k m : Nat), m < 2 ^ k → k ≤ 63 → 1 ≤ m → 1 ≤ Lib.bitLen m ∧ Lib.bitLen m ≤ k ∧ 2 ^ (Lib.bitLen m - 1) ≤ m ∧ m < 2 ^ (Lib.bitLen m)
  | 0, m, h, _, h1 => absurd h (by omega)
  | k + 1, m, h, hk, h1 => by
    have hb : m < 2 ^ 64 := Nat.lt_of_lt_of_le h (Nat.pow_le_pow_right (by omega) (by omega))
    have e := Lib.bitLen_half m (by omega) hb
    by_cases h2 : m = 1
    · subst h2
      have : Lib.bitLen 1 = 1 := by decide
      rw [this]; omega
    · have hp : 2 ^ (k + 1) = 2 ^ k * 2 := Nat.pow_succ 2 k
      have ih := bitLen_bd' k (m / 2) (by omega) (by omega) (by omega)
      obtain ⟨L, hL⟩ : ∃ L, L = Lib.bitLen (m / 2) := ⟨_, rfl⟩
      rw [← hL] at ih e
      rw [e]
      have p1 : 2 ^ (1 + L) = 2 ^ L * 2 := by rw [Nat.add_comm]; exact Nat.pow_succ 2 L
      have p2 : 2 ^ (1 + L - 1) = 2 ^ (L - 1) * 2 := by rw [show 1 + L - 1 = (L - 1) + 1 by omega]; exact Nat.pow_succ 2 (L - 1)
      rw [p1, p2]
      omega
/-- The bits of a number from 1 to 2^62 - 1: by how many it is moved down. -/
def dn (x : Int) : Int := (Lib.bitLen x.toNat : Int) - 51
theorem dn_ok {x : Int} (h0 : 1 ≤ x) (h1 : x ≤ 4611686018427387903) : Dn x (dn x) := by
  have hb := bitLen_bd' 62 x.toNat (by omega) (by omega) (by omega)
  unfold Dn dn
  obtain ⟨L, hL⟩ : ∃ L, L = Lib.bitLen x.toNat := ⟨_, rfl⟩
  rw [← hL] at hb ⊢
  refine ⟨by omega, by omega, ?_, ?_⟩
  · rw [show (50 + ((L : Int) - 51)).toNat = L - 1 by omega]
    have : ((2 ^ (L - 1) : Nat) : Int) = (2 : Int) ^ (L - 1) := by simp
    omega
  · rw [show (51 + ((L : Int) - 51)).toNat = L by omega]
    have : ((2 ^ L : Nat) : Int) = (2 : Int) ^ L := by simp
    omega
end Gw

set_option maxHeartbeats 400000 in
theorem gfrom_any (x : Int) (w : World) (h0 : 1 ≤ x) (h1 : x ≤ 4611686018427387903) :
    Calls Tryd.prog 41 #[.int .i64 x] w fun e w' => e = .returned (.tuple #[.int .i64 (Gw.mo x (Gw.dn x)), .int .i64 (Gw.dn x)]) ∧ w' = w := by
  have hd := Gw.dn_ok h0 h1
  have hb := Gw.mo_bd hd
  obtain ⟨d0, d1, _, _⟩ := hd
  have HL := Hid.mkA (fun W => len64_int x W (by omega) (by omega))
  have hdn : (Lib.bitLen x.toNat : Int) = Gw.dn x + 51 := by unfold Gw.dn; omega
  obtain ⟨d, hd⟩ : ∃ d, d = Gw.dn x := ⟨_, rfl⟩
  obtain ⟨b, hbe⟩ : ∃ b : Int, b = (Lib.bitLen x.toNat : Int) := ⟨_, rfl⟩
  rw [← hbe] at HL hdn
  rw [← hd] at d0 d1 hb hdn ⊢
  have hb2 : b - 50 - 1 = d := by omega
  have hb3 : 0 ≤ b := by omega
  have hb4 : b ≤ 62 := by omega
  clear hd hdn hbe
  by_cases hneg : d < 0
  · have hm : Gw.mo x d = x * 2 ^ (-d).toNat := by unfold Gw.mo; rw [if_pos hneg]
    rw [hm] at hb ⊢
    obtain ⟨s, hs⟩ : ∃ s : Nat, s = (-d).toNat := ⟨_, rfl⟩
    have hs2 : -d = (s : Int) := by omega
    have hs3 : (s : Int) < 64 := by omega
    rw [← hs] at hb ⊢
    obtain ⟨D, hD⟩ : ∃ D, (2 : Int) ^ s = D := ⟨_, rfl⟩
    rw [hD] at hb ⊢
    have hs4 : (0 : Int) ≤ (s : Int) := by omega
    clear hs hm
    have hDw : x * D = x * D := rfl
    clear hDw
    go_enter Tryd.func41, Tryd.ntmps41
    go_wp2_with (go_at_call 56; refine (HL.out _).mono ?_; rintro e w' ⟨rfl, rfl⟩)
    go_ret2
    exact ⟨rfl, rfl⟩
  · have hm : Gw.mo x d = x / 2 ^ d.toNat := by unfold Gw.mo; rw [if_neg hneg]
    rw [hm] at hb ⊢
    obtain ⟨s, hs⟩ : ∃ s : Nat, s = d.toNat := ⟨_, rfl⟩
    have hs2 : d = (s : Int) := by omega
    have hs3 : (s : Int) < 64 := by omega
    rw [← hs] at hb ⊢
    rw [hs2] at hb2 hneg ⊢
    clear hs2 d0 d1
    obtain ⟨D, hD⟩ : ∃ D, (2 : Int) ^ s = D := ⟨_, rfl⟩
    rw [hD] at hb ⊢
    have hs4 : (0 : Int) ≤ (s : Int) := by omega
    clear hs hm
    have hDw : x * D = x * D := rfl
    clear hDw
    go_enter Tryd.func41, Tryd.ntmps41
    go_wp2_with (go_at_call 56; refine (HL.out _).mono ?_; rintro e w' ⟨rfl, rfl⟩)
    go_ret2
    exact ⟨rfl, rfl⟩
end Go.Proofs.YtfgjigkgfflofaaDoorR
