/-
  Half of the document's answer of layer 3 (radomeref03): a whole number by a power of two, rounded, bounded.
-/
import Derived.Test.YtmijmfdamommaaaDoorRefO
import Derived.Test.YtmijmfdamommaaaDoorRefS
import Derived.Test.YtmijmfdamommaaaDoorRefI
import Derived.Deep.RegionHeld3
set_option linter.unusedSimpArgs false
set_option linter.unusedVariables false
namespace Go.Proofs.YtmijmfdamommaaaDoor
open Go.RowKit
attribute [local go_sem ↓] Go.wp_at_zero Go.wp_at_succ

namespace Dec
/-- No greater than may be. -/
def bnd (z : Int) : Int := if 4611686018427387903 < z then 4611686018427387903 else if z < -4611686018427387903 then -4611686018427387903 else z
def ovr (z : Int) : Bool := decide (4611686018427387903 < z) || decide (z < -4611686018427387903)
end Dec
open Dec

set_option maxHeartbeats 1000000 in
theorem half_any (v : Value) (n : Int) (k : Nat) (w : World) (hk : k ≤ 1000) (hn : (digs n.natAbs).length ≤ 700000) (hr : (digs (Tn.rne n ((2 ^ k : Nat) : Int)).natAbs).length ≤ 1000000) (h : IsNum w v n) :
    Calls Tryd.prog 50 #[v, .int .i64 k] w fun e w' => e = .returned (.tuple #[.int .i64 (bnd (Tn.rne n ((2 ^ k : Nat) : Int))), .bool (ovr (Tn.rne n ((2 ^ k : Nat) : Int)))]) ∧ Below w.heap.size w w' := by
  have l2 : (digs (2 ^ k)).length ≤ 800000 := by have := len_two k; omega
  have hp := Nat.two_pow_pos k
  have HT := Hid.mk' (fun W => two_any k W (by omega))
  have HR := Hid.mk' (fun va vb W => round_any va vb n (2 ^ k) W hp (by omega) l2)
  have HB : Hid (∀ va W, IsNum W va (Tn.rne n ((2 ^ k : Nat) : Int)) → Calls Tryd.prog 72 #[va] W fun e w' => e = .returned (.tuple #[.int .i64 (bnd (Tn.rne n ((2 ^ k : Nat) : Int))), .bool (ovr (Tn.rne n ((2 ^ k : Nat) : Int)))]) ∧ Below W.heap.size W w') := Hid.mk' (fun va W => bound_any va (Tn.rne n ((2 ^ k : Nat) : Int)) W hr)
  obtain ⟨R, hR⟩ : ∃ R, R = Tn.rne n ((2 ^ k : Nat) : Int) := ⟨_, rfl⟩
  rw [← hR] at HB ⊢
  have HR2 : Hid (∀ va vb W, IsNum W va n → IsNum W vb ((2 ^ k : Nat) : Int) → Calls Tryd.prog 73 #[va, vb] W fun e w' => ∃ v, e = .returned v ∧ IsNum w' v R ∧ Below W.heap.size W w') := by
    rw [hR]; exact HR
  clear HR hR hr
  obtain ⟨an, Ln, cn, hva⟩ := h.form
  obtain ⟨sn, hsn⟩ : ∃ s, s = decide (n < 0) := ⟨_, rfl⟩
  rw [← hsn] at hva
  subst hva
  clear hsn
  obtain ⟨T, hT⟩ : ∃ T : Nat, T = 2 ^ k := ⟨_, rfl⟩
  rw [← hT] at HT HR2
  clear hT
  have h1 : IsNum ((w.alloc (Obj.cells #[.bool sn, .slice an Ln cn] 45)).drew) (.agg #[.bool sn, .slice an Ln cn]) n := h.below (below_al (Below.refl _ w) _).drew
  have R0 : Row2 ((w.alloc (Obj.cells #[.bool sn, .slice an Ln cn] 45)).drew) w.heap.size (.bool sn) (.slice an Ln cn) := row2_new w _ _
  go_enter Tryd.func50, Tryd.ntmps50
  go_wp2
  go_region_with (first
    | (go_at_call 41; refine (HT.out _).mono ?_; rintro e w1 ⟨v1, rfl, i1, k1⟩; have i0 := h1.below k1; have kB := R0.keep k1; have g0 := kB.c0; have g1 := kB.c1)
    | (go_at_call 73; refine (HR2.out _ _ _ i0 i1).mono ?_; rintro e w2 ⟨v2, rfl, i2, k2⟩)
    | (go_at_call 72; refine (HB.out _ _ i2).mono ?_; rintro e w3 ⟨rfl, k3⟩))
  all_goals go_wp2
  all_goals go_ret2
  all_goals exact ⟨rfl, below_tr (below_tr (below_tr (below_al (Below.refl _ w) _).drew k1) k2) k3⟩
end Go.Proofs.YtmijmfdamommaaaDoor
