/-
  Div of the document's answer (radomeref01), of any number by one above 0: the quotient, cut down, and the rest.
-/
import Derived.Test.YtiahijcdfeimgaaDoorRefL
set_option linter.unusedSimpArgs false
set_option linter.unusedVariables false
namespace Go.Proofs.YtiahijcdfeimgaaDoor
open Go.RowKit Dec

namespace Dec
theorem neg_div (X b : Nat) (hb : 0 < b) : (-(X : Int)) / (b : Int) = (if X % b = 0 then -((X / b : Nat) : Int) else -((X / b : Nat) : Int) - 1) ∧ (-(X : Int)) % (b : Int) = (if X % b = 0 then 0 else (b : Int) - ((X % b : Nat) : Int)) := by
  have h := Nat.div_add_mod X b
  have hl := Nat.mod_lt X hb
  generalize X / b = q at *
  generalize X % b = r at *
  have e : (X : Int) = (b : Int) * (q : Int) + (r : Int) := by rw [← h]; simp
  by_cases hr : r = 0
  · rw [if_pos hr, if_pos hr]
    have := (Int.ediv_emod_unique (a := -(X : Int)) (b := (b : Int)) (r := 0) (q := -(q : Int)) (by omega)).2 ⟨by rw [e, hr, Int.mul_neg]; simp, by omega, by omega⟩
    exact ⟨this.1, this.2⟩
  · rw [if_neg hr, if_neg hr]
    have := (Int.ediv_emod_unique (a := -(X : Int)) (b := (b : Int)) (r := (b : Int) - (r : Int)) (q := -(q : Int) - 1) (by omega)).2 ⟨by rw [e, Int.mul_sub, Int.mul_neg]; omega, by omega, by omega⟩
    exact ⟨this.1, this.2⟩
end Dec

/-- Div, by a number above 0. -/
theorem div_up (va vb : Value) (x : Int) (D : Nat) (w : World) (hx : (digs x.natAbs).length ≤ 900000) (hD : 0 < D) (hd : (digs D).length ≤ 900000) (ha : IsNum w va x) (hb : IsNum w vb (D : Int)) :
    Calls Tryd.prog 23 #[va, vb] w fun e w' => ∃ u v, e = .returned (.tuple #[u, v]) ∧ IsNum w' u (x / (D : Int)) ∧ IsNum w' v (x % (D : Int)) ∧ Below w.heap.size w w' := by
  by_cases hx0 : 0 ≤ x
  · exact div_pos va vb x (D : Int) w hx0 hx (by omega) (by rw [len_nat]; exact hd) ha hb
  · obtain ⟨da, rfl, hda⟩ := ha
    obtain ⟨db, rfl, hdb⟩ := hb
    rw [Int.natAbs_natCast] at hdb
    obtain ⟨ao, ba, oa, ca, rfl, _, hao, hca⟩ := hda.shape
    obtain ⟨bo, cb, rfl⟩ := hdb.lt
    rw [decide_eq_true (show x < 0 by omega), decide_eq_false (show ¬ (D : Int) < 0 by omega)]
    refine (div_negF ao bo ba oa ca _ cb _ D (digs x.natAbs) w _ _ rfl rfl hx rfl (small_digs _) hD hd hao hca hdb).mono ?_
    rintro e w' ⟨u, v, rfl, hu, hv, hw⟩
    rw [val_digs] at hu hv
    obtain ⟨h1, h2⟩ := neg_div x.natAbs D hD
    have e1 : -((x.natAbs : Nat) : Int) = x := by omega
    rw [e1] at h1 h2
    rw [← h1] at hu
    rw [← h2] at hv
    exact ⟨u, v, rfl, hu, hv, hw⟩

end Go.Proofs.YtiahijcdfeimgaaDoor
