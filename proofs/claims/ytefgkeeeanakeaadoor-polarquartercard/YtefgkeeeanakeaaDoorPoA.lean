/-
  Places by range and angle (polar): Check, product, sum, Spread.
-/
import Derived.Test.YtefgkeeeanakeaaDoorPoMath
import Derived.Test.YtefgkeeeanakeaaDoorButA
import Derived.Test.YtefgkeeeanakeaaDoorTurnA
import Derived.Test.YtefgkeeeanakeaaDoorQK
import Derived.Deep.RegionWith
set_option linter.unusedSimpArgs false
set_option linter.unusedVariables false
namespace Go.Proofs.YtefgkeeeanakeaaDoor
open Go.RowKit Vc St Qn Dt Tg Ld
attribute [local go_sem ↓] Go.wp_at_zero Go.wp_at_succ

namespace Po
theorem isSn : Is 33 2 := ⟨by kernel_rfl, ⟨_, Tryd.underlying33, rfl⟩⟩
theorem isPl : Is 34 3 := ⟨by kernel_rfl, ⟨_, Tryd.underlying34, rfl⟩⟩
theorem isSe : Is 28 5 := ⟨by kernel_rfl, ⟨_, Tryd.underlying28, rfl⟩⟩
/-- May a sensor be? -/
def MayS (R T : Int) : Prop := 1 ≤ R ∧ R ≤ 17179869184 ∧ 1 ≤ T ∧ T ≤ 268435456
/-- Along, across; products and sums, rounded. -/
def al (R : Int) : Int := clamp (rne (R * R) (2 ^ 20))
def wi (F T : Int) : Int := clamp (rne (F * T) (2 ^ 30))
def ac (F T : Int) : Int := clamp (rne (wi F T * wi F T) (2 ^ 20))
def pr (a b : Int) : Int := clamp (rne (a * b) (2 ^ 30))
def su (a b c d : Int) : Int := clamp (rne (a * b + c * d) (2 ^ 30))
def suO (a b c d : Int) : Bool := great (rne (a * b + c * d) (2 ^ 30))
theorem sl_two {w : World} {x : Addr} {a b : Int} (h0 : w.cell? x = some (.int .i64 a)) (h1 : w.cell? (x.add 1) = some (.int .i64 b)) : Sl w (some x) 2 2 (fun k => if k = 0 then a else b) :=
  ⟨Nat.le_refl _, by omega, fun k hk => ⟨x, rfl, by
    rcases k with _ | _ | k
    · exact h0
    · exact h1
    · omega⟩⟩
end Po
open Po

set_option maxHeartbeats 400000 in
theorem pcheck_yes (R T : Int) (w : World) (h : MayS R T) :
    Calls Tryd.prog 9 #[.agg #[.int .i64 R, .int .i64 T]] w fun e w' => e = .returned .nilIface ∧ Below w.heap.size w w' := by
  obtain ⟨h1, h2, h3, h4⟩ := h
  go_enter Tryd.func9, Tryd.ntmps9
  go_wp2
  go_ret
  exact ⟨rfl, below_al (Below.refl _ _) _⟩
set_option maxHeartbeats 400000 in
theorem pcheck_no (R T : Int) (w : World) (h : ¬ MayS R T) :
    Calls Tryd.prog 9 #[.agg #[.int .i64 R, .int .i64 T]] w fun e w' => e = .returned (.iface 54 (.int .i64 1)) ∧ Below w.heap.size w w' := by
  rcases Int.lt_or_le R 1 with h1 | h1
  · clear h
    go_enter Tryd.func9, Tryd.ntmps9
    go_wp2
    go_ret
    exact ⟨rfl, below_al (Below.refl _ _) _⟩
  rcases Int.lt_or_le 17179869184 R with h2 | h2
  · clear h
    go_enter Tryd.func9, Tryd.ntmps9
    go_wp2
    go_ret
    exact ⟨rfl, below_al (Below.refl _ _) _⟩
  rcases Int.lt_or_le T 1 with h3 | h3
  · clear h
    go_enter Tryd.func9, Tryd.ntmps9
    go_wp2
    go_ret
    exact ⟨rfl, below_al (Below.refl _ _) _⟩
  rcases Int.lt_or_le 268435456 T with h4 | h4
  · clear h
    go_enter Tryd.func9, Tryd.ntmps9
    go_wp2
    go_ret
    exact ⟨rfl, below_al (Below.refl _ _) _⟩
  exact absurd ⟨h1, h2, h3, h4⟩ h

set_option maxHeartbeats 400000 in
theorem prod30 (a b : Int) (w : World) (ha0 : -9223372036854775808 ≤ a) (ha1 : a ≤ 9223372036854775807) (hb0 : -9223372036854775808 ≤ b) (hb1 : b ≤ 9223372036854775807) :
    Calls Tryd.prog 18 #[.int .i64 a, .int .i64 b, .int .i64 30] w fun e w' => e = .returned (.int .i64 (pr a b)) ∧ Below w.heap.size w w' := by
  have HC := hide (qmul_any a b 30 w ha0 ha1 hb0 hb1 (by omega))
  unfold pr
  go_enter Tryd.func18, Tryd.ntmps18
  go_wp2_with fail
  refine HC.out.mono ?_
  rintro e w1 ⟨rfl, k1⟩
  go_wp2
  go_ret
  exact ⟨rfl, k1⟩
set_option maxHeartbeats 400000 in
theorem prod20 (a b : Int) (w : World) (ha0 : -9223372036854775808 ≤ a) (ha1 : a ≤ 9223372036854775807) (hb0 : -9223372036854775808 ≤ b) (hb1 : b ≤ 9223372036854775807) :
    Calls Tryd.prog 18 #[.int .i64 a, .int .i64 b, .int .i64 20] w fun e w' => e = .returned (.int .i64 (clamp (rne (a * b) (2 ^ 20)))) ∧ Below w.heap.size w w' := by
  have HC := hide (qmul_any a b 20 w ha0 ha1 hb0 hb1 (by omega))
  go_enter Tryd.func18, Tryd.ntmps18
  go_wp2_with fail
  refine HC.out.mono ?_
  rintro e w1 ⟨rfl, k1⟩
  go_wp2
  go_ret
  exact ⟨rfl, k1⟩

theorem qdot_two (a b c d : Int) (w : World) (ha0 : -9223372036854775808 ≤ a) (ha1 : a ≤ 9223372036854775807) (hb0 : -9223372036854775808 ≤ b) (hb1 : b ≤ 9223372036854775807) (hc0 : -9223372036854775808 ≤ c) (hc1 : c ≤ 9223372036854775807) (hd0 : -9223372036854775808 ≤ d) (hd1 : d ≤ 9223372036854775807) :
    Calls Tryd.prog 41 #[.slice (some ⟨w.heap.size, 0, none⟩) 2 2, .slice (some ⟨w.heap.size + 1, 0, none⟩) 2 2, .int .i64 30] ((w.alloc (.cells #[.int .i64 a, .int .i64 c] 2)).alloc (.cells #[.int .i64 b, .int .i64 d] 2)) fun e w' =>
      e = .returned (.tuple #[.int .i64 (su a b c d), .bool (suO a b c d), .nilIface]) ∧ Below w.heap.size w w' := by
  have d1 : ((w.alloc (.cells #[.int .i64 a, .int .i64 c] 2)).alloc (.cells #[.int .i64 b, .int .i64 d] 2)).cell? ⟨w.heap.size, 0, none⟩ = some (.int .i64 a) := by go_simp
  have d2 : ((w.alloc (.cells #[.int .i64 a, .int .i64 c] 2)).alloc (.cells #[.int .i64 b, .int .i64 d] 2)).cell? ⟨w.heap.size, 1, none⟩ = some (.int .i64 c) := by go_simp
  have d3 : ((w.alloc (.cells #[.int .i64 a, .int .i64 c] 2)).alloc (.cells #[.int .i64 b, .int .i64 d] 2)).cell? ⟨w.heap.size + 1, 0, none⟩ = some (.int .i64 b) := by go_simp
  have d4 : ((w.alloc (.cells #[.int .i64 a, .int .i64 c] 2)).alloc (.cells #[.int .i64 b, .int .i64 d] 2)).cell? ⟨w.heap.size + 1, 1, none⟩ = some (.int .i64 d) := by go_simp
  have s1 := sl_two (x := ⟨w.heap.size, 0, none⟩) d1 d2
  have s2 := sl_two (x := ⟨w.heap.size + 1, 0, none⟩) d3 d4
  obtain ⟨xa, hao, hca⟩ := s1.get
  obtain ⟨xb, hbo, hcb⟩ := s2.get
  have h := qdot_any (some ⟨w.heap.size, 0, none⟩) (some ⟨w.heap.size + 1, 0, none⟩) xa xb 2 2 2 _ _ 30 _ (by omega) hao hbo hca hcb (fun k => by split <;> exact ⟨by assumption, by assumption⟩) (fun k => by split <;> exact ⟨by assumption, by assumption⟩) (by omega)
  have e1 : dk (fun k => if k = 0 then a else c) (fun k => if k = 0 then b else d) 2 = a * b + c * d := by show 0 + a * b + c * d = _; omega
  rw [e1] at h
  refine h.mono ?_
  rintro e w1 ⟨rfl, k1⟩
  exact ⟨rfl, below_tr (below_al (below_al (Below.refl _ _) _) _) k1⟩

set_option maxHeartbeats 400000 in
theorem psum_any (a b c d : Int) (w : World) (ha0 : -9223372036854775808 ≤ a) (ha1 : a ≤ 9223372036854775807) (hb0 : -9223372036854775808 ≤ b) (hb1 : b ≤ 9223372036854775807) (hc0 : -9223372036854775808 ≤ c) (hc1 : c ≤ 9223372036854775807) (hd0 : -9223372036854775808 ≤ d) (hd1 : d ≤ 9223372036854775807) :
    Calls Tryd.prog 27 #[.int .i64 a, .int .i64 b, .int .i64 c, .int .i64 d] w fun e w' => e = .returned (.tuple #[.int .i64 (su a b c d), .bool (suO a b c d)]) ∧ Below w.heap.size w w' := by
  have HC := hide (qdot_two a b c d w ha0 ha1 hb0 hb1 hc0 hc1 hd0 hd1)
  go_enter Tryd.func27, Tryd.ntmps27
  go_wp2_with fail
  refine HC.out.mono ?_
  rintro e w1 ⟨rfl, k1⟩
  go_wp2
  go_ret2
  exact ⟨rfl, k1⟩
end Go.Proofs.YtefgkeeeanakeaaDoor
