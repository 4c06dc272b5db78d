/-
  By of the document's answer of layer 3 (radomeref03): a number of eight words by two to a power, rounded and bounded; by py/By.py.
-/
import Derived.Test.YtkmhikfjdafipaaDoorM6
import Derived.RegionTactic
import Derived.ChangeAlike
import Derived.BigRegion
import Derived.Deep.DeepCutAuto
import Derived.Test.YtkmhikfjdafipaaDoorM4
import Derived.Deep.RegionHeld3
import Derived.Test.YtkmhikfjdafipaaDoorM1
import Derived.Deep.RegionWith
set_option linter.unusedSimpArgs false
set_option linter.unusedVariables false
namespace Go.Proofs.YtkmhikfjdafipaaDoor
open Go.RowKit Lg
attribute [local go_sem ↓] Go.wp_at_zero Go.wp_at_succ

namespace Lg
/-- What comes of a size with its sign: bounded, and whether it was. -/
def res (s : Bool) (Q : Int) : Value := .tuple #[.int .i64 (if Q < 4611686018427387904 then (if s then -Q else Q) else (if s then -4611686018427387903 else 4611686018427387903)), .bool (decide (¬ Q < 4611686018427387904))]
theorem res_low (s : Bool) (Q : Int) (h : Q < 4611686018427387904) : res s Q = .tuple #[.int .i64 (if s then -Q else Q), .bool false] := by
  unfold res; rw [if_pos h]; simp [h]
theorem res_high (s : Bool) (Q : Int) (h : ¬ Q < 4611686018427387904) : res s Q = .tuple #[.int .i64 (if s then -4611686018427387903 else 4611686018427387903), .bool true] := by
  unfold res; rw [if_neg h]; simp; omega
theorem ret_low (s : Bool) {Q z Z : Int} (hZ : Z = Q) (h : Q < 4611686018427387904) (hz : z = if s then -Q else Q) : Ending.returned (.tuple #[.int .i64 z, .bool false]) = .returned (res s Z) := by rw [hZ, res_low s Q h, hz]
theorem ret_high (s : Bool) {Q Z : Int} (hZ : Z = Q) (h : 4611686018427387904 ≤ Q) : Ending.returned (.tuple #[.int .i64 (if s then -4611686018427387903 else 4611686018427387903), .bool true]) = .returned (res s Z) := by rw [hZ, res_high s Q (by omega)]
theorem low_two {Q : Int} (h0 : 0 ≤ Q) (h : Q < 4611686018427387904) : wd 0 Q + wd 1 Q * 4294967296 = Q := by
  show Q % 4294967296 + Q / 4294967296 % 4294967296 * 4294967296 = Q
  omega
theorem high_two {Q : Int} (h0 : 0 ≤ Q) (h : Q < 4611686018427387904) : 0 ≤ wd 1 Q ∧ wd 1 Q ≤ 1073741823 := by
  show 0 ≤ Q / 4294967296 % 4294967296 ∧ Q / 4294967296 % 4294967296 ≤ 1073741823
  omega
end Lg

namespace Lg
theorem wrap_pow {v : Nat} {F : Int} (hv : v ≤ 31) (hF : (2 : Int) ^ v = F) : 0 < F ∧ F ≤ 2147483648 ∧ IntKind.u64.wrap F = F := by
  have h1 : (2 : Nat) ^ v ≤ 2 ^ 31 := Nat.pow_le_pow_right (by omega) hv
  have h2 : (2 : Int) ^ v = ((2 ^ v : Nat) : Int) := by simp
  have h3 := Nat.two_pow_pos v
  rw [hF] at h2
  refine ⟨by omega, by omega, ?_⟩
  rw [IntKind.wrap_u64]; omega
end Lg
end Go.Proofs.YtkmhikfjdafipaaDoor

/-
  By of the document's answer of layer 3 (radomeref03): a number of eight words by two to a power, rounded and bounded; by py/By.py.
-/
set_option linter.unusedSimpArgs false
set_option linter.unusedVariables false
namespace Go.Proofs.YtkmhikfjdafipaaDoor
open Go.RowKit Lg
attribute [local go_sem ↓] Go.wp_at_zero Go.wp_at_succ

end Go.Proofs.YtkmhikfjdafipaaDoor

/-
  By of the document's answer of layer 3 (radomeref03), of any bits that may be: rounded and bounded as the program's; by py/ByAny.py.
-/
set_option linter.unusedSimpArgs false
set_option linter.unusedVariables false
namespace Go.Proofs.YtkmhikfjdafipaaDoor
open Go.RowKit Lg

namespace Lg
theorem rne_half (A h : Int) (hh : 0 < h) (hA : 0 ≤ A) : Qn.rne A (2 * h) = if A / h % 2 = 1 ∧ (0 < A % h ∨ A / (2 * h) % 2 = 1) then A / (2 * h) + 1 else A / (2 * h) := by
  have e1 : A / (2 * h) = A / h / 2 := by
    rw [Int.ediv_ediv, if_neg (fun h => absurd h.1 (by omega)), Int.sub_zero, Int.mul_comm]
  have e2 : A % (2 * h) = A / h % 2 * h + A % h := by
    have a1 := Int.emod_add_mul_ediv A (2 * h)
    have a2 := Int.emod_add_mul_ediv A h
    have a3 := Int.emod_add_mul_ediv (A / h) 2
    rw [e1] at a1
    generalize A / h / 2 = y at *
    generalize A / h % 2 = z at *
    have : h * (A / h) = h * (z + 2 * y) := by rw [a3]
    rw [Int.mul_add, ← Int.mul_assoc, Int.mul_comm h 2, Int.mul_comm h z] at this
    omega
  have r0 := Int.emod_nonneg A (show h ≠ 0 by omega)
  have r1 := Int.emod_lt_of_pos A hh
  unfold Qn.rne
  rw [e2]
  rcases Int.emod_two_eq (A / h) with c | c
  · rw [c, Int.zero_mul, if_pos (Or.inl (by omega)), if_neg (by omega)]
  · rw [c, Int.one_mul]
    by_cases c2 : 0 < A % h
    · rw [if_neg (by omega), if_pos ⟨rfl, Or.inl c2⟩]
    · by_cases c3 : A / (2 * h) % 2 = 1
      · rw [if_neg (by omega), if_pos ⟨rfl, Or.inr c3⟩]
      · rw [if_pos (Or.inr ⟨by omega, by omega⟩), if_neg (by intro h; rcases h.2 with h | h <;> omega)]

theorem low_bit (X W F G : Int) (hF : 0 < F) (hW : F * (2 * G) = W) (hG : 0 < G) : X % W / F % 2 = X / F % 2 ∧ X % W % F = X % F := by
  constructor
  · have a1 := Int.emod_add_mul_ediv X W
    have e : X / F = X % W / F + 2 * G * (X / W) := by
      have : X = X % W + F * (2 * G * (X / W)) := by rw [← Int.mul_assoc, hW]; omega
      conv => lhs; rw [this]
      rw [Int.add_mul_ediv_left _ _ (by omega)]
    rw [e, Int.mul_assoc, Int.add_mul_emod_self_left]
  · exact Int.emod_emod_of_dvd X ⟨2 * G, hW.symm⟩

theorem res_any (s : Bool) (Z : Int) (hZ : 0 ≤ Z) : res s Z = .tuple #[.int .i64 (Qn.clamp (sgz s Z)), .bool (Qn.great (sgz s Z))] := by
  by_cases h : Z < 4611686018427387904
  · rw [res_low s Z h]
    cases s
    · have e1 : Qn.clamp (sgz false Z) = Z := by unfold sgz Qn.clamp; simp only [Bool.false_eq_true, if_false]; rw [if_neg (by omega), if_neg (by omega)]
      have e2 : Qn.great (sgz false Z) = false := by unfold sgz Qn.great; simp only [Bool.false_eq_true, if_false]; rw [decide_eq_false (by omega), decide_eq_false (by omega)]; rfl
      rw [e1, e2]; rfl
    · have e1 : Qn.clamp (sgz true Z) = -Z := by unfold sgz Qn.clamp; simp only [if_true]; rw [if_neg (by omega), if_neg (by omega)]
      have e2 : Qn.great (sgz true Z) = false := by unfold sgz Qn.great; simp only [if_true]; rw [decide_eq_false (by omega), decide_eq_false (by omega)]; rfl
      rw [e1, e2]; rfl
  · rw [res_high s Z h]
    cases s
    · have e1 : Qn.clamp (sgz false Z) = 4611686018427387903 := by unfold sgz Qn.clamp; simp only [Bool.false_eq_true, if_false]; rw [if_pos (by omega)]
      have e2 : Qn.great (sgz false Z) = true := by unfold sgz Qn.great; simp only [Bool.false_eq_true, if_false]; rw [decide_eq_true (by omega : (4611686018427387903 : Int) < Z)]; rfl
      rw [e1, e2]; rfl
    · have e1 : Qn.clamp (sgz true Z) = -4611686018427387903 := by unfold sgz Qn.clamp; simp only [if_true]; rw [if_neg (by omega), if_pos (by omega)]
      have e2 : Qn.great (sgz true Z) = true := by unfold sgz Qn.great; simp only [if_true]; rw [decide_eq_false (by omega : ¬ (4611686018427387903 : Int) < -Z), decide_eq_true (by omega : -Z < (-4611686018427387903 : Int))]; rfl
      rw [e1, e2]; rfl
end Lg

end Go.Proofs.YtkmhikfjdafipaaDoor

/-
  Dot of the document's answer of layer 3 (radomeref03): the sum of products, rounded once, and bounded; by py/Dots.py.
-/
set_option linter.unusedSimpArgs false
set_option linter.unusedVariables false
namespace Go.Proofs.YtkmhikfjdafipaaDoor
open Go.RowKit Lg Dt
attribute [local go_sem ↓] Go.wp_at_zero Go.wp_at_succ

namespace Lg
theorem sgz_bd {s : Bool} {A M : Int} (hA : 0 ≤ A) (h : -M ≤ sgz s A ∧ sgz s A ≤ M) : A ≤ M := by
  unfold sgz at h; split at h <;> omega
end Lg

end Go.Proofs.YtkmhikfjdafipaaDoor

/-
  The document's answer of layer 7 (radomeref07): Scale, Check, Join.
-/
set_option linter.unusedSimpArgs false
set_option linter.unusedVariables false
namespace Go.Proofs.YtkmhikfjdafipaaDoor
open Go.RowKit Vc Dt
attribute [local go_sem ↓] Go.wp_at_zero Go.wp_at_succ

namespace Vc
theorem Sl.one {w : World} {x : Addr} {a : Int} (h : w.cell? x = some (.int .i64 a)) : Sl w (some x) 1 1 (fun _ => a) :=
  ⟨Nat.le_refl _, by omega, fun k hk => ⟨x, rfl, by obtain rfl : k = 0 := by omega
                                                    exact h⟩⟩
end Vc

end Go.Proofs.YtkmhikfjdafipaaDoor

/-
  The document's answer of layer 7 (radomeref07): Add, less or not.
-/
set_option linter.unusedSimpArgs false
set_option linter.unusedVariables false
namespace Go.Proofs.YtkmhikfjdafipaaDoor
open Go.RowKit Vc Dec

namespace Vc
theorem digs_short {z : Int} (h0 : -99999999999999999999 ≤ z) (h1 : z ≤ 99999999999999999999) : (digs z.natAbs).length ≤ 1000000 := by
  have := length_digs_le (show z.natAbs < 10 ^ 20 by omega)
  omega

/-- A number in a variable's block. -/
def NumAt (w : World) (g : Nat) (z : Int) : Prop := ∃ a L c, Row2 w g (.bool (decide (z < 0))) (.slice a L c) ∧ IsNum w (.agg #[.bool (decide (z < 0)), .slice a L c]) z
/-- A number into a variable: its block is new, or elder. -/
theorem into_new {B : Nat} {w w5 : World} {z : Int} {a : Option Addr} {L c : Nat} (hB : Below B w w5) (i1 : IsNum w5 (.agg #[.bool (decide (z < 0)), .slice a L c]) z) (hs : B ≤ w5.heap.size) :
    NumAt (w5.alloc (.cells #[.bool (decide (z < 0)), .slice a L c] 65)) w5.heap.size z ∧ Below B w (w5.alloc (.cells #[.bool (decide (z < 0)), .slice a L c] 65)) :=
  ⟨⟨a, L, c, row2_new w5 _ _, i1.alloc _⟩, hB.trans ((below_al (Below.refl _ _) _).mono hs)⟩
theorem into_old {B g : Nat} {w w5 : World} {z : Int} {a : Option Addr} {L c : Nat} (hB : Below B w w5) {p : Bool} {ao : Option Addr} {n cc : Nat} (r : Row2 w5 g (.bool p) (.slice ao n cc)) (hg : B ≤ g) (i1 : IsNum w5 (.agg #[.bool (decide (z < 0)), .slice a L c]) z) :
    NumAt ((w5.setCell ⟨g, 0, none⟩ (.bool (decide (z < 0)))).setCell ⟨g, 1, none⟩ (.slice a L c)) g z ∧ Below B w ((w5.setCell ⟨g, 0, none⟩ (.bool (decide (z < 0)))).setCell ⟨g, 1, none⟩ (.slice a L c)) :=
  ⟨⟨a, L, c, r.set2 _ _, i1.row2 r _ _⟩, below_set2 hB hg _ _⟩
end Vc

end Go.Proofs.YtkmhikfjdafipaaDoor

/-
  Two of the document's answer (radomeref01): two to a power.
-/
set_option linter.unusedSimpArgs false
set_option linter.unusedVariables false
namespace Go.Proofs.YtkmhikfjdafipaaDoor
open Go.RowKit Dec
attribute [local go_sem ↓] Go.wp_at_zero Go.wp_at_succ

namespace Dec
theorem isNum_nat {w : World} {d : Value} {n : Nat} (h : Rd w d (digs n)) : IsNum w (.agg #[.bool false, d]) (n : Int) :=
  ⟨d, by rw [decide_eq_false (Int.not_lt.2 (Int.natCast_nonneg n))], by rw [Int.natAbs_natCast]; exact h⟩
theorem IsNum.nat {w : World} {v : Value} {n : Nat} (h : IsNum w v (n : Int)) : ∃ a c, v = .agg #[.bool false, .slice a (digs n).length c] ∧ Rd w (.slice a (digs n).length c) (digs n) := by
  obtain ⟨d, rfl, hd⟩ := h
  rw [Int.natAbs_natCast] at hd
  obtain ⟨a, c, rfl⟩ := hd.lt
  exact ⟨a, c, by rw [decide_eq_false (Int.not_lt.2 (Int.natCast_nonneg n))], hd⟩
theorem len_two (n : Nat) : (digs (2 ^ n)).length ≤ n + 1 := by
  refine length_digs_le (Nat.lt_of_lt_of_le (Nat.pow_lt_pow_right (a := 2) (by omega) (Nat.lt_succ_self n)) (Nat.pow_le_pow_left (by omega) _))
end Dec

set_option maxHeartbeats 2000000 in
/-- Two: two to a power. -/
theorem two_any (n : Nat) (w : World) (hn : n ≤ 100000) :
    Calls Tryd.prog 23 #[.int .i64 n] w fun e w' => ∃ v, e = .returned v ∧ IsNum w' v ((2 ^ n : Nat) : Int) ∧ Below w.heap.size w w' := by
  have l30 : (digs (1073741824 : Int).natAbs).length ≤ 1000000 := by
    have := length_digs_le (show (1073741824 : Int).natAbs < 10 ^ 10 by decide)
    omega
  have n0 : (0 : Int) ≤ (n : Int) := by omega
  have n1 : (n : Int) ≤ 100000 := by omega
  go_enter Tryd.func23, Tryd.ntmps23
  go_wp2_with fail
  refine (of_any 1 _ (by omega) (by omega)).mono ?_
  rintro e w1 ⟨v1, rfl, hn1, hb1⟩
  obtain ⟨a1, L1, c1, rfl⟩ := IsNum.form0 (n := 1) hn1
  have kB : Row2 w1 w.heap.size (.bool false) (.slice none 0 0) := (row2_new w _ _).keep hb1
  have hB1 : Below w.heap.size w w1 := below_tr (below_al (Below.refl _ _) _) hb1
  have hBl : w.heap.size < w1.heap.size := by have := hb1.size; simp at this; omega
  go_wp2
  go_loopw [4] (fun i wr => ∃ (k : Nat) (a : Option Addr) (L c : Nat), i = .int .i64 (30 * (k : Int)) ∧ 30 * k ≤ n ∧ Row2 wr w1.heap.size (.bool false) (.slice a L c) ∧ IsNum wr (.agg #[.bool false, .slice a L c]) ((2 ^ (30 * k) : Nat) : Int) ∧ Row2 wr w.heap.size (.bool false) (.slice none 0 0) ∧ Below w.heap.size w wr) (fun i _ => n - (intOf i).toNat)
  case atStart => exact ⟨0, a1, L1, c1, rfl, by omega, row2_new w1 _ _, hn1.below (below_al (Below.refl _ _) _), kB.alloc _, below_al hB1 _⟩
  case round =>
    obtain ⟨k, a, L, c, rfl, hk, hrow, hnum, hres, hbel⟩ := hrel
    have x0 := hrow.c0
    have x1 := hrow.c1
    by_cases h1 : 30 * k + 30 ≤ n
    · have f0 := hrow.free 0
      have f1 := hrow.free 1
      have hl := len_two (30 * k)
      obtain ⟨T, hT⟩ : ∃ T, T = 2 ^ (30 * k) := ⟨_, rfl⟩
      rw [← hT] at hl hnum
      have HT := Hid.mk' hT
      clear hT
      go_wp2
      go_region_with
        (first
          | (go_at_call 22; refine (of_any 1073741824 _ (by omega) (by omega)).mono ?_; rintro e w2 ⟨v2, rfl, hn2, hb2⟩; have y0 := keep_cell hb2 x0; have y1 := keep_cell hb2 x1)
          | (go_at_call 21; refine (mul_any _ _ (T : Int) 1073741824 _ (by rw [len_nat]; omega) l30 (hnum.below (below_tr (Below.refl _ _).drew hb2)) hn2).mono ?_; rintro e w3 ⟨v3, rfl, hn3, hb3⟩; have hn4 : IsNum w3 v3 ((T * 1073741824 : Nat) : Int) := (by simpa using hn3); obtain ⟨a3, L3, c3, hv3⟩ := hn4.form0; subst hv3; have hrow3 := (hrow.drew.keep hb2).keep hb3; have g0 := hrow3.c0; have g1 := hrow3.c1; have g2 := hrow3.free 0; have g3 := hrow3.free 1))
      all_goals go_wp2
      all_goals go_roundw
      case rel =>
        have e : 2 ^ (30 * (k + 1)) = T * 1073741824 := by rw [HT.out, Nat.mul_add, Nat.pow_add]
        exact ⟨k + 1, a3, L3, c3, by go_num, by omega, hrow3.set2 _ _, by rw [e]; exact hn4.row2 hrow3 _ _, (((hres.drew.keep hb2).keep hb3).other _ (show w.heap.size ≠ w1.heap.size by omega)).other _ (show w.heap.size ≠ w1.heap.size by omega), below_set2 (below_tr (below_tr hbel.drew hb2) hb3) (by omega) _ _⟩
      case measure => simp [intOf]; omega
      case rel =>
        have e : 2 ^ (30 * (k + 1)) = T * 1073741824 := by rw [HT.out, Nat.mul_add, Nat.pow_add]
        exact ⟨k + 1, a3, L3, c3, by go_num, by omega, hrow3.set2 _ _, by rw [e]; exact hn4.row2 hrow3 _ _, (((hres.drew.keep hb2).keep hb3).other _ (show w.heap.size ≠ w1.heap.size by omega)).other _ (show w.heap.size ≠ w1.heap.size by omega), below_set2 (below_tr (below_tr hbel.drew hb2) hb3) (by omega) _ _⟩
      case measure => simp [intOf]; omega
    · have hmod : (n : Int) % 30 = ((n - 30 * k : Nat) : Int) := by omega
      go_wp2
      go_loopw [5] (fun i ws => ∃ (j : Nat) (a : Option Addr) (L c : Nat), i = .int .i64 (j : Int) ∧ j ≤ n - 30 * k ∧ Row2 ws w1.heap.size (.bool false) (.slice a L c) ∧ IsNum ws (.agg #[.bool false, .slice a L c]) ((2 ^ (30 * k + j) : Nat) : Int) ∧ Row2 ws w.heap.size (.bool false) (.slice none 0 0) ∧ Below w.heap.size w ws) (fun i _ => n - 30 * k - (intOf i).toNat)
      case atStart => exact ⟨0, a, L, c, rfl, by omega, hrow, hnum, hres, hbel⟩
      case round =>
        clear hrow hnum hres hbel x0 x1
        obtain ⟨j, a, L, c, rfl, hj, hrow, hnum, hres, hbel⟩ := hrel
        have x0 := hrow.c0
        have x1 := hrow.c1
        by_cases h2 : j < n - 30 * k
        · have hl := len_two (30 * k + j)
          obtain ⟨T, hT⟩ : ∃ T, T = 2 ^ (30 * k + j) := ⟨_, rfl⟩
          rw [← hT] at hl hnum
          have HT := Hid.mk' hT
          clear hT
          go_wp2_with fail
          refine (add_any _ _ (T : Int) (T : Int) _ (by rw [len_nat]; omega) (by rw [len_nat]; omega) hnum hnum).mono ?_
          rintro e w3 ⟨v3, rfl, hn3, hb3⟩
          have hn4 : IsNum w3 v3 ((T + T : Nat) : Int) := (by simpa using hn3)
          obtain ⟨a3, L3, c3, hv3⟩ := hn4.form0
          subst hv3
          have hrow3 := hrow.keep hb3
          have g0 := hrow3.c0
          have g1 := hrow3.c1
          have g2 := hrow3.free 0
          have g3 := hrow3.free 1
          go_wp2
          go_roundw
          case rel =>
            have e : 2 ^ (30 * k + (j + 1)) = T + T := by rw [HT.out, ← Nat.add_assoc, Nat.pow_succ]; omega
            exact ⟨j + 1, a3, L3, c3, by go_num, by omega, hrow3.set2 _ _, by rw [e]; exact hn4.row2 hrow3 _ _, ((hres.keep hb3).other _ (show w.heap.size ≠ w1.heap.size by omega)).other _ (show w.heap.size ≠ w1.heap.size by omega), below_set2 (below_tr hbel hb3) (by omega) _ _⟩
          case measure => simp [intOf]; omega
        · have ej : 30 * k + j = n := by omega
          rw [ej] at hnum
          have y0 := hres.c0
          have y1 := hres.c1
          have y2 := hres.free 0
          have y3 := hres.free 1
          go_wp2
          have e5 := hres.set2 (.bool false) (.slice a L c)
          have t0 := e5.c0
          have t1 := e5.c1
          refine bodyPost_ret (v := .agg #[.bool false, .slice a L c]) ?_ rfl ⟨_, rfl, hnum.row2 hres _ _, below_set2 hbel (Nat.le_refl _) _ _⟩
          clear e5 y0 y1 y2 y3 x0 x1
          revert t0 t1
          generalize (wr.setCell ⟨w.heap.size, 0, none⟩ (.bool false)).setCell ⟨w.heap.size, 1, none⟩ (.slice a L c) = W5
          intro t0 t1
          simp [results, Tryd.results23, go_sem, t0, t1]

end Go.Proofs.YtkmhikfjdafipaaDoor
