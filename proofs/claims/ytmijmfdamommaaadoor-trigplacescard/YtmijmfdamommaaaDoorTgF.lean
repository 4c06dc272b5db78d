/-
  How far a place is: squares of two words, and their root, bit by bit.
-/
import Derived.Test.YtmijmfdamommaaaDoorTgB
set_option linter.unusedSimpArgs false
set_option linter.unusedVariables false
namespace Go.Proofs.YtmijmfdamommaaaDoor
open Go.RowKit Tg Qn
attribute [local go_sem ↓] Go.wp_at_zero Go.wp_at_succ

namespace Tg
/-- Block b holds a number of two words, the higher first. -/
def RowS (w : World) (b : Nat) (x y : Int) : Prop := w.heap[b]? = some (.cells #[.int .u64 x, .int .u64 y] 66 (0, 0))
theorem RowS.lt {w : World} {b : Nat} {x y : Int} (h : RowS w b x y) : b < w.heap.size := by
  rcases Nat.lt_or_ge b w.heap.size with k | k
  · exact k
  · unfold RowS at h; rw [Array.getElem?_eq_none k] at h; cases h
theorem rowS_new (w : World) (x y : Int) : RowS (w.alloc (.cells #[.int .u64 x, .int .u64 y] 66)) w.heap.size x y := heap_alloc_new w _
theorem rowS_new1 (w : World) (A : Obj) (x y : Int) : RowS ((w.alloc A).alloc (.cells #[.int .u64 x, .int .u64 y] 66)) (w.heap.size + 1) x y := by
  have h := rowS_new (w.alloc A) x y
  rwa [show (w.alloc A).heap.size = w.heap.size + 1 by simp] at h
theorem RowS.alloc {w : World} {b : Nat} {x y : Int} (h : RowS w b x y) (o : Obj) : RowS (w.alloc o) b x y := by
  unfold RowS; rw [Below.heap_alloc w o b h.lt]; exact h
theorem RowS.keep {w w' : World} {b : Nat} {x y : Int} (h : RowS w b x y) (hb : Below w.heap.size w w') : RowS w' b x y := by
  unfold RowS; rw [hb.block b h.lt]; exact h
theorem RowS.drew {w : World} {b : Nat} {x y : Int} (h : RowS w b x y) : RowS w.drew b x y := h
theorem RowS.row {w : World} {b : Nat} {x y : Int} (h : RowS w b x y) (x' y' : Int) : RowS (w.setRow b #[.int .u64 x', .int .u64 y']) b x' y' := setRow_heap w b _ _ _ (0, 0) h
theorem RowS.rowOther {w : World} {b g : Nat} {x y : Int} (h : RowS w b x y) (hne : b ≠ g) (cs : Array Value) : RowS (w.setRow g cs) b x y := by
  unfold RowS; rw [setRow_other w g b cs hne]; exact h
theorem RowS.c0 {w : World} {b : Nat} {x y : Int} (h : RowS w b x y) : w.cell? ⟨b, 0, none⟩ = some (.int .u64 x) := by rw [cell_of_row w b 0 _ _ (0, 0) h]; rfl
theorem RowS.c1 {w : World} {b : Nat} {x y : Int} (h : RowS w b x y) : w.cell? ⟨b, 1, none⟩ = some (.int .u64 y) := by rw [cell_of_row w b 1 _ _ (0, 0) h]; rfl
theorem size_square : (Tryd.prog.info? 66).map (·.size) = some 2 := by kernel_rfl
theorem wpList_loadS {ops : Array Oper} {rest : List Oper} {o : Oper} {a : Act} {w : World} {Q : Exit → Act → World → Prop} (hgd : o.guard = none) (x : Operand) (ho : o.op = .load 66 x)
    (b : Nat) (p q : Int) (hx : a.eval x = .pointer (some ⟨b, 0, none⟩)) (hr : RowS w b p q)
    (h : wpList Tryd.prog ops Q rest (a.put o.dst (.agg #[.int .u64 p, .int .u64 q])) w) : wpList Tryd.prog ops Q (o :: rest) a w :=
  wpList_load_row hgd _ x ho b hx _ _ _ _ hr Tryd.underlying66 rfl size_square h
theorem wpList_storeS {ops : Array Oper} {rest : List Oper} {o : Oper} {a : Act} {w : World} {Q : Exit → Act → World → Prop} (hgd : o.guard = none) (x y : Operand) (ho : o.op = .store 66 x y)
    (b : Nat) (p q p' q' : Int) (hx : a.eval x = .pointer (some ⟨b, 0, none⟩)) (hy : a.eval y = .agg #[.int .u64 p, .int .u64 q]) (hr : RowS w b p' q')
    (h : wpList Tryd.prog ops Q rest (a.put o.dst undef) (w.setRow b #[.int .u64 p, .int .u64 q])) : wpList Tryd.prog ops Q (o :: rest) a w :=
  wpList_store_row hgd _ x y ho b _ hx hy _ _ hr size_square rfl (by kernel_rfl) h
theorem results_S {fn : Func} {p : Tmp} (h : fn.results = #[.cell p 66]) (tmps : Array Value) (w : World) (b : Nat) (x y : Int) (hp : tmps.getD p undef = .pointer (some ⟨b, 0, none⟩))
    (hr : RowS w b x y) : (results fn tmps).run Tryd.prog w = .ok (.agg #[.int .u64 x, .int .u64 y]) w :=
  results_cell_row h tmps w b _ _ _ _ hp hr Tryd.underlying66 rfl size_square
end Tg

set_option maxHeartbeats 400000 in
theorem squareOf_any (x : Int) (w : World) (h0 : 0 ≤ x) (h1 : x ≤ 18446744073709551615) :
    Calls Tryd.prog 61 #[.int .u64 x] w fun e w' => e = .returned (.agg #[.int .u64 (mi (x * x)), .int .u64 (lo (x * x))]) ∧ Below w.heap.size w w' := by
  have hm := mi_bd (x * x)
  have hl := lo_bd (x * x)
  have HM := hide (fun W => mul64_any x x h0 h1 h0 h1 W)
  obtain ⟨p, hp⟩ : ∃ p, p = mi (x * x) := ⟨_, rfl⟩
  obtain ⟨q, hq⟩ : ∃ q, q = lo (x * x) := ⟨_, rfl⟩
  rw [← hp] at hm HM ⊢
  rw [← hq] at hl HM ⊢
  clear hp hq
  have R0 : RowS (w.alloc (.cells #[.int .u64 0, .int .u64 0] 66)) w.heap.size 0 0 := rowS_new w _ _
  go_enter Tryd.func61, Tryd.ntmps61
  go_wp2_with fail
  refine (HM.out _).mono ?_
  rintro e w1 ⟨rfl, rfl⟩
  go_wp2_with (first | (refine wpList_storeS rfl (.tmp 2) (.tmp 13) rfl _ _ _ _ _ rfl rfl R0 ?_))
  exact bodyPost_ret (v := .agg #[.int .u64 p, .int .u64 q]) (results_S Tryd.results61 _ _ w.heap.size _ _ rfl (R0.row _ _)) rfl ⟨rfl, belowRow (below_al (Below.refl _ _) _) (Nat.le_refl _) _⟩

set_option maxHeartbeats 1000000 in
theorem squares_any (x y : Int) (w : World) (h0 : 0 ≤ x) (h1 : x ≤ 4611686018427387903) (g0 : 0 ≤ y) (g1 : y ≤ 4611686018427387903) :
    Calls Tryd.prog 32 #[.int .u64 x, .int .u64 y] w fun e w' => e = .returned (.agg #[.int .u64 (mi (x * x + y * y)), .int .u64 (lo (x * x + y * y))]) ∧ Below w.heap.size w w' := by
  obtain ⟨e1, e2, _⟩ := ad_words (x * x) (y * y)
  have HX := hide (fun W => squareOf_any x W h0 (by omega))
  have HY := hide (fun W => squareOf_any y W g0 (by omega))
  have a1 := mi_bd (x * x)
  have a2 := lo_bd (x * x)
  have b1 := mi_bd (y * y)
  have b2 := lo_bd (y * y)
  have E1 := hide e1
  have E2 := hide e2
  obtain ⟨p, hp⟩ : ∃ p, p = mi (x * x) := ⟨_, rfl⟩
  obtain ⟨q, hq⟩ : ∃ q, q = lo (x * x) := ⟨_, rfl⟩
  obtain ⟨r, hr⟩ : ∃ r, r = mi (y * y) := ⟨_, rfl⟩
  obtain ⟨s, hs⟩ : ∃ s, s = lo (y * y) := ⟨_, rfl⟩
  rw [← hq, ← hs] at E1
  rw [← hp, ← hq, ← hr, ← hs] at E2
  rw [← hp] at HX a1
  rw [← hq] at HX a2
  rw [← hr] at HY b1
  rw [← hs] at HY b2
  clear hp hq hr hs e1 e2
  obtain ⟨M, hM⟩ : ∃ M, M = mi (x * x + y * y) := ⟨_, rfl⟩
  obtain ⟨L, hL⟩ : ∃ L, L = lo (x * x + y * y) := ⟨_, rfl⟩
  rw [← hM] at E2 ⊢
  rw [← hL] at E1 ⊢
  clear hM hL
  have c1 := adC_bd a2 b2 (show (0 : Int) ≤ 0 ∧ (0 : Int) ≤ 1 by omega)
  have r1 := fun w => add64_run a2 b2 (c := 0) (by omega) w
  have r2 := fun w => add64_run a1 b1 c1 w
  have d1 := adS_bd q s 0
  have d2 := adS_bd p r (adC q s 0)
  have R0 : RowS (w.alloc (.cells #[.int .u64 0, .int .u64 0] 66)) w.heap.size 0 0 := rowS_new w _ _
  go_enter Tryd.func32, Tryd.ntmps32
  go_wp2_with fail
  refine (HX.out _).mono ?_
  rintro e w1 ⟨rfl, k1⟩
  go_wp2_with fail
  refine (HY.out _).mono ?_
  rintro e w2 ⟨rfl, k2⟩
  have R2 := (R0.keep k1).keep k2
  go_wp2_with (first | (refine wpList_storeS rfl (.tmp 4) (.tmp 34) rfl _ _ _ _ _ rfl rfl ((R2.alloc _).alloc _) ?_))
  exact bodyPost_ret (v := .agg #[.int .u64 (adS p r (adC q s 0)), .int .u64 (adS q s 0)]) (results_S Tryd.results32 _ _ w.heap.size _ _ rfl (((R2.alloc _).alloc _).row _ _)) rfl ⟨by rw [E1.out, E2.out], belowRow (below_al (below_al (below_tr (below_tr (below_al (Below.refl _ _) _) k1) k2) _) _) (Nat.le_refl _) _⟩

namespace Tg
/-- Whether a number of two words is more than another one. -/
def ab2 (m n : Int) : Bool := decide (n < m)
end Tg

set_option maxHeartbeats 1000000 in
theorem above2_any (m n : Int) (w : World) (hm0 : 0 ≤ m) (hm1 : m < 340282366920938463463374607431768211456) (hn0 : 0 ≤ n) (hn1 : n < 340282366920938463463374607431768211456) :
    Calls Tryd.prog 63 #[.agg #[.int .u64 (mi m), .int .u64 (lo m)], .agg #[.int .u64 (mi n), .int .u64 (lo n)]] w fun e w' => e = .returned (.bool (ab2 m n)) ∧ Below w.heap.size w w' := by
  have K : Hid (ab2 m n = (decide (mi n < mi m) || (decide (mi m = mi n) && decide (lo n < lo m)))) := by
    refine hide ?_
    unfold ab2 mi lo
    rw [← Bool.decide_and, ← Bool.decide_or, decide_eq_decide]
    omega
  have a1 := mi_bd m
  have a2 := lo_bd m
  have b1 := mi_bd n
  have b2 := lo_bd n
  obtain ⟨p, hp⟩ : ∃ p, p = mi m := ⟨_, rfl⟩
  obtain ⟨q, hq⟩ : ∃ q, q = lo m := ⟨_, rfl⟩
  obtain ⟨r, hr⟩ : ∃ r, r = mi n := ⟨_, rfl⟩
  obtain ⟨s, hs⟩ : ∃ s, s = lo n := ⟨_, rfl⟩
  obtain ⟨B, hB⟩ : ∃ B, B = ab2 m n := ⟨_, rfl⟩
  rw [← hp, ← hq, ← hr, ← hs, ← hB] at K
  rw [← hp] at a1 ⊢
  rw [← hq] at a2 ⊢
  rw [← hr] at b1 ⊢
  rw [← hs] at b2 ⊢
  rw [← hB]
  clear hp hq hr hs hB
  rcases Int.lt_trichotomy r p with h | h | h
  · have KB : Hid (B = true) := by rw [K.out, decide_eq_true h]; exact hide rfl
    clear K
    go_enter Tryd.func63, Tryd.ntmps63
    go_wp2
    go_ret
    exact ⟨Qn.ret_bool (by rw [KB.out]), by repeat (first | exact below_al (below_al (Below.refl _ _) _) _ | refine below_drewN ?_ _)⟩
  · subst h
    have KB : Hid (B = decide (s < q)) := by rw [K.out, decide_eq_false (by omega : ¬ r < r), decide_eq_true (rfl : r = r)]; exact hide rfl
    clear K
    go_enter Tryd.func63, Tryd.ntmps63
    go_wp2
    go_ret
    exact ⟨Qn.ret_bool (by rw [KB.out]), by repeat (first | exact below_al (below_al (Below.refl _ _) _) _ | refine below_drewN ?_ _)⟩
  · have hne : ¬ p = r := by omega
    have KB : Hid (B = false) := by rw [K.out, decide_eq_false (by omega : ¬ r < p), decide_eq_false hne]; exact hide rfl
    clear K
    go_enter Tryd.func63, Tryd.ntmps63
    go_wp2
    go_ret
    exact ⟨Qn.ret_bool (by rw [KB.out]; exact decide_eq_false (by omega)), by repeat (first | exact below_al (below_al (Below.refl _ _) _) _ | refine below_drewN ?_ _)⟩

namespace Tg
theorem or_bit (m k : Nat) (h : 2 ^ (k + 1) * m + 2 ^ k < 18446744073709551616) : bits .or .u64 ((2 ^ (k + 1) * m : Nat) : Int) ((2 ^ k : Nat) : Int) = ((2 ^ (k + 1) * m : Nat) : Int) + ((2 ^ k : Nat) : Int) := by
  have hp := Nat.two_pow_pos k
  rw [bits_or_u64_nat _ _ (by omega) (by omega), ← Nat.two_pow_add_eq_or_of_lt (Nat.pow_lt_pow_right (by omega) (by omega)), Int.natCast_add]
theorem sq_lt {x : Int} (h0 : 0 ≤ x) (h1 : x ≤ 9223372036854775807) : 0 ≤ x * x ∧ x * x < 340282366920938463463374607431768211456 := by
  refine ⟨Int.mul_nonneg h0 h0, ?_⟩
  have : x * x ≤ 9223372036854775807 * 9223372036854775807 := Int.mul_le_mul h1 h1 h0 (by omega)
  omega
end Tg

set_option maxHeartbeats 1000000 in
theorem root2_any (n : Int) (w : World) (hn0 : 0 ≤ n) (hn1 : n < 340282366920938463463374607431768211456) :
    Calls Tryd.prog 33 #[.agg #[.int .u64 (mi n), .int .u64 (lo n)]] w fun e w' => ∃ r : Int, e = .returned (.int .u64 r) ∧ IsRoot n r ∧ Below w.heap.size w w' := by
  have HM := hide (fun (n' : Int) (h0 : 0 ≤ n') (h1 : n' < 340282366920938463463374607431768211456) W => above2_any n' n W h0 h1 hn0 hn1)
  obtain ⟨p, hp⟩ : ∃ p, p = mi n := ⟨_, rfl⟩
  obtain ⟨q, hq⟩ : ∃ q, q = lo n := ⟨_, rfl⟩
  rw [← hp] at HM ⊢
  rw [← hq] at HM ⊢
  clear hp hq
  go_enter Tryd.func33, Tryd.ntmps33
  go_wp2
  go_loopw [3, 4] (fun t b wr => ∃ (k m : Nat), k ≤ 62 ∧ t = .int .u64 ((2 ^ k * m : Nat) : Int) ∧ b = .int .u64 (2 ^ k / 2) ∧ Hid (RootAt n ((2 ^ k * m : Nat) : Int) k) ∧ RowS wr w.heap.size p q ∧ Below w.heap.size w wr) (fun _ b _ => (intOf b).toNat)
  case atStart => exact ⟨62, 0, by omega, rfl, rfl, rootAt_start hn0, rowS_new w _ _, below_al (Below.refl _ _) _⟩
  case round =>
    obtain ⟨k, m, hk, rfl, rfl, hR, hRow, hb⟩ := hrel
    have c0 := hRow.c0
    have c1 := hRow.c1
    cases k with
    | zero =>
      have e0 : (2 : Int) ^ 0 / 2 = 0 := by decide
      rw [e0]
      obtain ⟨r, hr⟩ : ∃ r : Int, r = ((2 ^ 0 * m : Nat) : Int) := ⟨_, rfl⟩
      rw [← hr] at hR ⊢
      clear hr
      go_wp2
      go_ret
      exact ⟨r, rfl, rootAt_end hR.out, hb⟩
    | succ k =>
      have hpn : (2 : Int) ^ k = ((2 ^ k : Nat) : Int) := by simp
      obtain ⟨D, hD⟩ : ∃ D, (2 : Int) ^ k = D := ⟨_, rfl⟩
      obtain ⟨r, hr⟩ : ∃ r : Int, r = ((2 ^ (k + 1) * m : Nat) : Int) := ⟨_, rfl⟩
      have e0 : (2 : Int) ^ (k + 1) / 2 = D := by rw [Int.pow_succ, hD]; omega
      rw [e0, ← hr]
      rw [← hr] at hR
      have hD0 : 0 < D := by rw [← hD]; exact Int.pow_pos (by omega)
      have h1 := hR.out.1
      have h2 : r + D + D ≤ 4611686018427387904 := by have := hR.out.2.1; rw [Int.pow_succ, hD] at this; omega
      have hor : bits .or .u64 r D = r + D := by
        rw [hr, ← hD, hpn]
        refine or_bit m k ?_
        rw [hr, ← hD, hpn] at h2
        omega
      have M0 : Hid (r = ((2 ^ k * (2 * m) : Nat) : Int)) := by rw [hr, Nat.pow_succ, Nat.mul_assoc]; exact hide rfl
      have M1 : Hid (r + D = ((2 ^ k * (2 * m + 1) : Nat) : Int)) := by
        have := M0.out
        rw [Nat.mul_add, Nat.mul_one, Int.natCast_add, ← this, ← hpn, hD]
        exact hide rfl
      have hs := sq_lt (x := r + D) (by omega) (by omega)
      clear e0 hr
      have e3 : (2 : Int) ^ k / 2 = D / 2 := by rw [hD]
      by_cases hq : ab2 ((r + D) * (r + D)) n = true
      · have hR' : RootAt n r k := rootAt_no hR.out (by rw [hD]; exact of_decide_eq_true hq)
        have E3 : Hid ((2 : Int) ^ k / 2 = D / 2) := e3
        clear e3 hD hpn
        go_wp2
        go_region_with (first | (go_at_call 61; refine (squareOf_any _ _ (by omega) (by omega)).mono ?_; rintro e w1 ⟨rfl, hb1⟩; have d0 := keep_cell hb1 c0; have d1 := keep_cell hb1 c1) | (go_at_call 63; refine (HM.out _ hs.1 hs.2 _).mono ?_; rintro e w2 ⟨rfl, hb2⟩))
        all_goals go_wp2
        all_goals
          go_roundw
          case rel => exact ⟨k, 2 * m, by omega, by rw [M0.out], by rw [E3.out], by rw [← M0.out]; exact hR', (hRow.drew.keep hb1).keep hb2, below_tr (below_tr hb.drew hb1) hb2⟩
          case measure => simp [intOf]; omega
      · have hR' : RootAt n (r + D) k := by rw [← hD]; exact rootAt_yes hR.out (by rw [hD]; rw [ab2, decide_eq_true_iff] at hq; omega)
        have hq' : ab2 ((r + D) * (r + D)) n = false := by simpa using hq
        have E3 : Hid ((2 : Int) ^ k / 2 = D / 2) := e3
        clear e3 hD hpn hq
        go_wp2
        go_region_with (first | (go_at_call 61; refine (squareOf_any _ _ (by omega) (by omega)).mono ?_; rintro e w1 ⟨rfl, hb1⟩; have d0 := keep_cell hb1 c0; have d1 := keep_cell hb1 c1) | (go_at_call 63; refine (HM.out _ hs.1 hs.2 _).mono ?_; rintro e w2 ⟨rfl, hb2⟩))
        all_goals go_wp2
        all_goals
          go_roundw
          case rel => exact ⟨k, 2 * m + 1, by omega, by rw [M1.out], by rw [E3.out], by rw [← M1.out]; exact hR', (hRow.drew.keep hb1).keep hb2, below_tr (below_tr hb.drew hb1) hb2⟩
          case measure => simp [intOf]; omega

set_option maxHeartbeats 400000 in
theorem tsize_any (a : Int) (w : World) (h0 : -4611686018427387903 ≤ a) (h1 : a ≤ 4611686018427387903) :
    Calls Tryd.prog 31 #[.int .i64 a] w fun e w' => e = .returned (.int .u64 (a.natAbs : Int)) ∧ w' = w := by
  obtain ⟨A, hA⟩ : ∃ A : Int, A = (a.natAbs : Int) := ⟨_, rfl⟩
  have hm : max a (-a) = A := by omega
  have hA0 : 0 ≤ A := by omega
  have hA1 : A ≤ 4611686018427387903 := by omega
  rw [← hA]
  clear hA
  go_enter Tryd.func31, Tryd.ntmps31
  go_wp2
  go_ret
  exact ⟨rfl, rfl⟩

set_option maxHeartbeats 400000 in
/-- Far: how far a place is. -/
theorem far_any (x y : Int) (w : World) (h0 : -4611686018427387903 ≤ x) (h1 : x ≤ 4611686018427387903) (g0 : -4611686018427387903 ≤ y) (g1 : y ≤ 4611686018427387903) :
    Calls Tryd.prog 15 #[.int .i64 x, .int .i64 y] w fun e w' => ∃ r, e = .returned (.tuple #[.int .i64 r, .nilIface]) ∧ IsRoot (x * x + y * y) r ∧ Below w.heap.size w w' := by
  have hx : Qn.great x = false := by unfold Qn.great; rw [decide_eq_false (by omega), decide_eq_false (by omega)]; rfl
  have hy : Qn.great y = false := by unfold Qn.great; rw [decide_eq_false (by omega), decide_eq_false (by omega)]; rfl
  have bx : 0 ≤ (x.natAbs : Int) ∧ (x.natAbs : Int) ≤ 4611686018427387903 := by omega
  have by' : 0 ≤ (y.natAbs : Int) ∧ (y.natAbs : Int) ≤ 4611686018427387903 := by omega
  have HX := hide (fun W => tsize_any x W h0 h1)
  have HY := hide (fun W => tsize_any y W g0 g1)
  have ex : (x.natAbs : Int) * (x.natAbs : Int) = x * x := Int.natAbs_mul_self
  have ey : (y.natAbs : Int) * (y.natAbs : Int) = y * y := Int.natAbs_mul_self
  obtain ⟨A, hA⟩ : ∃ A : Int, A = (x.natAbs : Int) := ⟨_, rfl⟩
  obtain ⟨B, hB⟩ : ∃ B : Int, B = (y.natAbs : Int) := ⟨_, rfl⟩
  rw [← hA] at HX bx ex
  rw [← hB] at HY by' ey
  rw [← ex, ← ey]
  clear hA hB ex ey
  have s1 := sq_lt bx.1 (by omega : A ≤ 9223372036854775807)
  have a1 : A * A ≤ 4611686018427387903 * 4611686018427387903 := Int.mul_le_mul bx.2 bx.2 bx.1 (by omega)
  have b1 : B * B ≤ 4611686018427387903 * 4611686018427387903 := Int.mul_le_mul by'.2 by'.2 by'.1 (by omega)
  have a0 : 0 ≤ A * A := Int.mul_nonneg bx.1 bx.1
  have b0 : 0 ≤ B * B := Int.mul_nonneg by'.1 by'.1
  have HS := hide (fun W => squares_any A B W bx.1 bx.2 by'.1 by'.2)
  have HR := hide (fun W => root2_any (A * A + B * B) W (by omega) (by omega))
  obtain ⟨N, hN⟩ : ∃ N, N = A * A + B * B := ⟨_, rfl⟩
  rw [← hN] at HS HR ⊢
  clear hN a1 b1 a0 b0 s1
  go_enter Tryd.func15, Tryd.ntmps15
  go_wp2_with fail
  refine (great_any x _).mono ?_
  rintro e w1 ⟨rfl, rfl⟩
  rw [hx]
  go_wp2_with fail
  refine (great_any y _).mono ?_
  rintro e w1 ⟨rfl, rfl⟩
  rw [hy]
  go_wp2_with fail
  refine (HX.out _).mono ?_
  rintro e w1 ⟨rfl, rfl⟩
  go_wp2_with fail
  refine (HY.out _).mono ?_
  rintro e w1 ⟨rfl, rfl⟩
  go_wp2_with fail
  refine (HS.out _).mono ?_
  rintro e w1 ⟨rfl, k1⟩
  go_wp2_with fail
  refine (HR.out _).mono ?_
  rintro e w2 ⟨r, rfl, hr, k2⟩
  have r0 := hr.1
  have r1 := hr.2.1
  have RR := hide hr
  clear hr
  go_wp2
  go_ret2
  exact ⟨r, rfl, RR.out, below_tr k1 k2⟩

end Go.Proofs.YtmijmfdamommaaaDoor
