/-
  evenRows of the laws of layer 9: rows made even.
-/
import Derived.Test.YtkmhikfjdafipaaDoorM17
import Derived.Test.YtkmhikfjdafipaaDoorMtR
set_option linter.unusedSimpArgs false
set_option linter.unusedVariables false
namespace Go.Proofs.YtkmhikfjdafipaaDoor
open Go.RowKit Vc Mt St Qn Dt Ld

namespace Ld
/-- A number of the middle: not below 1. -/
def evM (x more : Int) : Int := if (if x < 0 then -x else x) + 1 + Int.tmod more 17592186044416 < 1 then 1 else (if x < 0 then -x else x) + 1 + Int.tmod more 17592186044416
def evF (F : Nat → Nat → Int) (more : Int) : Nat → Nat → Int := fun i j => if i = j then evM (Int.tmod (F i i) 1099511627776) more else Int.tmod (F (max i j) (min i j)) 1099511627776
theorem tmod_bd (x : Int) {m : Int} (hm : 0 < m) : -m < Int.tmod x m ∧ Int.tmod x m < m := by
  have h1 := Int.tmod_lt_of_pos x hm
  have h2 := Int.lt_tmod_of_pos x hm
  omega
theorem evM_bd (x more : Int) (h : -1099511627776 < x ∧ x < 1099511627776) : 1 ≤ evM x more ∧ evM x more ≤ 20000000000000 := by
  have h2 := tmod_bd more (show (0 : Int) < 17592186044416 by omega)
  unfold evM
  split <;> split <;> omega
theorem evF_bd (F : Nat → Nat → Int) (more : Int) (i j : Nat) : -20000000000000 ≤ evF F more i j ∧ evF F more i j ≤ 20000000000000 := by
  unfold evF
  split
  · have := evM_bd (Int.tmod (F i i) 1099511627776) more (tmod_bd _ (by omega)); omega
  · have := tmod_bd (F (max i j) (min i j)) (show (0 : Int) < 1099511627776 by omega); omega
theorem evF_b2 (F : Nat → Nat → Int) (more : Int) : B2 (evF F more) := fun i j => by have := evF_bd F more i j; omega
theorem evF_same (F : Nat → Nat → Int) (more : Int) (n : Nat) : Same n (evF F more) := fun i j _ _ => by
  unfold evF
  by_cases e : i = j
  · subst e; rfl
  · rw [if_neg e, if_neg (fun h => e h.symm), Nat.max_comm, Nat.min_comm]
end Ld

set_option maxRecDepth 10000 in
set_option maxHeartbeats 1000000 in
theorem even_yes (n cm : Nat) (lo : Option Addr) (F : Nat → Nat → Int) (more : Int) (w : World) (h1 : 1 ≤ n) (hn : n ≤ 6) (hg : Grid w lo n cm n F) (m0 : -9223372036854775808 ≤ more) (m1 : more ≤ 9223372036854775807) :
    Calls Tryd.prog 4 #[.slice lo n cm, .int .i64 more] w fun e w' => ∃ lo' cm', e = .returned (.slice lo' n cm') ∧ Grid w' lo' n cm' n (evF F more) ∧ Below w.heap.size w w' := by
  obtain ⟨A, C, h, hz⟩ := hg
  have HMy := Hid.mkV (rmay_yes n n cm lo A C w h h1 hn h1 hn)
  obtain ⟨x, hlo, hcl⟩ := h.get
  obtain rfl := hlo (by omega)
  have c0 : w.cell? x = some (.slice (A 0) n (C 0)) := hcl 0 (by omega)
  have l1 := h.le
  have l2 := h.cap
  have HC := Hid.mkV hcl
  have HZ' := Hid.mkV hz
  obtain ⟨A0, hA0⟩ : ∃ a, a = A 0 := ⟨_, rfl⟩
  obtain ⟨C0, hC0⟩ : ∃ a, a = C 0 := ⟨_, rfl⟩
  rw [← hA0, ← hC0] at c0
  have bR := tmod_bd more (show (0 : Int) < 17592186044416 by omega)
  obtain ⟨R, hR⟩ : ∃ R, R = Int.tmod more 17592186044416 := ⟨_, rfl⟩
  rw [← hR] at bR
  have qR := hR.symm
  have HR := Hid.mkV hR
  have qR2 : IntKind.i64.wrap R = R := by rw [IntKind.wrap_i64]; omega
  clear h hlo hcl hz hA0 hC0 hR
  go_enter Tryd.func4, Tryd.ntmps4
  go_wp2_with fail
  refine HMy.out.mono ?_
  rintro e w1 ⟨rfl, k1⟩
  have c0' := keep_cell k1 c0
  clear HMy c0
  go_wp2
  go_loopw [5, 6] (fun out ix wr => ∃ i : Nat, i ≤ n ∧ ix = .int .i64 (i : Int) ∧ Lst w1.heap.size w1 wr out i n (evF F more)) (fun _ ix _ => n - (intOf ix).toNat)
  case atStart => exact ⟨0, by omega, rfl, Lst.nil (Below.refl _ _) (Nat.le_refl _) _ _⟩
  case round =>
    rename World => wo
    obtain ⟨i, hi, rfl, hL⟩ := hrel
    by_cases h : i < n
    · go_wp2
      go_loopw [7, 8] (fun ps jx ws => ∃ j : Nat, j ≤ n ∧ jx = .int .i64 (j : Int) ∧ Own wo.heap.size wo ws ps j (evF F more i)) (fun _ jx _ => n - (intOf jx).toNat)
      case atStart => exact ⟨0, by omega, rfl, Own.nil (Below.refl _ _) (Nat.le_refl _) _⟩
      case round =>
        obtain ⟨j, hj, rfl, hown⟩ := hrel
        by_cases h5 : j < n
        · have kk := below_tr (below_tr k1 hL.below) hown.below
          obtain ⟨M, hM⟩ : ∃ M, M = max i j := ⟨_, rfl⟩
          obtain ⟨N, hN⟩ : ∃ M, M = min i j := ⟨_, rfl⟩
          have em : max (i : Int) (j : Int) = (M : Int) := by omega
          have en : min (i : Int) (j : Int) = (N : Int) := by omega
          have hMn : M < n := by omega
          have hNn : N < n := by omega
          have c1 := keep_cell kk (HC.out M hMn)
          have rk := (HZ'.out M hMn).keep kk
          obtain ⟨ya, hya, hyc⟩ := rk.get
          have c2 := hyc N hNn
          rw [hya (by omega)] at c1
          have l5 := rk.le
          have l6 := rk.cap
          have bX := tmod_bd (F M N) (show (0 : Int) < 1099511627776 by omega)
          have eZ : Hid (evF F more i j = if i = j then evM (Int.tmod (F M N) 1099511627776) more else Int.tmod (F M N) 1099511627776) := by
            show evF F more i j = _
            unfold evF
            by_cases e : i = j
            · subst e; rw [if_pos rfl, if_pos rfl, hM, hN, Nat.max_self, Nat.min_self]
            · rw [if_neg e, if_neg e, hM, hN]
          have eM : Hid (evM (Int.tmod (F M N) 1099511627776) more = if (if Int.tmod (F M N) 1099511627776 < 0 then -Int.tmod (F M N) 1099511627776 else Int.tmod (F M N) 1099511627776) + 1 + R < 1 then 1 else (if Int.tmod (F M N) 1099511627776 < 0 then -Int.tmod (F M N) 1099511627776 else Int.tmod (F M N) 1099511627776) + 1 + R) := by
            show evM _ more = _
            rw [HR.out]; rfl
          obtain ⟨X, hX⟩ : ∃ X, X = Int.tmod (F M N) 1099511627776 := ⟨_, rfl⟩
          rw [← hX] at bX eZ eM
          obtain ⟨V, hV⟩ : ∃ V, V = F M N := ⟨_, rfl⟩
          rw [← hV] at c2 hX
          have qX := hX.symm
          have qX2 : IntKind.i64.wrap X = X := by rw [IntKind.wrap_i64]; omega
          obtain ⟨CM, hCM⟩ : ∃ cc, cc = C M := ⟨_, rfl⟩
          rw [← hCM] at c1 l5 l6
          obtain ⟨Z, hZ⟩ : ∃ Z, Z = evF F more i j := ⟨_, rfl⟩
          rw [← hZ] at eZ
          have HZ := Hid.mkV hZ
          clear hM hN hV hX hCM hZ hya hyc rk
          have i0 : (0 : Int) ≤ (M : Int) := by omega
          have i1 : (M : Int) < (n : Int) := by omega
          have i2 : (0 : Int) ≤ (N : Int) := by omega
          have i3 : (N : Int) < (n : Int) := by omega
          have HEM := Hid.mkV eM
          have HEZ := Hid.mkV eZ
          clear eM eZ
          by_cases hij : i = j
          · have e1 : ((i : Int) == (j : Int)) = true := by simp; omega
            have z1 : Z = if (if X < 0 then -X else X) + 1 + R < 1 then 1 else (if X < 0 then -X else X) + 1 + R := by rw [HEZ.out.out, if_pos hij, HEM.out.out]
            have Hij := Hid.mkV hij
            clear hij
            by_cases hX0 : X < 0
            · rw [if_pos hX0] at z1
              have e2 : decide (X < 0) = true := decide_eq_true hX0
              have q1 : IntKind.i64.wrap (-X) = -X := by rw [IntKind.wrap_i64]; omega
              have q2 : IntKind.i64.wrap (-X + 1) = -X + 1 := by rw [IntKind.wrap_i64]; omega
              have q3 : IntKind.i64.wrap (-X + 1 + R) = -X + 1 + R := by rw [IntKind.wrap_i64]; omega
              by_cases hY : -X + 1 + R < 1
              · rw [if_pos hY] at z1
                subst z1
                have e3 : decide (-X + 1 + R < 1) = true := decide_eq_true hY
                clear hY hX0
                go_wp2_with (at_builtin; refine wpList_push (by rfl) (.tmp 61) (.tmp 63) (by rfl) wo.heap.size wo _ j (evF F more i) (by rfl) hown (by omega) 1 (by exact HZ.out) (by rfl) ?_)
                intro v' w' hown'
                go_wp2
                go_roundw
                case rel => exact ⟨j + 1, by omega, by go_num, hown'⟩
                case measure => simp [intOf]; omega
              · rw [if_neg hY] at z1
                subst z1
                have e3 : decide (-X + 1 + R < 1) = false := decide_eq_false hY
                clear hY hX0
                go_wp2_with (at_builtin; refine wpList_push (by rfl) (.tmp 61) (.tmp 63) (by rfl) wo.heap.size wo _ j (evF F more i) (by rfl) hown (by omega) (-X + 1 + R) (by exact HZ.out) (by rfl) ?_)
                intro v' w' hown'
                go_wp2
                go_roundw
                case rel => exact ⟨j + 1, by omega, by go_num, hown'⟩
                case measure => simp [intOf]; omega
            · rw [if_neg hX0] at z1
              have e2 : decide (X < 0) = false := decide_eq_false hX0
              have q2 : IntKind.i64.wrap (X + 1) = X + 1 := by rw [IntKind.wrap_i64]; omega
              have q3 : IntKind.i64.wrap (X + 1 + R) = X + 1 + R := by rw [IntKind.wrap_i64]; omega
              by_cases hY : X + 1 + R < 1
              · rw [if_pos hY] at z1
                subst z1
                have e3 : decide (X + 1 + R < 1) = true := decide_eq_true hY
                clear hY hX0
                go_wp2_with (at_builtin; refine wpList_push (by rfl) (.tmp 61) (.tmp 63) (by rfl) wo.heap.size wo _ j (evF F more i) (by rfl) hown (by omega) 1 (by exact HZ.out) (by rfl) ?_)
                intro v' w' hown'
                go_wp2
                go_roundw
                case rel => exact ⟨j + 1, by omega, by go_num, hown'⟩
                case measure => simp [intOf]; omega
              · rw [if_neg hY] at z1
                subst z1
                have e3 : decide (X + 1 + R < 1) = false := decide_eq_false hY
                clear hY hX0
                go_wp2_with (at_builtin; refine wpList_push (by rfl) (.tmp 61) (.tmp 63) (by rfl) wo.heap.size wo _ j (evF F more i) (by rfl) hown (by omega) (X + 1 + R) (by exact HZ.out) (by rfl) ?_)
                intro v' w' hown'
                go_wp2
                go_roundw
                case rel => exact ⟨j + 1, by omega, by go_num, hown'⟩
                case measure => simp [intOf]; omega
          · have e1 : ((i : Int) == (j : Int)) = false := by simp; omega
            have z1 : Z = X := by rw [HEZ.out.out, if_neg hij]
            subst z1
            clear hij
            have e0 := e1
            go_wp2_with (at_builtin; refine wpList_push (by rfl) (.tmp 61) (.tmp 63) (by rfl) wo.heap.size wo _ j (evF F more i) (by rfl) hown (by omega) Z (by exact HZ.out) (by rfl) ?_)
            intro v' w' hown'
            go_wp2
            go_roundw
            case rel => exact ⟨j + 1, by omega, by go_num, hown'⟩
            case measure => simp [intOf]; omega
        · obtain rfl : j = n := by omega
          obtain ⟨po, pc, rfl, hps, hpf⟩ := own_fresh hown
          have hL2 := hL.keep hown.below
          have HS := Hid.mkV hps
          have HAP := Hid.mkV (hL.apart (Nat.le_refl _) hpf)
          clear hps hpf hown
          go_wp2_with (at_builtin; refine wpList_pushS (by rfl) (.tmp 65) (.tmp 67) (by rfl) w1.heap.size w1 _ i _ (evF F more) (by rfl) hL2 (by omega) (by omega) po pc HS.out HAP.out (by rfl) ?_)
          intro v' w' hL'
          go_wp2
          go_roundw
          case rel => exact ⟨i + 1, by omega, by go_num, hL'⟩
          case measure => simp [intOf]; omega
    · obtain rfl : i = n := by omega
      obtain ⟨lo, cm, rfl, hG⟩ := hL.grid
      go_wp2
      go_ret
      exact ⟨lo, cm, rfl, hG, below_tr k1 hL.below⟩

set_option maxRecDepth 10000 in
set_option maxHeartbeats 1000000 in
/-- Rows that may not be are answered as they are. -/
theorem even_may (v : Value) (n : Nat) (lo : Option Addr) (cm : Nat) (more : Int) (w : World) (hm : Calls Tryd.prog 14 #[.slice lo n cm] w fun e w' => e = .returned (.bool false) ∧ Below w.heap.size w w') :
    Calls Tryd.prog 4 #[.slice lo n cm, .int .i64 more] w fun e w' => e = .returned (.slice lo n cm) ∧ Below w.heap.size w w' := by
  have HM := Hid.mkV hm
  clear hm
  go_enter Tryd.func4, Tryd.ntmps4
  go_wp2_with fail
  refine HM.out.mono ?_
  rintro e w1 ⟨rfl, k1⟩
  go_wp2
  go_ret
  exact ⟨rfl, k1⟩

set_option maxRecDepth 10000 in
set_option maxHeartbeats 1000000 in
theorem even_size (n m cm : Nat) (lo : Option Addr) (A : Nat → Option Addr) (C : Nat → Nat) (more : Int) (w : World) (h : Sls w lo n cm A (fun _ => m) C) (h1 : 1 ≤ n) (h2 : n ≤ 6) (h3 : 1 ≤ m) (h4 : m ≤ 6) (hnm : n ≠ m) :
    Calls Tryd.prog 4 #[.slice lo n cm, .int .i64 more] w fun e w' => e = .returned (.slice lo n cm) ∧ Below w.heap.size w w' := by
  have HM := Hid.mkV (rmay_yes n m cm lo A C w h h1 h2 h3 h4)
  obtain ⟨x, hlo, hcl⟩ := h.get
  obtain rfl := hlo (by omega)
  have c0 : w.cell? x = some (.slice (A 0) m (C 0)) := hcl 0 (by omega)
  have l1 := h.le
  have l2 := h.cap
  obtain ⟨A0, hA0⟩ : ∃ a, a = A 0 := ⟨_, rfl⟩
  obtain ⟨C0, hC0⟩ : ∃ a, a = C 0 := ⟨_, rfl⟩
  rw [← hA0, ← hC0] at c0
  have e1 : ((n : Int) != (m : Int)) = true := by simp; omega
  clear h hlo hcl hA0 hC0 hnm
  go_enter Tryd.func4, Tryd.ntmps4
  go_wp2_with fail
  refine HM.out.mono ?_
  rintro e w1 ⟨rfl, k1⟩
  have c0' := keep_cell k1 c0
  go_wp2
  go_ret
  exact ⟨rfl, k1⟩

end Go.Proofs.YtkmhikfjdafipaaDoor
