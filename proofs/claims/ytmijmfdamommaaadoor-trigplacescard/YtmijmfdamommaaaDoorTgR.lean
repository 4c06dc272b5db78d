/-
  The steps of the document's answer of layer 5 (radomeref05): by, Turn, Rounded, Angles, Both, May.
-/
import Derived.Test.YtmijmfdamommaaaDoorTgH
import Derived.Test.YtmijmfdamommaaaDoorTgTab
set_option linter.unusedSimpArgs false
set_option linter.unusedVariables false
namespace Go.Proofs.YtmijmfdamommaaaDoor
open Go.RowKit Tg Dec
attribute [local go_sem ↓] Go.wp_at_zero Go.wp_at_succ

namespace Tg
theorem tdiv2 (m : Int) (h : m % 2 = 0) : m.tdiv 2 = m / 2 := by
  rcases Int.le_total 0 m with k | k
  · exact Int.tdiv_eq_ediv_of_nonneg k
  · have e : m = -(-m) := by omega
    rw [e, Int.neg_tdiv, Int.tdiv_eq_ediv_of_nonneg (by omega)]
    omega
theorem tmod2 (m : Int) : m.tmod 2 = 0 ↔ m % 2 = 0 := by
  rcases Int.le_total 0 m with k | k
  · rw [Int.tmod_eq_emod_of_nonneg k]
  · have e : m = -(-m) := by omega
    rw [e, Int.neg_tmod, Int.tmod_eq_emod_of_nonneg (by omega)]
    omega
end Tg

set_option maxHeartbeats 400000 in
theorem by_any (n : Int) (k : Nat) (w : World) (hk : k ≤ 1000) (h0 : -9000000000000000000 ≤ n) (h1 : n ≤ 9000000000000000000) :
    Calls Tryd.prog 49 #[.int .i64 n, .int .i64 k] w fun e w' => e = .returned (.int .i64 (fl n k)) ∧ w' = w := by
  have hb : ∀ j, -9000000000000000000 ≤ fl n j ∧ fl n j ≤ 9000000000000000000 := fun j => by
    induction j with
    | zero => rw [fl_zero]; omega
    | succ j ih => rw [fl_succ]; omega
  go_enter Tryd.func49, Tryd.ntmps49
  go_wp2
  go_loopw [0, 5] (fun m i wr => ∃ j : Nat, j ≤ k ∧ i = .int .i64 (j : Int) ∧ m = .int .i64 (fl n j) ∧ wr = w) (fun _ i _ => k - (intOf i).toNat)
  case atStart => exact ⟨0, by omega, rfl, by rw [fl_zero], rfl⟩
  case round =>
    obtain ⟨j, hj, rfl, rfl, rfl⟩ := hrel
    have bj := hb j
    have HN := Hid.mk' (fl_succ n j)
    by_cases hjk : j < k
    · obtain ⟨m, hm⟩ : ∃ m, m = fl n j := ⟨_, rfl⟩
      rw [← hm] at bj HN ⊢
      clear hm hb
      have t2 := tmod2 m
      by_cases he : m % 2 = 0
      · have hd := tdiv2 m he
        have ho : m.tmod 2 = 0 := t2.2 he
        clear t2
        go_wp2
        all_goals go_roundw
        case rel => exact ⟨j + 1, by omega, by go_num, by rw [HN.out], trivial⟩
        case measure => simp [intOf]; omega
      · have hd : (m - 1).tdiv 2 = m / 2 := by rw [tdiv2 (m - 1) (by omega)]; omega
        have ho : ¬ m.tmod 2 = 0 := fun h => he (t2.1 h)
        clear t2
        go_wp2
        all_goals go_roundw
        case rel => exact ⟨j + 1, by omega, by go_num, by rw [HN.out], trivial⟩
        case measure => simp [intOf]; omega
    · obtain rfl : j = k := by omega
      clear hb
      go_wp2
      go_ret
      exact ⟨rfl, rfl⟩

set_option maxHeartbeats 400000 in
theorem rturn_l (x y : Int) (k : Nat) (w : World) (hk : k ≤ 1000) (hx0 : -9000000000000000000 ≤ x) (hx1 : x ≤ 9000000000000000000) (hy0 : -9000000000000000000 ≤ y) (hy1 : y ≤ 9000000000000000000)
    (h0 : -9000000000000000000 ≤ x - fl y k) (h1 : x - fl y k ≤ 9000000000000000000) (h2 : -9000000000000000000 ≤ y + fl x k) (h3 : y + fl x k ≤ 9000000000000000000) :
    Calls Tryd.prog 24 #[.int .i64 x, .int .i64 y, .int .i64 k, .bool true] w fun e w' => e = .returned (.tuple #[.int .i64 (x - fl y k), .int .i64 (y + fl x k)]) ∧ w' = w := by
  go_enter Tryd.func24, Tryd.ntmps24
  go_wp2_with fail
  refine (by_any y k _ hk hy0 hy1).mono ?_
  rintro e w1 ⟨rfl, rfl⟩
  go_wp2_with fail
  refine (by_any x k _ hk hx0 hx1).mono ?_
  rintro e w1 ⟨rfl, rfl⟩
  go_wp2
  go_ret2
  exact ⟨rfl, rfl⟩

set_option maxHeartbeats 400000 in
theorem rturn_r (x y : Int) (k : Nat) (w : World) (hk : k ≤ 1000) (hx0 : -9000000000000000000 ≤ x) (hx1 : x ≤ 9000000000000000000) (hy0 : -9000000000000000000 ≤ y) (hy1 : y ≤ 9000000000000000000)
    (h0 : -9000000000000000000 ≤ x + fl y k) (h1 : x + fl y k ≤ 9000000000000000000) (h2 : -9000000000000000000 ≤ y - fl x k) (h3 : y - fl x k ≤ 9000000000000000000) :
    Calls Tryd.prog 24 #[.int .i64 x, .int .i64 y, .int .i64 k, .bool false] w fun e w' => e = .returned (.tuple #[.int .i64 (x + fl y k), .int .i64 (y - fl x k)]) ∧ w' = w := by
  go_enter Tryd.func24, Tryd.ntmps24
  go_wp2_with fail
  refine (by_any y k _ hk hy0 hy1).mono ?_
  rintro e w1 ⟨rfl, rfl⟩
  go_wp2_with fail
  refine (by_any x k _ hk hx0 hx1).mono ?_
  rintro e w1 ⟨rfl, rfl⟩
  go_wp2
  go_ret2
  exact ⟨rfl, rfl⟩

namespace Tg
/-- By two to the power of thirty, as the document rounds. -/
def rr (n : Int) : Int := bnd (Tn.rne n 1073741824)
theorem rne_size {n : Int} (h0 : -9223372036854775808 ≤ n) (h1 : n ≤ 9223372036854775807) : (Tn.rne n 1073741824).natAbs < 10 ^ 19 := by
  unfold Tn.rne; split <;> omega
theorem hide2 {p : Prop} (h : p) : Hid p := h
end Tg

set_option maxHeartbeats 400000 in
theorem rround_any (n : Int) (w : World) (h0 : -9223372036854775808 ≤ n) (h1 : n ≤ 9223372036854775807) :
    Calls Tryd.prog 25 #[.int .i64 n] w fun e w' => e = .returned (.int .i64 (rr n)) ∧ Below w.heap.size w w' := by
  have l1 : (digs n.natAbs).length ≤ 700000 := by
    have := length_digs_le (show n.natAbs < 10 ^ 19 by omega)
    omega
  have l2 : (digs (Tn.rne n ((2 ^ 30 : Nat) : Int)).natAbs).length ≤ 1000000 := by
    have := length_digs_le (rne_size h0 h1)
    rw [show ((2 ^ 30 : Nat) : Int) = 1073741824 by decide]
    omega
  have HH : Hid (∀ v W, IsNum W v n → Calls Tryd.prog 50 #[v, .int .i64 30] W fun e w' => e = .returned (.tuple #[.int .i64 (rr n), .bool (ovr (Tn.rne n 1073741824))]) ∧ Below W.heap.size W w') := by
    refine hide2 fun v W h => ?_
    have := half_any v n 30 W (by omega) l1 l2 h
    rw [show ((2 ^ 30 : Nat) : Int) = 1073741824 by decide] at this
    exact this
  clear l1 l2
  go_enter Tryd.func25, Tryd.ntmps25
  go_wp2_with fail
  refine (of_any n _ h0 h1).mono ?_
  rintro e w1 ⟨v1, rfl, i1, k1⟩
  go_wp2_with fail
  refine (HH.out _ _ i1).mono ?_
  rintro e w2 ⟨rfl, k2⟩
  go_wp2
  go_ret
  exact ⟨rfl, below_tr k1 k2⟩

set_option maxRecDepth 10000 in
set_option maxHeartbeats 400000 in
theorem angles_any (w : World) :
    Calls Tryd.prog 23 #[] w fun e w' => (e = .returned (.slice (some ⟨w.heap.size, 0, none⟩) 40 40) ∧ ∀ k, k < 40 → w'.cell? ⟨w.heap.size, k, none⟩ = some (.int .i64 (ang k))) ∧ Below w.heap.size w w' := by
  go_enter Tryd.func23, Tryd.ntmps23
  go_wp2
  go_ret
  refine ⟨⟨rfl, fun k hk => ?_⟩, below_al (Below.refl _ w) _⟩
  have h := heap_alloc_new w (Obj.cells tabV 2)
  exact (cell_of_row _ w.heap.size k _ _ (0, 0) h).trans (by simpa using tab_get hk)

namespace Tg
/-- Where a direction's steps begin. -/
def rbeg (t : Int) : St := ⟨495056041134655927, 495056041134655927, t % 1073741824 * 1073741824 - 576460752303423488⟩
theorem rbeg_ok (t : Int) : Ok 0 (rbeg t) := by
  have : gr 0 = 1152921504606846976 := rfl
  have : zs 0 = 576460752303423488 := rfl
  constructor <;> simp only [rbeg] <;> omega
/-- The sine and the cosine, as the document reckons them. -/
def rs (t : Int) : Int := rr (bst (rbeg t) 40).y
def rc (t : Int) : Int := rr (bst (rbeg t) 40).x
theorem rr_bd {n : Int} (h0 : -5600000000000000000 ≤ n) (h1 : n ≤ 5600000000000000000) : -5215406418 ≤ rr n ∧ rr n ≤ 5215406418 := by
  have : -5215406418 ≤ Tn.rne n 1073741824 ∧ Tn.rne n 1073741824 ≤ 5215406418 := by
    unfold Tn.rne; split <;> omega
  unfold rr bnd
  split
  · omega
  · split <;> omega
theorem ret_sc {a b c d : Int} (h : c = a) (g : d = b) : Ending.returned (.tuple #[.int .i64 a, .int .i64 b]) = .returned (.tuple #[.int .i64 c, .int .i64 d]) := by rw [h, g]
def rsine (t : Int) : Int := if t < 1073741824 then rs t else if t < 2147483648 then rc t else if t < 3221225472 then -rs t else -rc t
def rcosine (t : Int) : Int := if t < 1073741824 then rc t else if t < 2147483648 then -rs t else if t < 3221225472 then -rc t else rs t
end Tg

set_option maxRecDepth 10000 in
set_option maxHeartbeats 1000000 in
theorem rboth_any (t : Int) (w : World) (h0 : 0 ≤ t) (h1 : t ≤ 4294967295) :
    Calls Tryd.prog 8 #[.int .i64 t] w fun e w' => e = .returned (.tuple #[.int .i64 (rsine t), .int .i64 (rcosine t)]) ∧ Below w.heap.size w w' := by
  have hm : t.tmod 1073741824 = t % 1073741824 := Int.tmod_eq_emod_of_nonneg h0
  have hq : t.tdiv 1073741824 = t / 1073741824 := Int.tdiv_eq_ediv_of_nonneg h0
  go_enter Tryd.func8, Tryd.ntmps8
  go_wp2_with fail
  refine (angles_any _).mono ?_
  rintro e w1 ⟨⟨rfl, hA⟩, k1⟩
  go_wp2
  go_loopw [4, 5, 6, 8] (fun x y z i wr => ∃ k : Nat, k ≤ 40 ∧ i = .int .i64 (k : Int) ∧ x = .int .i64 (bst (rbeg t) k).x ∧ y = .int .i64 (bst (rbeg t) k).y ∧ z = .int .i64 (bst (rbeg t) k).z ∧ wr = w1) (fun _ _ _ i _ => 40 - (intOf i).toNat)
  case atStart => exact ⟨0, by omega, rfl, rfl, rfl, rfl, rfl⟩
  case round =>
    obtain ⟨k, hk, rfl, rfl, rfl, rfl, rfl⟩ := hrel
    have ok := (rbeg_ok t).bst hk
    have bd := ok.bd hk
    by_cases h40 : k < 40
    · have ca := hA k h40
      have ab := ang_bd h40
      have okl := (ok.lf h40).bd (by omega)
      have okr := (ok.rt h40).bd (by omega)
      have hl : 0 ≤ (bst (rbeg t) k).z → bst (rbeg t) (k + 1) = lf k (bst (rbeg t) k) := fun h => if_pos h
      have hr : ¬ 0 ≤ (bst (rbeg t) k).z → bst (rbeg t) (k + 1) = rt k (bst (rbeg t) k) := fun h => if_neg h
      have HL := hide2 hl
      have HR := hide2 hr
      clear hl hr ok hA
      obtain ⟨s, hs⟩ : ∃ s, s = bst (rbeg t) k := ⟨_, rfl⟩
      rw [← hs] at bd okl okr HL HR ⊢
      clear hs
      obtain ⟨x, y, z⟩ := s
      simp only [lf, rt] at okl okr bd HL HR ⊢
      by_cases hz : 0 ≤ z
      · go_wp2_with fail
        refine (rturn_l x y k _ (by omega) (by omega) (by omega) (by omega) (by omega) (by omega) (by omega) (by omega) (by omega)).mono ?_
        rintro e w2 ⟨rfl, rfl⟩
        go_wp2
        go_roundw
        case rel => exact ⟨k + 1, by omega, by go_num, by rw [HL.out hz], by rw [HL.out hz], by rw [HL.out hz], trivial⟩
        case measure => simp [intOf]; omega
      · go_wp2_with fail
        refine (rturn_r x y k _ (by omega) (by omega) (by omega) (by omega) (by omega) (by omega) (by omega) (by omega) (by omega)).mono ?_
        rintro e w2 ⟨rfl, rfl⟩
        go_wp2
        go_roundw
        case rel => exact ⟨k + 1, by omega, by go_num, by rw [HR.out hz], by rw [HR.out hz], by rw [HR.out hz], trivial⟩
        case measure => simp [intOf]; omega
    · obtain rfl : k = 40 := by omega
      have bs := rr_bd bd.2.1.1 bd.2.1.2
      have bc := rr_bd bd.1.1 bd.1.2
      obtain ⟨x, hx⟩ : ∃ x, x = (bst (rbeg t) 40).x := ⟨_, rfl⟩
      obtain ⟨y, hy⟩ : ∃ y, y = (bst (rbeg t) 40).y := ⟨_, rfl⟩
      have es : rs t = rr y := by rw [hy]; rfl
      have ec : rc t = rr x := by rw [hx]; rfl
      have ES : Hid (rsine t = if t < 1073741824 then rr y else if t < 2147483648 then rr x else if t < 3221225472 then -rr y else -rr x) := by unfold rsine; rw [es, ec]; exact hide2 rfl
      have EC : Hid (rcosine t = if t < 1073741824 then rr x else if t < 2147483648 then -rr y else if t < 3221225472 then -rr x else rr y) := by unfold rcosine; rw [es, ec]; exact hide2 rfl
      rw [← hx, ← hy] at bd ⊢
      rw [← hx] at bc
      rw [← hy] at bs
      clear hx hy es ec hA
      have HX := hide2 (fun W => rround_any x W (by omega) (by omega))
      have HY := hide2 (fun W => rround_any y W (by omega) (by omega))
      obtain ⟨X, hX⟩ : ∃ X, X = rr x := ⟨_, rfl⟩
      obtain ⟨Y, hY⟩ : ∃ Y, Y = rr y := ⟨_, rfl⟩
      rw [← hX, ← hY] at ES EC
      rw [← hX] at HX bc
      rw [← hY] at HY bs
      clear hX hY
      go_wp2_with fail
      refine (HX.out _).mono ?_
      rintro e w2 ⟨rfl, k2⟩
      go_wp2_with fail
      refine (HY.out _).mono ?_
      rintro e w3 ⟨rfl, k3⟩
      have kk := below_tr (below_tr k1 k2) k3
      rcases Int.lt_or_le t 1073741824 with c1 | c1
      · have q0 : t / 1073741824 = 0 := by omega
        go_wp2
        go_ret2
        exact ⟨ret_sc (ES.out.trans (if_pos c1)) (EC.out.trans (if_pos c1)), kk⟩
      rcases Int.lt_or_le t 2147483648 with c2 | c2
      · have q0 : t / 1073741824 = 1 := by omega
        go_wp2
        go_ret2
        exact ⟨ret_sc (ES.out.trans ((if_neg (by omega)).trans (if_pos c2))) (EC.out.trans ((if_neg (by omega)).trans (if_pos c2))), kk⟩
      rcases Int.lt_or_le t 3221225472 with c3 | c3
      · have q0 : t / 1073741824 = 2 := by omega
        go_wp2
        go_ret2
        exact ⟨ret_sc (ES.out.trans ((if_neg (by omega)).trans ((if_neg (by omega)).trans (if_pos c3)))) (EC.out.trans ((if_neg (by omega)).trans ((if_neg (by omega)).trans (if_pos c3)))), kk⟩
      · have q0 : t / 1073741824 = 3 := by omega
        go_wp2
        go_ret2
        exact ⟨ret_sc (ES.out.trans ((if_neg (by omega)).trans ((if_neg (by omega)).trans (if_neg (by omega))))) (EC.out.trans ((if_neg (by omega)).trans ((if_neg (by omega)).trans (if_neg (by omega))))), kk⟩

theorem may_any (n : Int) (w : World) :
    Calls Tryd.prog 10 #[.int .i64 n] w fun e w' => e = .returned (.bool (decide (-4611686018427387903 ≤ n) && decide (n ≤ 4611686018427387903))) ∧ w' = w := by
  by_cases h : -4611686018427387903 ≤ n
  · go_enter Tryd.func10, Tryd.ntmps10
    go_wp2
    go_ret
    first
      | exact ⟨rfl, rfl⟩
      | exact ⟨by simp [h], rfl⟩
  · go_enter Tryd.func10, Tryd.ntmps10
    go_wp2
    go_ret
    exact ⟨by rw [decide_eq_false (show ¬ -4611686018427387903 ≤ n by omega)]; rfl, rfl⟩
end Go.Proofs.YtmijmfdamommaaaDoor
