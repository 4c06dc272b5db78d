/-
  The document's answer of layer 14 (radomeref14): a whole number by shares.
-/
import Derived.Test.YtdgcnaijndocnaaGreatDoorM11
import Derived.Test.YtdgcnaijndocnaaGreatDoorRegM
import Derived.Test.YtdgcnaijndocnaaGreatDoorM1
import Derived.Test.YtdgcnaijndocnaaGreatDoorM14
import Derived.Test.YtdgcnaijndocnaaGreatDoorM3
import Derived.Deep.DeepCutAuto
import Derived.Deep.CutRange
set_option linter.unusedSimpArgs false
set_option linter.unusedVariables false
namespace Go.Proofs.YtdgcnaijndocnaaGreatDoor
open Go.RowKit Dec Nv Vc St Ld Nu
attribute [local go_sem ↓] Go.wp_at_zero Go.wp_at_succ

namespace Cn
theorem hide {p : Prop} (h : p) : Hid p := h
theorem tot_le {a : Nat → Int} {M : Int} : ∀ {n : Nat}, (∀ k, k < n → 0 ≤ a k ∧ a k ≤ M) → 0 ≤ tot a n ∧ tot a n ≤ M * n
  | 0, _ => by show (0 : Int) ≤ 0 ∧ (0 : Int) ≤ M * 0; omega
  | n + 1, h => by
    have h1 := tot_le (n := n) (fun k hk => h k (by omega))
    have h2 := h n (by omega)
    show 0 ≤ tot a n + a n ∧ tot a n + a n ≤ M * ((n : Int) + 1)
    rw [Int.mul_add, Int.mul_one]; omega
theorem tot_up {a : Nat → Int} : ∀ {n k : Nat}, (∀ j, j < n → 0 ≤ a j) → k ≤ n → tot a k ≤ tot a n
  | 0, k, _, h => by (obtain rfl : k = 0 := by omega); exact Int.le_refl _
  | n + 1, k, h0, h => by
    by_cases e : k = n + 1
    · rw [e]; exact Int.le_refl _
    · have h1 := tot_up (n := n) (k := k) (fun j hj => h0 j (by omega)) (by omega)
      have h2 := h0 n (by omega)
      show tot a k ≤ tot a n + a n; omega
theorem len_of {z : Int} (h : z.natAbs < 10 ^ 100) : (digs z.natAbs).length ≤ 900000 := by
  have := length_digs_le h
  omega
theorem bst_some {n : Nat} {o c : Nat → Int} (hc : ∀ i, i < n → 0 ≤ c i) {t : Nat} (ht : t < n) : 0 ≤ bst (give n o c t).2 n ∧ (bst (give n o c t).2 n).toNat < n := by
  obtain ⟨h1, h2, _⟩ := give_inv (o := o) hc t (by omega)
  rcases bst_spec (give n o c t).2 n with ⟨b1, b2⟩ | ⟨b1, b2, _, _⟩
  · exfalso
    have all : tot (got n o c t) n = n := by
      rw [tot_congr (b := fun _ => 1) (fun k hk => ?_), tot_const]; simp
      unfold got
      rw [if_pos]
      rcases h2 k hk with ⟨e, _⟩ | ⟨e, _⟩
      · have := hc k hk; have := b2 k hk; omega
      · exact e
    omega
  · exact ⟨b1, b2⟩
theorem give_in {n : Nat} {o c : Nat → Int} {M S : Int} (hc : ∀ i, i < n → 0 ≤ c i ∧ c i ≤ S) (ho : ∀ i, i < n → 0 ≤ o i ∧ o i ≤ M) (hS : 0 ≤ S) {t : Nat} (ht : t ≤ n) {i : Nat} (hi : i < n) :
    0 ≤ (give n o c t).1 i ∧ (give n o c t).1 i ≤ M + 1 ∧ -1 ≤ (give n o c t).2 i ∧ (give n o c t).2 i ≤ S := by
  have h1 := hc i hi
  have h2 := ho i hi
  rcases (give_inv (o := o) (fun i hi => (hc i hi).1) t ht).2.1 i hi with ⟨e1, e2⟩ | ⟨e1, e2⟩ <;> rw [e1, e2] <;> omega
theorem give_next {n : Nat} {o c : Nat → Int} {t b : Nat} (hb : bst (give n o c t).2 n = (b : Int)) :
    (fun k => if k = b then (give n o c t).1 b + 1 else (give n o c t).1 k) = (give n o c (t + 1)).1 ∧ (fun k => if k = b then (-1 : Int) else (give n o c t).2 k) = (give n o c (t + 1)).2 := by
  have u : give n o c (t + 1) = if bst (give n o c t).2 n < 0 then give n o c t else
      (fun i => if i = (bst (give n o c t).2 n).toNat then (give n o c t).1 i + 1 else (give n o c t).1 i, fun i => if i = (bst (give n o c t).2 n).toNat then -1 else (give n o c t).2 i) := rfl
  rw [u, if_neg (by omega), hb, Int.toNat_natCast]
  refine ⟨funext fun k => ?_, rfl⟩
  by_cases e : k = b
  · subst e; rw [if_pos rfl]; show _ = if k = k then _ else _; rw [if_pos rfl]
  · rw [if_neg e]; show _ = if k = b then _ else _; rw [if_neg e]
theorem bst_yes {C : Nat → Int} {k : Nat} (h1 : 0 ≤ C k) (h2 : bst C k < 0 ∨ C (bst C k).toNat < C k) : bst C (k + 1) = (k : Int) := if_pos ⟨h1, h2⟩
theorem bst_no {C : Nat → Int} {k : Nat} (h : ¬ (0 ≤ C k ∧ (bst C k < 0 ∨ C (bst C k).toNat < C k))) : bst C (k + 1) = bst C k := if_neg h
theorem bst_lt {C : Nat → Int} {k : Nat} (h : 0 ≤ bst C k) : (bst C k).toNat < k := by
  rcases bst_spec C k with ⟨e, _⟩ | ⟨_, e, _⟩
  · omega
  · exact e
theorem bst_lo (C : Nat → Int) (k : Nat) : -1 ≤ bst C k ∧ bst C k < k := by
  rcases bst_spec C k with ⟨e, _⟩ | ⟨e1, e, _⟩ <;> omega
theorem row_mono {w : World} {B B' : Nat} {e : TypeId} {s : Nat} {v : Value} {n : Nat} {xs : List Value} (h : w.ownsRow B e s v n xs) (hb : B' ≤ B) : w.ownsRow B' e s v n xs :=
  ⟨h.1, h.2.imp id (fun ⟨g, cap, cur, h1, h2, h3⟩ => ⟨g, cap, cur, h1, Nat.le_trans hb h2, h3⟩)⟩
theorem sign_cases (z : Int) : (z < 0 ∧ z.sign = -1) ∨ (z = 0 ∧ z.sign = 0) ∨ (0 < z ∧ z.sign = 1) := by
  rcases Int.lt_trichotomy z 0 with h | h | h
  · exact Or.inl ⟨h, Int.sign_eq_neg_one_of_neg h⟩
  · exact Or.inr (Or.inl ⟨h, by rw [h]; rfl⟩)
  · exact Or.inr (Or.inr ⟨h, Int.sign_eq_one_of_pos h⟩)
end Cn
open Cn

set_option maxRecDepth 20000 in
set_option maxHeartbeats 8000000 in
theorem dshares_any (m : Int) (g n cap : Nat) (a : Nat → Int) (w : World) (hl : Nu.At w g n cap a) (hn : n ≤ 4) (hm0 : 0 ≤ m) (hm1 : m ≤ 1073741824) (ha : ∀ k, k < n → 0 ≤ a k ∧ a k ≤ 4611686018427387904) (hS : 0 < tot a n) :
    Calls Tryz.prog 106 #[.int .i64 m, .slice (some ⟨g, 0, none⟩) n cap] w fun e w' => ∃ v, e = .returned v ∧ Own w.heap.size w w' v n (sh m a n) := by
  have HL := hide hl
  have l1 := hl.le
  have l2 := hl.cap
  have HT : Hid (∀ k, k ≤ n → 0 ≤ tot a k ∧ tot a k ≤ 18446744073709551616) := fun k hk => by
    have h := tot_le (a := a) (M := 4611686018427387904) (n := k) (fun j hj => ha j (by omega))
    omega
  have HA := hide ha
  have HS0 := hide hS
  clear hl ha hS
  go_enter Tryz.func106, Tryz.ntmps106
  go_wp2_with (first
    | (refine St.wpList_storeNew isNum rfl _ _ (by rfl) _ [.bool false, .slice none 0 0] [.bool false, .slice none 0 0] (by rfl) (by rfl) rfl rfl (one2 _ _ _ _) ?_; intro w1 n1 k1)
    | fail)
  have v1 : Var w1 w.heap.size (tot a 0) := ⟨none, 0, 0, n1, zero_is w1⟩
  clear n1
  go_loopw [6] (fun i wr => ∃ k : Nat, k ≤ n ∧ i = .int .i64 (k : Int) ∧ Var wr w.heap.size (tot a k) ∧ Below w.heap.size w wr) (fun i _ => n - (intOf i).toNat)
  case atStart => exact ⟨0, by omega, rfl, v1, k1⟩
  case round =>
    rename World => wr
    obtain ⟨k, hk, rfl, vr, Br⟩ := hrel
    by_cases h : k < n
    · obtain ⟨sp, sl, sc, cr, ci⟩ := vr
      obtain ⟨p, l, c, c0, c1, ei⟩ := (HL.out.keep Br).num k h
      have bt := HT.out k hk
      have ba := HA.out k h
      have HD := hide (fun W (h1 : IsNum W (.agg #[.bool (decide (tot a k < 0)), .slice sp sl sc]) (tot a k)) (h2 : IsNum W (.agg #[.bool (decide (a k < 0)), .slice p l c]) (a k)) => add_any _ _ (tot a k) (a k) W (len100 (by omega)) (len100 (by omega)) h1 h2)
      have HU : Hid (tot a (k + 1) = tot a k + a k) := rfl
      obtain ⟨s0, hs0⟩ : ∃ q, q = decide (tot a k < 0) := ⟨_, rfl⟩
      obtain ⟨s1, hs1⟩ : ∃ q, q = decide (a k < 0) := ⟨_, rfl⟩
      obtain ⟨Tk, hTk⟩ : ∃ q, q = tot a k := ⟨_, rfl⟩
      obtain ⟨ak, hak⟩ : ∃ q, q = a k := ⟨_, rfl⟩
      rw [← hs0] at cr ci HD
      rw [← hs1] at c0 ei HD
      rw [← hTk] at ci HD HU
      rw [← hak] at ei HD HU
      have HS : Hid (∀ V, Below wr.heap.size wr V → (CRow V w.heap.size 93 [.bool s0, .slice sp sl sc] ∧ V.cell? ⟨g, k * 2, none⟩ = some (.bool s1) ∧ V.cell? ⟨g, k * 2 + 1, none⟩ = some (.slice p l c))) := fun V b => ⟨CRow.keep cr b, keep_cell b c0, keep_cell b c1⟩
      have D0 := Vc.below_drew' wr
      have kn : (k : Int) < n := by omega
      clear hs0 hs1 hTk hak c0 c1 bt ba
      go_upto_region 5 with fail
      refine Ru.wp_region_U [6] (fun w' => CRow w' w.heap.size 93 [.bool s0, .slice sp sl sc] ∧ w'.cell? ⟨g, k * 2, none⟩ = some (.bool s1) ∧ w'.cell? ⟨g, k * 2 + 1, none⟩ = some (.slice p l c)) (by kernel_rfl) (HS.out _ D0) (fun hHeld => ?_)
      refine Ru.wpAnyU_take (i := 0) (v := .agg [.bool s0, .slice sp sl sc].toArray) rfl (by kernel_rfl) (by kernel_rfl) (by kernel_rfl) (by kernel_rfl) (by kernel_rfl) (by kernel_rfl) (fun _ _ _ h => h) (Ru.yieldsC isNum (by kernel_rfl) _ (by rfl) w.heap.size _ (by rfl) (fun w h => h.1) rfl) hHeld ?_
      simp only [Act.put, List.getElem_toArray, List.getElem_cons_zero, List.getElem_cons_succ, List.setIfInBounds_toArray, List.set_cons_zero, List.set_cons_succ]
      refine Ru.wpAnyU_take (i := 1) (v := .slice (some ⟨g, 0, none⟩) n cap) rfl (by kernel_rfl) (by kernel_rfl) (by kernel_rfl) (by kernel_rfl) (by kernel_rfl) (by kernel_rfl) (fun _ _ _ h => h) (Or.inl ⟨by kernel_rfl, fun w hS => by obtain ⟨sc0, sc1, sc2⟩ := hS; go_simp⟩) hHeld ?_
      simp only [Act.put, List.getElem_toArray, List.getElem_cons_zero, List.getElem_cons_succ, List.setIfInBounds_toArray, List.set_cons_zero, List.set_cons_succ]
      refine Ru.wpAnyU_take (i := 2) (v := .int .i64 (k : Int)) rfl (by kernel_rfl) (by kernel_rfl) (by kernel_rfl) (by kernel_rfl) (by kernel_rfl) (by kernel_rfl) (fun _ _ _ h => h) (Or.inl ⟨by kernel_rfl, fun w hS => by obtain ⟨sc0, sc1, sc2⟩ := hS; go_simp⟩) hHeld ?_
      simp only [Act.put, List.getElem_toArray, List.getElem_cons_zero, List.getElem_cons_succ, List.setIfInBounds_toArray, List.set_cons_zero, List.set_cons_succ]
      refine Ru.wpAnyU_take (i := 3) (v := .pointer (some ⟨g, k * 2, none⟩)) rfl (by kernel_rfl) (by kernel_rfl) (by kernel_rfl) (by kernel_rfl) (by kernel_rfl) (by kernel_rfl) (fun _ _ _ h => h) (Or.inl ⟨by kernel_rfl, fun w hS => by obtain ⟨sc0, sc1, sc2⟩ := hS; go_simp⟩) hHeld ?_
      simp only [Act.put, List.getElem_toArray, List.getElem_cons_zero, List.getElem_cons_succ, List.setIfInBounds_toArray, List.set_cons_zero, List.set_cons_succ]
      refine Ru.wpAnyU_take (i := 4) (v := .agg #[.bool s1, .slice p l c]) rfl (by kernel_rfl) (by kernel_rfl) (by kernel_rfl) (by kernel_rfl) (by kernel_rfl) (by kernel_rfl) (fun _ _ _ h => h) (Nu.yieldsN (by kernel_rfl) _ (by rfl) g (k * 2) _ _ (by rfl) (fun w h => ⟨h.2.1, h.2.2⟩)) hHeld ?_
      simp only [Act.put, List.getElem_toArray, List.getElem_cons_zero, List.getElem_cons_succ, List.setIfInBounds_toArray, List.set_cons_zero, List.set_cons_succ]
      refine Ru.wpAnyU_ready (rs := [5]) (by kernel_rfl) (by simp) ?_
      refine Ru.AllReadyU.cons rfl (by kernel_rfl) (fun K hK => ?_) Ru.AllReadyU.nil
      go_simp
      refine (HD.out _ (ci.below D0) (ei.below D0)).mono ?_
      rintro e w2 ⟨v, rfl, iv, k2⟩
      have D2 := below_tr D0 k2
      obtain ⟨q1, q2, q3, rfl⟩ := iv.form
      go_wp2_with fail
      refine hK.out _ _ (HS.out _ D2) (fun hHeld => ?_)
      clear hK K
      try simp only [Act.put, List.getElem_toArray, List.getElem_cons_zero, List.getElem_cons_succ, List.setIfInBounds_toArray, List.set_cons_zero, List.set_cons_succ]
      refine Ru.wpAnyU_ready (rs := [6]) (by kernel_rfl) (by simp) ?_
      refine Ru.AllReadyU.cons2 rfl (by kernel_rfl) (fun K hK => ?_) Ru.AllReadyU.nil
      have c2 := (HS.out _ D2).1
      refine Ru.stepC isNum (by kernel_rfl) _ _ (by rfl) w.heap.size _ [.bool (decide (Tk + ak < 0)), .slice q1 q2 q3] (by rfl) (by rfl) c2 rfl rfl (one2 _ _ _ _) ?_
      have v3 := var_set c2 iv
      have B3 := St.below_row (below_tr Br D2) (g := w.heap.size) (Nat.le_refl _) [.bool (decide (Tk + ak < 0)), .slice q1 q2 q3].toArray
      refine hK.out _ _ ?_
      clear hK K
      try simp only [Act.put, List.getElem_toArray, List.getElem_cons_zero, List.getElem_cons_succ, List.setIfInBounds_toArray, List.set_cons_zero, List.set_cons_succ]
      refine wpAny_done (by kernel_rfl) ?_ _
      go_wp2
      go_roundw
      case rel => exact ⟨k + 1, by omega, by go_num, by rw [HU.out]; exact v3, B3⟩
      case measure => simp [intOf]; omega
    · obtain rfl : n = k := by omega
      have bS := HT.out n (Nat.le_refl _)
      have hSp := HS0.out
      have hnp := n_pos hSp
      have HR := hide vr
      have HBr := hide Br
      obtain ⟨Sn, hSn⟩ : ∃ q, q = tot a n := ⟨_, rfl⟩
      rw [← hSn] at HR bS hSp
      have HSn := hide hSn
      have HQ : Hid (∀ k, qt m a n k = m * a k / Sn ∧ rt m a n k = m * a k % Sn) := fun k => by rw [hSn]; exact ⟨rfl, rfl⟩
      clear hSn vr Br h
      go_wp2
      go_loopw [7, 8, 9, 10] (fun vx vy lv i wl => ∃ k : Nat, k ≤ n ∧ i = .int .i64 (k : Int) ∧ lv = .int .i64 (m - tot (qt m a n) k) ∧ Nu.Two wr.heap.size wr wl vx k (qt m a n) vy k (rt m a n)) (fun _ _ _ i _ => n - (intOf i).toNat)
      case atStart => exact ⟨0, by omega, rfl, by show Value.int .i64 m = .int .i64 (m - 0); rw [Int.sub_zero], ⟨Own.nil (Below.refl _ _) (Nat.le_refl _) _, Nls.nil (Below.refl _ _) (Nat.le_refl _) _, fun g e => (by cases e)⟩⟩
      case round =>
        rename World => wl
        obtain ⟨k, hk, rfl, rfl, TT⟩ := hrel
        by_cases h : k < n
        · have kl := TT.x.below
          obtain ⟨sp, sl, sc, cr, ci⟩ := HR.out.keep kl
          obtain ⟨p, l, c, c0, c1, ei⟩ := (HL.out.keep (below_tr HBr.out kl)).num k h
          have ba := HA.out k h
          have hq := HQ.out k
          have hU : tot (qt m a n) (k + 1) = tot (qt m a n) k + qt m a n k := rfl
          have hlo := tot_nn (a := qt m a n) (n := k) (fun j hj => qt_nn hm0 (fun i hi => (HA.out i hi).1) HS0.out (by omega))
          have hup : tot (qt m a n) (k + 1) ≤ m := by
            have h1 := (lf_in (m := m) HS0.out).1
            have h2 : tot (qt m a n) (k + 1) ≤ tot (qt m a n) n := tot_up (fun j hj => qt_nn hm0 (fun i hi => (HA.out i hi).1) HS0.out hj) (by omega)
            unfold lf at h1; omega
          have hqn := qt_nn hm0 (fun i hi => (HA.out i hi).1) HS0.out h
          obtain ⟨ak, hak⟩ : ∃ q, q = a k := ⟨_, rfl⟩
          obtain ⟨s0, hs0⟩ : ∃ q, q = decide (Sn < 0) := ⟨_, rfl⟩
          obtain ⟨s1, hs1⟩ : ∃ q, q = decide (a k < 0) := ⟨_, rfl⟩
          rw [← hs0] at cr ci
          rw [← hs1] at c0 ei
          rw [← hak] at ei ba hq
          have hmk0 : 0 ≤ m * ak := Int.mul_nonneg hm0 ba.1
          have hmk1 : m * ak ≤ 1073741824 * 4611686018427387904 := Int.mul_le_mul hm1 ba.2 ba.1 (by omega)
          have HOf := hide (fun W => of_any m W (by omega) (by omega))
          have HMu := hide (fun W va (h1 : IsNum W va m) (h2 : IsNum W (.agg #[.bool s1, .slice p l c]) ak) => mul_any va _ m ak W (len100 (by omega)) (len100 (by omega)) h1 h2)
          have HDi := hide (fun W va (h1 : IsNum W va (m * ak)) (h2 : IsNum W (.agg #[.bool s0, .slice sp sl sc]) Sn) => div_any va _ (m * ak) Sn W (len_of (by omega)) (by omega) (len_of (by omega)) h1 h2)
          obtain ⟨q, hqq⟩ : ∃ q, q = qt m a n k := ⟨_, rfl⟩
          obtain ⟨r, hrr⟩ : ∃ q, q = rt m a n k := ⟨_, rfl⟩
          rw [← hqq] at hq hU hqn
          rw [← hrr] at hq
          rw [← hq.1, ← hq.2] at HDi
          obtain ⟨tk, htk⟩ : ∃ q, q = tot (qt m a n) k := ⟨_, rfl⟩
          rw [← htk] at hU hlo ⊢
          have HQQ := hide hqq
          have HRR := hide hrr
          have HUU := hide hU
          have hup' : tk + q ≤ m := by rw [← hU]; exact hup
          have HS : Hid (∀ V, Below wl.heap.size wl V → (CRow V w.heap.size 93 [.bool s0, .slice sp sl sc] ∧ V.cell? ⟨g, k * 2, none⟩ = some (.bool s1) ∧ V.cell? ⟨g, k * 2 + 1, none⟩ = some (.slice p l c))) := fun V b => ⟨CRow.keep cr b, keep_cell b c0, keep_cell b c1⟩
          have lgA : w.heap.size < wl.heap.size := CRow.lt cr
          have lgl : g < wl.heap.size := World.block_lt_of_cell? wl _ c0
          have kn : (k : Int) < n := by omega
          have HCI := hide ci
          have HEI := hide ei
          clear hqq hrr hs0 hs1 hak htk hq hU hup c0 c1 cr ci ei hmk0 hmk1
          go_upto_region 12 with fail
          go_cut [11, 12] (fun p1 p2 wx => ∃ g1 g2 : Nat, p1 = .pointer (some ⟨g1, 0, none⟩) ∧ p2 = .pointer (some ⟨g2, 0, none⟩) ∧ Var wx g1 q ∧ Var wx g2 r ∧ wl.heap.size ≤ g2 ∧ Below wl.heap.size wl wx)
          case first =>
            have D0 := Vc.below_drew' wl
            refine Ru.wp_region_U [15] (fun w' => CRow w' w.heap.size 93 [.bool s0, .slice sp sl sc] ∧ w'.cell? ⟨g, k * 2, none⟩ = some (.bool s1) ∧ w'.cell? ⟨g, k * 2 + 1, none⟩ = some (.slice p l c)) (by kernel_rfl) (HS.out _ D0) (fun hHeld => ?_)
            refine Ru.wpAnyU_take (i := 0) (v := .int .i64 m) rfl (by kernel_rfl) (by kernel_rfl) (by kernel_rfl) (by kernel_rfl) (by kernel_rfl) (by kernel_rfl) (fun _ _ _ h => h) (Or.inl ⟨by kernel_rfl, fun w hS => by obtain ⟨sc0, sc1, sc2⟩ := hS; go_simp⟩) hHeld ?_
            simp only [Act.put, List.getElem_toArray, List.getElem_cons_zero, List.getElem_cons_succ, List.setIfInBounds_toArray, List.set_cons_zero, List.set_cons_succ]
            refine Ru.wpAnyU_take (i := 2) (v := .slice (some ⟨g, 0, none⟩) n cap) rfl (by kernel_rfl) (by kernel_rfl) (by kernel_rfl) (by kernel_rfl) (by kernel_rfl) (by kernel_rfl) (fun _ _ _ h => h) (Or.inl ⟨by kernel_rfl, fun w hS => by obtain ⟨sc0, sc1, sc2⟩ := hS; go_simp⟩) hHeld ?_
            simp only [Act.put, List.getElem_toArray, List.getElem_cons_zero, List.getElem_cons_succ, List.setIfInBounds_toArray, List.set_cons_zero, List.set_cons_succ]
            refine Ru.wpAnyU_take (i := 3) (v := .int .i64 (k : Int)) rfl (by kernel_rfl) (by kernel_rfl) (by kernel_rfl) (by kernel_rfl) (by kernel_rfl) (by kernel_rfl) (fun _ _ _ h => h) (Or.inl ⟨by kernel_rfl, fun w hS => by obtain ⟨sc0, sc1, sc2⟩ := hS; go_simp⟩) hHeld ?_
            simp only [Act.put, List.getElem_toArray, List.getElem_cons_zero, List.getElem_cons_succ, List.setIfInBounds_toArray, List.set_cons_zero, List.set_cons_succ]
            refine Ru.wpAnyU_take (i := 4) (v := .pointer (some ⟨g, k * 2, none⟩)) rfl (by kernel_rfl) (by kernel_rfl) (by kernel_rfl) (by kernel_rfl) (by kernel_rfl) (by kernel_rfl) (fun _ _ _ h => h) (Or.inl ⟨by kernel_rfl, fun w hS => by obtain ⟨sc0, sc1, sc2⟩ := hS; go_simp⟩) hHeld ?_
            simp only [Act.put, List.getElem_toArray, List.getElem_cons_zero, List.getElem_cons_succ, List.setIfInBounds_toArray, List.set_cons_zero, List.set_cons_succ]
            refine Ru.wpAnyU_take (i := 5) (v := .agg #[.bool s1, .slice p l c]) rfl (by kernel_rfl) (by kernel_rfl) (by kernel_rfl) (by kernel_rfl) (by kernel_rfl) (by kernel_rfl) (fun _ _ _ h => h) (Nu.yieldsN (by kernel_rfl) _ (by rfl) g (k * 2) _ _ (by rfl) (fun w h => ⟨h.2.1, h.2.2⟩)) hHeld ?_
            simp only [Act.put, List.getElem_toArray, List.getElem_cons_zero, List.getElem_cons_succ, List.setIfInBounds_toArray, List.set_cons_zero, List.set_cons_succ]
            refine Ru.wpAnyU_take (i := 7) (v := .agg [.bool s0, .slice sp sl sc].toArray) rfl (by kernel_rfl) (by kernel_rfl) (by kernel_rfl) (by kernel_rfl) (by kernel_rfl) (by kernel_rfl) (fun _ _ _ h => h) (Ru.yieldsC isNum (by kernel_rfl) _ (by rfl) w.heap.size _ (by rfl) (fun w h => h.1) rfl) hHeld ?_
            simp only [Act.put, List.getElem_toArray, List.getElem_cons_zero, List.getElem_cons_succ, List.setIfInBounds_toArray, List.set_cons_zero, List.set_cons_succ]
            refine Ru.wpAnyU_ready (rs := [1, 12, 13]) (by kernel_rfl) (by simp) ?_
            refine Ru.AllReadyU.cons rfl (by kernel_rfl) (fun K hK => ?_) ?_
            · go_simp
              refine (HOf.out _).mono ?_
              rintro e x_1 ⟨v_1, rfl, i1_1, k_1⟩
              have D_1 := below_tr D0 k_1
              have y_1 : wl.heap.size ≤ x_1.heap.size := by have h := k_1.size; exact h
              go_wp2_with fail
              refine hK.out _ _ (HS.out _ D_1) (fun hHeld => ?_)
              clear hK K
              try simp only [Act.put, List.getElem_toArray, List.getElem_cons_zero, List.getElem_cons_succ, List.setIfInBounds_toArray, List.set_cons_zero, List.set_cons_succ]
              refine Ru.wpAnyU_ready (rs := [6, 12, 13]) (by kernel_rfl) (by simp) ?_
              refine Ru.AllReadyU.cons rfl (by kernel_rfl) (fun K hK => ?_) ?_
              · go_simp
                refine (HMu.out _ _ i1_1 (HEI.out.below D_1)).mono ?_
                rintro e x_2 ⟨v_2, rfl, i6_2, k_2⟩
                have D_2 := below_tr D_1 k_2
                have y_2 : x_1.heap.size ≤ x_2.heap.size := by have h := k_2.size; exact h
                have i1_2 := i1_1.below k_2
                go_wp2_with fail
                refine hK.out _ _ (HS.out _ D_2) (fun hHeld => ?_)
                clear hK K
                try simp only [Act.put, List.getElem_toArray, List.getElem_cons_zero, List.getElem_cons_succ, List.setIfInBounds_toArray, List.set_cons_zero, List.set_cons_succ]
                refine Ru.wpAnyU_ready (rs := [8, 12, 13]) (by kernel_rfl) (by simp) ?_
                refine Ru.AllReadyU.cons rfl (by kernel_rfl) (fun K hK => ?_) ?_
                · go_simp
                  refine (HDi.out _ _ i6_2 (HCI.out.below D_2)).mono ?_
                  rintro e x_3 ⟨u_3, v_3, rfl, iq_3, ir_3, k_3⟩
                  have D_3 := below_tr D_2 k_3
                  have y_3 : x_2.heap.size ≤ x_3.heap.size := by have h := k_3.size; exact h
                  have i1_3 := i1_2.below k_3
                  have i6_3 := i6_2.below k_3
                  go_wp2_with fail
                  refine hK.out _ _ (HS.out _ D_3) (fun hHeld => ?_)
                  clear hK K
                  try simp only [Act.put, List.getElem_toArray, List.getElem_cons_zero, List.getElem_cons_succ, List.setIfInBounds_toArray, List.set_cons_zero, List.set_cons_succ]
                  refine Ru.wpAnyU_take (i := 9) (v := .tuple #[u_3, v_3]) rfl (by kernel_rfl) (by kernel_rfl) (by kernel_rfl) (by kernel_rfl) (by kernel_rfl) (by kernel_rfl) (fun _ _ _ h => h) (Or.inl ⟨by kernel_rfl, fun w hS => by obtain ⟨sc0, sc1, sc2⟩ := hS; go_simp⟩) hHeld ?_
                  simp only [Act.put, List.getElem_toArray, List.getElem_cons_zero, List.getElem_cons_succ, List.setIfInBounds_toArray, List.set_cons_zero, List.set_cons_succ]
                  refine Ru.wpAnyU_take (i := 10) (v := u_3) rfl (by kernel_rfl) (by kernel_rfl) (by kernel_rfl) (by kernel_rfl) (by kernel_rfl) (by kernel_rfl) (fun _ _ _ h => h) (Or.inl ⟨by kernel_rfl, fun w hS => by obtain ⟨sc0, sc1, sc2⟩ := hS; go_simp⟩) hHeld ?_
                  simp only [Act.put, List.getElem_toArray, List.getElem_cons_zero, List.getElem_cons_succ, List.setIfInBounds_toArray, List.set_cons_zero, List.set_cons_succ]
                  refine Ru.wpAnyU_take (i := 11) (v := v_3) rfl (by kernel_rfl) (by kernel_rfl) (by kernel_rfl) (by kernel_rfl) (by kernel_rfl) (by kernel_rfl) (fun _ _ _ h => h) (Or.inl ⟨by kernel_rfl, fun w hS => by obtain ⟨sc0, sc1, sc2⟩ := hS; go_simp⟩) hHeld ?_
                  simp only [Act.put, List.getElem_toArray, List.getElem_cons_zero, List.getElem_cons_succ, List.setIfInBounds_toArray, List.set_cons_zero, List.set_cons_succ]
                  refine Ru.wpAnyU_ready (rs := [12, 13]) (by kernel_rfl) (by simp) ?_
                  refine Ru.AllReadyU.cons rfl (by kernel_rfl) (fun K hK => ?_) ?_
                  · go_simp
                    have e_4 : x_3.heap.size = x_3.heap.size := by simp
                    have z_4 : wl.heap.size ≤ x_3.heap.size := by have h := D_3.size; rw [e_4] at h; exact h
                    have a12_4 : CRow (x_3.alloc (.cells [.bool false, .slice none 0 0].toArray 93)) (x_3.heap.size) 93 [.bool false, .slice none 0 0] := by have h := crow_new x_3 93 [.bool false, .slice none 0 0]; rw [e_4] at h; exact h
                    have k_4 := below_al (Below.refl _ x_3) (.cells [.bool false, .slice none 0 0].toArray 93)
                    have i1_4 := i1_3.below k_4
                    have i6_4 := i6_3.below k_4
                    have iq_4 := iq_3.below k_4
                    have ir_4 := ir_3.below k_4
                    have D_4 := below_tr D_3 k_4
                    refine hK.out _ _ (HS.out _ D_4) (fun hHeld => ?_)
                    clear hK K
                    try simp only [Act.put, List.getElem_toArray, List.getElem_cons_zero, List.getElem_cons_succ, List.setIfInBounds_toArray, List.set_cons_zero, List.set_cons_succ]
                    refine Ru.wpAnyU_ready (rs := [13]) (by kernel_rfl) (by simp) ?_
                    refine Ru.AllReadyU.cons rfl (by kernel_rfl) (fun K hK => ?_) Ru.AllReadyU.nil
                    go_simp
                    have e_5 : (x_3.alloc (.cells [.bool false, .slice none 0 0].toArray 93)).heap.size = x_3.heap.size + 1 := by simp
                    have z_5 : wl.heap.size ≤ x_3.heap.size + 1 := by have h := D_4.size; rw [e_5] at h; exact h
                    have a13_5 : CRow ((x_3.alloc (.cells [.bool false, .slice none 0 0].toArray 93)).alloc (.cells [.bool false, .slice none 0 0].toArray 93)) (x_3.heap.size + 1) 93 [.bool false, .slice none 0 0] := by have h := crow_new (x_3.alloc (.cells [.bool false, .slice none 0 0].toArray 93)) 93 [.bool false, .slice none 0 0]; rw [e_5] at h; exact h
                    have k_5 := below_al (Below.refl _ (x_3.alloc (.cells [.bool false, .slice none 0 0].toArray 93))) (.cells [.bool false, .slice none 0 0].toArray 93)
                    have i1_5 := i1_4.below k_5
                    have i6_5 := i6_4.below k_5
                    have iq_5 := iq_4.below k_5
                    have ir_5 := ir_4.below k_5
                    have a12_5 := CRow.keep a12_4 k_5
                    have D_5 := below_tr D_4 k_5
                    refine hK.out _ _ (HS.out _ D_5) (fun hHeld => ?_)
                    clear hK K
                    try simp only [Act.put, List.getElem_toArray, List.getElem_cons_zero, List.getElem_cons_succ, List.setIfInBounds_toArray, List.set_cons_zero, List.set_cons_succ]
                    obtain ⟨q1, q2, q3, e1⟩ := iq_5.form
                    obtain ⟨q4, q5, q6, e2⟩ := ir_5.form
                    subst e1 e2
                    refine Ru.wpAnyU_ready (rs := [14]) (by kernel_rfl) (by simp) ?_
                    refine Ru.AllReadyU.cons rfl (by kernel_rfl) (fun K hK => ?_) Ru.AllReadyU.nil
                    have ra := a12_5
                    have rb := a13_5
                    have iA := iq_5
                    have iB := ir_5
                    have DD := D_5
                    obtain ⟨ga, hga⟩ : ∃ q, q = x_3.heap.size := ⟨_, rfl⟩
                    obtain ⟨gb, hgb⟩ : ∃ q, q = x_3.heap.size + 1 := ⟨_, rfl⟩
                    have hne : ga ≠ gb := by omega
                    have la : wl.heap.size ≤ ga := by omega
                    have lb : wl.heap.size ≤ gb := by omega
                    rw [← hga] at ra
                    rw [← hgb] at rb
                    refine Ru.stepC isNum (by kernel_rfl) _ _ (by rfl) ga _ [.bool (decide (q < 0)), .slice q1 q2 q3] (by rw [hga]; rfl) (by rfl) ra rfl rfl (one2 _ _ _ _) ?_
                    have h9 := HS.out _ DD
                    have kb : But (· = ga) ((x_3.alloc (.cells [.bool false, .slice none 0 0].toArray 93)).alloc (.cells [.bool false, .slice none 0 0].toArray 93)) (World.setRow ((x_3.alloc (.cells [.bool false, .slice none 0 0].toArray 93)).alloc (.cells [.bool false, .slice none 0 0].toArray 93)) ga [.bool (decide (q < 0)), .slice q1 q2 q3].toArray) := ⟨rfl, rfl, rfl, by simp, fun k hk hn => setRow_other _ ga k _ hn⟩
                    have vA := var_set ra iA
                    have rB := CRow.rowOther rb (fun e => hne e.symm) [.bool (decide (q < 0)), .slice q1 q2 q3].toArray
                    have iB2 := num_but iB kb (fun b e => by rw [e]; exact crow_not ra)
                    have BA := St.below_row DD (g := ga) la [.bool (decide (q < 0)), .slice q1 q2 q3].toArray
                    refine hK.out _ _ ⟨CRow.rowOther h9.1 (by omega) _, kb.cell h9.2.1 (by show ¬ g = ga; omega), kb.cell h9.2.2 (by show ¬ g = ga; omega)⟩ (fun hHeld => ?_)
                    clear hK K
                    try simp only [Act.put, List.getElem_toArray, List.getElem_cons_zero, List.getElem_cons_succ, List.setIfInBounds_toArray, List.set_cons_zero, List.set_cons_succ]
                    refine Ru.wpAnyU_ready (rs := [15]) (by kernel_rfl) (by simp) ?_
                    refine Ru.AllReadyU.cons2 rfl (by kernel_rfl) (fun K hK => ?_) Ru.AllReadyU.nil
                    refine Ru.stepC isNum (by kernel_rfl) _ _ (by rfl) gb _ [.bool (decide (r < 0)), .slice q4 q5 q6] (by rw [hgb]; rfl) (by rfl) rB rfl rfl (one2 _ _ _ _) ?_
                    have vB := var_set rB iB2
                    have vA2 := var_other rB vA hne [.bool (decide (r < 0)), .slice q4 q5 q6].toArray
                    have BB := St.below_row BA (g := gb) lb [.bool (decide (r < 0)), .slice q4 q5 q6].toArray
                    refine hK.out _ _ ?_
                    clear hK K
                    try simp only [Act.put, List.getElem_toArray, List.getElem_cons_zero, List.getElem_cons_succ, List.setIfInBounds_toArray, List.set_cons_zero, List.set_cons_succ]
                    refine wpAny_done (by kernel_rfl) ?_ _
                    subst hga hgb
                    go_wp2_with fail
                    go_meet
                    exact ⟨_, _, rfl, rfl, vA2, vB, lb, BB⟩
                  refine Ru.AllReadyU.cons rfl (by kernel_rfl) (fun K hK => ?_) Ru.AllReadyU.nil
                  go_simp
                  have e_6 : x_3.heap.size = x_3.heap.size := by simp
                  have z_6 : wl.heap.size ≤ x_3.heap.size := by have h := D_3.size; rw [e_6] at h; exact h
                  have a13_6 : CRow (x_3.alloc (.cells [.bool false, .slice none 0 0].toArray 93)) (x_3.heap.size) 93 [.bool false, .slice none 0 0] := by have h := crow_new x_3 93 [.bool false, .slice none 0 0]; rw [e_6] at h; exact h
                  have k_6 := below_al (Below.refl _ x_3) (.cells [.bool false, .slice none 0 0].toArray 93)
                  have i1_6 := i1_3.below k_6
                  have i6_6 := i6_3.below k_6
                  have iq_6 := iq_3.below k_6
                  have ir_6 := ir_3.below k_6
                  have D_6 := below_tr D_3 k_6
                  refine hK.out _ _ (HS.out _ D_6) (fun hHeld => ?_)
                  clear hK K
                  try simp only [Act.put, List.getElem_toArray, List.getElem_cons_zero, List.getElem_cons_succ, List.setIfInBounds_toArray, List.set_cons_zero, List.set_cons_succ]
                  refine Ru.wpAnyU_ready (rs := [12]) (by kernel_rfl) (by simp) ?_
                  refine Ru.AllReadyU.cons rfl (by kernel_rfl) (fun K hK => ?_) Ru.AllReadyU.nil
                  go_simp
                  have e_7 : (x_3.alloc (.cells [.bool false, .slice none 0 0].toArray 93)).heap.size = x_3.heap.size + 1 := by simp
                  have z_7 : wl.heap.size ≤ x_3.heap.size + 1 := by have h := D_6.size; rw [e_7] at h; exact h
                  have a12_7 : CRow ((x_3.alloc (.cells [.bool false, .slice none 0 0].toArray 93)).alloc (.cells [.bool false, .slice none 0 0].toArray 93)) (x_3.heap.size + 1) 93 [.bool false, .slice none 0 0] := by have h := crow_new (x_3.alloc (.cells [.bool false, .slice none 0 0].toArray 93)) 93 [.bool false, .slice none 0 0]; rw [e_7] at h; exact h
                  have k_7 := below_al (Below.refl _ (x_3.alloc (.cells [.bool false, .slice none 0 0].toArray 93))) (.cells [.bool false, .slice none 0 0].toArray 93)
                  have i1_7 := i1_6.below k_7
                  have i6_7 := i6_6.below k_7
                  have iq_7 := iq_6.below k_7
                  have ir_7 := ir_6.below k_7
                  have a13_7 := CRow.keep a13_6 k_7
                  have D_7 := below_tr D_6 k_7
                  refine hK.out _ _ (HS.out _ D_7) (fun hHeld => ?_)
                  clear hK K
                  try simp only [Act.put, List.getElem_toArray, List.getElem_cons_zero, List.getElem_cons_succ, List.setIfInBounds_toArray, List.set_cons_zero, List.set_cons_succ]
                  obtain ⟨q1, q2, q3, e1⟩ := iq_7.form
                  obtain ⟨q4, q5, q6, e2⟩ := ir_7.form
                  subst e1 e2
                  refine Ru.wpAnyU_ready (rs := [14]) (by kernel_rfl) (by simp) ?_
                  refine Ru.AllReadyU.cons rfl (by kernel_rfl) (fun K hK => ?_) Ru.AllReadyU.nil
                  have ra := a12_7
                  have rb := a13_7
                  have iA := iq_7
                  have iB := ir_7
                  have DD := D_7
                  obtain ⟨ga, hga⟩ : ∃ q, q = x_3.heap.size + 1 := ⟨_, rfl⟩
                  obtain ⟨gb, hgb⟩ : ∃ q, q = x_3.heap.size := ⟨_, rfl⟩
                  have hne : ga ≠ gb := by omega
                  have la : wl.heap.size ≤ ga := by omega
                  have lb : wl.heap.size ≤ gb := by omega
                  rw [← hga] at ra
                  rw [← hgb] at rb
                  refine Ru.stepC isNum (by kernel_rfl) _ _ (by rfl) ga _ [.bool (decide (q < 0)), .slice q1 q2 q3] (by rw [hga]; rfl) (by rfl) ra rfl rfl (one2 _ _ _ _) ?_
                  have h9 := HS.out _ DD
                  have kb : But (· = ga) ((x_3.alloc (.cells [.bool false, .slice none 0 0].toArray 93)).alloc (.cells [.bool false, .slice none 0 0].toArray 93)) (World.setRow ((x_3.alloc (.cells [.bool false, .slice none 0 0].toArray 93)).alloc (.cells [.bool false, .slice none 0 0].toArray 93)) ga [.bool (decide (q < 0)), .slice q1 q2 q3].toArray) := ⟨rfl, rfl, rfl, by simp, fun k hk hn => setRow_other _ ga k _ hn⟩
                  have vA := var_set ra iA
                  have rB := CRow.rowOther rb (fun e => hne e.symm) [.bool (decide (q < 0)), .slice q1 q2 q3].toArray
                  have iB2 := num_but iB kb (fun b e => by rw [e]; exact crow_not ra)
                  have BA := St.below_row DD (g := ga) la [.bool (decide (q < 0)), .slice q1 q2 q3].toArray
                  refine hK.out _ _ ⟨CRow.rowOther h9.1 (by omega) _, kb.cell h9.2.1 (by show ¬ g = ga; omega), kb.cell h9.2.2 (by show ¬ g = ga; omega)⟩ (fun hHeld => ?_)
                  clear hK K
                  try simp only [Act.put, List.getElem_toArray, List.getElem_cons_zero, List.getElem_cons_succ, List.setIfInBounds_toArray, List.set_cons_zero, List.set_cons_succ]
                  refine Ru.wpAnyU_ready (rs := [15]) (by kernel_rfl) (by simp) ?_
                  refine Ru.AllReadyU.cons2 rfl (by kernel_rfl) (fun K hK => ?_) Ru.AllReadyU.nil
                  refine Ru.stepC isNum (by kernel_rfl) _ _ (by rfl) gb _ [.bool (decide (r < 0)), .slice q4 q5 q6] (by rw [hgb]; rfl) (by rfl) rB rfl rfl (one2 _ _ _ _) ?_
                  have vB := var_set rB iB2
                  have vA2 := var_other rB vA hne [.bool (decide (r < 0)), .slice q4 q5 q6].toArray
                  have BB := St.below_row BA (g := gb) lb [.bool (decide (r < 0)), .slice q4 q5 q6].toArray
                  refine hK.out _ _ ?_
                  clear hK K
                  try simp only [Act.put, List.getElem_toArray, List.getElem_cons_zero, List.getElem_cons_succ, List.setIfInBounds_toArray, List.set_cons_zero, List.set_cons_succ]
                  refine wpAny_done (by kernel_rfl) ?_ _
                  subst hga hgb
                  go_wp2_with fail
                  go_meet
                  exact ⟨_, _, rfl, rfl, vA2, vB, lb, BB⟩
                refine Ru.AllReadyU.cons rfl (by kernel_rfl) (fun K hK => ?_) ?_
                · go_simp
                  have e_8 : x_2.heap.size = x_2.heap.size := by simp
                  have z_8 : wl.heap.size ≤ x_2.heap.size := by have h := D_2.size; rw [e_8] at h; exact h
                  have a12_8 : CRow (x_2.alloc (.cells [.bool false, .slice none 0 0].toArray 93)) (x_2.heap.size) 93 [.bool false, .slice none 0 0] := by have h := crow_new x_2 93 [.bool false, .slice none 0 0]; rw [e_8] at h; exact h
                  have k_8 := below_al (Below.refl _ x_2) (.cells [.bool false, .slice none 0 0].toArray 93)
                  have i1_8 := i1_2.below k_8
                  have i6_8 := i6_2.below k_8
                  have D_8 := below_tr D_2 k_8
                  refine hK.out _ _ (HS.out _ D_8) (fun hHeld => ?_)
                  clear hK K
                  try simp only [Act.put, List.getElem_toArray, List.getElem_cons_zero, List.getElem_cons_succ, List.setIfInBounds_toArray, List.set_cons_zero, List.set_cons_succ]
                  refine Ru.wpAnyU_ready (rs := [8, 13]) (by kernel_rfl) (by simp) ?_
                  refine Ru.AllReadyU.cons rfl (by kernel_rfl) (fun K hK => ?_) ?_
                  · go_simp
                    refine (HDi.out _ _ i6_8 (HCI.out.below D_8)).mono ?_
                    rintro e x_9 ⟨u_9, v_9, rfl, iq_9, ir_9, k_9⟩
                    have D_9 := below_tr D_8 k_9
                    have y_9 : x_2.heap.size + 1 ≤ x_9.heap.size := by have h := k_9.size; simp at h; exact h
                    have i1_9 := i1_8.below k_9
                    have i6_9 := i6_8.below k_9
                    have a12_9 := CRow.keep a12_8 k_9
                    go_wp2_with fail
                    refine hK.out _ _ (HS.out _ D_9) (fun hHeld => ?_)
                    clear hK K
                    try simp only [Act.put, List.getElem_toArray, List.getElem_cons_zero, List.getElem_cons_succ, List.setIfInBounds_toArray, List.set_cons_zero, List.set_cons_succ]
                    refine Ru.wpAnyU_take (i := 9) (v := .tuple #[u_9, v_9]) rfl (by kernel_rfl) (by kernel_rfl) (by kernel_rfl) (by kernel_rfl) (by kernel_rfl) (by kernel_rfl) (fun _ _ _ h => h) (Or.inl ⟨by kernel_rfl, fun w hS => by obtain ⟨sc0, sc1, sc2⟩ := hS; go_simp⟩) hHeld ?_
                    simp only [Act.put, List.getElem_toArray, List.getElem_cons_zero, List.getElem_cons_succ, List.setIfInBounds_toArray, List.set_cons_zero, List.set_cons_succ]
                    refine Ru.wpAnyU_take (i := 10) (v := u_9) rfl (by kernel_rfl) (by kernel_rfl) (by kernel_rfl) (by kernel_rfl) (by kernel_rfl) (by kernel_rfl) (fun _ _ _ h => h) (Or.inl ⟨by kernel_rfl, fun w hS => by obtain ⟨sc0, sc1, sc2⟩ := hS; go_simp⟩) hHeld ?_
                    simp only [Act.put, List.getElem_toArray, List.getElem_cons_zero, List.getElem_cons_succ, List.setIfInBounds_toArray, List.set_cons_zero, List.set_cons_succ]
                    refine Ru.wpAnyU_take (i := 11) (v := v_9) rfl (by kernel_rfl) (by kernel_rfl) (by kernel_rfl) (by kernel_rfl) (by kernel_rfl) (by kernel_rfl) (fun _ _ _ h => h) (Or.inl ⟨by kernel_rfl, fun w hS => by obtain ⟨sc0, sc1, sc2⟩ := hS; go_simp⟩) hHeld ?_
                    simp only [Act.put, List.getElem_toArray, List.getElem_cons_zero, List.getElem_cons_succ, List.setIfInBounds_toArray, List.set_cons_zero, List.set_cons_succ]
                    refine Ru.wpAnyU_ready (rs := [13]) (by kernel_rfl) (by simp) ?_
                    refine Ru.AllReadyU.cons rfl (by kernel_rfl) (fun K hK => ?_) Ru.AllReadyU.nil
                    go_simp
                    have e_10 : x_9.heap.size = x_9.heap.size := by simp
                    have z_10 : wl.heap.size ≤ x_9.heap.size := by have h := D_9.size; rw [e_10] at h; exact h
                    have a13_10 : CRow (x_9.alloc (.cells [.bool false, .slice none 0 0].toArray 93)) (x_9.heap.size) 93 [.bool false, .slice none 0 0] := by have h := crow_new x_9 93 [.bool false, .slice none 0 0]; rw [e_10] at h; exact h
                    have k_10 := below_al (Below.refl _ x_9) (.cells [.bool false, .slice none 0 0].toArray 93)
                    have i1_10 := i1_9.below k_10
                    have i6_10 := i6_9.below k_10
                    have iq_10 := iq_9.below k_10
                    have ir_10 := ir_9.below k_10
                    have a12_10 := CRow.keep a12_9 k_10
                    have D_10 := below_tr D_9 k_10
                    refine hK.out _ _ (HS.out _ D_10) (fun hHeld => ?_)
                    clear hK K
                    try simp only [Act.put, List.getElem_toArray, List.getElem_cons_zero, List.getElem_cons_succ, List.setIfInBounds_toArray, List.set_cons_zero, List.set_cons_succ]
                    obtain ⟨q1, q2, q3, e1⟩ := iq_10.form
                    obtain ⟨q4, q5, q6, e2⟩ := ir_10.form
                    subst e1 e2
                    refine Ru.wpAnyU_ready (rs := [14]) (by kernel_rfl) (by simp) ?_
                    refine Ru.AllReadyU.cons rfl (by kernel_rfl) (fun K hK => ?_) Ru.AllReadyU.nil
                    have ra := a12_10
                    have rb := a13_10
                    have iA := iq_10
                    have iB := ir_10
                    have DD := D_10
                    obtain ⟨ga, hga⟩ : ∃ q, q = x_2.heap.size := ⟨_, rfl⟩
                    obtain ⟨gb, hgb⟩ : ∃ q, q = x_9.heap.size := ⟨_, rfl⟩
                    have hne : ga ≠ gb := by omega
                    have la : wl.heap.size ≤ ga := by omega
                    have lb : wl.heap.size ≤ gb := by omega
                    rw [← hga] at ra
                    rw [← hgb] at rb
                    refine Ru.stepC isNum (by kernel_rfl) _ _ (by rfl) ga _ [.bool (decide (q < 0)), .slice q1 q2 q3] (by rw [hga]; rfl) (by rfl) ra rfl rfl (one2 _ _ _ _) ?_
                    have h9 := HS.out _ DD
                    have kb : But (· = ga) (x_9.alloc (.cells [.bool false, .slice none 0 0].toArray 93)) (World.setRow (x_9.alloc (.cells [.bool false, .slice none 0 0].toArray 93)) ga [.bool (decide (q < 0)), .slice q1 q2 q3].toArray) := ⟨rfl, rfl, rfl, by simp, fun k hk hn => setRow_other _ ga k _ hn⟩
                    have vA := var_set ra iA
                    have rB := CRow.rowOther rb (fun e => hne e.symm) [.bool (decide (q < 0)), .slice q1 q2 q3].toArray
                    have iB2 := num_but iB kb (fun b e => by rw [e]; exact crow_not ra)
                    have BA := St.below_row DD (g := ga) la [.bool (decide (q < 0)), .slice q1 q2 q3].toArray
                    refine hK.out _ _ ⟨CRow.rowOther h9.1 (by omega) _, kb.cell h9.2.1 (by show ¬ g = ga; omega), kb.cell h9.2.2 (by show ¬ g = ga; omega)⟩ (fun hHeld => ?_)
                    clear hK K
                    try simp only [Act.put, List.getElem_toArray, List.getElem_cons_zero, List.getElem_cons_succ, List.setIfInBounds_toArray, List.set_cons_zero, List.set_cons_succ]
                    refine Ru.wpAnyU_ready (rs := [15]) (by kernel_rfl) (by simp) ?_
                    refine Ru.AllReadyU.cons2 rfl (by kernel_rfl) (fun K hK => ?_) Ru.AllReadyU.nil
                    refine Ru.stepC isNum (by kernel_rfl) _ _ (by rfl) gb _ [.bool (decide (r < 0)), .slice q4 q5 q6] (by rw [hgb]; rfl) (by rfl) rB rfl rfl (one2 _ _ _ _) ?_
                    have vB := var_set rB iB2
                    have vA2 := var_other rB vA hne [.bool (decide (r < 0)), .slice q4 q5 q6].toArray
                    have BB := St.below_row BA (g := gb) lb [.bool (decide (r < 0)), .slice q4 q5 q6].toArray
                    refine hK.out _ _ ?_
                    clear hK K
                    try simp only [Act.put, List.getElem_toArray, List.getElem_cons_zero, List.getElem_cons_succ, List.setIfInBounds_toArray, List.set_cons_zero, List.set_cons_succ]
                    refine wpAny_done (by kernel_rfl) ?_ _
                    subst hga hgb
                    go_wp2_with fail
                    go_meet
                    exact ⟨_, _, rfl, rfl, vA2, vB, lb, BB⟩
                  refine Ru.AllReadyU.cons rfl (by kernel_rfl) (fun K hK => ?_) Ru.AllReadyU.nil
                  go_simp
                  have e_11 : (x_2.alloc (.cells [.bool false, .slice none 0 0].toArray 93)).heap.size = x_2.heap.size + 1 := by simp
                  have z_11 : wl.heap.size ≤ x_2.heap.size + 1 := by have h := D_8.size; rw [e_11] at h; exact h
                  have a13_11 : CRow ((x_2.alloc (.cells [.bool false, .slice none 0 0].toArray 93)).alloc (.cells [.bool false, .slice none 0 0].toArray 93)) (x_2.heap.size + 1) 93 [.bool false, .slice none 0 0] := by have h := crow_new (x_2.alloc (.cells [.bool false, .slice none 0 0].toArray 93)) 93 [.bool false, .slice none 0 0]; rw [e_11] at h; exact h
                  have k_11 := below_al (Below.refl _ (x_2.alloc (.cells [.bool false, .slice none 0 0].toArray 93))) (.cells [.bool false, .slice none 0 0].toArray 93)
                  have i1_11 := i1_8.below k_11
                  have i6_11 := i6_8.below k_11
                  have a12_11 := CRow.keep a12_8 k_11
                  have D_11 := below_tr D_8 k_11
                  refine hK.out _ _ (HS.out _ D_11) (fun hHeld => ?_)
                  clear hK K
                  try simp only [Act.put, List.getElem_toArray, List.getElem_cons_zero, List.getElem_cons_succ, List.setIfInBounds_toArray, List.set_cons_zero, List.set_cons_succ]
                  refine Ru.wpAnyU_ready (rs := [8]) (by kernel_rfl) (by simp) ?_
                  refine Ru.AllReadyU.cons rfl (by kernel_rfl) (fun K hK => ?_) Ru.AllReadyU.nil
                  go_simp
                  refine (HDi.out _ _ i6_11 (HCI.out.below D_11)).mono ?_
                  rintro e x_12 ⟨u_12, v_12, rfl, iq_12, ir_12, k_12⟩
                  have D_12 := below_tr D_11 k_12
                  have y_12 : x_2.heap.size + 2 ≤ x_12.heap.size := by have h := k_12.size; simp at h; exact h
                  have i1_12 := i1_11.below k_12
                  have i6_12 := i6_11.below k_12
                  have a12_12 := CRow.keep a12_11 k_12
                  have a13_12 := CRow.keep a13_11 k_12
                  go_wp2_with fail
                  refine hK.out _ _ (HS.out _ D_12) (fun hHeld => ?_)
                  clear hK K
                  try simp only [Act.put, List.getElem_toArray, List.getElem_cons_zero, List.getElem_cons_succ, List.setIfInBounds_toArray, List.set_cons_zero, List.set_cons_succ]
                  refine Ru.wpAnyU_take (i := 9) (v := .tuple #[u_12, v_12]) rfl (by kernel_rfl) (by kernel_rfl) (by kernel_rfl) (by kernel_rfl) (by kernel_rfl) (by kernel_rfl) (fun _ _ _ h => h) (Or.inl ⟨by kernel_rfl, fun w hS => by obtain ⟨sc0, sc1, sc2⟩ := hS; go_simp⟩) hHeld ?_
                  simp only [Act.put, List.getElem_toArray, List.getElem_cons_zero, List.getElem_cons_succ, List.setIfInBounds_toArray, List.set_cons_zero, List.set_cons_succ]
                  refine Ru.wpAnyU_take (i := 10) (v := u_12) rfl (by kernel_rfl) (by kernel_rfl) (by kernel_rfl) (by kernel_rfl) (by kernel_rfl) (by kernel_rfl) (fun _ _ _ h => h) (Or.inl ⟨by kernel_rfl, fun w hS => by obtain ⟨sc0, sc1, sc2⟩ := hS; go_simp⟩) hHeld ?_
                  simp only [Act.put, List.getElem_toArray, List.getElem_cons_zero, List.getElem_cons_succ, List.setIfInBounds_toArray, List.set_cons_zero, List.set_cons_succ]
                  refine Ru.wpAnyU_take (i := 11) (v := v_12) rfl (by kernel_rfl) (by kernel_rfl) (by kernel_rfl) (by kernel_rfl) (by kernel_rfl) (by kernel_rfl) (fun _ _ _ h => h) (Or.inl ⟨by kernel_rfl, fun w hS => by obtain ⟨sc0, sc1, sc2⟩ := hS; go_simp⟩) hHeld ?_
                  simp only [Act.put, List.getElem_toArray, List.getElem_cons_zero, List.getElem_cons_succ, List.setIfInBounds_toArray, List.set_cons_zero, List.set_cons_succ]
                  obtain ⟨q1, q2, q3, e1⟩ := iq_12.form
                  obtain ⟨q4, q5, q6, e2⟩ := ir_12.form
                  subst e1 e2
                  refine Ru.wpAnyU_ready (rs := [14]) (by kernel_rfl) (by simp) ?_
                  refine Ru.AllReadyU.cons rfl (by kernel_rfl) (fun K hK => ?_) Ru.AllReadyU.nil
                  have ra := a12_12
                  have rb := a13_12
                  have iA := iq_12
                  have iB := ir_12
                  have DD := D_12
                  obtain ⟨ga, hga⟩ : ∃ q, q = x_2.heap.size := ⟨_, rfl⟩
                  obtain ⟨gb, hgb⟩ : ∃ q, q = x_2.heap.size + 1 := ⟨_, rfl⟩
                  have hne : ga ≠ gb := by omega
                  have la : wl.heap.size ≤ ga := by omega
                  have lb : wl.heap.size ≤ gb := by omega
                  rw [← hga] at ra
                  rw [← hgb] at rb
                  refine Ru.stepC isNum (by kernel_rfl) _ _ (by rfl) ga _ [.bool (decide (q < 0)), .slice q1 q2 q3] (by rw [hga]; rfl) (by rfl) ra rfl rfl (one2 _ _ _ _) ?_
                  have h9 := HS.out _ DD
                  have kb : But (· = ga) x_12 (World.setRow x_12 ga [.bool (decide (q < 0)), .slice q1 q2 q3].toArray) := ⟨rfl, rfl, rfl, by simp, fun k hk hn => setRow_other _ ga k _ hn⟩
                  have vA := var_set ra iA
                  have rB := CRow.rowOther rb (fun e => hne e.symm) [.bool (decide (q < 0)), .slice q1 q2 q3].toArray
                  have iB2 := num_but iB kb (fun b e => by rw [e]; exact crow_not ra)
                  have BA := St.below_row DD (g := ga) la [.bool (decide (q < 0)), .slice q1 q2 q3].toArray
                  refine hK.out _ _ ⟨CRow.rowOther h9.1 (by omega) _, kb.cell h9.2.1 (by show ¬ g = ga; omega), kb.cell h9.2.2 (by show ¬ g = ga; omega)⟩ (fun hHeld => ?_)
                  clear hK K
                  try simp only [Act.put, List.getElem_toArray, List.getElem_cons_zero, List.getElem_cons_succ, List.setIfInBounds_toArray, List.set_cons_zero, List.set_cons_succ]
                  refine Ru.wpAnyU_ready (rs := [15]) (by kernel_rfl) (by simp) ?_
                  refine Ru.AllReadyU.cons2 rfl (by kernel_rfl) (fun K hK => ?_) Ru.AllReadyU.nil
                  refine Ru.stepC isNum (by kernel_rfl) _ _ (by rfl) gb _ [.bool (decide (r < 0)), .slice q4 q5 q6] (by rw [hgb]; rfl) (by rfl) rB rfl rfl (one2 _ _ _ _) ?_
                  have vB := var_set rB iB2
                  have vA2 := var_other rB vA hne [.bool (decide (r < 0)), .slice q4 q5 q6].toArray
                  have BB := St.below_row BA (g := gb) lb [.bool (decide (r < 0)), .slice q4 q5 q6].toArray
                  refine hK.out _ _ ?_
                  clear hK K
                  try simp only [Act.put, List.getElem_toArray, List.getElem_cons_zero, List.getElem_cons_succ, List.setIfInBounds_toArray, List.set_cons_zero, List.set_cons_succ]
                  refine wpAny_done (by kernel_rfl) ?_ _
                  subst hga hgb
                  go_wp2_with fail
                  go_meet
                  exact ⟨_, _, rfl, rfl, vA2, vB, lb, BB⟩
                refine Ru.AllReadyU.cons rfl (by kernel_rfl) (fun K hK => ?_) Ru.AllReadyU.nil
                go_simp
                have e_13 : x_2.heap.size = x_2.heap.size := by simp
                have z_13 : wl.heap.size ≤ x_2.heap.size := by have h := D_2.size; rw [e_13] at h; exact h
                have a13_13 : CRow (x_2.alloc (.cells [.bool false, .slice none 0 0].toArray 93)) (x_2.heap.size) 93 [.bool false, .slice none 0 0] := by have h := crow_new x_2 93 [.bool false, .slice none 0 0]; rw [e_13] at h; exact h
                have k_13 := below_al (Below.refl _ x_2) (.cells [.bool false, .slice none 0 0].toArray 93)
                have i1_13 := i1_2.below k_13
                have i6_13 := i6_2.below k_13
                have D_13 := below_tr D_2 k_13
                refine hK.out _ _ (HS.out _ D_13) (fun hHeld => ?_)
                clear hK K
                try simp only [Act.put, List.getElem_toArray, List.getElem_cons_zero, List.getElem_cons_succ, List.setIfInBounds_toArray, List.set_cons_zero, List.set_cons_succ]
                refine Ru.wpAnyU_ready (rs := [8, 12]) (by kernel_rfl) (by simp) ?_
                refine Ru.AllReadyU.cons rfl (by kernel_rfl) (fun K hK => ?_) ?_
                · go_simp
                  refine (HDi.out _ _ i6_13 (HCI.out.below D_13)).mono ?_
                  rintro e x_14 ⟨u_14, v_14, rfl, iq_14, ir_14, k_14⟩
                  have D_14 := below_tr D_13 k_14
                  have y_14 : x_2.heap.size + 1 ≤ x_14.heap.size := by have h := k_14.size; simp at h; exact h
                  have i1_14 := i1_13.below k_14
                  have i6_14 := i6_13.below k_14
                  have a13_14 := CRow.keep a13_13 k_14
                  go_wp2_with fail
                  refine hK.out _ _ (HS.out _ D_14) (fun hHeld => ?_)
                  clear hK K
                  try simp only [Act.put, List.getElem_toArray, List.getElem_cons_zero, List.getElem_cons_succ, List.setIfInBounds_toArray, List.set_cons_zero, List.set_cons_succ]
                  refine Ru.wpAnyU_take (i := 9) (v := .tuple #[u_14, v_14]) rfl (by kernel_rfl) (by kernel_rfl) (by kernel_rfl) (by kernel_rfl) (by kernel_rfl) (by kernel_rfl) (fun _ _ _ h => h) (Or.inl ⟨by kernel_rfl, fun w hS => by obtain ⟨sc0, sc1, sc2⟩ := hS; go_simp⟩) hHeld ?_
                  simp only [Act.put, List.getElem_toArray, List.getElem_cons_zero, List.getElem_cons_succ, List.setIfInBounds_toArray, List.set_cons_zero, List.set_cons_succ]
                  refine Ru.wpAnyU_take (i := 10) (v := u_14) rfl (by kernel_rfl) (by kernel_rfl) (by kernel_rfl) (by kernel_rfl) (by kernel_rfl) (by kernel_rfl) (fun _ _ _ h => h) (Or.inl ⟨by kernel_rfl, fun w hS => by obtain ⟨sc0, sc1, sc2⟩ := hS; go_simp⟩) hHeld ?_
                  simp only [Act.put, List.getElem_toArray, List.getElem_cons_zero, List.getElem_cons_succ, List.setIfInBounds_toArray, List.set_cons_zero, List.set_cons_succ]
                  refine Ru.wpAnyU_take (i := 11) (v := v_14) rfl (by kernel_rfl) (by kernel_rfl) (by kernel_rfl) (by kernel_rfl) (by kernel_rfl) (by kernel_rfl) (fun _ _ _ h => h) (Or.inl ⟨by kernel_rfl, fun w hS => by obtain ⟨sc0, sc1, sc2⟩ := hS; go_simp⟩) hHeld ?_
                  simp only [Act.put, List.getElem_toArray, List.getElem_cons_zero, List.getElem_cons_succ, List.setIfInBounds_toArray, List.set_cons_zero, List.set_cons_succ]
                  refine Ru.wpAnyU_ready (rs := [12]) (by kernel_rfl) (by simp) ?_
                  refine Ru.AllReadyU.cons rfl (by kernel_rfl) (fun K hK => ?_) Ru.AllReadyU.nil
                  go_simp
                  have e_15 : x_14.heap.size = x_14.heap.size := by simp
                  have z_15 : wl.heap.size ≤ x_14.heap.size := by have h := D_14.size; rw [e_15] at h; exact h
                  have a12_15 : CRow (x_14.alloc (.cells [.bool false, .slice none 0 0].toArray 93)) (x_14.heap.size) 93 [.bool false, .slice none 0 0] := by have h := crow_new x_14 93 [.bool false, .slice none 0 0]; rw [e_15] at h; exact h
                  have k_15 := below_al (Below.refl _ x_14) (.cells [.bool false, .slice none 0 0].toArray 93)
                  have i1_15 := i1_14.below k_15
                  have i6_15 := i6_14.below k_15
                  have iq_15 := iq_14.below k_15
                  have ir_15 := ir_14.below k_15
                  have a13_15 := CRow.keep a13_14 k_15
                  have D_15 := below_tr D_14 k_15
                  refine hK.out _ _ (HS.out _ D_15) (fun hHeld => ?_)
                  clear hK K
                  try simp only [Act.put, List.getElem_toArray, List.getElem_cons_zero, List.getElem_cons_succ, List.setIfInBounds_toArray, List.set_cons_zero, List.set_cons_succ]
                  obtain ⟨q1, q2, q3, e1⟩ := iq_15.form
                  obtain ⟨q4, q5, q6, e2⟩ := ir_15.form
                  subst e1 e2
                  refine Ru.wpAnyU_ready (rs := [14]) (by kernel_rfl) (by simp) ?_
                  refine Ru.AllReadyU.cons rfl (by kernel_rfl) (fun K hK => ?_) Ru.AllReadyU.nil
                  have ra := a12_15
                  have rb := a13_15
                  have iA := iq_15
                  have iB := ir_15
                  have DD := D_15
                  obtain ⟨ga, hga⟩ : ∃ q, q = x_14.heap.size := ⟨_, rfl⟩
                  obtain ⟨gb, hgb⟩ : ∃ q, q = x_2.heap.size := ⟨_, rfl⟩
                  have hne : ga ≠ gb := by omega
                  have la : wl.heap.size ≤ ga := by omega
                  have lb : wl.heap.size ≤ gb := by omega
                  rw [← hga] at ra
                  rw [← hgb] at rb
                  refine Ru.stepC isNum (by kernel_rfl) _ _ (by rfl) ga _ [.bool (decide (q < 0)), .slice q1 q2 q3] (by rw [hga]; rfl) (by rfl) ra rfl rfl (one2 _ _ _ _) ?_
                  have h9 := HS.out _ DD
                  have kb : But (· = ga) (x_14.alloc (.cells [.bool false, .slice none 0 0].toArray 93)) (World.setRow (x_14.alloc (.cells [.bool false, .slice none 0 0].toArray 93)) ga [.bool (decide (q < 0)), .slice q1 q2 q3].toArray) := ⟨rfl, rfl, rfl, by simp, fun k hk hn => setRow_other _ ga k _ hn⟩
                  have vA := var_set ra iA
                  have rB := CRow.rowOther rb (fun e => hne e.symm) [.bool (decide (q < 0)), .slice q1 q2 q3].toArray
                  have iB2 := num_but iB kb (fun b e => by rw [e]; exact crow_not ra)
                  have BA := St.below_row DD (g := ga) la [.bool (decide (q < 0)), .slice q1 q2 q3].toArray
                  refine hK.out _ _ ⟨CRow.rowOther h9.1 (by omega) _, kb.cell h9.2.1 (by show ¬ g = ga; omega), kb.cell h9.2.2 (by show ¬ g = ga; omega)⟩ (fun hHeld => ?_)
                  clear hK K
                  try simp only [Act.put, List.getElem_toArray, List.getElem_cons_zero, List.getElem_cons_succ, List.setIfInBounds_toArray, List.set_cons_zero, List.set_cons_succ]
                  refine Ru.wpAnyU_ready (rs := [15]) (by kernel_rfl) (by simp) ?_
                  refine Ru.AllReadyU.cons2 rfl (by kernel_rfl) (fun K hK => ?_) Ru.AllReadyU.nil
                  refine Ru.stepC isNum (by kernel_rfl) _ _ (by rfl) gb _ [.bool (decide (r < 0)), .slice q4 q5 q6] (by rw [hgb]; rfl) (by rfl) rB rfl rfl (one2 _ _ _ _) ?_
                  have vB := var_set rB iB2
                  have vA2 := var_other rB vA hne [.bool (decide (r < 0)), .slice q4 q5 q6].toArray
                  have BB := St.below_row BA (g := gb) lb [.bool (decide (r < 0)), .slice q4 q5 q6].toArray
                  refine hK.out _ _ ?_
                  clear hK K
                  try simp only [Act.put, List.getElem_toArray, List.getElem_cons_zero, List.getElem_cons_succ, List.setIfInBounds_toArray, List.set_cons_zero, List.set_cons_succ]
                  refine wpAny_done (by kernel_rfl) ?_ _
                  subst hga hgb
                  go_wp2_with fail
                  go_meet
                  exact ⟨_, _, rfl, rfl, vA2, vB, lb, BB⟩
                refine Ru.AllReadyU.cons rfl (by kernel_rfl) (fun K hK => ?_) Ru.AllReadyU.nil
                go_simp
                have e_16 : (x_2.alloc (.cells [.bool false, .slice none 0 0].toArray 93)).heap.size = x_2.heap.size + 1 := by simp
                have z_16 : wl.heap.size ≤ x_2.heap.size + 1 := by have h := D_13.size; rw [e_16] at h; exact h
                have a12_16 : CRow ((x_2.alloc (.cells [.bool false, .slice none 0 0].toArray 93)).alloc (.cells [.bool false, .slice none 0 0].toArray 93)) (x_2.heap.size + 1) 93 [.bool false, .slice none 0 0] := by have h := crow_new (x_2.alloc (.cells [.bool false, .slice none 0 0].toArray 93)) 93 [.bool false, .slice none 0 0]; rw [e_16] at h; exact h
                have k_16 := below_al (Below.refl _ (x_2.alloc (.cells [.bool false, .slice none 0 0].toArray 93))) (.cells [.bool false, .slice none 0 0].toArray 93)
                have i1_16 := i1_13.below k_16
                have i6_16 := i6_13.below k_16
                have a13_16 := CRow.keep a13_13 k_16
                have D_16 := below_tr D_13 k_16
                refine hK.out _ _ (HS.out _ D_16) (fun hHeld => ?_)
                clear hK K
                try simp only [Act.put, List.getElem_toArray, List.getElem_cons_zero, List.getElem_cons_succ, List.setIfInBounds_toArray, List.set_cons_zero, List.set_cons_succ]
                refine Ru.wpAnyU_ready (rs := [8]) (by kernel_rfl) (by simp) ?_
                refine Ru.AllReadyU.cons rfl (by kernel_rfl) (fun K hK => ?_) Ru.AllReadyU.nil
                go_simp
                refine (HDi.out _ _ i6_16 (HCI.out.below D_16)).mono ?_
                rintro e x_17 ⟨u_17, v_17, rfl, iq_17, ir_17, k_17⟩
                have D_17 := below_tr D_16 k_17
                have y_17 : x_2.heap.size + 2 ≤ x_17.heap.size := by have h := k_17.size; simp at h; exact h
                have i1_17 := i1_16.below k_17
                have i6_17 := i6_16.below k_17
                have a12_17 := CRow.keep a12_16 k_17
                have a13_17 := CRow.keep a13_16 k_17
                go_wp2_with fail
                refine hK.out _ _ (HS.out _ D_17) (fun hHeld => ?_)
                clear hK K
                try simp only [Act.put, List.getElem_toArray, List.getElem_cons_zero, List.getElem_cons_succ, List.setIfInBounds_toArray, List.set_cons_zero, List.set_cons_succ]
                refine Ru.wpAnyU_take (i := 9) (v := .tuple #[u_17, v_17]) rfl (by kernel_rfl) (by kernel_rfl) (by kernel_rfl) (by kernel_rfl) (by kernel_rfl) (by kernel_rfl) (fun _ _ _ h => h) (Or.inl ⟨by kernel_rfl, fun w hS => by obtain ⟨sc0, sc1, sc2⟩ := hS; go_simp⟩) hHeld ?_
                simp only [Act.put, List.getElem_toArray, List.getElem_cons_zero, List.getElem_cons_succ, List.setIfInBounds_toArray, List.set_cons_zero, List.set_cons_succ]
                refine Ru.wpAnyU_take (i := 10) (v := u_17) rfl (by kernel_rfl) (by kernel_rfl) (by kernel_rfl) (by kernel_rfl) (by kernel_rfl) (by kernel_rfl) (fun _ _ _ h => h) (Or.inl ⟨by kernel_rfl, fun w hS => by obtain ⟨sc0, sc1, sc2⟩ := hS; go_simp⟩) hHeld ?_
                simp only [Act.put, List.getElem_toArray, List.getElem_cons_zero, List.getElem_cons_succ, List.setIfInBounds_toArray, List.set_cons_zero, List.set_cons_succ]
                refine Ru.wpAnyU_take (i := 11) (v := v_17) rfl (by kernel_rfl) (by kernel_rfl) (by kernel_rfl) (by kernel_rfl) (by kernel_rfl) (by kernel_rfl) (fun _ _ _ h => h) (Or.inl ⟨by kernel_rfl, fun w hS => by obtain ⟨sc0, sc1, sc2⟩ := hS; go_simp⟩) hHeld ?_
                simp only [Act.put, List.getElem_toArray, List.getElem_cons_zero, List.getElem_cons_succ, List.setIfInBounds_toArray, List.set_cons_zero, List.set_cons_succ]
                obtain ⟨q1, q2, q3, e1⟩ := iq_17.form
                obtain ⟨q4, q5, q6, e2⟩ := ir_17.form
                subst e1 e2
                refine Ru.wpAnyU_ready (rs := [14]) (by kernel_rfl) (by simp) ?_
                refine Ru.AllReadyU.cons rfl (by kernel_rfl) (fun K hK => ?_) Ru.AllReadyU.nil
                have ra := a12_17
                have rb := a13_17
                have iA := iq_17
                have iB := ir_17
                have DD := D_17
                obtain ⟨ga, hga⟩ : ∃ q, q = x_2.heap.size + 1 := ⟨_, rfl⟩
                obtain ⟨gb, hgb⟩ : ∃ q, q = x_2.heap.size := ⟨_, rfl⟩
                have hne : ga ≠ gb := by omega
                have la : wl.heap.size ≤ ga := by omega
                have lb : wl.heap.size ≤ gb := by omega
                rw [← hga] at ra
                rw [← hgb] at rb
                refine Ru.stepC isNum (by kernel_rfl) _ _ (by rfl) ga _ [.bool (decide (q < 0)), .slice q1 q2 q3] (by rw [hga]; rfl) (by rfl) ra rfl rfl (one2 _ _ _ _) ?_
                have h9 := HS.out _ DD
                have kb : But (· = ga) x_17 (World.setRow x_17 ga [.bool (decide (q < 0)), .slice q1 q2 q3].toArray) := ⟨rfl, rfl, rfl, by simp, fun k hk hn => setRow_other _ ga k _ hn⟩
                have vA := var_set ra iA
                have rB := CRow.rowOther rb (fun e => hne e.symm) [.bool (decide (q < 0)), .slice q1 q2 q3].toArray
                have iB2 := num_but iB kb (fun b e => by rw [e]; exact crow_not ra)
                have BA := St.below_row DD (g := ga) la [.bool (decide (q < 0)), .slice q1 q2 q3].toArray
                refine hK.out _ _ ⟨CRow.rowOther h9.1 (by omega) _, kb.cell h9.2.1 (by show ¬ g = ga; omega), kb.cell h9.2.2 (by show ¬ g = ga; omega)⟩ (fun hHeld => ?_)
                clear hK K
                try simp only [Act.put, List.getElem_toArray, List.getElem_cons_zero, List.getElem_cons_succ, List.setIfInBounds_toArray, List.set_cons_zero, List.set_cons_succ]
                refine Ru.wpAnyU_ready (rs := [15]) (by kernel_rfl) (by simp) ?_
                refine Ru.AllReadyU.cons2 rfl (by kernel_rfl) (fun K hK => ?_) Ru.AllReadyU.nil
                refine Ru.stepC isNum (by kernel_rfl) _ _ (by rfl) gb _ [.bool (decide (r < 0)), .slice q4 q5 q6] (by rw [hgb]; rfl) (by rfl) rB rfl rfl (one2 _ _ _ _) ?_
                have vB := var_set rB iB2
                have vA2 := var_other rB vA hne [.bool (decide (r < 0)), .slice q4 q5 q6].toArray
                have BB := St.below_row BA (g := gb) lb [.bool (decide (r < 0)), .slice q4 q5 q6].toArray
                refine hK.out _ _ ?_
                clear hK K
                try simp only [Act.put, List.getElem_toArray, List.getElem_cons_zero, List.getElem_cons_succ, List.setIfInBounds_toArray, List.set_cons_zero, List.set_cons_succ]
                refine wpAny_done (by kernel_rfl) ?_ _
                subst hga hgb
                go_wp2_with fail
                go_meet
                exact ⟨_, _, rfl, rfl, vA2, vB, lb, BB⟩
              refine Ru.AllReadyU.cons rfl (by kernel_rfl) (fun K hK => ?_) ?_
              · go_simp
                have e_18 : x_1.heap.size = x_1.heap.size := by simp
                have z_18 : wl.heap.size ≤ x_1.heap.size := by have h := D_1.size; rw [e_18] at h; exact h
                have a12_18 : CRow (x_1.alloc (.cells [.bool false, .slice none 0 0].toArray 93)) (x_1.heap.size) 93 [.bool false, .slice none 0 0] := by have h := crow_new x_1 93 [.bool false, .slice none 0 0]; rw [e_18] at h; exact h
                have k_18 := below_al (Below.refl _ x_1) (.cells [.bool false, .slice none 0 0].toArray 93)
                have i1_18 := i1_1.below k_18
                have D_18 := below_tr D_1 k_18
                refine hK.out _ _ (HS.out _ D_18) (fun hHeld => ?_)
                clear hK K
                try simp only [Act.put, List.getElem_toArray, List.getElem_cons_zero, List.getElem_cons_succ, List.setIfInBounds_toArray, List.set_cons_zero, List.set_cons_succ]
                refine Ru.wpAnyU_ready (rs := [6, 13]) (by kernel_rfl) (by simp) ?_
                refine Ru.AllReadyU.cons rfl (by kernel_rfl) (fun K hK => ?_) ?_
                · go_simp
                  refine (HMu.out _ _ i1_18 (HEI.out.below D_18)).mono ?_
                  rintro e x_19 ⟨v_19, rfl, i6_19, k_19⟩
                  have D_19 := below_tr D_18 k_19
                  have y_19 : x_1.heap.size + 1 ≤ x_19.heap.size := by have h := k_19.size; simp at h; exact h
                  have i1_19 := i1_18.below k_19
                  have a12_19 := CRow.keep a12_18 k_19
                  go_wp2_with fail
                  refine hK.out _ _ (HS.out _ D_19) (fun hHeld => ?_)
                  clear hK K
                  try simp only [Act.put, List.getElem_toArray, List.getElem_cons_zero, List.getElem_cons_succ, List.setIfInBounds_toArray, List.set_cons_zero, List.set_cons_succ]
                  refine Ru.wpAnyU_ready (rs := [8, 13]) (by kernel_rfl) (by simp) ?_
                  refine Ru.AllReadyU.cons rfl (by kernel_rfl) (fun K hK => ?_) ?_
                  · go_simp
                    refine (HDi.out _ _ i6_19 (HCI.out.below D_19)).mono ?_
                    rintro e x_20 ⟨u_20, v_20, rfl, iq_20, ir_20, k_20⟩
                    have D_20 := below_tr D_19 k_20
                    have y_20 : x_19.heap.size ≤ x_20.heap.size := by have h := k_20.size; exact h
                    have i1_20 := i1_19.below k_20
                    have i6_20 := i6_19.below k_20
                    have a12_20 := CRow.keep a12_19 k_20
                    go_wp2_with fail
                    refine hK.out _ _ (HS.out _ D_20) (fun hHeld => ?_)
                    clear hK K
                    try simp only [Act.put, List.getElem_toArray, List.getElem_cons_zero, List.getElem_cons_succ, List.setIfInBounds_toArray, List.set_cons_zero, List.set_cons_succ]
                    refine Ru.wpAnyU_take (i := 9) (v := .tuple #[u_20, v_20]) rfl (by kernel_rfl) (by kernel_rfl) (by kernel_rfl) (by kernel_rfl) (by kernel_rfl) (by kernel_rfl) (fun _ _ _ h => h) (Or.inl ⟨by kernel_rfl, fun w hS => by obtain ⟨sc0, sc1, sc2⟩ := hS; go_simp⟩) hHeld ?_
                    simp only [Act.put, List.getElem_toArray, List.getElem_cons_zero, List.getElem_cons_succ, List.setIfInBounds_toArray, List.set_cons_zero, List.set_cons_succ]
                    refine Ru.wpAnyU_take (i := 10) (v := u_20) rfl (by kernel_rfl) (by kernel_rfl) (by kernel_rfl) (by kernel_rfl) (by kernel_rfl) (by kernel_rfl) (fun _ _ _ h => h) (Or.inl ⟨by kernel_rfl, fun w hS => by obtain ⟨sc0, sc1, sc2⟩ := hS; go_simp⟩) hHeld ?_
                    simp only [Act.put, List.getElem_toArray, List.getElem_cons_zero, List.getElem_cons_succ, List.setIfInBounds_toArray, List.set_cons_zero, List.set_cons_succ]
                    refine Ru.wpAnyU_take (i := 11) (v := v_20) rfl (by kernel_rfl) (by kernel_rfl) (by kernel_rfl) (by kernel_rfl) (by kernel_rfl) (by kernel_rfl) (fun _ _ _ h => h) (Or.inl ⟨by kernel_rfl, fun w hS => by obtain ⟨sc0, sc1, sc2⟩ := hS; go_simp⟩) hHeld ?_
                    simp only [Act.put, List.getElem_toArray, List.getElem_cons_zero, List.getElem_cons_succ, List.setIfInBounds_toArray, List.set_cons_zero, List.set_cons_succ]
                    refine Ru.wpAnyU_ready (rs := [13]) (by kernel_rfl) (by simp) ?_
                    refine Ru.AllReadyU.cons rfl (by kernel_rfl) (fun K hK => ?_) Ru.AllReadyU.nil
                    go_simp
                    have e_21 : x_20.heap.size = x_20.heap.size := by simp
                    have z_21 : wl.heap.size ≤ x_20.heap.size := by have h := D_20.size; rw [e_21] at h; exact h
                    have a13_21 : CRow (x_20.alloc (.cells [.bool false, .slice none 0 0].toArray 93)) (x_20.heap.size) 93 [.bool false, .slice none 0 0] := by have h := crow_new x_20 93 [.bool false, .slice none 0 0]; rw [e_21] at h; exact h
                    have k_21 := below_al (Below.refl _ x_20) (.cells [.bool false, .slice none 0 0].toArray 93)
                    have i1_21 := i1_20.below k_21
                    have i6_21 := i6_20.below k_21
                    have iq_21 := iq_20.below k_21
                    have ir_21 := ir_20.below k_21
                    have a12_21 := CRow.keep a12_20 k_21
                    have D_21 := below_tr D_20 k_21
                    refine hK.out _ _ (HS.out _ D_21) (fun hHeld => ?_)
                    clear hK K
                    try simp only [Act.put, List.getElem_toArray, List.getElem_cons_zero, List.getElem_cons_succ, List.setIfInBounds_toArray, List.set_cons_zero, List.set_cons_succ]
                    obtain ⟨q1, q2, q3, e1⟩ := iq_21.form
                    obtain ⟨q4, q5, q6, e2⟩ := ir_21.form
                    subst e1 e2
                    refine Ru.wpAnyU_ready (rs := [14]) (by kernel_rfl) (by simp) ?_
                    refine Ru.AllReadyU.cons rfl (by kernel_rfl) (fun K hK => ?_) Ru.AllReadyU.nil
                    have ra := a12_21
                    have rb := a13_21
                    have iA := iq_21
                    have iB := ir_21
                    have DD := D_21
                    obtain ⟨ga, hga⟩ : ∃ q, q = x_1.heap.size := ⟨_, rfl⟩
                    obtain ⟨gb, hgb⟩ : ∃ q, q = x_20.heap.size := ⟨_, rfl⟩
                    have hne : ga ≠ gb := by omega
                    have la : wl.heap.size ≤ ga := by omega
                    have lb : wl.heap.size ≤ gb := by omega
                    rw [← hga] at ra
                    rw [← hgb] at rb
                    refine Ru.stepC isNum (by kernel_rfl) _ _ (by rfl) ga _ [.bool (decide (q < 0)), .slice q1 q2 q3] (by rw [hga]; rfl) (by rfl) ra rfl rfl (one2 _ _ _ _) ?_
                    have h9 := HS.out _ DD
                    have kb : But (· = ga) (x_20.alloc (.cells [.bool false, .slice none 0 0].toArray 93)) (World.setRow (x_20.alloc (.cells [.bool false, .slice none 0 0].toArray 93)) ga [.bool (decide (q < 0)), .slice q1 q2 q3].toArray) := ⟨rfl, rfl, rfl, by simp, fun k hk hn => setRow_other _ ga k _ hn⟩
                    have vA := var_set ra iA
                    have rB := CRow.rowOther rb (fun e => hne e.symm) [.bool (decide (q < 0)), .slice q1 q2 q3].toArray
                    have iB2 := num_but iB kb (fun b e => by rw [e]; exact crow_not ra)
                    have BA := St.below_row DD (g := ga) la [.bool (decide (q < 0)), .slice q1 q2 q3].toArray
                    refine hK.out _ _ ⟨CRow.rowOther h9.1 (by omega) _, kb.cell h9.2.1 (by show ¬ g = ga; omega), kb.cell h9.2.2 (by show ¬ g = ga; omega)⟩ (fun hHeld => ?_)
                    clear hK K
                    try simp only [Act.put, List.getElem_toArray, List.getElem_cons_zero, List.getElem_cons_succ, List.setIfInBounds_toArray, List.set_cons_zero, List.set_cons_succ]
                    refine Ru.wpAnyU_ready (rs := [15]) (by kernel_rfl) (by simp) ?_
                    refine Ru.AllReadyU.cons2 rfl (by kernel_rfl) (fun K hK => ?_) Ru.AllReadyU.nil
                    refine Ru.stepC isNum (by kernel_rfl) _ _ (by rfl) gb _ [.bool (decide (r < 0)), .slice q4 q5 q6] (by rw [hgb]; rfl) (by rfl) rB rfl rfl (one2 _ _ _ _) ?_
                    have vB := var_set rB iB2
                    have vA2 := var_other rB vA hne [.bool (decide (r < 0)), .slice q4 q5 q6].toArray
                    have BB := St.below_row BA (g := gb) lb [.bool (decide (r < 0)), .slice q4 q5 q6].toArray
                    refine hK.out _ _ ?_
                    clear hK K
                    try simp only [Act.put, List.getElem_toArray, List.getElem_cons_zero, List.getElem_cons_succ, List.setIfInBounds_toArray, List.set_cons_zero, List.set_cons_succ]
                    refine wpAny_done (by kernel_rfl) ?_ _
                    subst hga hgb
                    go_wp2_with fail
                    go_meet
                    exact ⟨_, _, rfl, rfl, vA2, vB, lb, BB⟩
                  refine Ru.AllReadyU.cons rfl (by kernel_rfl) (fun K hK => ?_) Ru.AllReadyU.nil
                  go_simp
                  have e_22 : x_19.heap.size = x_19.heap.size := by simp
                  have z_22 : wl.heap.size ≤ x_19.heap.size := by have h := D_19.size; rw [e_22] at h; exact h
                  have a13_22 : CRow (x_19.alloc (.cells [.bool false, .slice none 0 0].toArray 93)) (x_19.heap.size) 93 [.bool false, .slice none 0 0] := by have h := crow_new x_19 93 [.bool false, .slice none 0 0]; rw [e_22] at h; exact h
                  have k_22 := below_al (Below.refl _ x_19) (.cells [.bool false, .slice none 0 0].toArray 93)
                  have i1_22 := i1_19.below k_22
                  have i6_22 := i6_19.below k_22
                  have a12_22 := CRow.keep a12_19 k_22
                  have D_22 := below_tr D_19 k_22
                  refine hK.out _ _ (HS.out _ D_22) (fun hHeld => ?_)
                  clear hK K
                  try simp only [Act.put, List.getElem_toArray, List.getElem_cons_zero, List.getElem_cons_succ, List.setIfInBounds_toArray, List.set_cons_zero, List.set_cons_succ]
                  refine Ru.wpAnyU_ready (rs := [8]) (by kernel_rfl) (by simp) ?_
                  refine Ru.AllReadyU.cons rfl (by kernel_rfl) (fun K hK => ?_) Ru.AllReadyU.nil
                  go_simp
                  refine (HDi.out _ _ i6_22 (HCI.out.below D_22)).mono ?_
                  rintro e x_23 ⟨u_23, v_23, rfl, iq_23, ir_23, k_23⟩
                  have D_23 := below_tr D_22 k_23
                  have y_23 : x_19.heap.size + 1 ≤ x_23.heap.size := by have h := k_23.size; simp at h; exact h
                  have i1_23 := i1_22.below k_23
                  have i6_23 := i6_22.below k_23
                  have a12_23 := CRow.keep a12_22 k_23
                  have a13_23 := CRow.keep a13_22 k_23
                  go_wp2_with fail
                  refine hK.out _ _ (HS.out _ D_23) (fun hHeld => ?_)
                  clear hK K
                  try simp only [Act.put, List.getElem_toArray, List.getElem_cons_zero, List.getElem_cons_succ, List.setIfInBounds_toArray, List.set_cons_zero, List.set_cons_succ]
                  refine Ru.wpAnyU_take (i := 9) (v := .tuple #[u_23, v_23]) rfl (by kernel_rfl) (by kernel_rfl) (by kernel_rfl) (by kernel_rfl) (by kernel_rfl) (by kernel_rfl) (fun _ _ _ h => h) (Or.inl ⟨by kernel_rfl, fun w hS => by obtain ⟨sc0, sc1, sc2⟩ := hS; go_simp⟩) hHeld ?_
                  simp only [Act.put, List.getElem_toArray, List.getElem_cons_zero, List.getElem_cons_succ, List.setIfInBounds_toArray, List.set_cons_zero, List.set_cons_succ]
                  refine Ru.wpAnyU_take (i := 10) (v := u_23) rfl (by kernel_rfl) (by kernel_rfl) (by kernel_rfl) (by kernel_rfl) (by kernel_rfl) (by kernel_rfl) (fun _ _ _ h => h) (Or.inl ⟨by kernel_rfl, fun w hS => by obtain ⟨sc0, sc1, sc2⟩ := hS; go_simp⟩) hHeld ?_
                  simp only [Act.put, List.getElem_toArray, List.getElem_cons_zero, List.getElem_cons_succ, List.setIfInBounds_toArray, List.set_cons_zero, List.set_cons_succ]
                  refine Ru.wpAnyU_take (i := 11) (v := v_23) rfl (by kernel_rfl) (by kernel_rfl) (by kernel_rfl) (by kernel_rfl) (by kernel_rfl) (by kernel_rfl) (fun _ _ _ h => h) (Or.inl ⟨by kernel_rfl, fun w hS => by obtain ⟨sc0, sc1, sc2⟩ := hS; go_simp⟩) hHeld ?_
                  simp only [Act.put, List.getElem_toArray, List.getElem_cons_zero, List.getElem_cons_succ, List.setIfInBounds_toArray, List.set_cons_zero, List.set_cons_succ]
                  obtain ⟨q1, q2, q3, e1⟩ := iq_23.form
                  obtain ⟨q4, q5, q6, e2⟩ := ir_23.form
                  subst e1 e2
                  refine Ru.wpAnyU_ready (rs := [14]) (by kernel_rfl) (by simp) ?_
                  refine Ru.AllReadyU.cons rfl (by kernel_rfl) (fun K hK => ?_) Ru.AllReadyU.nil
                  have ra := a12_23
                  have rb := a13_23
                  have iA := iq_23
                  have iB := ir_23
                  have DD := D_23
                  obtain ⟨ga, hga⟩ : ∃ q, q = x_1.heap.size := ⟨_, rfl⟩
                  obtain ⟨gb, hgb⟩ : ∃ q, q = x_19.heap.size := ⟨_, rfl⟩
                  have hne : ga ≠ gb := by omega
                  have la : wl.heap.size ≤ ga := by omega
                  have lb : wl.heap.size ≤ gb := by omega
                  rw [← hga] at ra
                  rw [← hgb] at rb
                  refine Ru.stepC isNum (by kernel_rfl) _ _ (by rfl) ga _ [.bool (decide (q < 0)), .slice q1 q2 q3] (by rw [hga]; rfl) (by rfl) ra rfl rfl (one2 _ _ _ _) ?_
                  have h9 := HS.out _ DD
                  have kb : But (· = ga) x_23 (World.setRow x_23 ga [.bool (decide (q < 0)), .slice q1 q2 q3].toArray) := ⟨rfl, rfl, rfl, by simp, fun k hk hn => setRow_other _ ga k _ hn⟩
                  have vA := var_set ra iA
                  have rB := CRow.rowOther rb (fun e => hne e.symm) [.bool (decide (q < 0)), .slice q1 q2 q3].toArray
                  have iB2 := num_but iB kb (fun b e => by rw [e]; exact crow_not ra)
                  have BA := St.below_row DD (g := ga) la [.bool (decide (q < 0)), .slice q1 q2 q3].toArray
                  refine hK.out _ _ ⟨CRow.rowOther h9.1 (by omega) _, kb.cell h9.2.1 (by show ¬ g = ga; omega), kb.cell h9.2.2 (by show ¬ g = ga; omega)⟩ (fun hHeld => ?_)
                  clear hK K
                  try simp only [Act.put, List.getElem_toArray, List.getElem_cons_zero, List.getElem_cons_succ, List.setIfInBounds_toArray, List.set_cons_zero, List.set_cons_succ]
                  refine Ru.wpAnyU_ready (rs := [15]) (by kernel_rfl) (by simp) ?_
                  refine Ru.AllReadyU.cons2 rfl (by kernel_rfl) (fun K hK => ?_) Ru.AllReadyU.nil
                  refine Ru.stepC isNum (by kernel_rfl) _ _ (by rfl) gb _ [.bool (decide (r < 0)), .slice q4 q5 q6] (by rw [hgb]; rfl) (by rfl) rB rfl rfl (one2 _ _ _ _) ?_
                  have vB := var_set rB iB2
                  have vA2 := var_other rB vA hne [.bool (decide (r < 0)), .slice q4 q5 q6].toArray
                  have BB := St.below_row BA (g := gb) lb [.bool (decide (r < 0)), .slice q4 q5 q6].toArray
                  refine hK.out _ _ ?_
                  clear hK K
                  try simp only [Act.put, List.getElem_toArray, List.getElem_cons_zero, List.getElem_cons_succ, List.setIfInBounds_toArray, List.set_cons_zero, List.set_cons_succ]
                  refine wpAny_done (by kernel_rfl) ?_ _
                  subst hga hgb
                  go_wp2_with fail
                  go_meet
                  exact ⟨_, _, rfl, rfl, vA2, vB, lb, BB⟩
                refine Ru.AllReadyU.cons rfl (by kernel_rfl) (fun K hK => ?_) Ru.AllReadyU.nil
                go_simp
                have e_24 : (x_1.alloc (.cells [.bool false, .slice none 0 0].toArray 93)).heap.size = x_1.heap.size + 1 := by simp
                have z_24 : wl.heap.size ≤ x_1.heap.size + 1 := by have h := D_18.size; rw [e_24] at h; exact h
                have a13_24 : CRow ((x_1.alloc (.cells [.bool false, .slice none 0 0].toArray 93)).alloc (.cells [.bool false, .slice none 0 0].toArray 93)) (x_1.heap.size + 1) 93 [.bool false, .slice none 0 0] := by have h := crow_new (x_1.alloc (.cells [.bool false, .slice none 0 0].toArray 93)) 93 [.bool false, .slice none 0 0]; rw [e_24] at h; exact h
                have k_24 := below_al (Below.refl _ (x_1.alloc (.cells [.bool false, .slice none 0 0].toArray 93))) (.cells [.bool false, .slice none 0 0].toArray 93)
                have i1_24 := i1_18.below k_24
                have a12_24 := CRow.keep a12_18 k_24
                have D_24 := below_tr D_18 k_24
                refine hK.out _ _ (HS.out _ D_24) (fun hHeld => ?_)
                clear hK K
                try simp only [Act.put, List.getElem_toArray, List.getElem_cons_zero, List.getElem_cons_succ, List.setIfInBounds_toArray, List.set_cons_zero, List.set_cons_succ]
                refine Ru.wpAnyU_ready (rs := [6]) (by kernel_rfl) (by simp) ?_
                refine Ru.AllReadyU.cons rfl (by kernel_rfl) (fun K hK => ?_) Ru.AllReadyU.nil
                go_simp
                refine (HMu.out _ _ i1_24 (HEI.out.below D_24)).mono ?_
                rintro e x_25 ⟨v_25, rfl, i6_25, k_25⟩
                have D_25 := below_tr D_24 k_25
                have y_25 : x_1.heap.size + 2 ≤ x_25.heap.size := by have h := k_25.size; simp at h; exact h
                have i1_25 := i1_24.below k_25
                have a12_25 := CRow.keep a12_24 k_25
                have a13_25 := CRow.keep a13_24 k_25
                go_wp2_with fail
                refine hK.out _ _ (HS.out _ D_25) (fun hHeld => ?_)
                clear hK K
                try simp only [Act.put, List.getElem_toArray, List.getElem_cons_zero, List.getElem_cons_succ, List.setIfInBounds_toArray, List.set_cons_zero, List.set_cons_succ]
                refine Ru.wpAnyU_ready (rs := [8]) (by kernel_rfl) (by simp) ?_
                refine Ru.AllReadyU.cons rfl (by kernel_rfl) (fun K hK => ?_) Ru.AllReadyU.nil
                go_simp
                refine (HDi.out _ _ i6_25 (HCI.out.below D_25)).mono ?_
                rintro e x_26 ⟨u_26, v_26, rfl, iq_26, ir_26, k_26⟩
                have D_26 := below_tr D_25 k_26
                have y_26 : x_25.heap.size ≤ x_26.heap.size := by have h := k_26.size; exact h
                have i1_26 := i1_25.below k_26
                have i6_26 := i6_25.below k_26
                have a12_26 := CRow.keep a12_25 k_26
                have a13_26 := CRow.keep a13_25 k_26
                go_wp2_with fail
                refine hK.out _ _ (HS.out _ D_26) (fun hHeld => ?_)
                clear hK K
                try simp only [Act.put, List.getElem_toArray, List.getElem_cons_zero, List.getElem_cons_succ, List.setIfInBounds_toArray, List.set_cons_zero, List.set_cons_succ]
                refine Ru.wpAnyU_take (i := 9) (v := .tuple #[u_26, v_26]) rfl (by kernel_rfl) (by kernel_rfl) (by kernel_rfl) (by kernel_rfl) (by kernel_rfl) (by kernel_rfl) (fun _ _ _ h => h) (Or.inl ⟨by kernel_rfl, fun w hS => by obtain ⟨sc0, sc1, sc2⟩ := hS; go_simp⟩) hHeld ?_
                simp only [Act.put, List.getElem_toArray, List.getElem_cons_zero, List.getElem_cons_succ, List.setIfInBounds_toArray, List.set_cons_zero, List.set_cons_succ]
                refine Ru.wpAnyU_take (i := 10) (v := u_26) rfl (by kernel_rfl) (by kernel_rfl) (by kernel_rfl) (by kernel_rfl) (by kernel_rfl) (by kernel_rfl) (fun _ _ _ h => h) (Or.inl ⟨by kernel_rfl, fun w hS => by obtain ⟨sc0, sc1, sc2⟩ := hS; go_simp⟩) hHeld ?_
                simp only [Act.put, List.getElem_toArray, List.getElem_cons_zero, List.getElem_cons_succ, List.setIfInBounds_toArray, List.set_cons_zero, List.set_cons_succ]
                refine Ru.wpAnyU_take (i := 11) (v := v_26) rfl (by kernel_rfl) (by kernel_rfl) (by kernel_rfl) (by kernel_rfl) (by kernel_rfl) (by kernel_rfl) (fun _ _ _ h => h) (Or.inl ⟨by kernel_rfl, fun w hS => by obtain ⟨sc0, sc1, sc2⟩ := hS; go_simp⟩) hHeld ?_
                simp only [Act.put, List.getElem_toArray, List.getElem_cons_zero, List.getElem_cons_succ, List.setIfInBounds_toArray, List.set_cons_zero, List.set_cons_succ]
                obtain ⟨q1, q2, q3, e1⟩ := iq_26.form
                obtain ⟨q4, q5, q6, e2⟩ := ir_26.form
                subst e1 e2
                refine Ru.wpAnyU_ready (rs := [14]) (by kernel_rfl) (by simp) ?_
                refine Ru.AllReadyU.cons rfl (by kernel_rfl) (fun K hK => ?_) Ru.AllReadyU.nil
                have ra := a12_26
                have rb := a13_26
                have iA := iq_26
                have iB := ir_26
                have DD := D_26
                obtain ⟨ga, hga⟩ : ∃ q, q = x_1.heap.size := ⟨_, rfl⟩
                obtain ⟨gb, hgb⟩ : ∃ q, q = x_1.heap.size + 1 := ⟨_, rfl⟩
                have hne : ga ≠ gb := by omega
                have la : wl.heap.size ≤ ga := by omega
                have lb : wl.heap.size ≤ gb := by omega
                rw [← hga] at ra
                rw [← hgb] at rb
                refine Ru.stepC isNum (by kernel_rfl) _ _ (by rfl) ga _ [.bool (decide (q < 0)), .slice q1 q2 q3] (by rw [hga]; rfl) (by rfl) ra rfl rfl (one2 _ _ _ _) ?_
                have h9 := HS.out _ DD
                have kb : But (· = ga) x_26 (World.setRow x_26 ga [.bool (decide (q < 0)), .slice q1 q2 q3].toArray) := ⟨rfl, rfl, rfl, by simp, fun k hk hn => setRow_other _ ga k _ hn⟩
                have vA := var_set ra iA
                have rB := CRow.rowOther rb (fun e => hne e.symm) [.bool (decide (q < 0)), .slice q1 q2 q3].toArray
                have iB2 := num_but iB kb (fun b e => by rw [e]; exact crow_not ra)
                have BA := St.below_row DD (g := ga) la [.bool (decide (q < 0)), .slice q1 q2 q3].toArray
                refine hK.out _ _ ⟨CRow.rowOther h9.1 (by omega) _, kb.cell h9.2.1 (by show ¬ g = ga; omega), kb.cell h9.2.2 (by show ¬ g = ga; omega)⟩ (fun hHeld => ?_)
                clear hK K
                try simp only [Act.put, List.getElem_toArray, List.getElem_cons_zero, List.getElem_cons_succ, List.setIfInBounds_toArray, List.set_cons_zero, List.set_cons_succ]
                refine Ru.wpAnyU_ready (rs := [15]) (by kernel_rfl) (by simp) ?_
                refine Ru.AllReadyU.cons2 rfl (by kernel_rfl) (fun K hK => ?_) Ru.AllReadyU.nil
                refine Ru.stepC isNum (by kernel_rfl) _ _ (by rfl) gb _ [.bool (decide (r < 0)), .slice q4 q5 q6] (by rw [hgb]; rfl) (by rfl) rB rfl rfl (one2 _ _ _ _) ?_
                have vB := var_set rB iB2
                have vA2 := var_other rB vA hne [.bool (decide (r < 0)), .slice q4 q5 q6].toArray
                have BB := St.below_row BA (g := gb) lb [.bool (decide (r < 0)), .slice q4 q5 q6].toArray
                refine hK.out _ _ ?_
                clear hK K
                try simp only [Act.put, List.getElem_toArray, List.getElem_cons_zero, List.getElem_cons_succ, List.setIfInBounds_toArray, List.set_cons_zero, List.set_cons_succ]
                refine wpAny_done (by kernel_rfl) ?_ _
                subst hga hgb
                go_wp2_with fail
                go_meet
                exact ⟨_, _, rfl, rfl, vA2, vB, lb, BB⟩
              refine Ru.AllReadyU.cons rfl (by kernel_rfl) (fun K hK => ?_) Ru.AllReadyU.nil
              go_simp
              have e_27 : x_1.heap.size = x_1.heap.size := by simp
              have z_27 : wl.heap.size ≤ x_1.heap.size := by have h := D_1.size; rw [e_27] at h; exact h
              have a13_27 : CRow (x_1.alloc (.cells [.bool false, .slice none 0 0].toArray 93)) (x_1.heap.size) 93 [.bool false, .slice none 0 0] := by have h := crow_new x_1 93 [.bool false, .slice none 0 0]; rw [e_27] at h; exact h
              have k_27 := below_al (Below.refl _ x_1) (.cells [.bool false, .slice none 0 0].toArray 93)
              have i1_27 := i1_1.below k_27
              have D_27 := below_tr D_1 k_27
              refine hK.out _ _ (HS.out _ D_27) (fun hHeld => ?_)
              clear hK K
              try simp only [Act.put, List.getElem_toArray, List.getElem_cons_zero, List.getElem_cons_succ, List.setIfInBounds_toArray, List.set_cons_zero, List.set_cons_succ]
              refine Ru.wpAnyU_ready (rs := [6, 12]) (by kernel_rfl) (by simp) ?_
              refine Ru.AllReadyU.cons rfl (by kernel_rfl) (fun K hK => ?_) ?_
              · go_simp
                refine (HMu.out _ _ i1_27 (HEI.out.below D_27)).mono ?_
                rintro e x_28 ⟨v_28, rfl, i6_28, k_28⟩
                have D_28 := below_tr D_27 k_28
                have y_28 : x_1.heap.size + 1 ≤ x_28.heap.size := by have h := k_28.size; simp at h; exact h
                have i1_28 := i1_27.below k_28
                have a13_28 := CRow.keep a13_27 k_28
                go_wp2_with fail
                refine hK.out _ _ (HS.out _ D_28) (fun hHeld => ?_)
                clear hK K
                try simp only [Act.put, List.getElem_toArray, List.getElem_cons_zero, List.getElem_cons_succ, List.setIfInBounds_toArray, List.set_cons_zero, List.set_cons_succ]
                refine Ru.wpAnyU_ready (rs := [8, 12]) (by kernel_rfl) (by simp) ?_
                refine Ru.AllReadyU.cons rfl (by kernel_rfl) (fun K hK => ?_) ?_
                · go_simp
                  refine (HDi.out _ _ i6_28 (HCI.out.below D_28)).mono ?_
                  rintro e x_29 ⟨u_29, v_29, rfl, iq_29, ir_29, k_29⟩
                  have D_29 := below_tr D_28 k_29
                  have y_29 : x_28.heap.size ≤ x_29.heap.size := by have h := k_29.size; exact h
                  have i1_29 := i1_28.below k_29
                  have i6_29 := i6_28.below k_29
                  have a13_29 := CRow.keep a13_28 k_29
                  go_wp2_with fail
                  refine hK.out _ _ (HS.out _ D_29) (fun hHeld => ?_)
                  clear hK K
                  try simp only [Act.put, List.getElem_toArray, List.getElem_cons_zero, List.getElem_cons_succ, List.setIfInBounds_toArray, List.set_cons_zero, List.set_cons_succ]
                  refine Ru.wpAnyU_take (i := 9) (v := .tuple #[u_29, v_29]) rfl (by kernel_rfl) (by kernel_rfl) (by kernel_rfl) (by kernel_rfl) (by kernel_rfl) (by kernel_rfl) (fun _ _ _ h => h) (Or.inl ⟨by kernel_rfl, fun w hS => by obtain ⟨sc0, sc1, sc2⟩ := hS; go_simp⟩) hHeld ?_
                  simp only [Act.put, List.getElem_toArray, List.getElem_cons_zero, List.getElem_cons_succ, List.setIfInBounds_toArray, List.set_cons_zero, List.set_cons_succ]
                  refine Ru.wpAnyU_take (i := 10) (v := u_29) rfl (by kernel_rfl) (by kernel_rfl) (by kernel_rfl) (by kernel_rfl) (by kernel_rfl) (by kernel_rfl) (fun _ _ _ h => h) (Or.inl ⟨by kernel_rfl, fun w hS => by obtain ⟨sc0, sc1, sc2⟩ := hS; go_simp⟩) hHeld ?_
                  simp only [Act.put, List.getElem_toArray, List.getElem_cons_zero, List.getElem_cons_succ, List.setIfInBounds_toArray, List.set_cons_zero, List.set_cons_succ]
                  refine Ru.wpAnyU_take (i := 11) (v := v_29) rfl (by kernel_rfl) (by kernel_rfl) (by kernel_rfl) (by kernel_rfl) (by kernel_rfl) (by kernel_rfl) (fun _ _ _ h => h) (Or.inl ⟨by kernel_rfl, fun w hS => by obtain ⟨sc0, sc1, sc2⟩ := hS; go_simp⟩) hHeld ?_
                  simp only [Act.put, List.getElem_toArray, List.getElem_cons_zero, List.getElem_cons_succ, List.setIfInBounds_toArray, List.set_cons_zero, List.set_cons_succ]
                  refine Ru.wpAnyU_ready (rs := [12]) (by kernel_rfl) (by simp) ?_
                  refine Ru.AllReadyU.cons rfl (by kernel_rfl) (fun K hK => ?_) Ru.AllReadyU.nil
                  go_simp
                  have e_30 : x_29.heap.size = x_29.heap.size := by simp
                  have z_30 : wl.heap.size ≤ x_29.heap.size := by have h := D_29.size; rw [e_30] at h; exact h
                  have a12_30 : CRow (x_29.alloc (.cells [.bool false, .slice none 0 0].toArray 93)) (x_29.heap.size) 93 [.bool false, .slice none 0 0] := by have h := crow_new x_29 93 [.bool false, .slice none 0 0]; rw [e_30] at h; exact h
                  have k_30 := below_al (Below.refl _ x_29) (.cells [.bool false, .slice none 0 0].toArray 93)
                  have i1_30 := i1_29.below k_30
                  have i6_30 := i6_29.below k_30
                  have iq_30 := iq_29.below k_30
                  have ir_30 := ir_29.below k_30
                  have a13_30 := CRow.keep a13_29 k_30
                  have D_30 := below_tr D_29 k_30
                  refine hK.out _ _ (HS.out _ D_30) (fun hHeld => ?_)
                  clear hK K
                  try simp only [Act.put, List.getElem_toArray, List.getElem_cons_zero, List.getElem_cons_succ, List.setIfInBounds_toArray, List.set_cons_zero, List.set_cons_succ]
                  obtain ⟨q1, q2, q3, e1⟩ := iq_30.form
                  obtain ⟨q4, q5, q6, e2⟩ := ir_30.form
                  subst e1 e2
                  refine Ru.wpAnyU_ready (rs := [14]) (by kernel_rfl) (by simp) ?_
                  refine Ru.AllReadyU.cons rfl (by kernel_rfl) (fun K hK => ?_) Ru.AllReadyU.nil
                  have ra := a12_30
                  have rb := a13_30
                  have iA := iq_30
                  have iB := ir_30
                  have DD := D_30
                  obtain ⟨ga, hga⟩ : ∃ q, q = x_29.heap.size := ⟨_, rfl⟩
                  obtain ⟨gb, hgb⟩ : ∃ q, q = x_1.heap.size := ⟨_, rfl⟩
                  have hne : ga ≠ gb := by omega
                  have la : wl.heap.size ≤ ga := by omega
                  have lb : wl.heap.size ≤ gb := by omega
                  rw [← hga] at ra
                  rw [← hgb] at rb
                  refine Ru.stepC isNum (by kernel_rfl) _ _ (by rfl) ga _ [.bool (decide (q < 0)), .slice q1 q2 q3] (by rw [hga]; rfl) (by rfl) ra rfl rfl (one2 _ _ _ _) ?_
                  have h9 := HS.out _ DD
                  have kb : But (· = ga) (x_29.alloc (.cells [.bool false, .slice none 0 0].toArray 93)) (World.setRow (x_29.alloc (.cells [.bool false, .slice none 0 0].toArray 93)) ga [.bool (decide (q < 0)), .slice q1 q2 q3].toArray) := ⟨rfl, rfl, rfl, by simp, fun k hk hn => setRow_other _ ga k _ hn⟩
                  have vA := var_set ra iA
                  have rB := CRow.rowOther rb (fun e => hne e.symm) [.bool (decide (q < 0)), .slice q1 q2 q3].toArray
                  have iB2 := num_but iB kb (fun b e => by rw [e]; exact crow_not ra)
                  have BA := St.below_row DD (g := ga) la [.bool (decide (q < 0)), .slice q1 q2 q3].toArray
                  refine hK.out _ _ ⟨CRow.rowOther h9.1 (by omega) _, kb.cell h9.2.1 (by show ¬ g = ga; omega), kb.cell h9.2.2 (by show ¬ g = ga; omega)⟩ (fun hHeld => ?_)
                  clear hK K
                  try simp only [Act.put, List.getElem_toArray, List.getElem_cons_zero, List.getElem_cons_succ, List.setIfInBounds_toArray, List.set_cons_zero, List.set_cons_succ]
                  refine Ru.wpAnyU_ready (rs := [15]) (by kernel_rfl) (by simp) ?_
                  refine Ru.AllReadyU.cons2 rfl (by kernel_rfl) (fun K hK => ?_) Ru.AllReadyU.nil
                  refine Ru.stepC isNum (by kernel_rfl) _ _ (by rfl) gb _ [.bool (decide (r < 0)), .slice q4 q5 q6] (by rw [hgb]; rfl) (by rfl) rB rfl rfl (one2 _ _ _ _) ?_
                  have vB := var_set rB iB2
                  have vA2 := var_other rB vA hne [.bool (decide (r < 0)), .slice q4 q5 q6].toArray
                  have BB := St.below_row BA (g := gb) lb [.bool (decide (r < 0)), .slice q4 q5 q6].toArray
                  refine hK.out _ _ ?_
                  clear hK K
                  try simp only [Act.put, List.getElem_toArray, List.getElem_cons_zero, List.getElem_cons_succ, List.setIfInBounds_toArray, List.set_cons_zero, List.set_cons_succ]
                  refine wpAny_done (by kernel_rfl) ?_ _
                  subst hga hgb
                  go_wp2_with fail
                  go_meet
                  exact ⟨_, _, rfl, rfl, vA2, vB, lb, BB⟩
                refine Ru.AllReadyU.cons rfl (by kernel_rfl) (fun K hK => ?_) Ru.AllReadyU.nil
                go_simp
                have e_31 : x_28.heap.size = x_28.heap.size := by simp
                have z_31 : wl.heap.size ≤ x_28.heap.size := by have h := D_28.size; rw [e_31] at h; exact h
                have a12_31 : CRow (x_28.alloc (.cells [.bool false, .slice none 0 0].toArray 93)) (x_28.heap.size) 93 [.bool false, .slice none 0 0] := by have h := crow_new x_28 93 [.bool false, .slice none 0 0]; rw [e_31] at h; exact h
                have k_31 := below_al (Below.refl _ x_28) (.cells [.bool false, .slice none 0 0].toArray 93)
                have i1_31 := i1_28.below k_31
                have i6_31 := i6_28.below k_31
                have a13_31 := CRow.keep a13_28 k_31
                have D_31 := below_tr D_28 k_31
                refine hK.out _ _ (HS.out _ D_31) (fun hHeld => ?_)
                clear hK K
                try simp only [Act.put, List.getElem_toArray, List.getElem_cons_zero, List.getElem_cons_succ, List.setIfInBounds_toArray, List.set_cons_zero, List.set_cons_succ]
                refine Ru.wpAnyU_ready (rs := [8]) (by kernel_rfl) (by simp) ?_
                refine Ru.AllReadyU.cons rfl (by kernel_rfl) (fun K hK => ?_) Ru.AllReadyU.nil
                go_simp
                refine (HDi.out _ _ i6_31 (HCI.out.below D_31)).mono ?_
                rintro e x_32 ⟨u_32, v_32, rfl, iq_32, ir_32, k_32⟩
                have D_32 := below_tr D_31 k_32
                have y_32 : x_28.heap.size + 1 ≤ x_32.heap.size := by have h := k_32.size; simp at h; exact h
                have i1_32 := i1_31.below k_32
                have i6_32 := i6_31.below k_32
                have a12_32 := CRow.keep a12_31 k_32
                have a13_32 := CRow.keep a13_31 k_32
                go_wp2_with fail
                refine hK.out _ _ (HS.out _ D_32) (fun hHeld => ?_)
                clear hK K
                try simp only [Act.put, List.getElem_toArray, List.getElem_cons_zero, List.getElem_cons_succ, List.setIfInBounds_toArray, List.set_cons_zero, List.set_cons_succ]
                refine Ru.wpAnyU_take (i := 9) (v := .tuple #[u_32, v_32]) rfl (by kernel_rfl) (by kernel_rfl) (by kernel_rfl) (by kernel_rfl) (by kernel_rfl) (by kernel_rfl) (fun _ _ _ h => h) (Or.inl ⟨by kernel_rfl, fun w hS => by obtain ⟨sc0, sc1, sc2⟩ := hS; go_simp⟩) hHeld ?_
                simp only [Act.put, List.getElem_toArray, List.getElem_cons_zero, List.getElem_cons_succ, List.setIfInBounds_toArray, List.set_cons_zero, List.set_cons_succ]
                refine Ru.wpAnyU_take (i := 10) (v := u_32) rfl (by kernel_rfl) (by kernel_rfl) (by kernel_rfl) (by kernel_rfl) (by kernel_rfl) (by kernel_rfl) (fun _ _ _ h => h) (Or.inl ⟨by kernel_rfl, fun w hS => by obtain ⟨sc0, sc1, sc2⟩ := hS; go_simp⟩) hHeld ?_
                simp only [Act.put, List.getElem_toArray, List.getElem_cons_zero, List.getElem_cons_succ, List.setIfInBounds_toArray, List.set_cons_zero, List.set_cons_succ]
                refine Ru.wpAnyU_take (i := 11) (v := v_32) rfl (by kernel_rfl) (by kernel_rfl) (by kernel_rfl) (by kernel_rfl) (by kernel_rfl) (by kernel_rfl) (fun _ _ _ h => h) (Or.inl ⟨by kernel_rfl, fun w hS => by obtain ⟨sc0, sc1, sc2⟩ := hS; go_simp⟩) hHeld ?_
                simp only [Act.put, List.getElem_toArray, List.getElem_cons_zero, List.getElem_cons_succ, List.setIfInBounds_toArray, List.set_cons_zero, List.set_cons_succ]
                obtain ⟨q1, q2, q3, e1⟩ := iq_32.form
                obtain ⟨q4, q5, q6, e2⟩ := ir_32.form
                subst e1 e2
                refine Ru.wpAnyU_ready (rs := [14]) (by kernel_rfl) (by simp) ?_
                refine Ru.AllReadyU.cons rfl (by kernel_rfl) (fun K hK => ?_) Ru.AllReadyU.nil
                have ra := a12_32
                have rb := a13_32
                have iA := iq_32
                have iB := ir_32
                have DD := D_32
                obtain ⟨ga, hga⟩ : ∃ q, q = x_28.heap.size := ⟨_, rfl⟩
                obtain ⟨gb, hgb⟩ : ∃ q, q = x_1.heap.size := ⟨_, rfl⟩
                have hne : ga ≠ gb := by omega
                have la : wl.heap.size ≤ ga := by omega
                have lb : wl.heap.size ≤ gb := by omega
                rw [← hga] at ra
                rw [← hgb] at rb
                refine Ru.stepC isNum (by kernel_rfl) _ _ (by rfl) ga _ [.bool (decide (q < 0)), .slice q1 q2 q3] (by rw [hga]; rfl) (by rfl) ra rfl rfl (one2 _ _ _ _) ?_
                have h9 := HS.out _ DD
                have kb : But (· = ga) x_32 (World.setRow x_32 ga [.bool (decide (q < 0)), .slice q1 q2 q3].toArray) := ⟨rfl, rfl, rfl, by simp, fun k hk hn => setRow_other _ ga k _ hn⟩
                have vA := var_set ra iA
                have rB := CRow.rowOther rb (fun e => hne e.symm) [.bool (decide (q < 0)), .slice q1 q2 q3].toArray
                have iB2 := num_but iB kb (fun b e => by rw [e]; exact crow_not ra)
                have BA := St.below_row DD (g := ga) la [.bool (decide (q < 0)), .slice q1 q2 q3].toArray
                refine hK.out _ _ ⟨CRow.rowOther h9.1 (by omega) _, kb.cell h9.2.1 (by show ¬ g = ga; omega), kb.cell h9.2.2 (by show ¬ g = ga; omega)⟩ (fun hHeld => ?_)
                clear hK K
                try simp only [Act.put, List.getElem_toArray, List.getElem_cons_zero, List.getElem_cons_succ, List.setIfInBounds_toArray, List.set_cons_zero, List.set_cons_succ]
                refine Ru.wpAnyU_ready (rs := [15]) (by kernel_rfl) (by simp) ?_
                refine Ru.AllReadyU.cons2 rfl (by kernel_rfl) (fun K hK => ?_) Ru.AllReadyU.nil
                refine Ru.stepC isNum (by kernel_rfl) _ _ (by rfl) gb _ [.bool (decide (r < 0)), .slice q4 q5 q6] (by rw [hgb]; rfl) (by rfl) rB rfl rfl (one2 _ _ _ _) ?_
                have vB := var_set rB iB2
                have vA2 := var_other rB vA hne [.bool (decide (r < 0)), .slice q4 q5 q6].toArray
                have BB := St.below_row BA (g := gb) lb [.bool (decide (r < 0)), .slice q4 q5 q6].toArray
                refine hK.out _ _ ?_
                clear hK K
                try simp only [Act.put, List.getElem_toArray, List.getElem_cons_zero, List.getElem_cons_succ, List.setIfInBounds_toArray, List.set_cons_zero, List.set_cons_succ]
                refine wpAny_done (by kernel_rfl) ?_ _
                subst hga hgb
                go_wp2_with fail
                go_meet
                exact ⟨_, _, rfl, rfl, vA2, vB, lb, BB⟩
              refine Ru.AllReadyU.cons rfl (by kernel_rfl) (fun K hK => ?_) Ru.AllReadyU.nil
              go_simp
              have e_33 : (x_1.alloc (.cells [.bool false, .slice none 0 0].toArray 93)).heap.size = x_1.heap.size + 1 := by simp
              have z_33 : wl.heap.size ≤ x_1.heap.size + 1 := by have h := D_27.size; rw [e_33] at h; exact h
              have a12_33 : CRow ((x_1.alloc (.cells [.bool false, .slice none 0 0].toArray 93)).alloc (.cells [.bool false, .slice none 0 0].toArray 93)) (x_1.heap.size + 1) 93 [.bool false, .slice none 0 0] := by have h := crow_new (x_1.alloc (.cells [.bool false, .slice none 0 0].toArray 93)) 93 [.bool false, .slice none 0 0]; rw [e_33] at h; exact h
              have k_33 := below_al (Below.refl _ (x_1.alloc (.cells [.bool false, .slice none 0 0].toArray 93))) (.cells [.bool false, .slice none 0 0].toArray 93)
              have i1_33 := i1_27.below k_33
              have a13_33 := CRow.keep a13_27 k_33
              have D_33 := below_tr D_27 k_33
              refine hK.out _ _ (HS.out _ D_33) (fun hHeld => ?_)
              clear hK K
              try simp only [Act.put, List.getElem_toArray, List.getElem_cons_zero, List.getElem_cons_succ, List.setIfInBounds_toArray, List.set_cons_zero, List.set_cons_succ]
              refine Ru.wpAnyU_ready (rs := [6]) (by kernel_rfl) (by simp) ?_
              refine Ru.AllReadyU.cons rfl (by kernel_rfl) (fun K hK => ?_) Ru.AllReadyU.nil
              go_simp
              refine (HMu.out _ _ i1_33 (HEI.out.below D_33)).mono ?_
              rintro e x_34 ⟨v_34, rfl, i6_34, k_34⟩
              have D_34 := below_tr D_33 k_34
              have y_34 : x_1.heap.size + 2 ≤ x_34.heap.size := by have h := k_34.size; simp at h; exact h
              have i1_34 := i1_33.below k_34
              have a12_34 := CRow.keep a12_33 k_34
              have a13_34 := CRow.keep a13_33 k_34
              go_wp2_with fail
              refine hK.out _ _ (HS.out _ D_34) (fun hHeld => ?_)
              clear hK K
              try simp only [Act.put, List.getElem_toArray, List.getElem_cons_zero, List.getElem_cons_succ, List.setIfInBounds_toArray, List.set_cons_zero, List.set_cons_succ]
              refine Ru.wpAnyU_ready (rs := [8]) (by kernel_rfl) (by simp) ?_
              refine Ru.AllReadyU.cons rfl (by kernel_rfl) (fun K hK => ?_) Ru.AllReadyU.nil
              go_simp
              refine (HDi.out _ _ i6_34 (HCI.out.below D_34)).mono ?_
              rintro e x_35 ⟨u_35, v_35, rfl, iq_35, ir_35, k_35⟩
              have D_35 := below_tr D_34 k_35
              have y_35 : x_34.heap.size ≤ x_35.heap.size := by have h := k_35.size; exact h
              have i1_35 := i1_34.below k_35
              have i6_35 := i6_34.below k_35
              have a12_35 := CRow.keep a12_34 k_35
              have a13_35 := CRow.keep a13_34 k_35
              go_wp2_with fail
              refine hK.out _ _ (HS.out _ D_35) (fun hHeld => ?_)
              clear hK K
              try simp only [Act.put, List.getElem_toArray, List.getElem_cons_zero, List.getElem_cons_succ, List.setIfInBounds_toArray, List.set_cons_zero, List.set_cons_succ]
              refine Ru.wpAnyU_take (i := 9) (v := .tuple #[u_35, v_35]) rfl (by kernel_rfl) (by kernel_rfl) (by kernel_rfl) (by kernel_rfl) (by kernel_rfl) (by kernel_rfl) (fun _ _ _ h => h) (Or.inl ⟨by kernel_rfl, fun w hS => by obtain ⟨sc0, sc1, sc2⟩ := hS; go_simp⟩) hHeld ?_
              simp only [Act.put, List.getElem_toArray, List.getElem_cons_zero, List.getElem_cons_succ, List.setIfInBounds_toArray, List.set_cons_zero, List.set_cons_succ]
              refine Ru.wpAnyU_take (i := 10) (v := u_35) rfl (by kernel_rfl) (by kernel_rfl) (by kernel_rfl) (by kernel_rfl) (by kernel_rfl) (by kernel_rfl) (fun _ _ _ h => h) (Or.inl ⟨by kernel_rfl, fun w hS => by obtain ⟨sc0, sc1, sc2⟩ := hS; go_simp⟩) hHeld ?_
              simp only [Act.put, List.getElem_toArray, List.getElem_cons_zero, List.getElem_cons_succ, List.setIfInBounds_toArray, List.set_cons_zero, List.set_cons_succ]
              refine Ru.wpAnyU_take (i := 11) (v := v_35) rfl (by kernel_rfl) (by kernel_rfl) (by kernel_rfl) (by kernel_rfl) (by kernel_rfl) (by kernel_rfl) (fun _ _ _ h => h) (Or.inl ⟨by kernel_rfl, fun w hS => by obtain ⟨sc0, sc1, sc2⟩ := hS; go_simp⟩) hHeld ?_
              simp only [Act.put, List.getElem_toArray, List.getElem_cons_zero, List.getElem_cons_succ, List.setIfInBounds_toArray, List.set_cons_zero, List.set_cons_succ]
              obtain ⟨q1, q2, q3, e1⟩ := iq_35.form
              obtain ⟨q4, q5, q6, e2⟩ := ir_35.form
              subst e1 e2
              refine Ru.wpAnyU_ready (rs := [14]) (by kernel_rfl) (by simp) ?_
              refine Ru.AllReadyU.cons rfl (by kernel_rfl) (fun K hK => ?_) Ru.AllReadyU.nil
              have ra := a12_35
              have rb := a13_35
              have iA := iq_35
              have iB := ir_35
              have DD := D_35
              obtain ⟨ga, hga⟩ : ∃ q, q = x_1.heap.size + 1 := ⟨_, rfl⟩
              obtain ⟨gb, hgb⟩ : ∃ q, q = x_1.heap.size := ⟨_, rfl⟩
              have hne : ga ≠ gb := by omega
              have la : wl.heap.size ≤ ga := by omega
              have lb : wl.heap.size ≤ gb := by omega
              rw [← hga] at ra
              rw [← hgb] at rb
              refine Ru.stepC isNum (by kernel_rfl) _ _ (by rfl) ga _ [.bool (decide (q < 0)), .slice q1 q2 q3] (by rw [hga]; rfl) (by rfl) ra rfl rfl (one2 _ _ _ _) ?_
              have h9 := HS.out _ DD
              have kb : But (· = ga) x_35 (World.setRow x_35 ga [.bool (decide (q < 0)), .slice q1 q2 q3].toArray) := ⟨rfl, rfl, rfl, by simp, fun k hk hn => setRow_other _ ga k _ hn⟩
              have vA := var_set ra iA
              have rB := CRow.rowOther rb (fun e => hne e.symm) [.bool (decide (q < 0)), .slice q1 q2 q3].toArray
              have iB2 := num_but iB kb (fun b e => by rw [e]; exact crow_not ra)
              have BA := St.below_row DD (g := ga) la [.bool (decide (q < 0)), .slice q1 q2 q3].toArray
              refine hK.out _ _ ⟨CRow.rowOther h9.1 (by omega) _, kb.cell h9.2.1 (by show ¬ g = ga; omega), kb.cell h9.2.2 (by show ¬ g = ga; omega)⟩ (fun hHeld => ?_)
              clear hK K
              try simp only [Act.put, List.getElem_toArray, List.getElem_cons_zero, List.getElem_cons_succ, List.setIfInBounds_toArray, List.set_cons_zero, List.set_cons_succ]
              refine Ru.wpAnyU_ready (rs := [15]) (by kernel_rfl) (by simp) ?_
              refine Ru.AllReadyU.cons2 rfl (by kernel_rfl) (fun K hK => ?_) Ru.AllReadyU.nil
              refine Ru.stepC isNum (by kernel_rfl) _ _ (by rfl) gb _ [.bool (decide (r < 0)), .slice q4 q5 q6] (by rw [hgb]; rfl) (by rfl) rB rfl rfl (one2 _ _ _ _) ?_
              have vB := var_set rB iB2
              have vA2 := var_other rB vA hne [.bool (decide (r < 0)), .slice q4 q5 q6].toArray
              have BB := St.below_row BA (g := gb) lb [.bool (decide (r < 0)), .slice q4 q5 q6].toArray
              refine hK.out _ _ ?_
              clear hK K
              try simp only [Act.put, List.getElem_toArray, List.getElem_cons_zero, List.getElem_cons_succ, List.setIfInBounds_toArray, List.set_cons_zero, List.set_cons_succ]
              refine wpAny_done (by kernel_rfl) ?_ _
              subst hga hgb
              go_wp2_with fail
              go_meet
              exact ⟨_, _, rfl, rfl, vA2, vB, lb, BB⟩
            refine Ru.AllReadyU.cons rfl (by kernel_rfl) (fun K hK => ?_) ?_
            · go_simp
              have e_36 : wl.drew.heap.size = wl.heap.size := rfl
              have z_36 : wl.heap.size ≤ wl.heap.size := by have h := D0.size; rw [e_36] at h; exact h
              have a12_36 : CRow (wl.drew.alloc (.cells [.bool false, .slice none 0 0].toArray 93)) (wl.heap.size) 93 [.bool false, .slice none 0 0] := by have h := crow_new wl.drew 93 [.bool false, .slice none 0 0]; rw [e_36] at h; exact h
              have k_36 := below_al (Below.refl _ wl.drew) (.cells [.bool false, .slice none 0 0].toArray 93)
              have D_36 := below_tr D0 k_36
              refine hK.out _ _ (HS.out _ D_36) (fun hHeld => ?_)
              clear hK K
              try simp only [Act.put, List.getElem_toArray, List.getElem_cons_zero, List.getElem_cons_succ, List.setIfInBounds_toArray, List.set_cons_zero, List.set_cons_succ]
              refine Ru.wpAnyU_ready (rs := [1, 13]) (by kernel_rfl) (by simp) ?_
              refine Ru.AllReadyU.cons rfl (by kernel_rfl) (fun K hK => ?_) ?_
              · go_simp
                refine (HOf.out _).mono ?_
                rintro e x_37 ⟨v_37, rfl, i1_37, k_37⟩
                have D_37 := below_tr D_36 k_37
                have y_37 : wl.heap.size + 1 ≤ x_37.heap.size := by have h := k_37.size; simp at h; exact h
                have a12_37 := CRow.keep a12_36 k_37
                go_wp2_with fail
                refine hK.out _ _ (HS.out _ D_37) (fun hHeld => ?_)
                clear hK K
                try simp only [Act.put, List.getElem_toArray, List.getElem_cons_zero, List.getElem_cons_succ, List.setIfInBounds_toArray, List.set_cons_zero, List.set_cons_succ]
                refine Ru.wpAnyU_ready (rs := [6, 13]) (by kernel_rfl) (by simp) ?_
                refine Ru.AllReadyU.cons rfl (by kernel_rfl) (fun K hK => ?_) ?_
                · go_simp
                  refine (HMu.out _ _ i1_37 (HEI.out.below D_37)).mono ?_
                  rintro e x_38 ⟨v_38, rfl, i6_38, k_38⟩
                  have D_38 := below_tr D_37 k_38
                  have y_38 : x_37.heap.size ≤ x_38.heap.size := by have h := k_38.size; exact h
                  have i1_38 := i1_37.below k_38
                  have a12_38 := CRow.keep a12_37 k_38
                  go_wp2_with fail
                  refine hK.out _ _ (HS.out _ D_38) (fun hHeld => ?_)
                  clear hK K
                  try simp only [Act.put, List.getElem_toArray, List.getElem_cons_zero, List.getElem_cons_succ, List.setIfInBounds_toArray, List.set_cons_zero, List.set_cons_succ]
                  refine Ru.wpAnyU_ready (rs := [8, 13]) (by kernel_rfl) (by simp) ?_
                  refine Ru.AllReadyU.cons rfl (by kernel_rfl) (fun K hK => ?_) ?_
                  · go_simp
                    refine (HDi.out _ _ i6_38 (HCI.out.below D_38)).mono ?_
                    rintro e x_39 ⟨u_39, v_39, rfl, iq_39, ir_39, k_39⟩
                    have D_39 := below_tr D_38 k_39
                    have y_39 : x_38.heap.size ≤ x_39.heap.size := by have h := k_39.size; exact h
                    have i1_39 := i1_38.below k_39
                    have i6_39 := i6_38.below k_39
                    have a12_39 := CRow.keep a12_38 k_39
                    go_wp2_with fail
                    refine hK.out _ _ (HS.out _ D_39) (fun hHeld => ?_)
                    clear hK K
                    try simp only [Act.put, List.getElem_toArray, List.getElem_cons_zero, List.getElem_cons_succ, List.setIfInBounds_toArray, List.set_cons_zero, List.set_cons_succ]
                    refine Ru.wpAnyU_take (i := 9) (v := .tuple #[u_39, v_39]) rfl (by kernel_rfl) (by kernel_rfl) (by kernel_rfl) (by kernel_rfl) (by kernel_rfl) (by kernel_rfl) (fun _ _ _ h => h) (Or.inl ⟨by kernel_rfl, fun w hS => by obtain ⟨sc0, sc1, sc2⟩ := hS; go_simp⟩) hHeld ?_
                    simp only [Act.put, List.getElem_toArray, List.getElem_cons_zero, List.getElem_cons_succ, List.setIfInBounds_toArray, List.set_cons_zero, List.set_cons_succ]
                    refine Ru.wpAnyU_take (i := 10) (v := u_39) rfl (by kernel_rfl) (by kernel_rfl) (by kernel_rfl) (by kernel_rfl) (by kernel_rfl) (by kernel_rfl) (fun _ _ _ h => h) (Or.inl ⟨by kernel_rfl, fun w hS => by obtain ⟨sc0, sc1, sc2⟩ := hS; go_simp⟩) hHeld ?_
                    simp only [Act.put, List.getElem_toArray, List.getElem_cons_zero, List.getElem_cons_succ, List.setIfInBounds_toArray, List.set_cons_zero, List.set_cons_succ]
                    refine Ru.wpAnyU_take (i := 11) (v := v_39) rfl (by kernel_rfl) (by kernel_rfl) (by kernel_rfl) (by kernel_rfl) (by kernel_rfl) (by kernel_rfl) (fun _ _ _ h => h) (Or.inl ⟨by kernel_rfl, fun w hS => by obtain ⟨sc0, sc1, sc2⟩ := hS; go_simp⟩) hHeld ?_
                    simp only [Act.put, List.getElem_toArray, List.getElem_cons_zero, List.getElem_cons_succ, List.setIfInBounds_toArray, List.set_cons_zero, List.set_cons_succ]
                    refine Ru.wpAnyU_ready (rs := [13]) (by kernel_rfl) (by simp) ?_
                    refine Ru.AllReadyU.cons rfl (by kernel_rfl) (fun K hK => ?_) Ru.AllReadyU.nil
                    go_simp
                    have e_40 : x_39.heap.size = x_39.heap.size := by simp
                    have z_40 : wl.heap.size ≤ x_39.heap.size := by have h := D_39.size; rw [e_40] at h; exact h
                    have a13_40 : CRow (x_39.alloc (.cells [.bool false, .slice none 0 0].toArray 93)) (x_39.heap.size) 93 [.bool false, .slice none 0 0] := by have h := crow_new x_39 93 [.bool false, .slice none 0 0]; rw [e_40] at h; exact h
                    have k_40 := below_al (Below.refl _ x_39) (.cells [.bool false, .slice none 0 0].toArray 93)
                    have i1_40 := i1_39.below k_40
                    have i6_40 := i6_39.below k_40
                    have iq_40 := iq_39.below k_40
                    have ir_40 := ir_39.below k_40
                    have a12_40 := CRow.keep a12_39 k_40
                    have D_40 := below_tr D_39 k_40
                    refine hK.out _ _ (HS.out _ D_40) (fun hHeld => ?_)
                    clear hK K
                    try simp only [Act.put, List.getElem_toArray, List.getElem_cons_zero, List.getElem_cons_succ, List.setIfInBounds_toArray, List.set_cons_zero, List.set_cons_succ]
                    obtain ⟨q1, q2, q3, e1⟩ := iq_40.form
                    obtain ⟨q4, q5, q6, e2⟩ := ir_40.form
                    subst e1 e2
                    refine Ru.wpAnyU_ready (rs := [14]) (by kernel_rfl) (by simp) ?_
                    refine Ru.AllReadyU.cons rfl (by kernel_rfl) (fun K hK => ?_) Ru.AllReadyU.nil
                    have ra := a12_40
                    have rb := a13_40
                    have iA := iq_40
                    have iB := ir_40
                    have DD := D_40
                    obtain ⟨ga, hga⟩ : ∃ q, q = wl.heap.size := ⟨_, rfl⟩
                    obtain ⟨gb, hgb⟩ : ∃ q, q = x_39.heap.size := ⟨_, rfl⟩
                    have hne : ga ≠ gb := by omega
                    have la : wl.heap.size ≤ ga := by omega
                    have lb : wl.heap.size ≤ gb := by omega
                    rw [← hga] at ra
                    rw [← hgb] at rb
                    refine Ru.stepC isNum (by kernel_rfl) _ _ (by rfl) ga _ [.bool (decide (q < 0)), .slice q1 q2 q3] (by rw [hga]; rfl) (by rfl) ra rfl rfl (one2 _ _ _ _) ?_
                    have h9 := HS.out _ DD
                    have kb : But (· = ga) (x_39.alloc (.cells [.bool false, .slice none 0 0].toArray 93)) (World.setRow (x_39.alloc (.cells [.bool false, .slice none 0 0].toArray 93)) ga [.bool (decide (q < 0)), .slice q1 q2 q3].toArray) := ⟨rfl, rfl, rfl, by simp, fun k hk hn => setRow_other _ ga k _ hn⟩
                    have vA := var_set ra iA
                    have rB := CRow.rowOther rb (fun e => hne e.symm) [.bool (decide (q < 0)), .slice q1 q2 q3].toArray
                    have iB2 := num_but iB kb (fun b e => by rw [e]; exact crow_not ra)
                    have BA := St.below_row DD (g := ga) la [.bool (decide (q < 0)), .slice q1 q2 q3].toArray
                    refine hK.out _ _ ⟨CRow.rowOther h9.1 (by omega) _, kb.cell h9.2.1 (by show ¬ g = ga; omega), kb.cell h9.2.2 (by show ¬ g = ga; omega)⟩ (fun hHeld => ?_)
                    clear hK K
                    try simp only [Act.put, List.getElem_toArray, List.getElem_cons_zero, List.getElem_cons_succ, List.setIfInBounds_toArray, List.set_cons_zero, List.set_cons_succ]
                    refine Ru.wpAnyU_ready (rs := [15]) (by kernel_rfl) (by simp) ?_
                    refine Ru.AllReadyU.cons2 rfl (by kernel_rfl) (fun K hK => ?_) Ru.AllReadyU.nil
                    refine Ru.stepC isNum (by kernel_rfl) _ _ (by rfl) gb _ [.bool (decide (r < 0)), .slice q4 q5 q6] (by rw [hgb]; rfl) (by rfl) rB rfl rfl (one2 _ _ _ _) ?_
                    have vB := var_set rB iB2
                    have vA2 := var_other rB vA hne [.bool (decide (r < 0)), .slice q4 q5 q6].toArray
                    have BB := St.below_row BA (g := gb) lb [.bool (decide (r < 0)), .slice q4 q5 q6].toArray
                    refine hK.out _ _ ?_
                    clear hK K
                    try simp only [Act.put, List.getElem_toArray, List.getElem_cons_zero, List.getElem_cons_succ, List.setIfInBounds_toArray, List.set_cons_zero, List.set_cons_succ]
                    refine wpAny_done (by kernel_rfl) ?_ _
                    subst hga hgb
                    go_wp2_with fail
                    go_meet
                    exact ⟨_, _, rfl, rfl, vA2, vB, lb, BB⟩
                  refine Ru.AllReadyU.cons rfl (by kernel_rfl) (fun K hK => ?_) Ru.AllReadyU.nil
                  go_simp
                  have e_41 : x_38.heap.size = x_38.heap.size := by simp
                  have z_41 : wl.heap.size ≤ x_38.heap.size := by have h := D_38.size; rw [e_41] at h; exact h
                  have a13_41 : CRow (x_38.alloc (.cells [.bool false, .slice none 0 0].toArray 93)) (x_38.heap.size) 93 [.bool false, .slice none 0 0] := by have h := crow_new x_38 93 [.bool false, .slice none 0 0]; rw [e_41] at h; exact h
                  have k_41 := below_al (Below.refl _ x_38) (.cells [.bool false, .slice none 0 0].toArray 93)
                  have i1_41 := i1_38.below k_41
                  have i6_41 := i6_38.below k_41
                  have a12_41 := CRow.keep a12_38 k_41
                  have D_41 := below_tr D_38 k_41
                  refine hK.out _ _ (HS.out _ D_41) (fun hHeld => ?_)
                  clear hK K
                  try simp only [Act.put, List.getElem_toArray, List.getElem_cons_zero, List.getElem_cons_succ, List.setIfInBounds_toArray, List.set_cons_zero, List.set_cons_succ]
                  refine Ru.wpAnyU_ready (rs := [8]) (by kernel_rfl) (by simp) ?_
                  refine Ru.AllReadyU.cons rfl (by kernel_rfl) (fun K hK => ?_) Ru.AllReadyU.nil
                  go_simp
                  refine (HDi.out _ _ i6_41 (HCI.out.below D_41)).mono ?_
                  rintro e x_42 ⟨u_42, v_42, rfl, iq_42, ir_42, k_42⟩
                  have D_42 := below_tr D_41 k_42
                  have y_42 : x_38.heap.size + 1 ≤ x_42.heap.size := by have h := k_42.size; simp at h; exact h
                  have i1_42 := i1_41.below k_42
                  have i6_42 := i6_41.below k_42
                  have a12_42 := CRow.keep a12_41 k_42
                  have a13_42 := CRow.keep a13_41 k_42
                  go_wp2_with fail
                  refine hK.out _ _ (HS.out _ D_42) (fun hHeld => ?_)
                  clear hK K
                  try simp only [Act.put, List.getElem_toArray, List.getElem_cons_zero, List.getElem_cons_succ, List.setIfInBounds_toArray, List.set_cons_zero, List.set_cons_succ]
                  refine Ru.wpAnyU_take (i := 9) (v := .tuple #[u_42, v_42]) rfl (by kernel_rfl) (by kernel_rfl) (by kernel_rfl) (by kernel_rfl) (by kernel_rfl) (by kernel_rfl) (fun _ _ _ h => h) (Or.inl ⟨by kernel_rfl, fun w hS => by obtain ⟨sc0, sc1, sc2⟩ := hS; go_simp⟩) hHeld ?_
                  simp only [Act.put, List.getElem_toArray, List.getElem_cons_zero, List.getElem_cons_succ, List.setIfInBounds_toArray, List.set_cons_zero, List.set_cons_succ]
                  refine Ru.wpAnyU_take (i := 10) (v := u_42) rfl (by kernel_rfl) (by kernel_rfl) (by kernel_rfl) (by kernel_rfl) (by kernel_rfl) (by kernel_rfl) (fun _ _ _ h => h) (Or.inl ⟨by kernel_rfl, fun w hS => by obtain ⟨sc0, sc1, sc2⟩ := hS; go_simp⟩) hHeld ?_
                  simp only [Act.put, List.getElem_toArray, List.getElem_cons_zero, List.getElem_cons_succ, List.setIfInBounds_toArray, List.set_cons_zero, List.set_cons_succ]
                  refine Ru.wpAnyU_take (i := 11) (v := v_42) rfl (by kernel_rfl) (by kernel_rfl) (by kernel_rfl) (by kernel_rfl) (by kernel_rfl) (by kernel_rfl) (fun _ _ _ h => h) (Or.inl ⟨by kernel_rfl, fun w hS => by obtain ⟨sc0, sc1, sc2⟩ := hS; go_simp⟩) hHeld ?_
                  simp only [Act.put, List.getElem_toArray, List.getElem_cons_zero, List.getElem_cons_succ, List.setIfInBounds_toArray, List.set_cons_zero, List.set_cons_succ]
                  obtain ⟨q1, q2, q3, e1⟩ := iq_42.form
                  obtain ⟨q4, q5, q6, e2⟩ := ir_42.form
                  subst e1 e2
                  refine Ru.wpAnyU_ready (rs := [14]) (by kernel_rfl) (by simp) ?_
                  refine Ru.AllReadyU.cons rfl (by kernel_rfl) (fun K hK => ?_) Ru.AllReadyU.nil
                  have ra := a12_42
                  have rb := a13_42
                  have iA := iq_42
                  have iB := ir_42
                  have DD := D_42
                  obtain ⟨ga, hga⟩ : ∃ q, q = wl.heap.size := ⟨_, rfl⟩
                  obtain ⟨gb, hgb⟩ : ∃ q, q = x_38.heap.size := ⟨_, rfl⟩
                  have hne : ga ≠ gb := by omega
                  have la : wl.heap.size ≤ ga := by omega
                  have lb : wl.heap.size ≤ gb := by omega
                  rw [← hga] at ra
                  rw [← hgb] at rb
                  refine Ru.stepC isNum (by kernel_rfl) _ _ (by rfl) ga _ [.bool (decide (q < 0)), .slice q1 q2 q3] (by rw [hga]; rfl) (by rfl) ra rfl rfl (one2 _ _ _ _) ?_
                  have h9 := HS.out _ DD
                  have kb : But (· = ga) x_42 (World.setRow x_42 ga [.bool (decide (q < 0)), .slice q1 q2 q3].toArray) := ⟨rfl, rfl, rfl, by simp, fun k hk hn => setRow_other _ ga k _ hn⟩
                  have vA := var_set ra iA
                  have rB := CRow.rowOther rb (fun e => hne e.symm) [.bool (decide (q < 0)), .slice q1 q2 q3].toArray
                  have iB2 := num_but iB kb (fun b e => by rw [e]; exact crow_not ra)
                  have BA := St.below_row DD (g := ga) la [.bool (decide (q < 0)), .slice q1 q2 q3].toArray
                  refine hK.out _ _ ⟨CRow.rowOther h9.1 (by omega) _, kb.cell h9.2.1 (by show ¬ g = ga; omega), kb.cell h9.2.2 (by show ¬ g = ga; omega)⟩ (fun hHeld => ?_)
                  clear hK K
                  try simp only [Act.put, List.getElem_toArray, List.getElem_cons_zero, List.getElem_cons_succ, List.setIfInBounds_toArray, List.set_cons_zero, List.set_cons_succ]
                  refine Ru.wpAnyU_ready (rs := [15]) (by kernel_rfl) (by simp) ?_
                  refine Ru.AllReadyU.cons2 rfl (by kernel_rfl) (fun K hK => ?_) Ru.AllReadyU.nil
                  refine Ru.stepC isNum (by kernel_rfl) _ _ (by rfl) gb _ [.bool (decide (r < 0)), .slice q4 q5 q6] (by rw [hgb]; rfl) (by rfl) rB rfl rfl (one2 _ _ _ _) ?_
                  have vB := var_set rB iB2
                  have vA2 := var_other rB vA hne [.bool (decide (r < 0)), .slice q4 q5 q6].toArray
                  have BB := St.below_row BA (g := gb) lb [.bool (decide (r < 0)), .slice q4 q5 q6].toArray
                  refine hK.out _ _ ?_
                  clear hK K
                  try simp only [Act.put, List.getElem_toArray, List.getElem_cons_zero, List.getElem_cons_succ, List.setIfInBounds_toArray, List.set_cons_zero, List.set_cons_succ]
                  refine wpAny_done (by kernel_rfl) ?_ _
                  subst hga hgb
                  go_wp2_with fail
                  go_meet
                  exact ⟨_, _, rfl, rfl, vA2, vB, lb, BB⟩
                refine Ru.AllReadyU.cons rfl (by kernel_rfl) (fun K hK => ?_) Ru.AllReadyU.nil
                go_simp
                have e_43 : x_37.heap.size = x_37.heap.size := by simp
                have z_43 : wl.heap.size ≤ x_37.heap.size := by have h := D_37.size; rw [e_43] at h; exact h
                have a13_43 : CRow (x_37.alloc (.cells [.bool false, .slice none 0 0].toArray 93)) (x_37.heap.size) 93 [.bool false, .slice none 0 0] := by have h := crow_new x_37 93 [.bool false, .slice none 0 0]; rw [e_43] at h; exact h
                have k_43 := below_al (Below.refl _ x_37) (.cells [.bool false, .slice none 0 0].toArray 93)
                have i1_43 := i1_37.below k_43
                have a12_43 := CRow.keep a12_37 k_43
                have D_43 := below_tr D_37 k_43
                refine hK.out _ _ (HS.out _ D_43) (fun hHeld => ?_)
                clear hK K
                try simp only [Act.put, List.getElem_toArray, List.getElem_cons_zero, List.getElem_cons_succ, List.setIfInBounds_toArray, List.set_cons_zero, List.set_cons_succ]
                refine Ru.wpAnyU_ready (rs := [6]) (by kernel_rfl) (by simp) ?_
                refine Ru.AllReadyU.cons rfl (by kernel_rfl) (fun K hK => ?_) Ru.AllReadyU.nil
                go_simp
                refine (HMu.out _ _ i1_43 (HEI.out.below D_43)).mono ?_
                rintro e x_44 ⟨v_44, rfl, i6_44, k_44⟩
                have D_44 := below_tr D_43 k_44
                have y_44 : x_37.heap.size + 1 ≤ x_44.heap.size := by have h := k_44.size; simp at h; exact h
                have i1_44 := i1_43.below k_44
                have a12_44 := CRow.keep a12_43 k_44
                have a13_44 := CRow.keep a13_43 k_44
                go_wp2_with fail
                refine hK.out _ _ (HS.out _ D_44) (fun hHeld => ?_)
                clear hK K
                try simp only [Act.put, List.getElem_toArray, List.getElem_cons_zero, List.getElem_cons_succ, List.setIfInBounds_toArray, List.set_cons_zero, List.set_cons_succ]
                refine Ru.wpAnyU_ready (rs := [8]) (by kernel_rfl) (by simp) ?_
                refine Ru.AllReadyU.cons rfl (by kernel_rfl) (fun K hK => ?_) Ru.AllReadyU.nil
                go_simp
                refine (HDi.out _ _ i6_44 (HCI.out.below D_44)).mono ?_
                rintro e x_45 ⟨u_45, v_45, rfl, iq_45, ir_45, k_45⟩
                have D_45 := below_tr D_44 k_45
                have y_45 : x_44.heap.size ≤ x_45.heap.size := by have h := k_45.size; exact h
                have i1_45 := i1_44.below k_45
                have i6_45 := i6_44.below k_45
                have a12_45 := CRow.keep a12_44 k_45
                have a13_45 := CRow.keep a13_44 k_45
                go_wp2_with fail
                refine hK.out _ _ (HS.out _ D_45) (fun hHeld => ?_)
                clear hK K
                try simp only [Act.put, List.getElem_toArray, List.getElem_cons_zero, List.getElem_cons_succ, List.setIfInBounds_toArray, List.set_cons_zero, List.set_cons_succ]
                refine Ru.wpAnyU_take (i := 9) (v := .tuple #[u_45, v_45]) rfl (by kernel_rfl) (by kernel_rfl) (by kernel_rfl) (by kernel_rfl) (by kernel_rfl) (by kernel_rfl) (fun _ _ _ h => h) (Or.inl ⟨by kernel_rfl, fun w hS => by obtain ⟨sc0, sc1, sc2⟩ := hS; go_simp⟩) hHeld ?_
                simp only [Act.put, List.getElem_toArray, List.getElem_cons_zero, List.getElem_cons_succ, List.setIfInBounds_toArray, List.set_cons_zero, List.set_cons_succ]
                refine Ru.wpAnyU_take (i := 10) (v := u_45) rfl (by kernel_rfl) (by kernel_rfl) (by kernel_rfl) (by kernel_rfl) (by kernel_rfl) (by kernel_rfl) (fun _ _ _ h => h) (Or.inl ⟨by kernel_rfl, fun w hS => by obtain ⟨sc0, sc1, sc2⟩ := hS; go_simp⟩) hHeld ?_
                simp only [Act.put, List.getElem_toArray, List.getElem_cons_zero, List.getElem_cons_succ, List.setIfInBounds_toArray, List.set_cons_zero, List.set_cons_succ]
                refine Ru.wpAnyU_take (i := 11) (v := v_45) rfl (by kernel_rfl) (by kernel_rfl) (by kernel_rfl) (by kernel_rfl) (by kernel_rfl) (by kernel_rfl) (fun _ _ _ h => h) (Or.inl ⟨by kernel_rfl, fun w hS => by obtain ⟨sc0, sc1, sc2⟩ := hS; go_simp⟩) hHeld ?_
                simp only [Act.put, List.getElem_toArray, List.getElem_cons_zero, List.getElem_cons_succ, List.setIfInBounds_toArray, List.set_cons_zero, List.set_cons_succ]
                obtain ⟨q1, q2, q3, e1⟩ := iq_45.form
                obtain ⟨q4, q5, q6, e2⟩ := ir_45.form
                subst e1 e2
                refine Ru.wpAnyU_ready (rs := [14]) (by kernel_rfl) (by simp) ?_
                refine Ru.AllReadyU.cons rfl (by kernel_rfl) (fun K hK => ?_) Ru.AllReadyU.nil
                have ra := a12_45
                have rb := a13_45
                have iA := iq_45
                have iB := ir_45
                have DD := D_45
                obtain ⟨ga, hga⟩ : ∃ q, q = wl.heap.size := ⟨_, rfl⟩
                obtain ⟨gb, hgb⟩ : ∃ q, q = x_37.heap.size := ⟨_, rfl⟩
                have hne : ga ≠ gb := by omega
                have la : wl.heap.size ≤ ga := by omega
                have lb : wl.heap.size ≤ gb := by omega
                rw [← hga] at ra
                rw [← hgb] at rb
                refine Ru.stepC isNum (by kernel_rfl) _ _ (by rfl) ga _ [.bool (decide (q < 0)), .slice q1 q2 q3] (by rw [hga]; rfl) (by rfl) ra rfl rfl (one2 _ _ _ _) ?_
                have h9 := HS.out _ DD
                have kb : But (· = ga) x_45 (World.setRow x_45 ga [.bool (decide (q < 0)), .slice q1 q2 q3].toArray) := ⟨rfl, rfl, rfl, by simp, fun k hk hn => setRow_other _ ga k _ hn⟩
                have vA := var_set ra iA
                have rB := CRow.rowOther rb (fun e => hne e.symm) [.bool (decide (q < 0)), .slice q1 q2 q3].toArray
                have iB2 := num_but iB kb (fun b e => by rw [e]; exact crow_not ra)
                have BA := St.below_row DD (g := ga) la [.bool (decide (q < 0)), .slice q1 q2 q3].toArray
                refine hK.out _ _ ⟨CRow.rowOther h9.1 (by omega) _, kb.cell h9.2.1 (by show ¬ g = ga; omega), kb.cell h9.2.2 (by show ¬ g = ga; omega)⟩ (fun hHeld => ?_)
                clear hK K
                try simp only [Act.put, List.getElem_toArray, List.getElem_cons_zero, List.getElem_cons_succ, List.setIfInBounds_toArray, List.set_cons_zero, List.set_cons_succ]
                refine Ru.wpAnyU_ready (rs := [15]) (by kernel_rfl) (by simp) ?_
                refine Ru.AllReadyU.cons2 rfl (by kernel_rfl) (fun K hK => ?_) Ru.AllReadyU.nil
                refine Ru.stepC isNum (by kernel_rfl) _ _ (by rfl) gb _ [.bool (decide (r < 0)), .slice q4 q5 q6] (by rw [hgb]; rfl) (by rfl) rB rfl rfl (one2 _ _ _ _) ?_
                have vB := var_set rB iB2
                have vA2 := var_other rB vA hne [.bool (decide (r < 0)), .slice q4 q5 q6].toArray
                have BB := St.below_row BA (g := gb) lb [.bool (decide (r < 0)), .slice q4 q5 q6].toArray
                refine hK.out _ _ ?_
                clear hK K
                try simp only [Act.put, List.getElem_toArray, List.getElem_cons_zero, List.getElem_cons_succ, List.setIfInBounds_toArray, List.set_cons_zero, List.set_cons_succ]
                refine wpAny_done (by kernel_rfl) ?_ _
                subst hga hgb
                go_wp2_with fail
                go_meet
                exact ⟨_, _, rfl, rfl, vA2, vB, lb, BB⟩
              refine Ru.AllReadyU.cons rfl (by kernel_rfl) (fun K hK => ?_) Ru.AllReadyU.nil
              go_simp
              have e_46 : (wl.drew.alloc (.cells [.bool false, .slice none 0 0].toArray 93)).heap.size = wl.heap.size + 1 := by simp
              have z_46 : wl.heap.size ≤ wl.heap.size + 1 := by have h := D_36.size; rw [e_46] at h; exact h
              have a13_46 : CRow ((wl.drew.alloc (.cells [.bool false, .slice none 0 0].toArray 93)).alloc (.cells [.bool false, .slice none 0 0].toArray 93)) (wl.heap.size + 1) 93 [.bool false, .slice none 0 0] := by have h := crow_new (wl.drew.alloc (.cells [.bool false, .slice none 0 0].toArray 93)) 93 [.bool false, .slice none 0 0]; rw [e_46] at h; exact h
              have k_46 := below_al (Below.refl _ (wl.drew.alloc (.cells [.bool false, .slice none 0 0].toArray 93))) (.cells [.bool false, .slice none 0 0].toArray 93)
              have a12_46 := CRow.keep a12_36 k_46
              have D_46 := below_tr D_36 k_46
              refine hK.out _ _ (HS.out _ D_46) (fun hHeld => ?_)
              clear hK K
              try simp only [Act.put, List.getElem_toArray, List.getElem_cons_zero, List.getElem_cons_succ, List.setIfInBounds_toArray, List.set_cons_zero, List.set_cons_succ]
              refine Ru.wpAnyU_ready (rs := [1]) (by kernel_rfl) (by simp) ?_
              refine Ru.AllReadyU.cons rfl (by kernel_rfl) (fun K hK => ?_) Ru.AllReadyU.nil
              go_simp
              refine (HOf.out _).mono ?_
              rintro e x_47 ⟨v_47, rfl, i1_47, k_47⟩
              have D_47 := below_tr D_46 k_47
              have y_47 : wl.heap.size + 2 ≤ x_47.heap.size := by have h := k_47.size; simp at h; exact h
              have a12_47 := CRow.keep a12_46 k_47
              have a13_47 := CRow.keep a13_46 k_47
              go_wp2_with fail
              refine hK.out _ _ (HS.out _ D_47) (fun hHeld => ?_)
              clear hK K
              try simp only [Act.put, List.getElem_toArray, List.getElem_cons_zero, List.getElem_cons_succ, List.setIfInBounds_toArray, List.set_cons_zero, List.set_cons_succ]
              refine Ru.wpAnyU_ready (rs := [6]) (by kernel_rfl) (by simp) ?_
              refine Ru.AllReadyU.cons rfl (by kernel_rfl) (fun K hK => ?_) Ru.AllReadyU.nil
              go_simp
              refine (HMu.out _ _ i1_47 (HEI.out.below D_47)).mono ?_
              rintro e x_48 ⟨v_48, rfl, i6_48, k_48⟩
              have D_48 := below_tr D_47 k_48
              have y_48 : x_47.heap.size ≤ x_48.heap.size := by have h := k_48.size; exact h
              have i1_48 := i1_47.below k_48
              have a12_48 := CRow.keep a12_47 k_48
              have a13_48 := CRow.keep a13_47 k_48
              go_wp2_with fail
              refine hK.out _ _ (HS.out _ D_48) (fun hHeld => ?_)
              clear hK K
              try simp only [Act.put, List.getElem_toArray, List.getElem_cons_zero, List.getElem_cons_succ, List.setIfInBounds_toArray, List.set_cons_zero, List.set_cons_succ]
              refine Ru.wpAnyU_ready (rs := [8]) (by kernel_rfl) (by simp) ?_
              refine Ru.AllReadyU.cons rfl (by kernel_rfl) (fun K hK => ?_) Ru.AllReadyU.nil
              go_simp
              refine (HDi.out _ _ i6_48 (HCI.out.below D_48)).mono ?_
              rintro e x_49 ⟨u_49, v_49, rfl, iq_49, ir_49, k_49⟩
              have D_49 := below_tr D_48 k_49
              have y_49 : x_48.heap.size ≤ x_49.heap.size := by have h := k_49.size; exact h
              have i1_49 := i1_48.below k_49
              have i6_49 := i6_48.below k_49
              have a12_49 := CRow.keep a12_48 k_49
              have a13_49 := CRow.keep a13_48 k_49
              go_wp2_with fail
              refine hK.out _ _ (HS.out _ D_49) (fun hHeld => ?_)
              clear hK K
              try simp only [Act.put, List.getElem_toArray, List.getElem_cons_zero, List.getElem_cons_succ, List.setIfInBounds_toArray, List.set_cons_zero, List.set_cons_succ]
              refine Ru.wpAnyU_take (i := 9) (v := .tuple #[u_49, v_49]) rfl (by kernel_rfl) (by kernel_rfl) (by kernel_rfl) (by kernel_rfl) (by kernel_rfl) (by kernel_rfl) (fun _ _ _ h => h) (Or.inl ⟨by kernel_rfl, fun w hS => by obtain ⟨sc0, sc1, sc2⟩ := hS; go_simp⟩) hHeld ?_
              simp only [Act.put, List.getElem_toArray, List.getElem_cons_zero, List.getElem_cons_succ, List.setIfInBounds_toArray, List.set_cons_zero, List.set_cons_succ]
              refine Ru.wpAnyU_take (i := 10) (v := u_49) rfl (by kernel_rfl) (by kernel_rfl) (by kernel_rfl) (by kernel_rfl) (by kernel_rfl) (by kernel_rfl) (fun _ _ _ h => h) (Or.inl ⟨by kernel_rfl, fun w hS => by obtain ⟨sc0, sc1, sc2⟩ := hS; go_simp⟩) hHeld ?_
              simp only [Act.put, List.getElem_toArray, List.getElem_cons_zero, List.getElem_cons_succ, List.setIfInBounds_toArray, List.set_cons_zero, List.set_cons_succ]
              refine Ru.wpAnyU_take (i := 11) (v := v_49) rfl (by kernel_rfl) (by kernel_rfl) (by kernel_rfl) (by kernel_rfl) (by kernel_rfl) (by kernel_rfl) (fun _ _ _ h => h) (Or.inl ⟨by kernel_rfl, fun w hS => by obtain ⟨sc0, sc1, sc2⟩ := hS; go_simp⟩) hHeld ?_
              simp only [Act.put, List.getElem_toArray, List.getElem_cons_zero, List.getElem_cons_succ, List.setIfInBounds_toArray, List.set_cons_zero, List.set_cons_succ]
              obtain ⟨q1, q2, q3, e1⟩ := iq_49.form
              obtain ⟨q4, q5, q6, e2⟩ := ir_49.form
              subst e1 e2
              refine Ru.wpAnyU_ready (rs := [14]) (by kernel_rfl) (by simp) ?_
              refine Ru.AllReadyU.cons rfl (by kernel_rfl) (fun K hK => ?_) Ru.AllReadyU.nil
              have ra := a12_49
              have rb := a13_49
              have iA := iq_49
              have iB := ir_49
              have DD := D_49
              obtain ⟨ga, hga⟩ : ∃ q, q = wl.heap.size := ⟨_, rfl⟩
              obtain ⟨gb, hgb⟩ : ∃ q, q = wl.heap.size + 1 := ⟨_, rfl⟩
              have hne : ga ≠ gb := by omega
              have la : wl.heap.size ≤ ga := by omega
              have lb : wl.heap.size ≤ gb := by omega
              rw [← hga] at ra
              rw [← hgb] at rb
              refine Ru.stepC isNum (by kernel_rfl) _ _ (by rfl) ga _ [.bool (decide (q < 0)), .slice q1 q2 q3] (by rw [hga]; rfl) (by rfl) ra rfl rfl (one2 _ _ _ _) ?_
              have h9 := HS.out _ DD
              have kb : But (· = ga) x_49 (World.setRow x_49 ga [.bool (decide (q < 0)), .slice q1 q2 q3].toArray) := ⟨rfl, rfl, rfl, by simp, fun k hk hn => setRow_other _ ga k _ hn⟩
              have vA := var_set ra iA
              have rB := CRow.rowOther rb (fun e => hne e.symm) [.bool (decide (q < 0)), .slice q1 q2 q3].toArray
              have iB2 := num_but iB kb (fun b e => by rw [e]; exact crow_not ra)
              have BA := St.below_row DD (g := ga) la [.bool (decide (q < 0)), .slice q1 q2 q3].toArray
              refine hK.out _ _ ⟨CRow.rowOther h9.1 (by omega) _, kb.cell h9.2.1 (by show ¬ g = ga; omega), kb.cell h9.2.2 (by show ¬ g = ga; omega)⟩ (fun hHeld => ?_)
              clear hK K
              try simp only [Act.put, List.getElem_toArray, List.getElem_cons_zero, List.getElem_cons_succ, List.setIfInBounds_toArray, List.set_cons_zero, List.set_cons_succ]
              refine Ru.wpAnyU_ready (rs := [15]) (by kernel_rfl) (by simp) ?_
              refine Ru.AllReadyU.cons2 rfl (by kernel_rfl) (fun K hK => ?_) Ru.AllReadyU.nil
              refine Ru.stepC isNum (by kernel_rfl) _ _ (by rfl) gb _ [.bool (decide (r < 0)), .slice q4 q5 q6] (by rw [hgb]; rfl) (by rfl) rB rfl rfl (one2 _ _ _ _) ?_
              have vB := var_set rB iB2
              have vA2 := var_other rB vA hne [.bool (decide (r < 0)), .slice q4 q5 q6].toArray
              have BB := St.below_row BA (g := gb) lb [.bool (decide (r < 0)), .slice q4 q5 q6].toArray
              refine hK.out _ _ ?_
              clear hK K
              try simp only [Act.put, List.getElem_toArray, List.getElem_cons_zero, List.getElem_cons_succ, List.setIfInBounds_toArray, List.set_cons_zero, List.set_cons_succ]
              refine wpAny_done (by kernel_rfl) ?_ _
              subst hga hgb
              go_wp2_with fail
              go_meet
              exact ⟨_, _, rfl, rfl, vA2, vB, lb, BB⟩
            refine Ru.AllReadyU.cons rfl (by kernel_rfl) (fun K hK => ?_) Ru.AllReadyU.nil
            go_simp
            have e_50 : wl.drew.heap.size = wl.heap.size := rfl
            have z_50 : wl.heap.size ≤ wl.heap.size := by have h := D0.size; rw [e_50] at h; exact h
            have a13_50 : CRow (wl.drew.alloc (.cells [.bool false, .slice none 0 0].toArray 93)) (wl.heap.size) 93 [.bool false, .slice none 0 0] := by have h := crow_new wl.drew 93 [.bool false, .slice none 0 0]; rw [e_50] at h; exact h
            have k_50 := below_al (Below.refl _ wl.drew) (.cells [.bool false, .slice none 0 0].toArray 93)
            have D_50 := below_tr D0 k_50
            refine hK.out _ _ (HS.out _ D_50) (fun hHeld => ?_)
            clear hK K
            try simp only [Act.put, List.getElem_toArray, List.getElem_cons_zero, List.getElem_cons_succ, List.setIfInBounds_toArray, List.set_cons_zero, List.set_cons_succ]
            refine Ru.wpAnyU_ready (rs := [1, 12]) (by kernel_rfl) (by simp) ?_
            refine Ru.AllReadyU.cons rfl (by kernel_rfl) (fun K hK => ?_) ?_
            · go_simp
              refine (HOf.out _).mono ?_
              rintro e x_51 ⟨v_51, rfl, i1_51, k_51⟩
              have D_51 := below_tr D_50 k_51
              have y_51 : wl.heap.size + 1 ≤ x_51.heap.size := by have h := k_51.size; simp at h; exact h
              have a13_51 := CRow.keep a13_50 k_51
              go_wp2_with fail
              refine hK.out _ _ (HS.out _ D_51) (fun hHeld => ?_)
              clear hK K
              try simp only [Act.put, List.getElem_toArray, List.getElem_cons_zero, List.getElem_cons_succ, List.setIfInBounds_toArray, List.set_cons_zero, List.set_cons_succ]
              refine Ru.wpAnyU_ready (rs := [6, 12]) (by kernel_rfl) (by simp) ?_
              refine Ru.AllReadyU.cons rfl (by kernel_rfl) (fun K hK => ?_) ?_
              · go_simp
                refine (HMu.out _ _ i1_51 (HEI.out.below D_51)).mono ?_
                rintro e x_52 ⟨v_52, rfl, i6_52, k_52⟩
                have D_52 := below_tr D_51 k_52
                have y_52 : x_51.heap.size ≤ x_52.heap.size := by have h := k_52.size; exact h
                have i1_52 := i1_51.below k_52
                have a13_52 := CRow.keep a13_51 k_52
                go_wp2_with fail
                refine hK.out _ _ (HS.out _ D_52) (fun hHeld => ?_)
                clear hK K
                try simp only [Act.put, List.getElem_toArray, List.getElem_cons_zero, List.getElem_cons_succ, List.setIfInBounds_toArray, List.set_cons_zero, List.set_cons_succ]
                refine Ru.wpAnyU_ready (rs := [8, 12]) (by kernel_rfl) (by simp) ?_
                refine Ru.AllReadyU.cons rfl (by kernel_rfl) (fun K hK => ?_) ?_
                · go_simp
                  refine (HDi.out _ _ i6_52 (HCI.out.below D_52)).mono ?_
                  rintro e x_53 ⟨u_53, v_53, rfl, iq_53, ir_53, k_53⟩
                  have D_53 := below_tr D_52 k_53
                  have y_53 : x_52.heap.size ≤ x_53.heap.size := by have h := k_53.size; exact h
                  have i1_53 := i1_52.below k_53
                  have i6_53 := i6_52.below k_53
                  have a13_53 := CRow.keep a13_52 k_53
                  go_wp2_with fail
                  refine hK.out _ _ (HS.out _ D_53) (fun hHeld => ?_)
                  clear hK K
                  try simp only [Act.put, List.getElem_toArray, List.getElem_cons_zero, List.getElem_cons_succ, List.setIfInBounds_toArray, List.set_cons_zero, List.set_cons_succ]
                  refine Ru.wpAnyU_take (i := 9) (v := .tuple #[u_53, v_53]) rfl (by kernel_rfl) (by kernel_rfl) (by kernel_rfl) (by kernel_rfl) (by kernel_rfl) (by kernel_rfl) (fun _ _ _ h => h) (Or.inl ⟨by kernel_rfl, fun w hS => by obtain ⟨sc0, sc1, sc2⟩ := hS; go_simp⟩) hHeld ?_
                  simp only [Act.put, List.getElem_toArray, List.getElem_cons_zero, List.getElem_cons_succ, List.setIfInBounds_toArray, List.set_cons_zero, List.set_cons_succ]
                  refine Ru.wpAnyU_take (i := 10) (v := u_53) rfl (by kernel_rfl) (by kernel_rfl) (by kernel_rfl) (by kernel_rfl) (by kernel_rfl) (by kernel_rfl) (fun _ _ _ h => h) (Or.inl ⟨by kernel_rfl, fun w hS => by obtain ⟨sc0, sc1, sc2⟩ := hS; go_simp⟩) hHeld ?_
                  simp only [Act.put, List.getElem_toArray, List.getElem_cons_zero, List.getElem_cons_succ, List.setIfInBounds_toArray, List.set_cons_zero, List.set_cons_succ]
                  refine Ru.wpAnyU_take (i := 11) (v := v_53) rfl (by kernel_rfl) (by kernel_rfl) (by kernel_rfl) (by kernel_rfl) (by kernel_rfl) (by kernel_rfl) (fun _ _ _ h => h) (Or.inl ⟨by kernel_rfl, fun w hS => by obtain ⟨sc0, sc1, sc2⟩ := hS; go_simp⟩) hHeld ?_
                  simp only [Act.put, List.getElem_toArray, List.getElem_cons_zero, List.getElem_cons_succ, List.setIfInBounds_toArray, List.set_cons_zero, List.set_cons_succ]
                  refine Ru.wpAnyU_ready (rs := [12]) (by kernel_rfl) (by simp) ?_
                  refine Ru.AllReadyU.cons rfl (by kernel_rfl) (fun K hK => ?_) Ru.AllReadyU.nil
                  go_simp
                  have e_54 : x_53.heap.size = x_53.heap.size := by simp
                  have z_54 : wl.heap.size ≤ x_53.heap.size := by have h := D_53.size; rw [e_54] at h; exact h
                  have a12_54 : CRow (x_53.alloc (.cells [.bool false, .slice none 0 0].toArray 93)) (x_53.heap.size) 93 [.bool false, .slice none 0 0] := by have h := crow_new x_53 93 [.bool false, .slice none 0 0]; rw [e_54] at h; exact h
                  have k_54 := below_al (Below.refl _ x_53) (.cells [.bool false, .slice none 0 0].toArray 93)
                  have i1_54 := i1_53.below k_54
                  have i6_54 := i6_53.below k_54
                  have iq_54 := iq_53.below k_54
                  have ir_54 := ir_53.below k_54
                  have a13_54 := CRow.keep a13_53 k_54
                  have D_54 := below_tr D_53 k_54
                  refine hK.out _ _ (HS.out _ D_54) (fun hHeld => ?_)
                  clear hK K
                  try simp only [Act.put, List.getElem_toArray, List.getElem_cons_zero, List.getElem_cons_succ, List.setIfInBounds_toArray, List.set_cons_zero, List.set_cons_succ]
                  obtain ⟨q1, q2, q3, e1⟩ := iq_54.form
                  obtain ⟨q4, q5, q6, e2⟩ := ir_54.form
                  subst e1 e2
                  refine Ru.wpAnyU_ready (rs := [14]) (by kernel_rfl) (by simp) ?_
                  refine Ru.AllReadyU.cons rfl (by kernel_rfl) (fun K hK => ?_) Ru.AllReadyU.nil
                  have ra := a12_54
                  have rb := a13_54
                  have iA := iq_54
                  have iB := ir_54
                  have DD := D_54
                  obtain ⟨ga, hga⟩ : ∃ q, q = x_53.heap.size := ⟨_, rfl⟩
                  obtain ⟨gb, hgb⟩ : ∃ q, q = wl.heap.size := ⟨_, rfl⟩
                  have hne : ga ≠ gb := by omega
                  have la : wl.heap.size ≤ ga := by omega
                  have lb : wl.heap.size ≤ gb := by omega
                  rw [← hga] at ra
                  rw [← hgb] at rb
                  refine Ru.stepC isNum (by kernel_rfl) _ _ (by rfl) ga _ [.bool (decide (q < 0)), .slice q1 q2 q3] (by rw [hga]; rfl) (by rfl) ra rfl rfl (one2 _ _ _ _) ?_
                  have h9 := HS.out _ DD
                  have kb : But (· = ga) (x_53.alloc (.cells [.bool false, .slice none 0 0].toArray 93)) (World.setRow (x_53.alloc (.cells [.bool false, .slice none 0 0].toArray 93)) ga [.bool (decide (q < 0)), .slice q1 q2 q3].toArray) := ⟨rfl, rfl, rfl, by simp, fun k hk hn => setRow_other _ ga k _ hn⟩
                  have vA := var_set ra iA
                  have rB := CRow.rowOther rb (fun e => hne e.symm) [.bool (decide (q < 0)), .slice q1 q2 q3].toArray
                  have iB2 := num_but iB kb (fun b e => by rw [e]; exact crow_not ra)
                  have BA := St.below_row DD (g := ga) la [.bool (decide (q < 0)), .slice q1 q2 q3].toArray
                  refine hK.out _ _ ⟨CRow.rowOther h9.1 (by omega) _, kb.cell h9.2.1 (by show ¬ g = ga; omega), kb.cell h9.2.2 (by show ¬ g = ga; omega)⟩ (fun hHeld => ?_)
                  clear hK K
                  try simp only [Act.put, List.getElem_toArray, List.getElem_cons_zero, List.getElem_cons_succ, List.setIfInBounds_toArray, List.set_cons_zero, List.set_cons_succ]
                  refine Ru.wpAnyU_ready (rs := [15]) (by kernel_rfl) (by simp) ?_
                  refine Ru.AllReadyU.cons2 rfl (by kernel_rfl) (fun K hK => ?_) Ru.AllReadyU.nil
                  refine Ru.stepC isNum (by kernel_rfl) _ _ (by rfl) gb _ [.bool (decide (r < 0)), .slice q4 q5 q6] (by rw [hgb]; rfl) (by rfl) rB rfl rfl (one2 _ _ _ _) ?_
                  have vB := var_set rB iB2
                  have vA2 := var_other rB vA hne [.bool (decide (r < 0)), .slice q4 q5 q6].toArray
                  have BB := St.below_row BA (g := gb) lb [.bool (decide (r < 0)), .slice q4 q5 q6].toArray
                  refine hK.out _ _ ?_
                  clear hK K
                  try simp only [Act.put, List.getElem_toArray, List.getElem_cons_zero, List.getElem_cons_succ, List.setIfInBounds_toArray, List.set_cons_zero, List.set_cons_succ]
                  refine wpAny_done (by kernel_rfl) ?_ _
                  subst hga hgb
                  go_wp2_with fail
                  go_meet
                  exact ⟨_, _, rfl, rfl, vA2, vB, lb, BB⟩
                refine Ru.AllReadyU.cons rfl (by kernel_rfl) (fun K hK => ?_) Ru.AllReadyU.nil
                go_simp
                have e_55 : x_52.heap.size = x_52.heap.size := by simp
                have z_55 : wl.heap.size ≤ x_52.heap.size := by have h := D_52.size; rw [e_55] at h; exact h
                have a12_55 : CRow (x_52.alloc (.cells [.bool false, .slice none 0 0].toArray 93)) (x_52.heap.size) 93 [.bool false, .slice none 0 0] := by have h := crow_new x_52 93 [.bool false, .slice none 0 0]; rw [e_55] at h; exact h
                have k_55 := below_al (Below.refl _ x_52) (.cells [.bool false, .slice none 0 0].toArray 93)
                have i1_55 := i1_52.below k_55
                have i6_55 := i6_52.below k_55
                have a13_55 := CRow.keep a13_52 k_55
                have D_55 := below_tr D_52 k_55
                refine hK.out _ _ (HS.out _ D_55) (fun hHeld => ?_)
                clear hK K
                try simp only [Act.put, List.getElem_toArray, List.getElem_cons_zero, List.getElem_cons_succ, List.setIfInBounds_toArray, List.set_cons_zero, List.set_cons_succ]
                refine Ru.wpAnyU_ready (rs := [8]) (by kernel_rfl) (by simp) ?_
                refine Ru.AllReadyU.cons rfl (by kernel_rfl) (fun K hK => ?_) Ru.AllReadyU.nil
                go_simp
                refine (HDi.out _ _ i6_55 (HCI.out.below D_55)).mono ?_
                rintro e x_56 ⟨u_56, v_56, rfl, iq_56, ir_56, k_56⟩
                have D_56 := below_tr D_55 k_56
                have y_56 : x_52.heap.size + 1 ≤ x_56.heap.size := by have h := k_56.size; simp at h; exact h
                have i1_56 := i1_55.below k_56
                have i6_56 := i6_55.below k_56
                have a12_56 := CRow.keep a12_55 k_56
                have a13_56 := CRow.keep a13_55 k_56
                go_wp2_with fail
                refine hK.out _ _ (HS.out _ D_56) (fun hHeld => ?_)
                clear hK K
                try simp only [Act.put, List.getElem_toArray, List.getElem_cons_zero, List.getElem_cons_succ, List.setIfInBounds_toArray, List.set_cons_zero, List.set_cons_succ]
                refine Ru.wpAnyU_take (i := 9) (v := .tuple #[u_56, v_56]) rfl (by kernel_rfl) (by kernel_rfl) (by kernel_rfl) (by kernel_rfl) (by kernel_rfl) (by kernel_rfl) (fun _ _ _ h => h) (Or.inl ⟨by kernel_rfl, fun w hS => by obtain ⟨sc0, sc1, sc2⟩ := hS; go_simp⟩) hHeld ?_
                simp only [Act.put, List.getElem_toArray, List.getElem_cons_zero, List.getElem_cons_succ, List.setIfInBounds_toArray, List.set_cons_zero, List.set_cons_succ]
                refine Ru.wpAnyU_take (i := 10) (v := u_56) rfl (by kernel_rfl) (by kernel_rfl) (by kernel_rfl) (by kernel_rfl) (by kernel_rfl) (by kernel_rfl) (fun _ _ _ h => h) (Or.inl ⟨by kernel_rfl, fun w hS => by obtain ⟨sc0, sc1, sc2⟩ := hS; go_simp⟩) hHeld ?_
                simp only [Act.put, List.getElem_toArray, List.getElem_cons_zero, List.getElem_cons_succ, List.setIfInBounds_toArray, List.set_cons_zero, List.set_cons_succ]
                refine Ru.wpAnyU_take (i := 11) (v := v_56) rfl (by kernel_rfl) (by kernel_rfl) (by kernel_rfl) (by kernel_rfl) (by kernel_rfl) (by kernel_rfl) (fun _ _ _ h => h) (Or.inl ⟨by kernel_rfl, fun w hS => by obtain ⟨sc0, sc1, sc2⟩ := hS; go_simp⟩) hHeld ?_
                simp only [Act.put, List.getElem_toArray, List.getElem_cons_zero, List.getElem_cons_succ, List.setIfInBounds_toArray, List.set_cons_zero, List.set_cons_succ]
                obtain ⟨q1, q2, q3, e1⟩ := iq_56.form
                obtain ⟨q4, q5, q6, e2⟩ := ir_56.form
                subst e1 e2
                refine Ru.wpAnyU_ready (rs := [14]) (by kernel_rfl) (by simp) ?_
                refine Ru.AllReadyU.cons rfl (by kernel_rfl) (fun K hK => ?_) Ru.AllReadyU.nil
                have ra := a12_56
                have rb := a13_56
                have iA := iq_56
                have iB := ir_56
                have DD := D_56
                obtain ⟨ga, hga⟩ : ∃ q, q = x_52.heap.size := ⟨_, rfl⟩
                obtain ⟨gb, hgb⟩ : ∃ q, q = wl.heap.size := ⟨_, rfl⟩
                have hne : ga ≠ gb := by omega
                have la : wl.heap.size ≤ ga := by omega
                have lb : wl.heap.size ≤ gb := by omega
                rw [← hga] at ra
                rw [← hgb] at rb
                refine Ru.stepC isNum (by kernel_rfl) _ _ (by rfl) ga _ [.bool (decide (q < 0)), .slice q1 q2 q3] (by rw [hga]; rfl) (by rfl) ra rfl rfl (one2 _ _ _ _) ?_
                have h9 := HS.out _ DD
                have kb : But (· = ga) x_56 (World.setRow x_56 ga [.bool (decide (q < 0)), .slice q1 q2 q3].toArray) := ⟨rfl, rfl, rfl, by simp, fun k hk hn => setRow_other _ ga k _ hn⟩
                have vA := var_set ra iA
                have rB := CRow.rowOther rb (fun e => hne e.symm) [.bool (decide (q < 0)), .slice q1 q2 q3].toArray
                have iB2 := num_but iB kb (fun b e => by rw [e]; exact crow_not ra)
                have BA := St.below_row DD (g := ga) la [.bool (decide (q < 0)), .slice q1 q2 q3].toArray
                refine hK.out _ _ ⟨CRow.rowOther h9.1 (by omega) _, kb.cell h9.2.1 (by show ¬ g = ga; omega), kb.cell h9.2.2 (by show ¬ g = ga; omega)⟩ (fun hHeld => ?_)
                clear hK K
                try simp only [Act.put, List.getElem_toArray, List.getElem_cons_zero, List.getElem_cons_succ, List.setIfInBounds_toArray, List.set_cons_zero, List.set_cons_succ]
                refine Ru.wpAnyU_ready (rs := [15]) (by kernel_rfl) (by simp) ?_
                refine Ru.AllReadyU.cons2 rfl (by kernel_rfl) (fun K hK => ?_) Ru.AllReadyU.nil
                refine Ru.stepC isNum (by kernel_rfl) _ _ (by rfl) gb _ [.bool (decide (r < 0)), .slice q4 q5 q6] (by rw [hgb]; rfl) (by rfl) rB rfl rfl (one2 _ _ _ _) ?_
                have vB := var_set rB iB2
                have vA2 := var_other rB vA hne [.bool (decide (r < 0)), .slice q4 q5 q6].toArray
                have BB := St.below_row BA (g := gb) lb [.bool (decide (r < 0)), .slice q4 q5 q6].toArray
                refine hK.out _ _ ?_
                clear hK K
                try simp only [Act.put, List.getElem_toArray, List.getElem_cons_zero, List.getElem_cons_succ, List.setIfInBounds_toArray, List.set_cons_zero, List.set_cons_succ]
                refine wpAny_done (by kernel_rfl) ?_ _
                subst hga hgb
                go_wp2_with fail
                go_meet
                exact ⟨_, _, rfl, rfl, vA2, vB, lb, BB⟩
              refine Ru.AllReadyU.cons rfl (by kernel_rfl) (fun K hK => ?_) Ru.AllReadyU.nil
              go_simp
              have e_57 : x_51.heap.size = x_51.heap.size := by simp
              have z_57 : wl.heap.size ≤ x_51.heap.size := by have h := D_51.size; rw [e_57] at h; exact h
              have a12_57 : CRow (x_51.alloc (.cells [.bool false, .slice none 0 0].toArray 93)) (x_51.heap.size) 93 [.bool false, .slice none 0 0] := by have h := crow_new x_51 93 [.bool false, .slice none 0 0]; rw [e_57] at h; exact h
              have k_57 := below_al (Below.refl _ x_51) (.cells [.bool false, .slice none 0 0].toArray 93)
              have i1_57 := i1_51.below k_57
              have a13_57 := CRow.keep a13_51 k_57
              have D_57 := below_tr D_51 k_57
              refine hK.out _ _ (HS.out _ D_57) (fun hHeld => ?_)
              clear hK K
              try simp only [Act.put, List.getElem_toArray, List.getElem_cons_zero, List.getElem_cons_succ, List.setIfInBounds_toArray, List.set_cons_zero, List.set_cons_succ]
              refine Ru.wpAnyU_ready (rs := [6]) (by kernel_rfl) (by simp) ?_
              refine Ru.AllReadyU.cons rfl (by kernel_rfl) (fun K hK => ?_) Ru.AllReadyU.nil
              go_simp
              refine (HMu.out _ _ i1_57 (HEI.out.below D_57)).mono ?_
              rintro e x_58 ⟨v_58, rfl, i6_58, k_58⟩
              have D_58 := below_tr D_57 k_58
              have y_58 : x_51.heap.size + 1 ≤ x_58.heap.size := by have h := k_58.size; simp at h; exact h
              have i1_58 := i1_57.below k_58
              have a12_58 := CRow.keep a12_57 k_58
              have a13_58 := CRow.keep a13_57 k_58
              go_wp2_with fail
              refine hK.out _ _ (HS.out _ D_58) (fun hHeld => ?_)
              clear hK K
              try simp only [Act.put, List.getElem_toArray, List.getElem_cons_zero, List.getElem_cons_succ, List.setIfInBounds_toArray, List.set_cons_zero, List.set_cons_succ]
              refine Ru.wpAnyU_ready (rs := [8]) (by kernel_rfl) (by simp) ?_
              refine Ru.AllReadyU.cons rfl (by kernel_rfl) (fun K hK => ?_) Ru.AllReadyU.nil
              go_simp
              refine (HDi.out _ _ i6_58 (HCI.out.below D_58)).mono ?_
              rintro e x_59 ⟨u_59, v_59, rfl, iq_59, ir_59, k_59⟩
              have D_59 := below_tr D_58 k_59
              have y_59 : x_58.heap.size ≤ x_59.heap.size := by have h := k_59.size; exact h
              have i1_59 := i1_58.below k_59
              have i6_59 := i6_58.below k_59
              have a12_59 := CRow.keep a12_58 k_59
              have a13_59 := CRow.keep a13_58 k_59
              go_wp2_with fail
              refine hK.out _ _ (HS.out _ D_59) (fun hHeld => ?_)
              clear hK K
              try simp only [Act.put, List.getElem_toArray, List.getElem_cons_zero, List.getElem_cons_succ, List.setIfInBounds_toArray, List.set_cons_zero, List.set_cons_succ]
              refine Ru.wpAnyU_take (i := 9) (v := .tuple #[u_59, v_59]) rfl (by kernel_rfl) (by kernel_rfl) (by kernel_rfl) (by kernel_rfl) (by kernel_rfl) (by kernel_rfl) (fun _ _ _ h => h) (Or.inl ⟨by kernel_rfl, fun w hS => by obtain ⟨sc0, sc1, sc2⟩ := hS; go_simp⟩) hHeld ?_
              simp only [Act.put, List.getElem_toArray, List.getElem_cons_zero, List.getElem_cons_succ, List.setIfInBounds_toArray, List.set_cons_zero, List.set_cons_succ]
              refine Ru.wpAnyU_take (i := 10) (v := u_59) rfl (by kernel_rfl) (by kernel_rfl) (by kernel_rfl) (by kernel_rfl) (by kernel_rfl) (by kernel_rfl) (fun _ _ _ h => h) (Or.inl ⟨by kernel_rfl, fun w hS => by obtain ⟨sc0, sc1, sc2⟩ := hS; go_simp⟩) hHeld ?_
              simp only [Act.put, List.getElem_toArray, List.getElem_cons_zero, List.getElem_cons_succ, List.setIfInBounds_toArray, List.set_cons_zero, List.set_cons_succ]
              refine Ru.wpAnyU_take (i := 11) (v := v_59) rfl (by kernel_rfl) (by kernel_rfl) (by kernel_rfl) (by kernel_rfl) (by kernel_rfl) (by kernel_rfl) (fun _ _ _ h => h) (Or.inl ⟨by kernel_rfl, fun w hS => by obtain ⟨sc0, sc1, sc2⟩ := hS; go_simp⟩) hHeld ?_
              simp only [Act.put, List.getElem_toArray, List.getElem_cons_zero, List.getElem_cons_succ, List.setIfInBounds_toArray, List.set_cons_zero, List.set_cons_succ]
              obtain ⟨q1, q2, q3, e1⟩ := iq_59.form
              obtain ⟨q4, q5, q6, e2⟩ := ir_59.form
              subst e1 e2
              refine Ru.wpAnyU_ready (rs := [14]) (by kernel_rfl) (by simp) ?_
              refine Ru.AllReadyU.cons rfl (by kernel_rfl) (fun K hK => ?_) Ru.AllReadyU.nil
              have ra := a12_59
              have rb := a13_59
              have iA := iq_59
              have iB := ir_59
              have DD := D_59
              obtain ⟨ga, hga⟩ : ∃ q, q = x_51.heap.size := ⟨_, rfl⟩
              obtain ⟨gb, hgb⟩ : ∃ q, q = wl.heap.size := ⟨_, rfl⟩
              have hne : ga ≠ gb := by omega
              have la : wl.heap.size ≤ ga := by omega
              have lb : wl.heap.size ≤ gb := by omega
              rw [← hga] at ra
              rw [← hgb] at rb
              refine Ru.stepC isNum (by kernel_rfl) _ _ (by rfl) ga _ [.bool (decide (q < 0)), .slice q1 q2 q3] (by rw [hga]; rfl) (by rfl) ra rfl rfl (one2 _ _ _ _) ?_
              have h9 := HS.out _ DD
              have kb : But (· = ga) x_59 (World.setRow x_59 ga [.bool (decide (q < 0)), .slice q1 q2 q3].toArray) := ⟨rfl, rfl, rfl, by simp, fun k hk hn => setRow_other _ ga k _ hn⟩
              have vA := var_set ra iA
              have rB := CRow.rowOther rb (fun e => hne e.symm) [.bool (decide (q < 0)), .slice q1 q2 q3].toArray
              have iB2 := num_but iB kb (fun b e => by rw [e]; exact crow_not ra)
              have BA := St.below_row DD (g := ga) la [.bool (decide (q < 0)), .slice q1 q2 q3].toArray
              refine hK.out _ _ ⟨CRow.rowOther h9.1 (by omega) _, kb.cell h9.2.1 (by show ¬ g = ga; omega), kb.cell h9.2.2 (by show ¬ g = ga; omega)⟩ (fun hHeld => ?_)
              clear hK K
              try simp only [Act.put, List.getElem_toArray, List.getElem_cons_zero, List.getElem_cons_succ, List.setIfInBounds_toArray, List.set_cons_zero, List.set_cons_succ]
              refine Ru.wpAnyU_ready (rs := [15]) (by kernel_rfl) (by simp) ?_
              refine Ru.AllReadyU.cons2 rfl (by kernel_rfl) (fun K hK => ?_) Ru.AllReadyU.nil
              refine Ru.stepC isNum (by kernel_rfl) _ _ (by rfl) gb _ [.bool (decide (r < 0)), .slice q4 q5 q6] (by rw [hgb]; rfl) (by rfl) rB rfl rfl (one2 _ _ _ _) ?_
              have vB := var_set rB iB2
              have vA2 := var_other rB vA hne [.bool (decide (r < 0)), .slice q4 q5 q6].toArray
              have BB := St.below_row BA (g := gb) lb [.bool (decide (r < 0)), .slice q4 q5 q6].toArray
              refine hK.out _ _ ?_
              clear hK K
              try simp only [Act.put, List.getElem_toArray, List.getElem_cons_zero, List.getElem_cons_succ, List.setIfInBounds_toArray, List.set_cons_zero, List.set_cons_succ]
              refine wpAny_done (by kernel_rfl) ?_ _
              subst hga hgb
              go_wp2_with fail
              go_meet
              exact ⟨_, _, rfl, rfl, vA2, vB, lb, BB⟩
            refine Ru.AllReadyU.cons rfl (by kernel_rfl) (fun K hK => ?_) Ru.AllReadyU.nil
            go_simp
            have e_60 : (wl.drew.alloc (.cells [.bool false, .slice none 0 0].toArray 93)).heap.size = wl.heap.size + 1 := by simp
            have z_60 : wl.heap.size ≤ wl.heap.size + 1 := by have h := D_50.size; rw [e_60] at h; exact h
            have a12_60 : CRow ((wl.drew.alloc (.cells [.bool false, .slice none 0 0].toArray 93)).alloc (.cells [.bool false, .slice none 0 0].toArray 93)) (wl.heap.size + 1) 93 [.bool false, .slice none 0 0] := by have h := crow_new (wl.drew.alloc (.cells [.bool false, .slice none 0 0].toArray 93)) 93 [.bool false, .slice none 0 0]; rw [e_60] at h; exact h
            have k_60 := below_al (Below.refl _ (wl.drew.alloc (.cells [.bool false, .slice none 0 0].toArray 93))) (.cells [.bool false, .slice none 0 0].toArray 93)
            have a13_60 := CRow.keep a13_50 k_60
            have D_60 := below_tr D_50 k_60
            refine hK.out _ _ (HS.out _ D_60) (fun hHeld => ?_)
            clear hK K
            try simp only [Act.put, List.getElem_toArray, List.getElem_cons_zero, List.getElem_cons_succ, List.setIfInBounds_toArray, List.set_cons_zero, List.set_cons_succ]
            refine Ru.wpAnyU_ready (rs := [1]) (by kernel_rfl) (by simp) ?_
            refine Ru.AllReadyU.cons rfl (by kernel_rfl) (fun K hK => ?_) Ru.AllReadyU.nil
            go_simp
            refine (HOf.out _).mono ?_
            rintro e x_61 ⟨v_61, rfl, i1_61, k_61⟩
            have D_61 := below_tr D_60 k_61
            have y_61 : wl.heap.size + 2 ≤ x_61.heap.size := by have h := k_61.size; simp at h; exact h
            have a12_61 := CRow.keep a12_60 k_61
            have a13_61 := CRow.keep a13_60 k_61
            go_wp2_with fail
            refine hK.out _ _ (HS.out _ D_61) (fun hHeld => ?_)
            clear hK K
            try simp only [Act.put, List.getElem_toArray, List.getElem_cons_zero, List.getElem_cons_succ, List.setIfInBounds_toArray, List.set_cons_zero, List.set_cons_succ]
            refine Ru.wpAnyU_ready (rs := [6]) (by kernel_rfl) (by simp) ?_
            refine Ru.AllReadyU.cons rfl (by kernel_rfl) (fun K hK => ?_) Ru.AllReadyU.nil
            go_simp
            refine (HMu.out _ _ i1_61 (HEI.out.below D_61)).mono ?_
            rintro e x_62 ⟨v_62, rfl, i6_62, k_62⟩
            have D_62 := below_tr D_61 k_62
            have y_62 : x_61.heap.size ≤ x_62.heap.size := by have h := k_62.size; exact h
            have i1_62 := i1_61.below k_62
            have a12_62 := CRow.keep a12_61 k_62
            have a13_62 := CRow.keep a13_61 k_62
            go_wp2_with fail
            refine hK.out _ _ (HS.out _ D_62) (fun hHeld => ?_)
            clear hK K
            try simp only [Act.put, List.getElem_toArray, List.getElem_cons_zero, List.getElem_cons_succ, List.setIfInBounds_toArray, List.set_cons_zero, List.set_cons_succ]
            refine Ru.wpAnyU_ready (rs := [8]) (by kernel_rfl) (by simp) ?_
            refine Ru.AllReadyU.cons rfl (by kernel_rfl) (fun K hK => ?_) Ru.AllReadyU.nil
            go_simp
            refine (HDi.out _ _ i6_62 (HCI.out.below D_62)).mono ?_
            rintro e x_63 ⟨u_63, v_63, rfl, iq_63, ir_63, k_63⟩
            have D_63 := below_tr D_62 k_63
            have y_63 : x_62.heap.size ≤ x_63.heap.size := by have h := k_63.size; exact h
            have i1_63 := i1_62.below k_63
            have i6_63 := i6_62.below k_63
            have a12_63 := CRow.keep a12_62 k_63
            have a13_63 := CRow.keep a13_62 k_63
            go_wp2_with fail
            refine hK.out _ _ (HS.out _ D_63) (fun hHeld => ?_)
            clear hK K
            try simp only [Act.put, List.getElem_toArray, List.getElem_cons_zero, List.getElem_cons_succ, List.setIfInBounds_toArray, List.set_cons_zero, List.set_cons_succ]
            refine Ru.wpAnyU_take (i := 9) (v := .tuple #[u_63, v_63]) rfl (by kernel_rfl) (by kernel_rfl) (by kernel_rfl) (by kernel_rfl) (by kernel_rfl) (by kernel_rfl) (fun _ _ _ h => h) (Or.inl ⟨by kernel_rfl, fun w hS => by obtain ⟨sc0, sc1, sc2⟩ := hS; go_simp⟩) hHeld ?_
            simp only [Act.put, List.getElem_toArray, List.getElem_cons_zero, List.getElem_cons_succ, List.setIfInBounds_toArray, List.set_cons_zero, List.set_cons_succ]
            refine Ru.wpAnyU_take (i := 10) (v := u_63) rfl (by kernel_rfl) (by kernel_rfl) (by kernel_rfl) (by kernel_rfl) (by kernel_rfl) (by kernel_rfl) (fun _ _ _ h => h) (Or.inl ⟨by kernel_rfl, fun w hS => by obtain ⟨sc0, sc1, sc2⟩ := hS; go_simp⟩) hHeld ?_
            simp only [Act.put, List.getElem_toArray, List.getElem_cons_zero, List.getElem_cons_succ, List.setIfInBounds_toArray, List.set_cons_zero, List.set_cons_succ]
            refine Ru.wpAnyU_take (i := 11) (v := v_63) rfl (by kernel_rfl) (by kernel_rfl) (by kernel_rfl) (by kernel_rfl) (by kernel_rfl) (by kernel_rfl) (fun _ _ _ h => h) (Or.inl ⟨by kernel_rfl, fun w hS => by obtain ⟨sc0, sc1, sc2⟩ := hS; go_simp⟩) hHeld ?_
            simp only [Act.put, List.getElem_toArray, List.getElem_cons_zero, List.getElem_cons_succ, List.setIfInBounds_toArray, List.set_cons_zero, List.set_cons_succ]
            obtain ⟨q1, q2, q3, e1⟩ := iq_63.form
            obtain ⟨q4, q5, q6, e2⟩ := ir_63.form
            subst e1 e2
            refine Ru.wpAnyU_ready (rs := [14]) (by kernel_rfl) (by simp) ?_
            refine Ru.AllReadyU.cons rfl (by kernel_rfl) (fun K hK => ?_) Ru.AllReadyU.nil
            have ra := a12_63
            have rb := a13_63
            have iA := iq_63
            have iB := ir_63
            have DD := D_63
            obtain ⟨ga, hga⟩ : ∃ q, q = wl.heap.size + 1 := ⟨_, rfl⟩
            obtain ⟨gb, hgb⟩ : ∃ q, q = wl.heap.size := ⟨_, rfl⟩
            have hne : ga ≠ gb := by omega
            have la : wl.heap.size ≤ ga := by omega
            have lb : wl.heap.size ≤ gb := by omega
            rw [← hga] at ra
            rw [← hgb] at rb
            refine Ru.stepC isNum (by kernel_rfl) _ _ (by rfl) ga _ [.bool (decide (q < 0)), .slice q1 q2 q3] (by rw [hga]; rfl) (by rfl) ra rfl rfl (one2 _ _ _ _) ?_
            have h9 := HS.out _ DD
            have kb : But (· = ga) x_63 (World.setRow x_63 ga [.bool (decide (q < 0)), .slice q1 q2 q3].toArray) := ⟨rfl, rfl, rfl, by simp, fun k hk hn => setRow_other _ ga k _ hn⟩
            have vA := var_set ra iA
            have rB := CRow.rowOther rb (fun e => hne e.symm) [.bool (decide (q < 0)), .slice q1 q2 q3].toArray
            have iB2 := num_but iB kb (fun b e => by rw [e]; exact crow_not ra)
            have BA := St.below_row DD (g := ga) la [.bool (decide (q < 0)), .slice q1 q2 q3].toArray
            refine hK.out _ _ ⟨CRow.rowOther h9.1 (by omega) _, kb.cell h9.2.1 (by show ¬ g = ga; omega), kb.cell h9.2.2 (by show ¬ g = ga; omega)⟩ (fun hHeld => ?_)
            clear hK K
            try simp only [Act.put, List.getElem_toArray, List.getElem_cons_zero, List.getElem_cons_succ, List.setIfInBounds_toArray, List.set_cons_zero, List.set_cons_succ]
            refine Ru.wpAnyU_ready (rs := [15]) (by kernel_rfl) (by simp) ?_
            refine Ru.AllReadyU.cons2 rfl (by kernel_rfl) (fun K hK => ?_) Ru.AllReadyU.nil
            refine Ru.stepC isNum (by kernel_rfl) _ _ (by rfl) gb _ [.bool (decide (r < 0)), .slice q4 q5 q6] (by rw [hgb]; rfl) (by rfl) rB rfl rfl (one2 _ _ _ _) ?_
            have vB := var_set rB iB2
            have vA2 := var_other rB vA hne [.bool (decide (r < 0)), .slice q4 q5 q6].toArray
            have BB := St.below_row BA (g := gb) lb [.bool (decide (r < 0)), .slice q4 q5 q6].toArray
            refine hK.out _ _ ?_
            clear hK K
            try simp only [Act.put, List.getElem_toArray, List.getElem_cons_zero, List.getElem_cons_succ, List.setIfInBounds_toArray, List.set_cons_zero, List.set_cons_succ]
            refine wpAny_done (by kernel_rfl) ?_ _
            subst hga hgb
            go_wp2_with fail
            go_meet
            exact ⟨_, _, rfl, rfl, vA2, vB, lb, BB⟩
          rename World => wx
          obtain ⟨g1, g2, rfl, rfl, vq, vr2, lg2, kx⟩ := hcut
          have T1 := TT.keep kx
          have off := TT.off lg2
          clear TT HOf HMu HDi HS HCI HEI
          obtain ⟨qp, ql, qc, cq, iq⟩ := vq
          obtain ⟨rp, rl, rc, cr2, ir⟩ := vr2
          obtain ⟨dd, hdd, hRd⟩ := iq
          obtain ⟨ds, hds⟩ : ∃ d, d = digs q.natAbs := ⟨_, rfl⟩
          rw [← hds] at hRd
          have hsm : Small ds := by rw [hds]; exact small_digs _
          have hvl : (val ds : Int) = q := by rw [hds, val_digs]; omega
          have hll : ds.length ≤ 20 := by rw [hds]; exact length_digs_le (show q.natAbs < 10 ^ 20 by omega)
          obtain ⟨ao, b, off', cp, e1, hcp, hao, hcell⟩ := hRd.shape
          have cq1 : wx.cell? ⟨g1, 1, none⟩ = some (.slice ao ds.length cp) := by
            have e := CRow.cell cq (k := 1) rfl rfl
            have e2 : Value.slice qp ql qc = dd := by
              injection hdd with hdd
              simpa using hdd
            rw [e2, e1] at e
            exact e
          obtain ⟨L, hL⟩ : ∃ L, L = ds.length := ⟨_, rfl⟩
          rw [← hL] at cq1 hcp hao hll
          have HLn := hide hL
          have HV := hide hvl
          have HSM := hide hsm
          have HC := hide hcell
          have HAO := hide hao
          have HT1 := hide T1
          have HOFF := hide off
          have HCR := hide cr2
          have HIR := hide ir
          clear hL hvl hsm hcell hao hdd hds hRd e1 T1 off cr2 ir cq
          go_wp2
          go_loopw [13, 14] (fun v i w3 => ∃ j : Nat, j ≤ L ∧ i = .int .i64 ((j : Int) - 1) ∧ v = .int .i64 (val (ds.drop j) : Int) ∧ wx = w3) (fun _ i _ => ((intOf i) + 1).toNat)
          case atStart => exact ⟨L, Nat.le_refl _, rfl, by rw [HLn.out, List.drop_length]; rfl, rfl⟩
          case round =>
            obtain ⟨j, hj, rfl, rfl, rfl⟩ := hrel
            cases j with
            | succ j =>
              have e0 : ((j + 1 : Nat) : Int) - 1 = (j : Int) := by omega
              rw [e0]
              have hjl : j < ds.length := by rw [← HLn.out]; omega
              have hck := (HC.out j hjl).2
              have d1 := val_drop ds j hjl
              have d2 := val_drop_le ds j
              have d3 := HV.out
              have hsj := HSM.out j
              obtain ⟨A, hA⟩ : ∃ A, val (ds.drop (j + 1)) = A := ⟨_, rfl⟩
              obtain ⟨Bv, hB⟩ : ∃ A, val (ds.drop j) = A := ⟨_, rfl⟩
              obtain ⟨dg, hdg⟩ : ∃ dg, ds.getD j 0 = dg := ⟨_, rfl⟩
              rw [hdg] at hck hsj d1
              rw [hA] at d1 ⊢
              rw [hB] at d1 d2
              have HB : Hid (val (ds.drop j) = Bv) := hB
              have D1 : Hid (Bv = dg + 10 * A) := d1
              have b1 : 10 * A + dg ≤ 1073741824 := by omega
              obtain rfl : ao = some ⟨b, off', none⟩ := by
                rcases HAO.out with e | ⟨_, e⟩
                · exact e
                · omega
              clear d1 d2 d3 hA hB hdg
              go_wp2
              go_roundw
              case rel => exact ⟨j, by omega, rfl, by rw [HB.out, D1.out]; go_num, by first | trivial | rfl⟩
              case measure => simp [intOf]
            | zero =>
              have e0 : ((0 : Nat) : Int) - 1 = -1 := by omega
              rw [e0, List.drop_zero, HV.out]
              have T1 := HT1.out
              have off := HOFF.out
              have cr2 := HCR.out
              have ir := HIR.out
              have lg := CRow.lt cr2
              obtain ⟨sr, hsr⟩ : ∃ q, q = decide (r < 0) := ⟨_, rfl⟩
              rw [← hsr] at cr2 ir
              have HSR := hide hsr
              have HRr := hide (show rt m a n k = r from HRR.out.symm)
              have HQr := hide (show q = qt m a n k from HQQ.out)
              clear hsr HT1 HOFF HCR HIR
              go_upto_region 18 with fail
              have D0 := Vc.below_drew' wx
              have tw0 := T1.keep D0
              have cz0 := CRow.keep cr2 D0
              have iz0 := ir.below D0
              refine Ru.wp_region_U [] (fun w' => CRow w' g2 93 [.bool sr, .slice rp rl rc]) (by kernel_rfl) cz0 (fun hHeld => ?_)
              refine Ru.wpAnyU_take (i := 0) (v := u7) rfl (by kernel_rfl) (by kernel_rfl) (by kernel_rfl) (by kernel_rfl) (by kernel_rfl) (by kernel_rfl) (fun _ _ _ h => h) (Or.inl ⟨by kernel_rfl, fun w hS => by obtain sc0 := hS; go_simp⟩) hHeld ?_
              simp only [Act.put, List.getElem_toArray, List.getElem_cons_zero, List.getElem_cons_succ, List.setIfInBounds_toArray, List.set_cons_zero, List.set_cons_succ]
              refine Ru.wpAnyU_take (i := 1) (v := .int .i64 q) rfl (by kernel_rfl) (by kernel_rfl) (by kernel_rfl) (by kernel_rfl) (by kernel_rfl) (by kernel_rfl) (fun _ _ _ h => h) (Or.inl ⟨by kernel_rfl, fun w hS => by obtain sc0 := hS; go_simp⟩) hHeld ?_
              simp only [Act.put, List.getElem_toArray, List.getElem_cons_zero, List.getElem_cons_succ, List.setIfInBounds_toArray, List.set_cons_zero, List.set_cons_succ]
              refine Ru.wpAnyU_take (i := 4) (v := u8) rfl (by kernel_rfl) (by kernel_rfl) (by kernel_rfl) (by kernel_rfl) (by kernel_rfl) (by kernel_rfl) (fun _ _ _ h => h) (Or.inl ⟨by kernel_rfl, fun w hS => by obtain sc0 := hS; go_simp⟩) hHeld ?_
              simp only [Act.put, List.getElem_toArray, List.getElem_cons_zero, List.getElem_cons_succ, List.setIfInBounds_toArray, List.set_cons_zero, List.set_cons_succ]
              refine Ru.wpAnyU_take (i := 5) (v := .agg [.bool sr, .slice rp rl rc].toArray) rfl (by kernel_rfl) (by kernel_rfl) (by kernel_rfl) (by kernel_rfl) (by kernel_rfl) (by kernel_rfl) (fun _ _ _ h => h) (Ru.yieldsC isNum (by kernel_rfl) _ (by rfl) g2 _ (by rfl) (fun w h => h) rfl) hHeld ?_
              simp only [Act.put, List.getElem_toArray, List.getElem_cons_zero, List.getElem_cons_succ, List.setIfInBounds_toArray, List.set_cons_zero, List.set_cons_succ]
              refine Ru.wpAnyU_ready (rs := [2, 6]) (by kernel_rfl) (by simp) ?_
              refine Ru.AllReadyU.cons rfl (by kernel_rfl) (fun K hK => ?_) ?_
              · go_simp
                have e_1 : wx.drew.heap.size = wx.heap.size := rfl
                have k_1 := below_al (Below.refl _ wx.drew) (.cells [.int .i64 q].toArray 2)
                have of_1 : Off u7 u8 (wx.heap.size) := by have h := tw0.off (b := wx.drew.heap.size) (Nat.le_refl _); rw [e_1] at h; exact h
                have b_1 : CRow (wx.drew.alloc (.cells [.int .i64 q].toArray 2)) (wx.heap.size) 2 [.int .i64 q] := by have h := crow_new wx.drew 2 [.int .i64 q]; rw [e_1] at h; exact h
                have tw_1 := tw0.keep k_1
                have cz_1 := CRow.keep cz0 k_1
                have iz_1 := iz0.below k_1
                refine hK.out _ _ cz_1 (fun hHeld => ?_)
                clear hK K
                try simp only [Act.put, List.getElem_toArray, List.getElem_cons_zero, List.getElem_cons_succ, List.setIfInBounds_toArray, List.set_cons_zero, List.set_cons_succ]
                refine Ru.wpAnyU_ready (rs := [3, 6]) (by kernel_rfl) (by simp) ?_
                refine Ru.AllReadyU.cons rfl (by kernel_rfl) (fun K hK => ?_) ?_
                · refine Nu.step_x (by rfl) (.tmp 65) (.tmp 67) (by rfl) tw_1 (by rfl) (by omega) (b := wx.heap.size) (y := q) (by rfl) b_1 HQr.out ?_
                  intro v1 w1 tw_2 kb_2 of_2 nn_2
                  have lz_2 := CRow.lt cz_1
                  have cz_2 := crowBut cz_1 kb_2 off.x
                  have iz_2 := nn_2 _ _ iz_1
                  have oo_2 := of_2 _ lz_2 off
                  refine hK.out _ _ cz_2 (fun hHeld => ?_)
                  clear hK K
                  try simp only [Act.put, List.getElem_toArray, List.getElem_cons_zero, List.getElem_cons_succ, List.setIfInBounds_toArray, List.set_cons_zero, List.set_cons_succ]
                  refine Ru.wpAnyU_ready (rs := [6]) (by kernel_rfl) (by simp) ?_
                  refine Ru.AllReadyU.cons rfl (by kernel_rfl) (fun K hK => ?_) Ru.AllReadyU.nil
                  go_simp
                  have e_3 : w1.heap.size = w1.heap.size := by simp
                  have k_3 := below_al (Below.refl _ w1) (.cells [.bool sr, .slice rp rl rc].toArray 93)
                  have of_3 : Off v1 u8 (w1.heap.size) := by have h := tw_2.off (b := w1.heap.size) (Nat.le_refl _); rw [e_3] at h; exact h
                  have b_3 : CRow (w1.alloc (.cells [.bool sr, .slice rp rl rc].toArray 93)) (w1.heap.size) 93 [.bool sr, .slice rp rl rc] := by have h := crow_new w1 93 [.bool sr, .slice rp rl rc]; rw [e_3] at h; exact h
                  have tw_3 := tw_2.keep k_3
                  have cz_3 := CRow.keep cz_2 k_3
                  have iz_3 := iz_2.below k_3
                  refine hK.out _ _ cz_3 (fun hHeld => ?_)
                  clear hK K
                  try simp only [Act.put, List.getElem_toArray, List.getElem_cons_zero, List.getElem_cons_succ, List.setIfInBounds_toArray, List.set_cons_zero, List.set_cons_succ]
                  refine Ru.wpAnyU_ready (rs := [7]) (by kernel_rfl) (by simp) ?_
                  refine Ru.AllReadyU.cons rfl (by kernel_rfl) (fun K hK => ?_) Ru.AllReadyU.nil
                  refine Nu.step_y (by rfl) (.tmp 69) (.tmp 71) (by rfl) tw_3 (by rfl) (by omega) (b := w1.heap.size) (p := rp) (l := rl) (c := rc) (by rfl) (by rw [HRr.out, ← HSR.out]; exact b_3) (by rw [HRr.out, ← HSR.out]; exact iz_3) ?_
                  intro v2 w2 tw_4 kb_4 of_4 nn_4
                  have cz_4 := crowBut cz_3 kb_4 oo_2.y
                  refine hK.out _ _ cz_4 (fun hHeld => ?_)
                  clear hK K
                  try simp only [Act.put, List.getElem_toArray, List.getElem_cons_zero, List.getElem_cons_succ, List.setIfInBounds_toArray, List.set_cons_zero, List.set_cons_succ]
                  refine Ru.wpAnyU_take (i := 8) (v := v1) rfl (by kernel_rfl) (by kernel_rfl) (by kernel_rfl) (by kernel_rfl) (by kernel_rfl) (by kernel_rfl) (fun _ _ _ h => h) (Or.inl ⟨by kernel_rfl, fun w hS => by obtain sc0 := hS; go_simp⟩) hHeld ?_
                  simp only [Act.put, List.getElem_toArray, List.getElem_cons_zero, List.getElem_cons_succ, List.setIfInBounds_toArray, List.set_cons_zero, List.set_cons_succ]
                  refine Ru.wpAnyU_take (i := 9) (v := v2) rfl (by kernel_rfl) (by kernel_rfl) (by kernel_rfl) (by kernel_rfl) (by kernel_rfl) (by kernel_rfl) (fun _ _ _ h => h) (Or.inl ⟨by kernel_rfl, fun w hS => by obtain sc0 := hS; go_simp⟩) hHeld ?_
                  simp only [Act.put, List.getElem_toArray, List.getElem_cons_zero, List.getElem_cons_succ, List.setIfInBounds_toArray, List.set_cons_zero, List.set_cons_succ]
                  refine Ru.wpAnyU_done (by kernel_rfl) ?_
                  have TF := tw_4
                  go_wp2
                  go_roundw
                  case rel => exact ⟨k + 1, by omega, by go_num, by rw [HUU.out]; congr 1; omega, TF⟩
                  case measure => simp [intOf]; omega
                refine Ru.AllReadyU.cons rfl (by kernel_rfl) (fun K hK => ?_) Ru.AllReadyU.nil
                go_simp
                have e_5 : (wx.drew.alloc (.cells [.int .i64 q].toArray 2)).heap.size = wx.heap.size + 1 := by simp
                have k_5 := below_al (Below.refl _ (wx.drew.alloc (.cells [.int .i64 q].toArray 2))) (.cells [.bool sr, .slice rp rl rc].toArray 93)
                have of_5 : Off u7 u8 (wx.heap.size + 1) := by have h := tw_1.off (b := (wx.drew.alloc (.cells [.int .i64 q].toArray 2)).heap.size) (Nat.le_refl _); rw [e_5] at h; exact h
                have b_5 : CRow ((wx.drew.alloc (.cells [.int .i64 q].toArray 2)).alloc (.cells [.bool sr, .slice rp rl rc].toArray 93)) (wx.heap.size + 1) 93 [.bool sr, .slice rp rl rc] := by have h := crow_new (wx.drew.alloc (.cells [.int .i64 q].toArray 2)) 93 [.bool sr, .slice rp rl rc]; rw [e_5] at h; exact h
                have b2_5 := CRow.keep b_1 k_5
                have tw_5 := tw_1.keep k_5
                have cz_5 := CRow.keep cz_1 k_5
                have iz_5 := iz_1.below k_5
                refine hK.out _ _ cz_5 (fun hHeld => ?_)
                clear hK K
                try simp only [Act.put, List.getElem_toArray, List.getElem_cons_zero, List.getElem_cons_succ, List.setIfInBounds_toArray, List.set_cons_zero, List.set_cons_succ]
                refine Ru.wpAnyU_ready (rs := [3]) (by kernel_rfl) (by simp) ?_
                refine Ru.AllReadyU.cons rfl (by kernel_rfl) (fun K hK => ?_) Ru.AllReadyU.nil
                refine Nu.step_x (by rfl) (.tmp 65) (.tmp 67) (by rfl) tw_5 (by rfl) (by omega) (b := wx.heap.size) (y := q) (by rfl) b2_5 HQr.out ?_
                intro v1 w1 tw_6 kb_6 of_6 nn_6
                have lz_6 := CRow.lt cz_5
                have cz_6 := crowBut cz_5 kb_6 off.x
                have iz_6 := nn_6 _ _ iz_5
                have oo_6 := of_6 _ lz_6 off
                have b6_6 := crowBut b_5 kb_6 of_5.x
                refine hK.out _ _ cz_6 (fun hHeld => ?_)
                clear hK K
                try simp only [Act.put, List.getElem_toArray, List.getElem_cons_zero, List.getElem_cons_succ, List.setIfInBounds_toArray, List.set_cons_zero, List.set_cons_succ]
                refine Ru.wpAnyU_ready (rs := [7]) (by kernel_rfl) (by simp) ?_
                refine Ru.AllReadyU.cons rfl (by kernel_rfl) (fun K hK => ?_) Ru.AllReadyU.nil
                refine Nu.step_y (by rfl) (.tmp 69) (.tmp 71) (by rfl) tw_6 (by rfl) (by omega) (b := wx.heap.size + 1) (p := rp) (l := rl) (c := rc) (by rfl) (by rw [HRr.out, ← HSR.out]; exact b6_6) (by rw [HRr.out, ← HSR.out]; exact iz_6) ?_
                intro v2 w2 tw_7 kb_7 of_7 nn_7
                have cz_7 := crowBut cz_6 kb_7 oo_6.y
                refine hK.out _ _ cz_7 (fun hHeld => ?_)
                clear hK K
                try simp only [Act.put, List.getElem_toArray, List.getElem_cons_zero, List.getElem_cons_succ, List.setIfInBounds_toArray, List.set_cons_zero, List.set_cons_succ]
                refine Ru.wpAnyU_take (i := 8) (v := v1) rfl (by kernel_rfl) (by kernel_rfl) (by kernel_rfl) (by kernel_rfl) (by kernel_rfl) (by kernel_rfl) (fun _ _ _ h => h) (Or.inl ⟨by kernel_rfl, fun w hS => by obtain sc0 := hS; go_simp⟩) hHeld ?_
                simp only [Act.put, List.getElem_toArray, List.getElem_cons_zero, List.getElem_cons_succ, List.setIfInBounds_toArray, List.set_cons_zero, List.set_cons_succ]
                refine Ru.wpAnyU_take (i := 9) (v := v2) rfl (by kernel_rfl) (by kernel_rfl) (by kernel_rfl) (by kernel_rfl) (by kernel_rfl) (by kernel_rfl) (fun _ _ _ h => h) (Or.inl ⟨by kernel_rfl, fun w hS => by obtain sc0 := hS; go_simp⟩) hHeld ?_
                simp only [Act.put, List.getElem_toArray, List.getElem_cons_zero, List.getElem_cons_succ, List.setIfInBounds_toArray, List.set_cons_zero, List.set_cons_succ]
                refine Ru.wpAnyU_done (by kernel_rfl) ?_
                have TF := tw_7
                go_wp2
                go_roundw
                case rel => exact ⟨k + 1, by omega, by go_num, by rw [HUU.out]; congr 1; omega, TF⟩
                case measure => simp [intOf]; omega
              refine Ru.AllReadyU.cons rfl (by kernel_rfl) (fun K hK => ?_) Ru.AllReadyU.nil
              go_simp
              have e_8 : wx.drew.heap.size = wx.heap.size := rfl
              have k_8 := below_al (Below.refl _ wx.drew) (.cells [.bool sr, .slice rp rl rc].toArray 93)
              have of_8 : Off u7 u8 (wx.heap.size) := by have h := tw0.off (b := wx.drew.heap.size) (Nat.le_refl _); rw [e_8] at h; exact h
              have b_8 : CRow (wx.drew.alloc (.cells [.bool sr, .slice rp rl rc].toArray 93)) (wx.heap.size) 93 [.bool sr, .slice rp rl rc] := by have h := crow_new wx.drew 93 [.bool sr, .slice rp rl rc]; rw [e_8] at h; exact h
              have tw_8 := tw0.keep k_8
              have cz_8 := CRow.keep cz0 k_8
              have iz_8 := iz0.below k_8
              refine hK.out _ _ cz_8 (fun hHeld => ?_)
              clear hK K
              try simp only [Act.put, List.getElem_toArray, List.getElem_cons_zero, List.getElem_cons_succ, List.setIfInBounds_toArray, List.set_cons_zero, List.set_cons_succ]
              refine Ru.wpAnyU_ready (rs := [2]) (by kernel_rfl) (by simp) ?_
              refine Ru.AllReadyU.cons rfl (by kernel_rfl) (fun K hK => ?_) Ru.AllReadyU.nil
              go_simp
              have e_9 : (wx.drew.alloc (.cells [.bool sr, .slice rp rl rc].toArray 93)).heap.size = wx.heap.size + 1 := by simp
              have k_9 := below_al (Below.refl _ (wx.drew.alloc (.cells [.bool sr, .slice rp rl rc].toArray 93))) (.cells [.int .i64 q].toArray 2)
              have of_9 : Off u7 u8 (wx.heap.size + 1) := by have h := tw_8.off (b := (wx.drew.alloc (.cells [.bool sr, .slice rp rl rc].toArray 93)).heap.size) (Nat.le_refl _); rw [e_9] at h; exact h
              have b_9 : CRow ((wx.drew.alloc (.cells [.bool sr, .slice rp rl rc].toArray 93)).alloc (.cells [.int .i64 q].toArray 2)) (wx.heap.size + 1) 2 [.int .i64 q] := by have h := crow_new (wx.drew.alloc (.cells [.bool sr, .slice rp rl rc].toArray 93)) 2 [.int .i64 q]; rw [e_9] at h; exact h
              have b6_9 := CRow.keep b_8 k_9
              have tw_9 := tw_8.keep k_9
              have cz_9 := CRow.keep cz_8 k_9
              have iz_9 := iz_8.below k_9
              refine hK.out _ _ cz_9 (fun hHeld => ?_)
              clear hK K
              try simp only [Act.put, List.getElem_toArray, List.getElem_cons_zero, List.getElem_cons_succ, List.setIfInBounds_toArray, List.set_cons_zero, List.set_cons_succ]
              refine Ru.wpAnyU_ready (rs := [3]) (by kernel_rfl) (by simp) ?_
              refine Ru.AllReadyU.cons rfl (by kernel_rfl) (fun K hK => ?_) Ru.AllReadyU.nil
              refine Nu.step_x (by rfl) (.tmp 65) (.tmp 67) (by rfl) tw_9 (by rfl) (by omega) (b := wx.heap.size + 1) (y := q) (by rfl) b_9 HQr.out ?_
              intro v1 w1 tw_10 kb_10 of_10 nn_10
              have lz_10 := CRow.lt cz_9
              have cz_10 := crowBut cz_9 kb_10 off.x
              have iz_10 := nn_10 _ _ iz_9
              have oo_10 := of_10 _ lz_10 off
              have b6_10 := crowBut b6_9 kb_10 of_8.x
              refine hK.out _ _ cz_10 (fun hHeld => ?_)
              clear hK K
              try simp only [Act.put, List.getElem_toArray, List.getElem_cons_zero, List.getElem_cons_succ, List.setIfInBounds_toArray, List.set_cons_zero, List.set_cons_succ]
              refine Ru.wpAnyU_ready (rs := [7]) (by kernel_rfl) (by simp) ?_
              refine Ru.AllReadyU.cons rfl (by kernel_rfl) (fun K hK => ?_) Ru.AllReadyU.nil
              refine Nu.step_y (by rfl) (.tmp 69) (.tmp 71) (by rfl) tw_10 (by rfl) (by omega) (b := wx.heap.size) (p := rp) (l := rl) (c := rc) (by rfl) (by rw [HRr.out, ← HSR.out]; exact b6_10) (by rw [HRr.out, ← HSR.out]; exact iz_10) ?_
              intro v2 w2 tw_11 kb_11 of_11 nn_11
              have cz_11 := crowBut cz_10 kb_11 oo_10.y
              refine hK.out _ _ cz_11 (fun hHeld => ?_)
              clear hK K
              try simp only [Act.put, List.getElem_toArray, List.getElem_cons_zero, List.getElem_cons_succ, List.setIfInBounds_toArray, List.set_cons_zero, List.set_cons_succ]
              refine Ru.wpAnyU_take (i := 8) (v := v1) rfl (by kernel_rfl) (by kernel_rfl) (by kernel_rfl) (by kernel_rfl) (by kernel_rfl) (by kernel_rfl) (fun _ _ _ h => h) (Or.inl ⟨by kernel_rfl, fun w hS => by obtain sc0 := hS; go_simp⟩) hHeld ?_
              simp only [Act.put, List.getElem_toArray, List.getElem_cons_zero, List.getElem_cons_succ, List.setIfInBounds_toArray, List.set_cons_zero, List.set_cons_succ]
              refine Ru.wpAnyU_take (i := 9) (v := v2) rfl (by kernel_rfl) (by kernel_rfl) (by kernel_rfl) (by kernel_rfl) (by kernel_rfl) (by kernel_rfl) (fun _ _ _ h => h) (Or.inl ⟨by kernel_rfl, fun w hS => by obtain sc0 := hS; go_simp⟩) hHeld ?_
              simp only [Act.put, List.getElem_toArray, List.getElem_cons_zero, List.getElem_cons_succ, List.setIfInBounds_toArray, List.set_cons_zero, List.set_cons_succ]
              refine Ru.wpAnyU_done (by kernel_rfl) ?_
              have TF := tw_11
              go_wp2
              go_roundw
              case rel => exact ⟨k + 1, by omega, by go_num, by rw [HUU.out]; congr 1; omega, TF⟩
              case measure => simp [intOf]; omega
        · obtain rfl : n = k := by omega
          have hlf := lf_in (m := m) HS0.out
          have HRI : Hid (∀ i, i < n → 0 ≤ rt m a n i ∧ rt m a n i ≤ 18446744073709551616) := fun i hi => by have h1 := rt_in (m := m) HS0.out i; have h2 := (HT.out n (Nat.le_refl _)).2; omega
          have HQI : Hid (∀ i, i < n → 0 ≤ qt m a n i ∧ qt m a n i ≤ 1073741824) := fun i hi => by
            have h0 := fun j hj => qt_nn (m := m) (a := a) (n := n) hm0 (fun i hi => (HA.out i hi).1) HS0.out (i := j) hj
            have h1 := h0 i hi
            have h2 := tot_le_each (a := qt m a n) (n := n) h0 hi
            have h3 := hlf.1
            unfold lf at h3; omega
          have HSH : Hid (sh m a n = (give n (qt m a n) (rt m a n) (lf m a n).toNat).1) := rfl
          have eL : m - tot (qt m a n) n = lf m a n := rfl
          rw [eL]
          obtain ⟨F, hF⟩ : ∃ F, F = lf m a n := ⟨_, rfl⟩
          rw [← hF] at hlf HSH ⊢
          obtain ⟨q, hq⟩ : ∃ q, q = qt m a n := ⟨_, rfl⟩
          obtain ⟨r, hr⟩ : ∃ q, q = rt m a n := ⟨_, rfl⟩
          rw [← hq] at TT HQI HSH
          rw [← hr] at TT HRI HSH
          clear eL hF hq hr HQ h
          obtain ⟨gx, cx, rfl, _, _⟩ := TT.x.row.form hnp
          obtain ⟨gy, cy, rfl, _, _⟩ := TT.y.at hnp
          have HTT := hide TT
          clear TT
          go_wp2
          go_loopw [9] (fun lv wq => ∃ t : Nat, (t : Int) ≤ F ∧ lv = .int .i64 (F - (t : Int)) ∧ Nu.Two wr.heap.size wr wq (.slice (some ⟨gx, 0, none⟩) n cx) n (give n q r t).1 (.slice (some ⟨gy, 0, none⟩) n cy) n (give n q r t).2) (fun lv _ => (intOf lv).toNat)
          case atStart => exact ⟨0, by omega, by show Value.int .i64 F = .int .i64 (F - 0); rw [Int.sub_zero], HTT.out⟩
          case round =>
            rename World => wq
            obtain ⟨t, ht, rfl, T2⟩ := hrel
            by_cases h : (t : Int) < F
            · have hFt : 0 < F - (t : Int) := by omega
              obtain ⟨gy_, cy_, ey_, hat, _⟩ := T2.y.at hnp
              cases ey_
              have lcy := hat.le
              have lcy2 := hat.cap
              have hbs := bst_some (o := q) (fun i hi => (HRI.out i hi).1) (t := t) (by omega)
              have HIN : Hid (∀ i, i < n → _) := fun i hi => give_in HRI.out HQI.out (by omega) (t := t) (by omega) hi
              have HNX : Hid (∀ b : Nat, _ → _) := fun b hb => give_next (n := n) (o := q) (c := r) (t := t) (b := b) hb
              obtain ⟨O, hO⟩ : ∃ O, O = (give n q r t).1 := ⟨_, rfl⟩
              obtain ⟨C, hC⟩ : ∃ O, O = (give n q r t).2 := ⟨_, rfl⟩
              rw [← hO] at T2 HIN HNX
              rw [← hC] at T2 HIN HNX hat hbs
              clear hO hC
              have HT2 := hide T2
              have HAT := hide hat
              clear T2 hat
              go_wp2
              go_loopw [15, 16] (fun b i w3 => ∃ k : Nat, k ≤ n ∧ i = .int .i64 (k : Int) ∧ b = .int .i64 (bst C k) ∧ Below wq.heap.size wq w3) (fun _ i _ => n - (intOf i).toNat)
              case atStart => exact ⟨0, by omega, rfl, rfl, Below.refl _ _⟩
              case round =>
                rename World => w3
                obtain ⟨k, hk, rfl, rfl, B3⟩ := hrel
                by_cases hkn : k < n
                · obtain ⟨p, l, c, c0, c1, ei⟩ := (HAT.out.keep B3).num k hkn
                  have kn : (k : Int) < n := by omega
                  have bC := HIN.out k hkn
                  have hbl := bst_lo C k
                  obtain ⟨s1, hs1⟩ : ∃ q, q = decide (C k < 0) := ⟨_, rfl⟩
                  rw [← hs1] at c0 ei
                  have HSg := hide (fun W (h1 : IsNum W (.agg #[.bool s1, .slice p l c]) (C k)) => sign_any _ (C k) W (Nat.le_trans (len100 (by omega)) (by omega)) h1)
                  by_cases hc0 : 0 ≤ C k
                  · obtain ⟨sg, hsg⟩ : ∃ q, q = (C k).sign := ⟨_, rfl⟩
                    have hsg0 : 0 ≤ sg := by rcases sign_cases (C k) with h | h | h <;> omega
                    rw [← hsg] at HSg
                    by_cases hb0 : bst C k < 0
                    · have HB := hide (bst_yes hc0 (Or.inl hb0))
                      have HS : Hid (∀ V, Below w3.heap.size w3 V → (V.cell? ⟨gy, k * 2, none⟩ = some (.bool s1) ∧ V.cell? ⟨gy, k * 2 + 1, none⟩ = some (.slice p l c))) := fun V b => ⟨keep_cell b c0, keep_cell b c1⟩
                      obtain ⟨B, hB⟩ : ∃ q, q = bst C k := ⟨_, rfl⟩
                      rw [← hB] at hb0 hbl ⊢
                      clear c0 c1 hs1 hsg hB hc0 bC
                      go_upto_region 25 with fail
                      have D0 := Vc.below_drew' w3
                      refine Ru.wp_region_U [] (fun w' => w'.cell? ⟨gy, k * 2, none⟩ = some (.bool s1) ∧ w'.cell? ⟨gy, k * 2 + 1, none⟩ = some (.slice p l c)) (by kernel_rfl) (HS.out _ D0) (fun hHeld => ?_)
                      refine Ru.wpAnyU_take (i := 0) (v := .slice (some ⟨gy, 0, none⟩) n cy) rfl (by kernel_rfl) (by kernel_rfl) (by kernel_rfl) (by kernel_rfl) (by kernel_rfl) (by kernel_rfl) (fun _ _ _ h => h) (Or.inl ⟨by kernel_rfl, fun w hS => by obtain ⟨sc0, sc1⟩ := hS; go_simp⟩) hHeld ?_
                      simp only [Act.put, List.getElem_toArray, List.getElem_cons_zero, List.getElem_cons_succ, List.setIfInBounds_toArray, List.set_cons_zero, List.set_cons_succ]
                      refine Ru.wpAnyU_take (i := 1) (v := .int .i64 (k : Int)) rfl (by kernel_rfl) (by kernel_rfl) (by kernel_rfl) (by kernel_rfl) (by kernel_rfl) (by kernel_rfl) (fun _ _ _ h => h) (Or.inl ⟨by kernel_rfl, fun w hS => by obtain ⟨sc0, sc1⟩ := hS; go_simp⟩) hHeld ?_
                      simp only [Act.put, List.getElem_toArray, List.getElem_cons_zero, List.getElem_cons_succ, List.setIfInBounds_toArray, List.set_cons_zero, List.set_cons_succ]
                      refine Ru.wpAnyU_take (i := 2) (v := .pointer (some ⟨gy, k * 2, none⟩)) rfl (by kernel_rfl) (by kernel_rfl) (by kernel_rfl) (by kernel_rfl) (by kernel_rfl) (by kernel_rfl) (fun _ _ _ h => h) (Or.inl ⟨by kernel_rfl, fun w hS => by obtain ⟨sc0, sc1⟩ := hS; go_simp⟩) hHeld ?_
                      simp only [Act.put, List.getElem_toArray, List.getElem_cons_zero, List.getElem_cons_succ, List.setIfInBounds_toArray, List.set_cons_zero, List.set_cons_succ]
                      refine Ru.wpAnyU_take (i := 3) (v := .agg #[.bool s1, .slice p l c]) rfl (by kernel_rfl) (by kernel_rfl) (by kernel_rfl) (by kernel_rfl) (by kernel_rfl) (by kernel_rfl) (fun _ _ _ h => h) (Nu.yieldsN (by kernel_rfl) _ (by rfl) gy (k * 2) _ _ (by rfl) (fun w h => ⟨h.1, h.2⟩)) hHeld ?_
                      simp only [Act.put, List.getElem_toArray, List.getElem_cons_zero, List.getElem_cons_succ, List.setIfInBounds_toArray, List.set_cons_zero, List.set_cons_succ]
                      refine Ru.wpAnyU_ready (rs := [4]) (by kernel_rfl) (by simp) ?_
                      refine Ru.AllReadyU.cons rfl (by kernel_rfl) (fun K hK => ?_) Ru.AllReadyU.nil
                      go_simp
                      refine (HSg.out _ (ei.below D0)).mono ?_
                      rintro e w5 ⟨rfl, k5⟩
                      have D5 := below_tr D0 k5
                      go_wp2_with fail
                      refine hK.out _ _ (HS.out _ D5) (fun hHeld => ?_)
                      clear hK K
                      try simp only [Act.put, List.getElem_toArray, List.getElem_cons_zero, List.getElem_cons_succ, List.setIfInBounds_toArray, List.set_cons_zero, List.set_cons_succ]
                      refine Ru.wpAnyU_take (i := 5) (v := .bool true) rfl (by kernel_rfl) (by kernel_rfl) (by kernel_rfl) (by kernel_rfl) (by kernel_rfl) (by kernel_rfl) (fun _ _ _ h => h) (Or.inl ⟨by kernel_rfl, fun w hS => by obtain ⟨sc0, sc1⟩ := hS; go_simp⟩) hHeld ?_
                      simp only [Act.put, List.getElem_toArray, List.getElem_cons_zero, List.getElem_cons_succ, List.setIfInBounds_toArray, List.set_cons_zero, List.set_cons_succ]
                      refine Ru.wpAnyU_take (i := 6) (v := .bool true) rfl (by kernel_rfl) (by kernel_rfl) (by kernel_rfl) (by kernel_rfl) (by kernel_rfl) (by kernel_rfl) (fun _ _ _ h => h) (Or.inl ⟨by kernel_rfl, fun w hS => by obtain ⟨sc0, sc1⟩ := hS; go_simp⟩) hHeld ?_
                      simp only [Act.put, List.getElem_toArray, List.getElem_cons_zero, List.getElem_cons_succ, List.setIfInBounds_toArray, List.set_cons_zero, List.set_cons_succ]
                      refine Ru.wpAnyU_take (i := 7) (v := .int .i64 B) rfl (by kernel_rfl) (by kernel_rfl) (by kernel_rfl) (by kernel_rfl) (by kernel_rfl) (by kernel_rfl) (fun _ _ _ h => h) (Or.inl ⟨by kernel_rfl, fun w hS => by obtain ⟨sc0, sc1⟩ := hS; go_simp⟩) hHeld ?_
                      simp only [Act.put, List.getElem_toArray, List.getElem_cons_zero, List.getElem_cons_succ, List.setIfInBounds_toArray, List.set_cons_zero, List.set_cons_succ]
                      refine Ru.wpAnyU_take (i := 8) (v := .bool true) rfl (by kernel_rfl) (by kernel_rfl) (by kernel_rfl) (by kernel_rfl) (by kernel_rfl) (by kernel_rfl) (fun _ _ _ h => h) (Or.inl ⟨by kernel_rfl, fun w hS => by obtain ⟨sc0, sc1⟩ := hS; go_simp⟩) hHeld ?_
                      simp only [Act.put, List.getElem_toArray, List.getElem_cons_zero, List.getElem_cons_succ, List.setIfInBounds_toArray, List.set_cons_zero, List.set_cons_succ]
                      refine Ru.wpAnyU_take (i := 9) (v := .bool true) rfl (by kernel_rfl) (by kernel_rfl) (by kernel_rfl) (by kernel_rfl) (by kernel_rfl) (by kernel_rfl) (fun _ _ _ h => h) (Or.inl ⟨by kernel_rfl, fun w hS => by obtain ⟨sc0, sc1⟩ := hS; go_simp⟩) hHeld ?_
                      simp only [Act.put, List.getElem_toArray, List.getElem_cons_zero, List.getElem_cons_succ, List.setIfInBounds_toArray, List.set_cons_zero, List.set_cons_succ]
                      refine Ru.wpAnyU_take (i := 10) (v := undef) rfl (by kernel_rfl) (by kernel_rfl) (by kernel_rfl) (by kernel_rfl) (by kernel_rfl) (by kernel_rfl) (fun _ _ _ h => h) (Or.inr ⟨by kernel_rfl, rfl⟩) hHeld ?_
                      simp only [Act.put, List.getElem_toArray, List.getElem_cons_zero, List.getElem_cons_succ, List.setIfInBounds_toArray, List.set_cons_zero, List.set_cons_succ]
                      refine Ru.wpAnyU_take (i := 11) (v := undef) rfl (by kernel_rfl) (by kernel_rfl) (by kernel_rfl) (by kernel_rfl) (by kernel_rfl) (by kernel_rfl) (fun _ _ _ h => h) (Or.inr ⟨by kernel_rfl, rfl⟩) hHeld ?_
                      simp only [Act.put, List.getElem_toArray, List.getElem_cons_zero, List.getElem_cons_succ, List.setIfInBounds_toArray, List.set_cons_zero, List.set_cons_succ]
                      refine Ru.wpAnyU_take (i := 12) (v := undef) rfl (by kernel_rfl) (by kernel_rfl) (by kernel_rfl) (by kernel_rfl) (by kernel_rfl) (by kernel_rfl) (fun _ _ _ h => h) (Or.inr ⟨by kernel_rfl, rfl⟩) hHeld ?_
                      simp only [Act.put, List.getElem_toArray, List.getElem_cons_zero, List.getElem_cons_succ, List.setIfInBounds_toArray, List.set_cons_zero, List.set_cons_succ]
                      refine Ru.wpAnyU_take (i := 13) (v := undef) rfl (by kernel_rfl) (by kernel_rfl) (by kernel_rfl) (by kernel_rfl) (by kernel_rfl) (by kernel_rfl) (fun _ _ _ h => h) (Or.inr ⟨by kernel_rfl, rfl⟩) hHeld ?_
                      simp only [Act.put, List.getElem_toArray, List.getElem_cons_zero, List.getElem_cons_succ, List.setIfInBounds_toArray, List.set_cons_zero, List.set_cons_succ]
                      refine Ru.wpAnyU_take (i := 14) (v := undef) rfl (by kernel_rfl) (by kernel_rfl) (by kernel_rfl) (by kernel_rfl) (by kernel_rfl) (by kernel_rfl) (fun _ _ _ h => h) (Or.inr ⟨by kernel_rfl, rfl⟩) hHeld ?_
                      simp only [Act.put, List.getElem_toArray, List.getElem_cons_zero, List.getElem_cons_succ, List.setIfInBounds_toArray, List.set_cons_zero, List.set_cons_succ]
                      refine Ru.wpAnyU_take (i := 15) (v := undef) rfl (by kernel_rfl) (by kernel_rfl) (by kernel_rfl) (by kernel_rfl) (by kernel_rfl) (by kernel_rfl) (fun _ _ _ h => h) (Or.inr ⟨by kernel_rfl, rfl⟩) hHeld ?_
                      simp only [Act.put, List.getElem_toArray, List.getElem_cons_zero, List.getElem_cons_succ, List.setIfInBounds_toArray, List.set_cons_zero, List.set_cons_succ]
                      refine Ru.wpAnyU_take (i := 16) (v := undef) rfl (by kernel_rfl) (by kernel_rfl) (by kernel_rfl) (by kernel_rfl) (by kernel_rfl) (by kernel_rfl) (fun _ _ _ h => h) (Or.inr ⟨by kernel_rfl, rfl⟩) hHeld ?_
                      simp only [Act.put, List.getElem_toArray, List.getElem_cons_zero, List.getElem_cons_succ, List.setIfInBounds_toArray, List.set_cons_zero, List.set_cons_succ]
                      refine Ru.wpAnyU_take (i := 17) (v := undef) rfl (by kernel_rfl) (by kernel_rfl) (by kernel_rfl) (by kernel_rfl) (by kernel_rfl) (by kernel_rfl) (fun _ _ _ h => h) (Or.inr ⟨by kernel_rfl, rfl⟩) hHeld ?_
                      simp only [Act.put, List.getElem_toArray, List.getElem_cons_zero, List.getElem_cons_succ, List.setIfInBounds_toArray, List.set_cons_zero, List.set_cons_succ]
                      refine Ru.wpAnyU_take (i := 18) (v := undef) rfl (by kernel_rfl) (by kernel_rfl) (by kernel_rfl) (by kernel_rfl) (by kernel_rfl) (by kernel_rfl) (fun _ _ _ h => h) (Or.inr ⟨by kernel_rfl, rfl⟩) hHeld ?_
                      simp only [Act.put, List.getElem_toArray, List.getElem_cons_zero, List.getElem_cons_succ, List.setIfInBounds_toArray, List.set_cons_zero, List.set_cons_succ]
                      refine Ru.wpAnyU_take (i := 19) (v := undef) rfl (by kernel_rfl) (by kernel_rfl) (by kernel_rfl) (by kernel_rfl) (by kernel_rfl) (by kernel_rfl) (fun _ _ _ h => h) (Or.inr ⟨by kernel_rfl, rfl⟩) hHeld ?_
                      simp only [Act.put, List.getElem_toArray, List.getElem_cons_zero, List.getElem_cons_succ, List.setIfInBounds_toArray, List.set_cons_zero, List.set_cons_succ]
                      refine Ru.wpAnyU_take (i := 20) (v := .bool true) rfl (by kernel_rfl) (by kernel_rfl) (by kernel_rfl) (by kernel_rfl) (by kernel_rfl) (by kernel_rfl) (fun _ _ _ h => h) (Or.inl ⟨by kernel_rfl, fun w hS => by obtain ⟨sc0, sc1⟩ := hS; go_simp⟩) hHeld ?_
                      simp only [Act.put, List.getElem_toArray, List.getElem_cons_zero, List.getElem_cons_succ, List.setIfInBounds_toArray, List.set_cons_zero, List.set_cons_succ]
                      refine Ru.wpAnyU_take (i := 21) (v := .bool true) rfl (by kernel_rfl) (by kernel_rfl) (by kernel_rfl) (by kernel_rfl) (by kernel_rfl) (by kernel_rfl) (fun _ _ _ h => h) (Or.inl ⟨by kernel_rfl, fun w hS => by obtain ⟨sc0, sc1⟩ := hS; go_simp⟩) hHeld ?_
                      simp only [Act.put, List.getElem_toArray, List.getElem_cons_zero, List.getElem_cons_succ, List.setIfInBounds_toArray, List.set_cons_zero, List.set_cons_succ]
                      refine Ru.wpAnyU_done (by kernel_rfl) ?_
                      have DD := below_tr B3 D5
                      clear B3
                      go_wp2
                      go_roundw
                      case rel => exact ⟨k + 1, by omega, by go_num, by rw [HB.out], DD⟩
                      case measure => simp [intOf]; omega
                    · have hlt := bst_lt (C := C) (k := k) (by omega)
                      obtain ⟨B, hB⟩ : ∃ q, q = bst C k := ⟨_, rfl⟩
                      obtain ⟨bb, hbb⟩ : ∃ b : Nat, B = (b : Int) := ⟨B.toNat, by omega⟩
                      have hB2 : (bst C k).toNat = bb := by omega
                      rw [hB2] at hlt
                      obtain ⟨p2, l2, c2, d0, d1, ei2⟩ := (HAT.out.keep B3).num bb (by omega)
                      have bC2 := HIN.out bb (by omega)
                      obtain ⟨s2, hs2⟩ : ∃ q, q = decide (C bb < 0) := ⟨_, rfl⟩
                      rw [← hs2] at d0 ei2
                      have HCm := hide (fun W (h1 : IsNum W (.agg #[.bool s1, .slice p l c]) (C k)) (h2 : IsNum W (.agg #[.bool s2, .slice p2 l2 c2]) (C bb)) => cmp_any _ _ (C k) (C bb) W (len100 (by omega)) (len100 (by omega)) h1 h2)
                      have HS : Hid (∀ V, Below w3.heap.size w3 V → (V.cell? ⟨gy, k * 2, none⟩ = some (.bool s1) ∧ V.cell? ⟨gy, k * 2 + 1, none⟩ = some (.slice p l c) ∧ V.cell? ⟨gy, bb * 2, none⟩ = some (.bool s2) ∧ V.cell? ⟨gy, bb * 2 + 1, none⟩ = some (.slice p2 l2 c2))) := fun V b => ⟨keep_cell b c0, keep_cell b c1, keep_cell b d0, keep_cell b d1⟩
                      obtain ⟨cm, hcm⟩ : ∃ q, q = (C k - C bb).sign := ⟨_, rfl⟩
                      rw [← hcm] at HCm
                      by_cases hg : C bb < C k
                      · have HB : Hid (bst C (k + 1) = (k : Int)) := bst_yes hc0 (Or.inr (by rw [hB2]; exact hg))
                        have hcm1 : cm = 1 := by rcases sign_cases (C k - C bb) with h | h | h <;> omega
                        rw [← hB] at hb0 hbl ⊢
                        have kbb : B < n := by omega
                        clear c0 c1 d0 d1 hs1 hs2 hsg hc0 bC bC2 hcm hg hB2 hB hlt
                        subst hcm1
                        subst hbb
                        go_upto_region 25 with fail
                        have D0 := Vc.below_drew' w3
                        refine Ru.wp_region_U [] (fun w' => w'.cell? ⟨gy, k * 2, none⟩ = some (.bool s1) ∧ w'.cell? ⟨gy, k * 2 + 1, none⟩ = some (.slice p l c) ∧ w'.cell? ⟨gy, bb * 2, none⟩ = some (.bool s2) ∧ w'.cell? ⟨gy, bb * 2 + 1, none⟩ = some (.slice p2 l2 c2)) (by kernel_rfl) (HS.out _ D0) (fun hHeld => ?_)
                        refine Ru.wpAnyU_take (i := 0) (v := .slice (some ⟨gy, 0, none⟩) n cy) rfl (by kernel_rfl) (by kernel_rfl) (by kernel_rfl) (by kernel_rfl) (by kernel_rfl) (by kernel_rfl) (fun _ _ _ h => h) (Or.inl ⟨by kernel_rfl, fun w hS => by obtain ⟨sc0, sc1, sc2, sc3⟩ := hS; go_simp⟩) hHeld ?_
                        simp only [Act.put, List.getElem_toArray, List.getElem_cons_zero, List.getElem_cons_succ, List.setIfInBounds_toArray, List.set_cons_zero, List.set_cons_succ]
                        refine Ru.wpAnyU_take (i := 1) (v := .int .i64 (k : Int)) rfl (by kernel_rfl) (by kernel_rfl) (by kernel_rfl) (by kernel_rfl) (by kernel_rfl) (by kernel_rfl) (fun _ _ _ h => h) (Or.inl ⟨by kernel_rfl, fun w hS => by obtain ⟨sc0, sc1, sc2, sc3⟩ := hS; go_simp⟩) hHeld ?_
                        simp only [Act.put, List.getElem_toArray, List.getElem_cons_zero, List.getElem_cons_succ, List.setIfInBounds_toArray, List.set_cons_zero, List.set_cons_succ]
                        refine Ru.wpAnyU_take (i := 2) (v := .pointer (some ⟨gy, k * 2, none⟩)) rfl (by kernel_rfl) (by kernel_rfl) (by kernel_rfl) (by kernel_rfl) (by kernel_rfl) (by kernel_rfl) (fun _ _ _ h => h) (Or.inl ⟨by kernel_rfl, fun w hS => by obtain ⟨sc0, sc1, sc2, sc3⟩ := hS; go_simp⟩) hHeld ?_
                        simp only [Act.put, List.getElem_toArray, List.getElem_cons_zero, List.getElem_cons_succ, List.setIfInBounds_toArray, List.set_cons_zero, List.set_cons_succ]
                        refine Ru.wpAnyU_take (i := 3) (v := .agg #[.bool s1, .slice p l c]) rfl (by kernel_rfl) (by kernel_rfl) (by kernel_rfl) (by kernel_rfl) (by kernel_rfl) (by kernel_rfl) (fun _ _ _ h => h) (Nu.yieldsN (by kernel_rfl) _ (by rfl) gy (k * 2) _ _ (by rfl) (fun w h => ⟨h.1, h.2.1⟩)) hHeld ?_
                        simp only [Act.put, List.getElem_toArray, List.getElem_cons_zero, List.getElem_cons_succ, List.setIfInBounds_toArray, List.set_cons_zero, List.set_cons_succ]
                        refine Ru.wpAnyU_ready (rs := [4]) (by kernel_rfl) (by simp) ?_
                        refine Ru.AllReadyU.cons rfl (by kernel_rfl) (fun K hK => ?_) Ru.AllReadyU.nil
                        go_simp
                        refine (HSg.out _ (ei.below D0)).mono ?_
                        rintro e w5 ⟨rfl, k5⟩
                        have D5 := below_tr D0 k5
                        go_wp2_with fail
                        refine hK.out _ _ (HS.out _ D5) (fun hHeld => ?_)
                        clear hK K
                        try simp only [Act.put, List.getElem_toArray, List.getElem_cons_zero, List.getElem_cons_succ, List.setIfInBounds_toArray, List.set_cons_zero, List.set_cons_succ]
                        refine Ru.wpAnyU_take (i := 5) (v := .bool true) rfl (by kernel_rfl) (by kernel_rfl) (by kernel_rfl) (by kernel_rfl) (by kernel_rfl) (by kernel_rfl) (fun _ _ _ h => h) (Or.inl ⟨by kernel_rfl, fun w hS => by obtain ⟨sc0, sc1, sc2, sc3⟩ := hS; go_simp⟩) hHeld ?_
                        simp only [Act.put, List.getElem_toArray, List.getElem_cons_zero, List.getElem_cons_succ, List.setIfInBounds_toArray, List.set_cons_zero, List.set_cons_succ]
                        refine Ru.wpAnyU_take (i := 6) (v := .bool true) rfl (by kernel_rfl) (by kernel_rfl) (by kernel_rfl) (by kernel_rfl) (by kernel_rfl) (by kernel_rfl) (fun _ _ _ h => h) (Or.inl ⟨by kernel_rfl, fun w hS => by obtain ⟨sc0, sc1, sc2, sc3⟩ := hS; go_simp⟩) hHeld ?_
                        simp only [Act.put, List.getElem_toArray, List.getElem_cons_zero, List.getElem_cons_succ, List.setIfInBounds_toArray, List.set_cons_zero, List.set_cons_succ]
                        refine Ru.wpAnyU_take (i := 7) (v := .int .i64 (bb : Int)) rfl (by kernel_rfl) (by kernel_rfl) (by kernel_rfl) (by kernel_rfl) (by kernel_rfl) (by kernel_rfl) (fun _ _ _ h => h) (Or.inl ⟨by kernel_rfl, fun w hS => by obtain ⟨sc0, sc1, sc2, sc3⟩ := hS; go_simp⟩) hHeld ?_
                        simp only [Act.put, List.getElem_toArray, List.getElem_cons_zero, List.getElem_cons_succ, List.setIfInBounds_toArray, List.set_cons_zero, List.set_cons_succ]
                        refine Ru.wpAnyU_take (i := 8) (v := .bool false) rfl (by kernel_rfl) (by kernel_rfl) (by kernel_rfl) (by kernel_rfl) (by kernel_rfl) (by kernel_rfl) (fun _ _ _ h => h) (Or.inl ⟨by kernel_rfl, fun w hS => by obtain ⟨sc0, sc1, sc2, sc3⟩ := hS; go_simp⟩) hHeld ?_
                        simp only [Act.put, List.getElem_toArray, List.getElem_cons_zero, List.getElem_cons_succ, List.setIfInBounds_toArray, List.set_cons_zero, List.set_cons_succ]
                        refine Ru.wpAnyU_take (i := 9) (v := .bool false) rfl (by kernel_rfl) (by kernel_rfl) (by kernel_rfl) (by kernel_rfl) (by kernel_rfl) (by kernel_rfl) (fun _ _ _ h => h) (Or.inl ⟨by kernel_rfl, fun w hS => by obtain ⟨sc0, sc1, sc2, sc3⟩ := hS; go_simp⟩) hHeld ?_
                        simp only [Act.put, List.getElem_toArray, List.getElem_cons_zero, List.getElem_cons_succ, List.setIfInBounds_toArray, List.set_cons_zero, List.set_cons_succ]
                        refine Ru.wpAnyU_take (i := 10) (v := .slice (some ⟨gy, 0, none⟩) n cy) rfl (by kernel_rfl) (by kernel_rfl) (by kernel_rfl) (by kernel_rfl) (by kernel_rfl) (by kernel_rfl) (fun _ _ _ h => h) (Or.inl ⟨by kernel_rfl, fun w hS => by obtain ⟨sc0, sc1, sc2, sc3⟩ := hS; go_simp⟩) hHeld ?_
                        simp only [Act.put, List.getElem_toArray, List.getElem_cons_zero, List.getElem_cons_succ, List.setIfInBounds_toArray, List.set_cons_zero, List.set_cons_succ]
                        refine Ru.wpAnyU_take (i := 11) (v := .int .i64 (k : Int)) rfl (by kernel_rfl) (by kernel_rfl) (by kernel_rfl) (by kernel_rfl) (by kernel_rfl) (by kernel_rfl) (fun _ _ _ h => h) (Or.inl ⟨by kernel_rfl, fun w hS => by obtain ⟨sc0, sc1, sc2, sc3⟩ := hS; go_simp⟩) hHeld ?_
                        simp only [Act.put, List.getElem_toArray, List.getElem_cons_zero, List.getElem_cons_succ, List.setIfInBounds_toArray, List.set_cons_zero, List.set_cons_succ]
                        refine Ru.wpAnyU_take (i := 12) (v := .pointer (some ⟨gy, k * 2, none⟩)) rfl (by kernel_rfl) (by kernel_rfl) (by kernel_rfl) (by kernel_rfl) (by kernel_rfl) (by kernel_rfl) (fun _ _ _ h => h) (Or.inl ⟨by kernel_rfl, fun w hS => by obtain ⟨sc0, sc1, sc2, sc3⟩ := hS; go_simp⟩) hHeld ?_
                        simp only [Act.put, List.getElem_toArray, List.getElem_cons_zero, List.getElem_cons_succ, List.setIfInBounds_toArray, List.set_cons_zero, List.set_cons_succ]
                        refine Ru.wpAnyU_take (i := 13) (v := .agg #[.bool s1, .slice p l c]) rfl (by kernel_rfl) (by kernel_rfl) (by kernel_rfl) (by kernel_rfl) (by kernel_rfl) (by kernel_rfl) (fun _ _ _ h => h) (Nu.yieldsN (by kernel_rfl) _ (by rfl) gy (k * 2) _ _ (by rfl) (fun w h => ⟨h.1, h.2.1⟩)) hHeld ?_
                        simp only [Act.put, List.getElem_toArray, List.getElem_cons_zero, List.getElem_cons_succ, List.setIfInBounds_toArray, List.set_cons_zero, List.set_cons_succ]
                        refine Ru.wpAnyU_take (i := 14) (v := .slice (some ⟨gy, 0, none⟩) n cy) rfl (by kernel_rfl) (by kernel_rfl) (by kernel_rfl) (by kernel_rfl) (by kernel_rfl) (by kernel_rfl) (fun _ _ _ h => h) (Or.inl ⟨by kernel_rfl, fun w hS => by obtain ⟨sc0, sc1, sc2, sc3⟩ := hS; go_simp⟩) hHeld ?_
                        simp only [Act.put, List.getElem_toArray, List.getElem_cons_zero, List.getElem_cons_succ, List.setIfInBounds_toArray, List.set_cons_zero, List.set_cons_succ]
                        refine Ru.wpAnyU_take (i := 15) (v := .int .i64 (bb : Int)) rfl (by kernel_rfl) (by kernel_rfl) (by kernel_rfl) (by kernel_rfl) (by kernel_rfl) (by kernel_rfl) (fun _ _ _ h => h) (Or.inl ⟨by kernel_rfl, fun w hS => by obtain ⟨sc0, sc1, sc2, sc3⟩ := hS; go_simp⟩) hHeld ?_
                        simp only [Act.put, List.getElem_toArray, List.getElem_cons_zero, List.getElem_cons_succ, List.setIfInBounds_toArray, List.set_cons_zero, List.set_cons_succ]
                        refine Ru.wpAnyU_take (i := 16) (v := .pointer (some ⟨gy, bb * 2, none⟩)) rfl (by kernel_rfl) (by kernel_rfl) (by kernel_rfl) (by kernel_rfl) (by kernel_rfl) (by kernel_rfl) (fun _ _ _ h => h) (Or.inl ⟨by kernel_rfl, fun w hS => by obtain ⟨sc0, sc1, sc2, sc3⟩ := hS; go_simp⟩) hHeld ?_
                        simp only [Act.put, List.getElem_toArray, List.getElem_cons_zero, List.getElem_cons_succ, List.setIfInBounds_toArray, List.set_cons_zero, List.set_cons_succ]
                        refine Ru.wpAnyU_take (i := 17) (v := .agg #[.bool s2, .slice p2 l2 c2]) rfl (by kernel_rfl) (by kernel_rfl) (by kernel_rfl) (by kernel_rfl) (by kernel_rfl) (by kernel_rfl) (fun _ _ _ h => h) (Nu.yieldsN (by kernel_rfl) _ (by rfl) gy (bb * 2) _ _ (by rfl) (fun w h => ⟨h.2.2.1, h.2.2.2⟩)) hHeld ?_
                        simp only [Act.put, List.getElem_toArray, List.getElem_cons_zero, List.getElem_cons_succ, List.setIfInBounds_toArray, List.set_cons_zero, List.set_cons_succ]
                        refine Ru.wpAnyU_ready (rs := [18]) (by kernel_rfl) (by simp) ?_
                        refine Ru.AllReadyU.cons rfl (by kernel_rfl) (fun K hK => ?_) Ru.AllReadyU.nil
                        go_simp
                        refine (HCm.out _ (ei.below D5) (ei2.below D5)).mono ?_
                        rintro e w6 ⟨rfl, k6⟩
                        have D6 := below_tr D5 k6
                        go_wp2_with fail
                        refine hK.out _ _ (HS.out _ D6) (fun hHeld => ?_)
                        clear hK K
                        try simp only [Act.put, List.getElem_toArray, List.getElem_cons_zero, List.getElem_cons_succ, List.setIfInBounds_toArray, List.set_cons_zero, List.set_cons_succ]
                        refine Ru.wpAnyU_take (i := 19) (v := .bool true) rfl (by kernel_rfl) (by kernel_rfl) (by kernel_rfl) (by kernel_rfl) (by kernel_rfl) (by kernel_rfl) (fun _ _ _ h => h) (Or.inl ⟨by kernel_rfl, fun w hS => by obtain ⟨sc0, sc1, sc2, sc3⟩ := hS; go_simp⟩) hHeld ?_
                        simp only [Act.put, List.getElem_toArray, List.getElem_cons_zero, List.getElem_cons_succ, List.setIfInBounds_toArray, List.set_cons_zero, List.set_cons_succ]
                        refine Ru.wpAnyU_take (i := 20) (v := .bool true) rfl (by kernel_rfl) (by kernel_rfl) (by kernel_rfl) (by kernel_rfl) (by kernel_rfl) (by kernel_rfl) (fun _ _ _ h => h) (Or.inl ⟨by kernel_rfl, fun w hS => by obtain ⟨sc0, sc1, sc2, sc3⟩ := hS; go_simp⟩) hHeld ?_
                        simp only [Act.put, List.getElem_toArray, List.getElem_cons_zero, List.getElem_cons_succ, List.setIfInBounds_toArray, List.set_cons_zero, List.set_cons_succ]
                        refine Ru.wpAnyU_take (i := 21) (v := .bool true) rfl (by kernel_rfl) (by kernel_rfl) (by kernel_rfl) (by kernel_rfl) (by kernel_rfl) (by kernel_rfl) (fun _ _ _ h => h) (Or.inl ⟨by kernel_rfl, fun w hS => by obtain ⟨sc0, sc1, sc2, sc3⟩ := hS; go_simp⟩) hHeld ?_
                        simp only [Act.put, List.getElem_toArray, List.getElem_cons_zero, List.getElem_cons_succ, List.setIfInBounds_toArray, List.set_cons_zero, List.set_cons_succ]
                        refine Ru.wpAnyU_done (by kernel_rfl) ?_
                        have DD := below_tr B3 D6
                        clear B3
                        go_wp2
                        go_roundw
                        case rel => exact ⟨k + 1, by omega, by go_num, by rw [HB.out], DD⟩
                        case measure => simp [intOf]; omega
                      · have HB : Hid (bst C (k + 1) = B) := by rw [hB]; exact bst_no (fun q => by rw [hB2] at q; omega)
                        have hcm1 : cm ≤ 0 := by rcases sign_cases (C k - C bb) with h | h | h <;> omega
                        rw [← hB] at hb0 hbl ⊢
                        have kbb : B < n := by omega
                        clear c0 c1 d0 d1 hs1 hs2 hsg hc0 bC bC2 hcm hg hB2 hB hlt
                        subst hbb
                        go_upto_region 25 with fail
                        have D0 := Vc.below_drew' w3
                        refine Ru.wp_region_U [] (fun w' => w'.cell? ⟨gy, k * 2, none⟩ = some (.bool s1) ∧ w'.cell? ⟨gy, k * 2 + 1, none⟩ = some (.slice p l c) ∧ w'.cell? ⟨gy, bb * 2, none⟩ = some (.bool s2) ∧ w'.cell? ⟨gy, bb * 2 + 1, none⟩ = some (.slice p2 l2 c2)) (by kernel_rfl) (HS.out _ D0) (fun hHeld => ?_)
                        refine Ru.wpAnyU_take (i := 0) (v := .slice (some ⟨gy, 0, none⟩) n cy) rfl (by kernel_rfl) (by kernel_rfl) (by kernel_rfl) (by kernel_rfl) (by kernel_rfl) (by kernel_rfl) (fun _ _ _ h => h) (Or.inl ⟨by kernel_rfl, fun w hS => by obtain ⟨sc0, sc1, sc2, sc3⟩ := hS; go_simp⟩) hHeld ?_
                        simp only [Act.put, List.getElem_toArray, List.getElem_cons_zero, List.getElem_cons_succ, List.setIfInBounds_toArray, List.set_cons_zero, List.set_cons_succ]
                        refine Ru.wpAnyU_take (i := 1) (v := .int .i64 (k : Int)) rfl (by kernel_rfl) (by kernel_rfl) (by kernel_rfl) (by kernel_rfl) (by kernel_rfl) (by kernel_rfl) (fun _ _ _ h => h) (Or.inl ⟨by kernel_rfl, fun w hS => by obtain ⟨sc0, sc1, sc2, sc3⟩ := hS; go_simp⟩) hHeld ?_
                        simp only [Act.put, List.getElem_toArray, List.getElem_cons_zero, List.getElem_cons_succ, List.setIfInBounds_toArray, List.set_cons_zero, List.set_cons_succ]
                        refine Ru.wpAnyU_take (i := 2) (v := .pointer (some ⟨gy, k * 2, none⟩)) rfl (by kernel_rfl) (by kernel_rfl) (by kernel_rfl) (by kernel_rfl) (by kernel_rfl) (by kernel_rfl) (fun _ _ _ h => h) (Or.inl ⟨by kernel_rfl, fun w hS => by obtain ⟨sc0, sc1, sc2, sc3⟩ := hS; go_simp⟩) hHeld ?_
                        simp only [Act.put, List.getElem_toArray, List.getElem_cons_zero, List.getElem_cons_succ, List.setIfInBounds_toArray, List.set_cons_zero, List.set_cons_succ]
                        refine Ru.wpAnyU_take (i := 3) (v := .agg #[.bool s1, .slice p l c]) rfl (by kernel_rfl) (by kernel_rfl) (by kernel_rfl) (by kernel_rfl) (by kernel_rfl) (by kernel_rfl) (fun _ _ _ h => h) (Nu.yieldsN (by kernel_rfl) _ (by rfl) gy (k * 2) _ _ (by rfl) (fun w h => ⟨h.1, h.2.1⟩)) hHeld ?_
                        simp only [Act.put, List.getElem_toArray, List.getElem_cons_zero, List.getElem_cons_succ, List.setIfInBounds_toArray, List.set_cons_zero, List.set_cons_succ]
                        refine Ru.wpAnyU_ready (rs := [4]) (by kernel_rfl) (by simp) ?_
                        refine Ru.AllReadyU.cons rfl (by kernel_rfl) (fun K hK => ?_) Ru.AllReadyU.nil
                        go_simp
                        refine (HSg.out _ (ei.below D0)).mono ?_
                        rintro e w5 ⟨rfl, k5⟩
                        have D5 := below_tr D0 k5
                        go_wp2_with fail
                        refine hK.out _ _ (HS.out _ D5) (fun hHeld => ?_)
                        clear hK K
                        try simp only [Act.put, List.getElem_toArray, List.getElem_cons_zero, List.getElem_cons_succ, List.setIfInBounds_toArray, List.set_cons_zero, List.set_cons_succ]
                        refine Ru.wpAnyU_take (i := 5) (v := .bool true) rfl (by kernel_rfl) (by kernel_rfl) (by kernel_rfl) (by kernel_rfl) (by kernel_rfl) (by kernel_rfl) (fun _ _ _ h => h) (Or.inl ⟨by kernel_rfl, fun w hS => by obtain ⟨sc0, sc1, sc2, sc3⟩ := hS; go_simp⟩) hHeld ?_
                        simp only [Act.put, List.getElem_toArray, List.getElem_cons_zero, List.getElem_cons_succ, List.setIfInBounds_toArray, List.set_cons_zero, List.set_cons_succ]
                        refine Ru.wpAnyU_take (i := 6) (v := .bool true) rfl (by kernel_rfl) (by kernel_rfl) (by kernel_rfl) (by kernel_rfl) (by kernel_rfl) (by kernel_rfl) (fun _ _ _ h => h) (Or.inl ⟨by kernel_rfl, fun w hS => by obtain ⟨sc0, sc1, sc2, sc3⟩ := hS; go_simp⟩) hHeld ?_
                        simp only [Act.put, List.getElem_toArray, List.getElem_cons_zero, List.getElem_cons_succ, List.setIfInBounds_toArray, List.set_cons_zero, List.set_cons_succ]
                        refine Ru.wpAnyU_take (i := 7) (v := .int .i64 (bb : Int)) rfl (by kernel_rfl) (by kernel_rfl) (by kernel_rfl) (by kernel_rfl) (by kernel_rfl) (by kernel_rfl) (fun _ _ _ h => h) (Or.inl ⟨by kernel_rfl, fun w hS => by obtain ⟨sc0, sc1, sc2, sc3⟩ := hS; go_simp⟩) hHeld ?_
                        simp only [Act.put, List.getElem_toArray, List.getElem_cons_zero, List.getElem_cons_succ, List.setIfInBounds_toArray, List.set_cons_zero, List.set_cons_succ]
                        refine Ru.wpAnyU_take (i := 8) (v := .bool false) rfl (by kernel_rfl) (by kernel_rfl) (by kernel_rfl) (by kernel_rfl) (by kernel_rfl) (by kernel_rfl) (fun _ _ _ h => h) (Or.inl ⟨by kernel_rfl, fun w hS => by obtain ⟨sc0, sc1, sc2, sc3⟩ := hS; go_simp⟩) hHeld ?_
                        simp only [Act.put, List.getElem_toArray, List.getElem_cons_zero, List.getElem_cons_succ, List.setIfInBounds_toArray, List.set_cons_zero, List.set_cons_succ]
                        refine Ru.wpAnyU_take (i := 9) (v := .bool false) rfl (by kernel_rfl) (by kernel_rfl) (by kernel_rfl) (by kernel_rfl) (by kernel_rfl) (by kernel_rfl) (fun _ _ _ h => h) (Or.inl ⟨by kernel_rfl, fun w hS => by obtain ⟨sc0, sc1, sc2, sc3⟩ := hS; go_simp⟩) hHeld ?_
                        simp only [Act.put, List.getElem_toArray, List.getElem_cons_zero, List.getElem_cons_succ, List.setIfInBounds_toArray, List.set_cons_zero, List.set_cons_succ]
                        refine Ru.wpAnyU_take (i := 10) (v := .slice (some ⟨gy, 0, none⟩) n cy) rfl (by kernel_rfl) (by kernel_rfl) (by kernel_rfl) (by kernel_rfl) (by kernel_rfl) (by kernel_rfl) (fun _ _ _ h => h) (Or.inl ⟨by kernel_rfl, fun w hS => by obtain ⟨sc0, sc1, sc2, sc3⟩ := hS; go_simp⟩) hHeld ?_
                        simp only [Act.put, List.getElem_toArray, List.getElem_cons_zero, List.getElem_cons_succ, List.setIfInBounds_toArray, List.set_cons_zero, List.set_cons_succ]
                        refine Ru.wpAnyU_take (i := 11) (v := .int .i64 (k : Int)) rfl (by kernel_rfl) (by kernel_rfl) (by kernel_rfl) (by kernel_rfl) (by kernel_rfl) (by kernel_rfl) (fun _ _ _ h => h) (Or.inl ⟨by kernel_rfl, fun w hS => by obtain ⟨sc0, sc1, sc2, sc3⟩ := hS; go_simp⟩) hHeld ?_
                        simp only [Act.put, List.getElem_toArray, List.getElem_cons_zero, List.getElem_cons_succ, List.setIfInBounds_toArray, List.set_cons_zero, List.set_cons_succ]
                        refine Ru.wpAnyU_take (i := 12) (v := .pointer (some ⟨gy, k * 2, none⟩)) rfl (by kernel_rfl) (by kernel_rfl) (by kernel_rfl) (by kernel_rfl) (by kernel_rfl) (by kernel_rfl) (fun _ _ _ h => h) (Or.inl ⟨by kernel_rfl, fun w hS => by obtain ⟨sc0, sc1, sc2, sc3⟩ := hS; go_simp⟩) hHeld ?_
                        simp only [Act.put, List.getElem_toArray, List.getElem_cons_zero, List.getElem_cons_succ, List.setIfInBounds_toArray, List.set_cons_zero, List.set_cons_succ]
                        refine Ru.wpAnyU_take (i := 13) (v := .agg #[.bool s1, .slice p l c]) rfl (by kernel_rfl) (by kernel_rfl) (by kernel_rfl) (by kernel_rfl) (by kernel_rfl) (by kernel_rfl) (fun _ _ _ h => h) (Nu.yieldsN (by kernel_rfl) _ (by rfl) gy (k * 2) _ _ (by rfl) (fun w h => ⟨h.1, h.2.1⟩)) hHeld ?_
                        simp only [Act.put, List.getElem_toArray, List.getElem_cons_zero, List.getElem_cons_succ, List.setIfInBounds_toArray, List.set_cons_zero, List.set_cons_succ]
                        refine Ru.wpAnyU_take (i := 14) (v := .slice (some ⟨gy, 0, none⟩) n cy) rfl (by kernel_rfl) (by kernel_rfl) (by kernel_rfl) (by kernel_rfl) (by kernel_rfl) (by kernel_rfl) (fun _ _ _ h => h) (Or.inl ⟨by kernel_rfl, fun w hS => by obtain ⟨sc0, sc1, sc2, sc3⟩ := hS; go_simp⟩) hHeld ?_
                        simp only [Act.put, List.getElem_toArray, List.getElem_cons_zero, List.getElem_cons_succ, List.setIfInBounds_toArray, List.set_cons_zero, List.set_cons_succ]
                        refine Ru.wpAnyU_take (i := 15) (v := .int .i64 (bb : Int)) rfl (by kernel_rfl) (by kernel_rfl) (by kernel_rfl) (by kernel_rfl) (by kernel_rfl) (by kernel_rfl) (fun _ _ _ h => h) (Or.inl ⟨by kernel_rfl, fun w hS => by obtain ⟨sc0, sc1, sc2, sc3⟩ := hS; go_simp⟩) hHeld ?_
                        simp only [Act.put, List.getElem_toArray, List.getElem_cons_zero, List.getElem_cons_succ, List.setIfInBounds_toArray, List.set_cons_zero, List.set_cons_succ]
                        refine Ru.wpAnyU_take (i := 16) (v := .pointer (some ⟨gy, bb * 2, none⟩)) rfl (by kernel_rfl) (by kernel_rfl) (by kernel_rfl) (by kernel_rfl) (by kernel_rfl) (by kernel_rfl) (fun _ _ _ h => h) (Or.inl ⟨by kernel_rfl, fun w hS => by obtain ⟨sc0, sc1, sc2, sc3⟩ := hS; go_simp⟩) hHeld ?_
                        simp only [Act.put, List.getElem_toArray, List.getElem_cons_zero, List.getElem_cons_succ, List.setIfInBounds_toArray, List.set_cons_zero, List.set_cons_succ]
                        refine Ru.wpAnyU_take (i := 17) (v := .agg #[.bool s2, .slice p2 l2 c2]) rfl (by kernel_rfl) (by kernel_rfl) (by kernel_rfl) (by kernel_rfl) (by kernel_rfl) (by kernel_rfl) (fun _ _ _ h => h) (Nu.yieldsN (by kernel_rfl) _ (by rfl) gy (bb * 2) _ _ (by rfl) (fun w h => ⟨h.2.2.1, h.2.2.2⟩)) hHeld ?_
                        simp only [Act.put, List.getElem_toArray, List.getElem_cons_zero, List.getElem_cons_succ, List.setIfInBounds_toArray, List.set_cons_zero, List.set_cons_succ]
                        refine Ru.wpAnyU_ready (rs := [18]) (by kernel_rfl) (by simp) ?_
                        refine Ru.AllReadyU.cons rfl (by kernel_rfl) (fun K hK => ?_) Ru.AllReadyU.nil
                        go_simp
                        refine (HCm.out _ (ei.below D5) (ei2.below D5)).mono ?_
                        rintro e w6 ⟨rfl, k6⟩
                        have D6 := below_tr D5 k6
                        go_wp2_with fail
                        refine hK.out _ _ (HS.out _ D6) (fun hHeld => ?_)
                        clear hK K
                        try simp only [Act.put, List.getElem_toArray, List.getElem_cons_zero, List.getElem_cons_succ, List.setIfInBounds_toArray, List.set_cons_zero, List.set_cons_succ]
                        refine Ru.wpAnyU_take (i := 19) (v := .bool false) rfl (by kernel_rfl) (by kernel_rfl) (by kernel_rfl) (by kernel_rfl) (by kernel_rfl) (by kernel_rfl) (fun _ _ _ h => h) (Or.inl ⟨by kernel_rfl, fun w hS => by obtain ⟨sc0, sc1, sc2, sc3⟩ := hS; go_simp⟩) hHeld ?_
                        simp only [Act.put, List.getElem_toArray, List.getElem_cons_zero, List.getElem_cons_succ, List.setIfInBounds_toArray, List.set_cons_zero, List.set_cons_succ]
                        refine Ru.wpAnyU_take (i := 20) (v := .bool false) rfl (by kernel_rfl) (by kernel_rfl) (by kernel_rfl) (by kernel_rfl) (by kernel_rfl) (by kernel_rfl) (fun _ _ _ h => h) (Or.inl ⟨by kernel_rfl, fun w hS => by obtain ⟨sc0, sc1, sc2, sc3⟩ := hS; go_simp⟩) hHeld ?_
                        simp only [Act.put, List.getElem_toArray, List.getElem_cons_zero, List.getElem_cons_succ, List.setIfInBounds_toArray, List.set_cons_zero, List.set_cons_succ]
                        refine Ru.wpAnyU_take (i := 21) (v := .bool false) rfl (by kernel_rfl) (by kernel_rfl) (by kernel_rfl) (by kernel_rfl) (by kernel_rfl) (by kernel_rfl) (fun _ _ _ h => h) (Or.inl ⟨by kernel_rfl, fun w hS => by obtain ⟨sc0, sc1, sc2, sc3⟩ := hS; go_simp⟩) hHeld ?_
                        simp only [Act.put, List.getElem_toArray, List.getElem_cons_zero, List.getElem_cons_succ, List.setIfInBounds_toArray, List.set_cons_zero, List.set_cons_succ]
                        refine Ru.wpAnyU_done (by kernel_rfl) ?_
                        have DD := below_tr B3 D6
                        clear B3
                        go_wp2
                        go_roundw
                        case rel => exact ⟨k + 1, by omega, by go_num, by rw [HB.out], DD⟩
                        case measure => simp [intOf]; omega
                  · have HB := hide (bst_no (C := C) (k := k) (fun q => hc0 q.1))
                    have hsg : (C k).sign = -1 := by rcases sign_cases (C k) with h | h | h <;> omega
                    rw [hsg] at HSg
                    have HS : Hid (∀ V, Below w3.heap.size w3 V → (V.cell? ⟨gy, k * 2, none⟩ = some (.bool s1) ∧ V.cell? ⟨gy, k * 2 + 1, none⟩ = some (.slice p l c))) := fun V b => ⟨keep_cell b c0, keep_cell b c1⟩
                    obtain ⟨B, hB⟩ : ∃ q, q = bst C k := ⟨_, rfl⟩
                    rw [← hB] at hbl HB ⊢
                    clear c0 c1 hs1 hsg hB hc0 bC
                    go_upto_region 25 with fail
                    have D0 := Vc.below_drew' w3
                    refine Ru.wp_region_U [] (fun w' => w'.cell? ⟨gy, k * 2, none⟩ = some (.bool s1) ∧ w'.cell? ⟨gy, k * 2 + 1, none⟩ = some (.slice p l c)) (by kernel_rfl) (HS.out _ D0) (fun hHeld => ?_)
                    refine Ru.wpAnyU_take (i := 0) (v := .slice (some ⟨gy, 0, none⟩) n cy) rfl (by kernel_rfl) (by kernel_rfl) (by kernel_rfl) (by kernel_rfl) (by kernel_rfl) (by kernel_rfl) (fun _ _ _ h => h) (Or.inl ⟨by kernel_rfl, fun w hS => by obtain ⟨sc0, sc1⟩ := hS; go_simp⟩) hHeld ?_
                    simp only [Act.put, List.getElem_toArray, List.getElem_cons_zero, List.getElem_cons_succ, List.setIfInBounds_toArray, List.set_cons_zero, List.set_cons_succ]
                    refine Ru.wpAnyU_take (i := 1) (v := .int .i64 (k : Int)) rfl (by kernel_rfl) (by kernel_rfl) (by kernel_rfl) (by kernel_rfl) (by kernel_rfl) (by kernel_rfl) (fun _ _ _ h => h) (Or.inl ⟨by kernel_rfl, fun w hS => by obtain ⟨sc0, sc1⟩ := hS; go_simp⟩) hHeld ?_
                    simp only [Act.put, List.getElem_toArray, List.getElem_cons_zero, List.getElem_cons_succ, List.setIfInBounds_toArray, List.set_cons_zero, List.set_cons_succ]
                    refine Ru.wpAnyU_take (i := 2) (v := .pointer (some ⟨gy, k * 2, none⟩)) rfl (by kernel_rfl) (by kernel_rfl) (by kernel_rfl) (by kernel_rfl) (by kernel_rfl) (by kernel_rfl) (fun _ _ _ h => h) (Or.inl ⟨by kernel_rfl, fun w hS => by obtain ⟨sc0, sc1⟩ := hS; go_simp⟩) hHeld ?_
                    simp only [Act.put, List.getElem_toArray, List.getElem_cons_zero, List.getElem_cons_succ, List.setIfInBounds_toArray, List.set_cons_zero, List.set_cons_succ]
                    refine Ru.wpAnyU_take (i := 3) (v := .agg #[.bool s1, .slice p l c]) rfl (by kernel_rfl) (by kernel_rfl) (by kernel_rfl) (by kernel_rfl) (by kernel_rfl) (by kernel_rfl) (fun _ _ _ h => h) (Nu.yieldsN (by kernel_rfl) _ (by rfl) gy (k * 2) _ _ (by rfl) (fun w h => ⟨h.1, h.2⟩)) hHeld ?_
                    simp only [Act.put, List.getElem_toArray, List.getElem_cons_zero, List.getElem_cons_succ, List.setIfInBounds_toArray, List.set_cons_zero, List.set_cons_succ]
                    refine Ru.wpAnyU_ready (rs := [4]) (by kernel_rfl) (by simp) ?_
                    refine Ru.AllReadyU.cons rfl (by kernel_rfl) (fun K hK => ?_) Ru.AllReadyU.nil
                    go_simp
                    refine (HSg.out _ (ei.below D0)).mono ?_
                    rintro e w5 ⟨rfl, k5⟩
                    have D5 := below_tr D0 k5
                    go_wp2_with fail
                    refine hK.out _ _ (HS.out _ D5) (fun hHeld => ?_)
                    clear hK K
                    try simp only [Act.put, List.getElem_toArray, List.getElem_cons_zero, List.getElem_cons_succ, List.setIfInBounds_toArray, List.set_cons_zero, List.set_cons_succ]
                    refine Ru.wpAnyU_take (i := 5) (v := .bool false) rfl (by kernel_rfl) (by kernel_rfl) (by kernel_rfl) (by kernel_rfl) (by kernel_rfl) (by kernel_rfl) (fun _ _ _ h => h) (Or.inl ⟨by kernel_rfl, fun w hS => by obtain ⟨sc0, sc1⟩ := hS; go_simp⟩) hHeld ?_
                    simp only [Act.put, List.getElem_toArray, List.getElem_cons_zero, List.getElem_cons_succ, List.setIfInBounds_toArray, List.set_cons_zero, List.set_cons_succ]
                    refine Ru.wpAnyU_take (i := 6) (v := .bool false) rfl (by kernel_rfl) (by kernel_rfl) (by kernel_rfl) (by kernel_rfl) (by kernel_rfl) (by kernel_rfl) (fun _ _ _ h => h) (Or.inl ⟨by kernel_rfl, fun w hS => by obtain ⟨sc0, sc1⟩ := hS; go_simp⟩) hHeld ?_
                    simp only [Act.put, List.getElem_toArray, List.getElem_cons_zero, List.getElem_cons_succ, List.setIfInBounds_toArray, List.set_cons_zero, List.set_cons_succ]
                    refine Ru.wpAnyU_take (i := 7) (v := undef) rfl (by kernel_rfl) (by kernel_rfl) (by kernel_rfl) (by kernel_rfl) (by kernel_rfl) (by kernel_rfl) (fun _ _ _ h => h) (Or.inr ⟨by kernel_rfl, rfl⟩) hHeld ?_
                    simp only [Act.put, List.getElem_toArray, List.getElem_cons_zero, List.getElem_cons_succ, List.setIfInBounds_toArray, List.set_cons_zero, List.set_cons_succ]
                    refine Ru.wpAnyU_take (i := 8) (v := undef) rfl (by kernel_rfl) (by kernel_rfl) (by kernel_rfl) (by kernel_rfl) (by kernel_rfl) (by kernel_rfl) (fun _ _ _ h => h) (Or.inr ⟨by kernel_rfl, rfl⟩) hHeld ?_
                    simp only [Act.put, List.getElem_toArray, List.getElem_cons_zero, List.getElem_cons_succ, List.setIfInBounds_toArray, List.set_cons_zero, List.set_cons_succ]
                    refine Ru.wpAnyU_take (i := 9) (v := undef) rfl (by kernel_rfl) (by kernel_rfl) (by kernel_rfl) (by kernel_rfl) (by kernel_rfl) (by kernel_rfl) (fun _ _ _ h => h) (Or.inr ⟨by kernel_rfl, rfl⟩) hHeld ?_
                    simp only [Act.put, List.getElem_toArray, List.getElem_cons_zero, List.getElem_cons_succ, List.setIfInBounds_toArray, List.set_cons_zero, List.set_cons_succ]
                    refine Ru.wpAnyU_take (i := 10) (v := undef) rfl (by kernel_rfl) (by kernel_rfl) (by kernel_rfl) (by kernel_rfl) (by kernel_rfl) (by kernel_rfl) (fun _ _ _ h => h) (Or.inr ⟨by kernel_rfl, rfl⟩) hHeld ?_
                    simp only [Act.put, List.getElem_toArray, List.getElem_cons_zero, List.getElem_cons_succ, List.setIfInBounds_toArray, List.set_cons_zero, List.set_cons_succ]
                    refine Ru.wpAnyU_take (i := 11) (v := undef) rfl (by kernel_rfl) (by kernel_rfl) (by kernel_rfl) (by kernel_rfl) (by kernel_rfl) (by kernel_rfl) (fun _ _ _ h => h) (Or.inr ⟨by kernel_rfl, rfl⟩) hHeld ?_
                    simp only [Act.put, List.getElem_toArray, List.getElem_cons_zero, List.getElem_cons_succ, List.setIfInBounds_toArray, List.set_cons_zero, List.set_cons_succ]
                    refine Ru.wpAnyU_take (i := 12) (v := undef) rfl (by kernel_rfl) (by kernel_rfl) (by kernel_rfl) (by kernel_rfl) (by kernel_rfl) (by kernel_rfl) (fun _ _ _ h => h) (Or.inr ⟨by kernel_rfl, rfl⟩) hHeld ?_
                    simp only [Act.put, List.getElem_toArray, List.getElem_cons_zero, List.getElem_cons_succ, List.setIfInBounds_toArray, List.set_cons_zero, List.set_cons_succ]
                    refine Ru.wpAnyU_take (i := 13) (v := undef) rfl (by kernel_rfl) (by kernel_rfl) (by kernel_rfl) (by kernel_rfl) (by kernel_rfl) (by kernel_rfl) (fun _ _ _ h => h) (Or.inr ⟨by kernel_rfl, rfl⟩) hHeld ?_
                    simp only [Act.put, List.getElem_toArray, List.getElem_cons_zero, List.getElem_cons_succ, List.setIfInBounds_toArray, List.set_cons_zero, List.set_cons_succ]
                    refine Ru.wpAnyU_take (i := 14) (v := undef) rfl (by kernel_rfl) (by kernel_rfl) (by kernel_rfl) (by kernel_rfl) (by kernel_rfl) (by kernel_rfl) (fun _ _ _ h => h) (Or.inr ⟨by kernel_rfl, rfl⟩) hHeld ?_
                    simp only [Act.put, List.getElem_toArray, List.getElem_cons_zero, List.getElem_cons_succ, List.setIfInBounds_toArray, List.set_cons_zero, List.set_cons_succ]
                    refine Ru.wpAnyU_take (i := 15) (v := undef) rfl (by kernel_rfl) (by kernel_rfl) (by kernel_rfl) (by kernel_rfl) (by kernel_rfl) (by kernel_rfl) (fun _ _ _ h => h) (Or.inr ⟨by kernel_rfl, rfl⟩) hHeld ?_
                    simp only [Act.put, List.getElem_toArray, List.getElem_cons_zero, List.getElem_cons_succ, List.setIfInBounds_toArray, List.set_cons_zero, List.set_cons_succ]
                    refine Ru.wpAnyU_take (i := 16) (v := undef) rfl (by kernel_rfl) (by kernel_rfl) (by kernel_rfl) (by kernel_rfl) (by kernel_rfl) (by kernel_rfl) (fun _ _ _ h => h) (Or.inr ⟨by kernel_rfl, rfl⟩) hHeld ?_
                    simp only [Act.put, List.getElem_toArray, List.getElem_cons_zero, List.getElem_cons_succ, List.setIfInBounds_toArray, List.set_cons_zero, List.set_cons_succ]
                    refine Ru.wpAnyU_take (i := 17) (v := undef) rfl (by kernel_rfl) (by kernel_rfl) (by kernel_rfl) (by kernel_rfl) (by kernel_rfl) (by kernel_rfl) (fun _ _ _ h => h) (Or.inr ⟨by kernel_rfl, rfl⟩) hHeld ?_
                    simp only [Act.put, List.getElem_toArray, List.getElem_cons_zero, List.getElem_cons_succ, List.setIfInBounds_toArray, List.set_cons_zero, List.set_cons_succ]
                    refine Ru.wpAnyU_take (i := 18) (v := undef) rfl (by kernel_rfl) (by kernel_rfl) (by kernel_rfl) (by kernel_rfl) (by kernel_rfl) (by kernel_rfl) (fun _ _ _ h => h) (Or.inr ⟨by kernel_rfl, rfl⟩) hHeld ?_
                    simp only [Act.put, List.getElem_toArray, List.getElem_cons_zero, List.getElem_cons_succ, List.setIfInBounds_toArray, List.set_cons_zero, List.set_cons_succ]
                    refine Ru.wpAnyU_take (i := 19) (v := undef) rfl (by kernel_rfl) (by kernel_rfl) (by kernel_rfl) (by kernel_rfl) (by kernel_rfl) (by kernel_rfl) (fun _ _ _ h => h) (Or.inr ⟨by kernel_rfl, rfl⟩) hHeld ?_
                    simp only [Act.put, List.getElem_toArray, List.getElem_cons_zero, List.getElem_cons_succ, List.setIfInBounds_toArray, List.set_cons_zero, List.set_cons_succ]
                    refine Ru.wpAnyU_take (i := 20) (v := undef) rfl (by kernel_rfl) (by kernel_rfl) (by kernel_rfl) (by kernel_rfl) (by kernel_rfl) (by kernel_rfl) (fun _ _ _ h => h) (Or.inr ⟨by kernel_rfl, rfl⟩) hHeld ?_
                    simp only [Act.put, List.getElem_toArray, List.getElem_cons_zero, List.getElem_cons_succ, List.setIfInBounds_toArray, List.set_cons_zero, List.set_cons_succ]
                    refine Ru.wpAnyU_take (i := 21) (v := .bool false) rfl (by kernel_rfl) (by kernel_rfl) (by kernel_rfl) (by kernel_rfl) (by kernel_rfl) (by kernel_rfl) (fun _ _ _ h => h) (Or.inl ⟨by kernel_rfl, fun w hS => by obtain ⟨sc0, sc1⟩ := hS; go_simp⟩) hHeld ?_
                    simp only [Act.put, List.getElem_toArray, List.getElem_cons_zero, List.getElem_cons_succ, List.setIfInBounds_toArray, List.set_cons_zero, List.set_cons_succ]
                    refine Ru.wpAnyU_done (by kernel_rfl) ?_
                    have DD := below_tr B3 D5
                    clear B3
                    go_wp2
                    go_roundw
                    case rel => exact ⟨k + 1, by omega, by go_num, by rw [HB.out], DD⟩
                    case measure => simp [intOf]; omega
                · obtain rfl : n = k := by omega
                  obtain ⟨bb, hbb⟩ : ∃ b : Nat, bst C n = (b : Int) := ⟨(bst C n).toNat, by omega⟩
                  have hbn : bb < n := by omega
                  have e12 := HNX.out bb hbb
                  have bO := HIN.out bb hbn
                  have T3 := HT2.out.keep B3
                  have hcx := T3.x.cell (j := bb) hbn
                  have hfx := T3.x.free bb
                  rw [hbb]
                  obtain ⟨ob, hob⟩ : ∃ q, q = O bb := ⟨_, rfl⟩
                  rw [← hob] at hcx bO e12
                  have T4 := T3.setx bb (ob + 1)
                  have HOm := hide (fun W => of_any (-1) W (by omega) (by omega))
                  have HT4 := hide T4
                  have HE12 := hide e12
                  have lx := T3.x.row.1
                  have hcxl := T3.x.sl
                  obtain ⟨_, _, exx, slx⟩ := hcxl
                  cases exx
                  have slx1 := slx.le
                  have slx2 := slx.cap
                  have kbn : (bb : Int) < n := by omega
                  clear T3 T4 e12 hbb hob hbs B3 slx lx
                  go_wp2_with fail
                  refine (HOm.out _).mono ?_
                  rintro e w4 ⟨v, rfl, iv, k4⟩
                  have T5 := HT4.out.keep k4
                  obtain ⟨q1, q2, q3, rfl⟩ := iv.form
                  have th := T5.y.there hbn
                  have T6 := T5.sety hbn iv
                  have HT6 := hide (T6.congr HE12.out.1 HE12.out.2)
                  clear T5 T6
                  go_wp2_with (refine Nu.wpList_storeN rfl _ _ (by rfl) gy (bb * 2) _ _ _ _ (by rfl) (by rfl) th ?_)
                  go_roundw
                  case rel => exact ⟨t + 1, by omega, by go_num, HT6.out⟩
                  case measure => simp [intOf]; omega
            · have eF : F - (t : Int) = 0 := by omega
              have et : F.toNat = t := by omega
              rw [et] at HSH
              rw [eF]
              have ow : Own w.heap.size w wq _ n (sh m a n) := ⟨by rw [HSH.out]; exact row_mono T2.x.row HBr.out.size, HBr.out.trans (T2.x.below.mono HBr.out.size), Nat.le_trans HBr.out.size T2.x.base⟩
              go_wp2
              go_ret
              exact ⟨_, rfl, ow⟩
end Go.Proofs.YtdgcnaijndocnaaGreatDoor

/-
  The document's answer of layer 14 (radomeref14): Even, Check, Of.
-/
set_option linter.unusedSimpArgs false
set_option linter.unusedVariables false
namespace Go.Proofs.YtdgcnaijndocnaaGreatDoor
open Go.RowKit Dec Nv Vc St Ld Nu Cn
attribute [local go_sem ↓] Go.wp_at_zero Go.wp_at_succ

set_option maxRecDepth 20000 in
set_option maxHeartbeats 2000000 in
theorem dcheck14_any (ao : Option Addr) (n ca : Nat) (z : Nat → Int) (fl : Int) (w : World) (hs : Sl w ao n ca z) (hz : B64 z) (b : Bool) (hb : b = true ↔ Ch n z fl) (f0 : -9223372036854775808 ≤ fl) (f1 : fl ≤ 9223372036854775807) :
    Calls Tryz.prog 41 #[.slice ao n ca, .int .i64 fl] w fun e w' => e = .returned (.bool b) ∧ Below w.heap.size w w' := by
  obtain ⟨x, hao, hc⟩ := hs.get
  have l1 := hs.le
  have l2 := hs.cap
  have HZ := hide hz
  have HB := hide hb
  have HC := hide hc
  have no : ¬ Ch n z fl → b = false := fun h => by cases b <;> simp_all
  have NO := hide no
  clear hz hb hc no hs
  by_cases hH : 1 ≤ n ∧ n ≤ 4 ∧ 0 ≤ fl ∧ fl ≤ 67108864
  · obtain ⟨hn1, hn4, hf0, hf1⟩ := hH
    obtain rfl := hao (by omega)
    have e1 : ¬ (n : Int) < 1 := by omega
    have e2 : ¬ (4 : Int) < n := by omega
    go_enter Tryz.func41, Tryz.ntmps41
    go_wp2
    go_loopw [5, 6] (fun lv i wr => ∃ k : Nat, k ≤ n ∧ i = .int .i64 (k : Int) ∧ lv = .int .i64 (1073741824 - tot z k) ∧ 0 ≤ 1073741824 - tot z k ∧ 0 ≤ tot z k ∧ (∀ j, j < k → fl ≤ z j) ∧ w = wr) (fun _ i _ => n - (intOf i).toNat)
    case atStart => exact ⟨0, by omega, rfl, rfl, by show (0 : Int) ≤ 1073741824 - 0; omega, Int.le_refl _, fun j hj => by omega, rfl⟩
    case round =>
      obtain ⟨k, hk, rfl, rfl, hl0, ht0, hfl, rfl⟩ := hrel
      by_cases h : k < n
      · have ck := HC.out k h
        have bk := HZ.out k
        have HU : Hid (tot z (k + 1) = tot z k + z k) := rfl
        have HF := hide hfl
        have kn : (k : Int) < n := by omega
        obtain ⟨zk, hzk⟩ : ∃ q, q = z k := ⟨_, rfl⟩
        obtain ⟨tk, htk⟩ : ∃ q, q = tot z k := ⟨_, rfl⟩
        rw [← hzk] at ck bk HU
        rw [← htk] at hl0 ht0 HU ⊢
        have HZK := hide hzk
        clear hzk htk hfl
        by_cases c1 : zk < fl
        · obtain rfl : b = false := NO.out (fun q => by have := q.each k h; rw [← HZK.out] at this; omega)
          go_wp2
          go_ret
          exact ⟨rfl, Below.refl _ _⟩
        · by_cases c2 : 1073741824 - tk < zk
          · obtain rfl : b = false := NO.out (fun q => by have := q.le (k := k + 1) h; rw [HU.out] at this; omega)
            go_wp2
            go_ret
            exact ⟨rfl, Below.refl _ _⟩
          · go_wp2
            go_roundw
            case rel =>
              refine ⟨k + 1, by omega, by go_num, by rw [HU.out]; congr 1; omega, by rw [HU.out]; omega, by rw [HU.out]; omega, fun j hj => ?_, by first | trivial | rfl⟩
              by_cases e : j = k
              · rw [e, ← HZK.out]; omega
              · exact HF.out j (by omega)
            case measure => simp [intOf]; omega
      · obtain rfl : n = k := by omega
        have HF := hide hfl
        have hd : b = decide (1073741824 - tot z n = 0) := by
          by_cases e : tot z n = 1073741824
          · rw [HB.out.2 ⟨hn1, hn4, hf0, hf1, hfl, e⟩]; exact (decide_eq_true (by omega)).symm
          · rw [NO.out (fun q => e q.sum)]; exact (decide_eq_false (by omega)).symm
        have HD := hide hd
        obtain ⟨tk, htk⟩ : ∃ q, q = tot z n := ⟨_, rfl⟩
        rw [← htk] at hl0 ht0 HD ⊢
        clear htk hfl hd
        by_cases e : 1073741824 - tk = 0
        · obtain rfl : b = true := by rw [HD.out]; exact decide_eq_true e
          rw [e]
          go_wp2
          go_ret
          exact ⟨rfl, Below.refl _ _⟩
        · obtain rfl : b = false := by rw [HD.out]; exact decide_eq_false e
          have e' : (1073741824 - tk == 0) = false := by simp [e]
          have e'' : ¬ tk = 1073741824 := by omega
          have e3 : ¬ (1073741824 : Int) = tk := by omega
          go_wp2
          go_ret
          exact ⟨rfl, Below.refl _ _⟩
  · obtain rfl : b = false := NO.out (fun q => hH ⟨q.one, q.four, q.lo, q.hi⟩)
    clear hao HC HZ HB NO
    rcases (by omega : n = 0 ∨ 4 < n ∨ (1 ≤ n ∧ n ≤ 4 ∧ fl < 0) ∨ (1 ≤ n ∧ n ≤ 4 ∧ 0 ≤ fl ∧ 67108864 < fl)) with h | h | ⟨h1, h2, h3⟩ | ⟨h1, h2, h3, h4⟩
    · subst h
      go_enter Tryz.func41, Tryz.ntmps41
      go_wp2
      go_ret
      exact ⟨rfl, Below.refl _ _⟩
    · have e1 : ¬ (n : Int) < 1 := by omega
      have e2 : (4 : Int) < n := by omega
      go_enter Tryz.func41, Tryz.ntmps41
      go_wp2
      go_ret
      exact ⟨rfl, Below.refl _ _⟩
    · have e1 : ¬ (n : Int) < 1 := by omega
      have e2 : ¬ (4 : Int) < n := by omega
      go_enter Tryz.func41, Tryz.ntmps41
      go_wp2
      go_ret
      exact ⟨rfl, Below.refl _ _⟩
    · have e1 : ¬ (n : Int) < 1 := by omega
      have e2 : ¬ (4 : Int) < n := by omega
      go_enter Tryz.func41, Tryz.ntmps41
      go_wp2
      go_ret
      exact ⟨rfl, Below.refl _ _⟩

/-- What Of answers. -/
def OfR (w w' : World) (n : Nat) (z : Nat → Int) (fl : Int) (v : Value) (er : Int) : Prop :=
  (¬ MayW n z fl ∧ v = .slice none 0 0 ∧ er = 1 ∧ Below w.heap.size w w') ∨ (MayW n z fl ∧ tot z n = 0 ∧ v = .slice none 0 0 ∧ er = 11 ∧ Below w.heap.size w w') ∨
  (MayW n z fl ∧ 0 < tot z n ∧ er = 0 ∧ Own w.heap.size w w' v n (fun k => sh (1073741824 - fl * n) z n k + fl))

set_option maxRecDepth 20000 in
set_option maxHeartbeats 4000000 in
theorem dof14_any (ao : Option Addr) (n ca : Nat) (z : Nat → Int) (fl : Int) (w : World) (hs : Sl w ao n ca z) (hz : B64 z) (f0 : -9223372036854775808 ≤ fl) (f1 : fl ≤ 9223372036854775807) :
    Calls Tryz.prog 45 #[.slice ao n ca, .int .i64 fl] w fun e w' => ∃ v er, e = .returned (.tuple #[v, .int .i64 er]) ∧ OfR w w' n z fl v er := by
  obtain ⟨x, hao, hc⟩ := hs.get
  have l1 := hs.le
  have l2 := hs.cap
  have HZ := hide hz
  have HC := hide hc
  clear hz hc hs
  by_cases hH : 1 ≤ n ∧ n ≤ 4 ∧ 0 ≤ fl ∧ fl ≤ 67108864
  · obtain ⟨hn1, hn4, hf0, hf1⟩ := hH
    obtain rfl := hao (by omega)
    have e1 : ¬ (n : Int) < 1 := by omega
    have e2 : ¬ (4 : Int) < n := by omega
    go_enter Tryz.func45, Tryz.ntmps45
    go_wp2
    go_loopw [6, 7, 8] (fun v sv i wr => ∃ k : Nat, k ≤ n ∧ i = .int .i64 (k : Int) ∧ sv = .bool (decide (0 < tot z k)) ∧ Nls w.heap.size w wr v k z ∧ (∀ j, j < k → 0 ≤ z j ∧ z j ≤ 4611686018427387903)) (fun _ _ i _ => n - (intOf i).toNat)
    case atStart => exact ⟨0, by omega, rfl, rfl, Nls.nil (Below.refl _ _) (Nat.le_refl _) _, fun j hj => by omega⟩
    case round =>
      rename World => wr
      obtain ⟨k, hk, rfl, rfl, hN, hfl⟩ := hrel
      by_cases h : k < n
      · have ck := keep_cell hN.below (HC.out k h)
        have bk := HZ.out k
        have ht0 := tot_nn (a := z) (n := k) (fun j hj => (hfl j hj).1)
        have HU : Hid (tot z (k + 1) = tot z k + z k) := rfl
        have HF := hide hfl
        have HN := hide hN
        have kn : (k : Int) < n := by omega
        obtain ⟨zk, hzk⟩ : ∃ q, q = z k := ⟨_, rfl⟩
        obtain ⟨tk, htk⟩ : ∃ q, q = tot z k := ⟨_, rfl⟩
        rw [← hzk] at ck bk HU
        rw [← htk] at ht0 HU ⊢
        have HZK := hide hzk
        clear hzk htk hfl hN
        by_cases c1 : zk < 0
        · have hno : ¬ MayW n z fl := fun q => by have := q.each k h; rw [← HZK.out] at this; omega
          have HNO := hide hno
          clear hno
          go_wp2
          go_ret2
          exact ⟨_, _, rfl, Or.inl ⟨HNO.out, rfl, rfl, HN.out.below⟩⟩
        · by_cases c2 : 4611686018427387903 < zk
          · have hno : ¬ MayW n z fl := fun q => by have := q.each k h; rw [← HZK.out] at this; omega
            have HNO := hide hno
            clear hno
            go_wp2
            go_ret2
            exact ⟨_, _, rfl, Or.inl ⟨HNO.out, rfl, rfl, HN.out.below⟩⟩
          · have HOf := hide (fun W => of_any zk W (by omega) (by omega))
            have HFN : Hid (∀ j, j < k + 1 → 0 ≤ z j ∧ z j ≤ 4611686018427387903) := fun j hj => by
              by_cases e : j = k
              · rw [e, ← HZK.out]; omega
              · exact HF.out j (by omega)
            obtain ⟨sb, hsb⟩ : ∃ q, q = decide (0 < tk) := ⟨_, rfl⟩
            rw [← hsb]
            by_cases c3 : 0 < tk
            · rw [decide_eq_true c3] at hsb
              subst hsb
              go_wp2_with fail
              refine (HOf.out _).mono ?_
              rintro e w1 ⟨v, rfl, iv, k1⟩
              obtain ⟨q1, q2, q3, rfl⟩ := iv.form
              have nr := HN.out.keep k1
              go_wp2_with (first
                | (refine Nu.wpList_pushN rfl _ _ (by rfl) w.heap.size w _ k z (by rfl) nr (by omega) _ q1 q2 q3 (by rw [HZK.out]) (by rw [← HZK.out]; exact iv) (by rfl) ?_; intro v' w2 n2)
                | fail)
              go_roundw
              case rel => exact ⟨k + 1, by omega, by go_num, by rw [HU.out, decide_eq_true (show 0 < tk + zk by omega)], n2, HFN.out⟩
              case measure => simp [intOf]; omega
            · rw [decide_eq_false c3] at hsb
              subst hsb
              have HSN : Hid (decide (0 < tot z (k + 1)) = decide (0 < zk)) := by show decide (0 < tot z (k + 1)) = decide (0 < zk); rw [HU.out, show tk + zk = zk by omega]
              go_wp2_with fail
              refine (HOf.out _).mono ?_
              rintro e w1 ⟨v, rfl, iv, k1⟩
              obtain ⟨q1, q2, q3, rfl⟩ := iv.form
              have nr := HN.out.keep k1
              go_wp2_with (first
                | (refine Nu.wpList_pushN rfl _ _ (by rfl) w.heap.size w _ k z (by rfl) nr (by omega) _ q1 q2 q3 (by rw [HZK.out]) (by rw [← HZK.out]; exact iv) (by rfl) ?_; intro v' w2 n2)
                | fail)
              go_roundw
              case rel => exact ⟨k + 1, by omega, by go_num, by rw [HSN.out], n2, HFN.out⟩
              case measure => simp [intOf]; omega
      · obtain rfl : n = k := by omega
        have hmay : MayW n z fl := ⟨hn1, hn4, hf0, hf1, hfl⟩
        have ht0 := tot_nn (a := z) (n := n) (fun j hj => (hfl j hj).1)
        by_cases c3 : 0 < tot z n
        · rw [decide_eq_true c3]
          obtain ⟨g, cap, rfl, hat, _⟩ := hN.at (by omega)
          have hm4 := mul_four hf0 hf1 hn4
          have HSh := hide (dshares_any (1073741824 - fl * n) g n cap z wr hat hn4 (by omega) (by omega) (fun k hk => by have := hfl k hk; omega) c3)
          have hsn : ∀ j, j < n → 0 ≤ sh (1073741824 - fl * n) z n j ∧ sh (1073741824 - fl * n) z n j ≤ 1073741824 := fun j hj => by
            have a1 := sh_nn (m := 1073741824 - fl * n) (by omega) (fun i hi => (hfl i hi).1) c3 hj
            have a2 := sh_le (m := 1073741824 - fl * n) (by omega) (fun i hi => (hfl i hi).1) c3 hj
            omega
          have HSN := hide hsn
          have HMAY := hide hmay
          have HT := hide c3
          have HB := hide hN.below
          have HL := hide (show w.heap.size ≤ wr.heap.size from hN.base)
          obtain ⟨P, hP⟩ : ∃ q, q = fl * (n : Int) := ⟨_, rfl⟩
          obtain ⟨s, hs⟩ : ∃ q, q = sh (1073741824 - fl * n) z n := ⟨_, rfl⟩
          rw [← hs] at HSh HSN
          rw [← hP] at HSh hm4
          have HSS := hide hs
          have hPw : fl * (n : Int) = P := hP.symm
          clear hN hat hfl hmay hsn c3 hs hP
          go_wp2_with fail
          refine (HSh.out).mono ?_
          rintro e w2 ⟨v, rfl, ow⟩
          obtain ⟨gx, cx, rfl, _, _⟩ := ow.row.form (by omega)
          have owl := ow.sl
          obtain ⟨_, _, exx, slx⟩ := owl
          cases exx
          have slx1 := slx.le
          have slx2 := slx.cap
          have HO := hide ow
          clear ow slx
          go_wp2
          go_loopw [10] (fun i w3 => ∃ k : Nat, k ≤ n ∧ i = .int .i64 (k : Int) ∧ Own wr.heap.size wr w3 (.slice (some ⟨gx, 0, none⟩) n cx) n (fun j => if j < k then s j + fl else s j)) (fun i _ => n - (intOf i).toNat)
          case atStart => exact ⟨0, by omega, rfl, HO.out.congr (fun k hk => by rw [if_neg (by omega)])⟩
          case round =>
            rename World => w3
            obtain ⟨k, hk, rfl, o3⟩ := hrel
            by_cases h : k < n
            · have ck := o3.cell (j := k) h
              simp only [if_neg (Nat.lt_irrefl k)] at ck
              have fk := o3.free k
              have bk := HSN.out k h
              have kn : (k : Int) < n := by omega
              obtain ⟨sk, hsk⟩ : ∃ q, q = s k := ⟨_, rfl⟩
              rw [← hsk] at ck bk
              have o4 := o3.set k (sk + fl)
              have HO4 := hide (o4.congr (z' := fun j => if j < k + 1 then s j + fl else s j) (fun j hj => by
                show (if j = k then sk + fl else if j < k then s j + fl else s j) = if j < k + 1 then s j + fl else s j
                by_cases e : j = k
                · rw [if_pos e, if_pos (by omega), e, hsk]
                · rw [if_neg e]
                  by_cases e2 : j < k
                  · rw [if_pos e2, if_pos (by omega)]
                  · rw [if_neg e2, if_neg (by omega)]))
              clear o3 o4 hsk
              go_wp2
              go_roundw
              case rel => exact ⟨k + 1, by omega, by go_num, HO4.out⟩
              case measure => simp [intOf]; omega
            · obtain rfl : n = k := by omega
              have o5 : Own w.heap.size w w3 (.slice (some ⟨gx, 0, none⟩) n cx) n (fun k => s k + fl) := ⟨(row_mono (o3.congr (z' := fun k => s k + fl) (fun j hj => by rw [if_pos hj])).row HL.out), HB.out.trans (o3.below.mono HL.out), Nat.le_trans HL.out o3.base⟩
              have HO5 := hide o5
              clear o3 o5
              go_wp2
              go_ret2
              refine ⟨_, _, rfl, Or.inr (Or.inr ⟨HMAY.out, HT.out, rfl, ?_⟩)⟩
              rw [← HSS.out]
              exact HO5.out
        · have HMAY := hide hmay
          have HT0 : Hid (tot z n = 0) := by show tot z n = 0; omega
          have HNB := hide hN.below
          rw [decide_eq_false c3]
          clear hmay hfl hN c3 ht0
          go_wp2
          go_ret2
          exact ⟨_, _, rfl, Or.inr (Or.inl ⟨HMAY.out, HT0.out, rfl, rfl, HNB.out⟩)⟩
  · have hno : ¬ MayW n z fl := fun q => hH ⟨q.one, q.four, q.lo, q.hi⟩
    have HNO := hide hno
    clear hao HC HZ hno
    rcases (by omega : n = 0 ∨ 4 < n ∨ (1 ≤ n ∧ n ≤ 4 ∧ fl < 0) ∨ (1 ≤ n ∧ n ≤ 4 ∧ 0 ≤ fl ∧ 67108864 < fl)) with h | h | ⟨h1, h2, h3⟩ | ⟨h1, h2, h3, h4⟩
    · subst h
      clear hH
      go_enter Tryz.func45, Tryz.ntmps45
      go_wp2
      go_ret2
      exact ⟨_, _, rfl, Or.inl ⟨HNO.out, rfl, rfl, Below.refl _ _⟩⟩
    · have e1 : ¬ (n : Int) < 1 := by omega
      have e2 : (4 : Int) < n := by omega
      clear hH
      go_enter Tryz.func45, Tryz.ntmps45
      go_wp2
      go_ret2
      exact ⟨_, _, rfl, Or.inl ⟨HNO.out, rfl, rfl, Below.refl _ _⟩⟩
    · have e1 : ¬ (n : Int) < 1 := by omega
      have e2 : ¬ (4 : Int) < n := by omega
      clear hH
      go_enter Tryz.func45, Tryz.ntmps45
      go_wp2
      go_ret2
      exact ⟨_, _, rfl, Or.inl ⟨HNO.out, rfl, rfl, Below.refl _ _⟩⟩
    · have e1 : ¬ (n : Int) < 1 := by omega
      have e2 : ¬ (4 : Int) < n := by omega
      clear hH
      go_enter Tryz.func45, Tryz.ntmps45
      go_wp2
      go_ret2
      exact ⟨_, _, rfl, Or.inl ⟨HNO.out, rfl, rfl, Below.refl _ _⟩⟩
end Go.Proofs.YtdgcnaijndocnaaGreatDoor
