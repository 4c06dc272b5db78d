/-
  Join of the document's answer of layer 3 (radomeref03): the sum of two numbers of eight words; by py/Join.py.
-/
import Derived.Test.YtgmagehgnjopcaaDoorLgF
import Derived.Test.YtgmagehgnjopcaaDoorLgA
import Derived.Deep.RegionHeld3
import Derived.Deep.DrawnRows
set_option linter.unusedSimpArgs false
set_option linter.unusedVariables false
namespace Go.Proofs.YtgmagehgnjopcaaDoor
open Go.RowKit Lg
attribute [local go_sem ↓] Go.wp_at_zero Go.wp_at_succ

theorem Hid.mk'' {p : Prop} (h : p) : Hid p := h

set_option maxRecDepth 20000 in
set_option maxHeartbeats 1000000 in
theorem join_same (s : Bool) (A B : Int) (w : World) :
    Calls Tryd.prog 60 #[(.agg #[.bool s, .int .u64 (wd 0 A), .int .u64 (wd 1 A), .int .u64 (wd 2 A), .int .u64 (wd 3 A), .int .u64 (wd 4 A), .int .u64 (wd 5 A), .int .u64 (wd 6 A), .int .u64 (wd 7 A)]), (.agg #[.bool s, .int .u64 (wd 0 B), .int .u64 (wd 1 B), .int .u64 (wd 2 B), .int .u64 (wd 3 B), .int .u64 (wd 4 B), .int .u64 (wd 5 B), .int .u64 (wd 6 B), .int .u64 (wd 7 B)])] w fun e w' => e = .returned (.agg #[.bool s, .int .u64 (wd 0 (A + B)), .int .u64 (wd 1 (A + B)), .int .u64 (wd 2 (A + B)), .int .u64 (wd 3 (A + B)), .int .u64 (wd 4 (A + B)), .int .u64 (wd 5 (A + B)), .int .u64 (wd 6 (A + B)), .int .u64 (wd 7 (A + B))]) ∧ Below w.heap.size w w' := by
  go_enter Tryd.func60, Tryd.ntmps60
  go_wp2
  go_loopw [8, 9] (fun c i wr => ∃ k : Nat, k ≤ 8 ∧ i = .int .i64 (k : Int) ∧ c = .int .u64 (cr A B 0 k) ∧ RowF wr w.heap.size s (mixf k (fun j => wd j (A + B)) (fun j => wd j A)) ∧ RowF wr (w.heap.size + 1) s (fun j => wd j B) ∧ RowF wr (w.heap.size + 1 + 1) false (fun _ => 0) ∧ Below w.heap.size w wr) (fun _ i _ => 8 - (intOf i).toNat)
  case atStart => exact ⟨0, by omega, rfl, rfl, ((row9_new w _ _ _ _ _ _ _ _ _).alloc _).alloc _, (row9_new1 w _ _ _ _ _ _ _ _ _ _).alloc _, row9_new2 w _ _ _ _ _ _ _ _ _ _ _, below_al (below_al (below_al (Below.refl _ _) _) _) _⟩
  case round =>
    obtain ⟨k, hk, rfl, rfl, hA, hB, hR, hbel⟩ := hrel
    have c0 := cr_bd k A B 0 (by omega) (by omega)
    have w0 := wd_bd k A
    have w1 := wd_bd k B
    by_cases h8 : k < 8
    · have cA := hA.cell h8
      have cB := hB.cell h8
      have fA := hA.free (1 + k)
      have eA : mixf k (fun j => wd j (A + B)) (fun j => wd j A) k = wd k A := by unfold mixf; rw [if_neg (Nat.lt_irrefl k)]
      rw [eA] at cA
      have N1 := Hid.mk'' (cr_next k A B 0)
      have n2 := cr_word k A B 0 (by omega) (by omega)
      rw [Int.add_zero] at n2
      have N2 := Hid.mk'' n2
      have HS := Hid.mk'' (fun (w' : World) (h : RowF w' w.heap.size s (mixf k (fun j => wd j (A + B)) (fun j => wd j A))) (v : Int) => h.set v h8)
      clear eA n2
      obtain ⟨C, hC⟩ : ∃ C, C = cr A B 0 k := ⟨_, rfl⟩
      obtain ⟨P, hP⟩ : ∃ P, P = wd k A := ⟨_, rfl⟩
      obtain ⟨Q, hQ⟩ : ∃ Q, Q = wd k B := ⟨_, rfl⟩
      rw [← hC] at c0 N1 N2 ⊢
      rw [← hP] at w0 cA N1 N2
      rw [← hQ] at w1 cB N1 N2
      clear hC hP hQ
      go_wp2
      go_quiet (fail)
      go_wp2
      go_roundw
      case rel =>
        refine ⟨k + 1, by omega, by go_num, ?_, (HS.out _ (hA.drewN _) _).congr ?_, (hB.drewN _).other _ (show w.heap.size + 1 ≠ w.heap.size by omega), (hR.drewN _).other _ (show w.heap.size + 1 + 1 ≠ w.heap.size by omega), ?_⟩
        · rw [N1.out]
        · intro j _
          unfold mixf
          by_cases e : j = k
          · subst e; rw [if_pos rfl, if_pos (by omega)]; exact N2.out.symm
          · rw [if_neg e]
            by_cases e2 : j < k
            · rw [if_pos e2, if_pos (by omega)]
            · rw [if_neg e2, if_neg (by omega)]
        · exact (below_drewN hbel _).setCell (Nat.le_refl _) _
      case measure => simp [intOf]; omega
    · obtain rfl : k = 8 := by omega
      have hA8 : Row9 wr w.heap.size s (wd 0 (A + B)) (wd 1 (A + B)) (wd 2 (A + B)) (wd 3 (A + B)) (wd 4 (A + B)) (wd 5 (A + B)) (wd 6 (A + B)) (wd 7 (A + B)) := hA
      have hR8 : Row9 wr (w.heap.size + 1 + 1) false 0 0 0 0 0 0 0 0 := hR
      clear hA hR hB
      go_wp2_with (first | (refine wpList_load9 rfl (.tmp 2) rfl _ _ _ _ _ _ _ _ _ _ rfl hA8 ?_) | (refine wpList_store9 rfl (.tmp 4) (.tmp 70) rfl _ _ _ _ _ _ _ _ _ _ _ _ _ _ _ _ _ _ _ rfl rfl hR8 ?_))
      exact bodyPost_ret (v := (.agg #[.bool s, .int .u64 (wd 0 (A + B)), .int .u64 (wd 1 (A + B)), .int .u64 (wd 2 (A + B)), .int .u64 (wd 3 (A + B)), .int .u64 (wd 4 (A + B)), .int .u64 (wd 5 (A + B)), .int .u64 (wd 6 (A + B)), .int .u64 (wd 7 (A + B))])) (results_9 Tryd.results60 _ _ (w.heap.size + 1 + 1) _ _ _ _ _ _ _ _ _ rfl (hR8.row _ _ _ _ _ _ _ _ _)) rfl ⟨rfl, below_setRow hbel (by omega) _⟩

set_option maxRecDepth 20000 in
set_option maxHeartbeats 1000000 in
theorem join_ge_true (A B : Int) (w : World) (hA : In8 A) (hB : In8 B) (hlt : ¬ A < B) :
    Calls Tryd.prog 60 #[(.agg #[.bool true, .int .u64 (wd 0 A), .int .u64 (wd 1 A), .int .u64 (wd 2 A), .int .u64 (wd 3 A), .int .u64 (wd 4 A), .int .u64 (wd 5 A), .int .u64 (wd 6 A), .int .u64 (wd 7 A)]), (.agg #[.bool false, .int .u64 (wd 0 B), .int .u64 (wd 1 B), .int .u64 (wd 2 B), .int .u64 (wd 3 B), .int .u64 (wd 4 B), .int .u64 (wd 5 B), .int .u64 (wd 6 B), .int .u64 (wd 7 B)])] w fun e w' => e = .returned (.agg #[.bool true, .int .u64 (wd 0 (A - B)), .int .u64 (wd 1 (A - B)), .int .u64 (wd 2 (A - B)), .int .u64 (wd 3 (A - B)), .int .u64 (wd 4 (A - B)), .int .u64 (wd 5 (A - B)), .int .u64 (wd 6 (A - B)), .int .u64 (wd 7 (A - B))]) ∧ Below w.heap.size w w' := by
  go_enter Tryd.func60, Tryd.ntmps60
  go_wp2_with fail
  refine (lower_any A B _ hA hB).mono ?_
  rintro e w1 ⟨rfl, hb1⟩
  rw [decide_eq_false (show ¬ A < B by omega)]
  have rA : Row9 w1 w.heap.size true (wd 0 A) (wd 1 A) (wd 2 A) (wd 3 A) (wd 4 A) (wd 5 A) (wd 6 A) (wd 7 A) := (((row9_new w _ _ _ _ _ _ _ _ _).alloc _).alloc _).keep hb1
  have rB : Row9 w1 (w.heap.size + 1) false (wd 0 B) (wd 1 B) (wd 2 B) (wd 3 B) (wd 4 B) (wd 5 B) (wd 6 B) (wd 7 B) := ((row9_new1 w _ _ _ _ _ _ _ _ _ _).alloc _).keep hb1
  have rR : Row9 w1 (w.heap.size + 1 + 1) false 0 0 0 0 0 0 0 0 := (row9_new2 w _ _ _ _ _ _ _ _ _ _ _).keep hb1
  have bW : Below w.heap.size w w1 := below_tr (below_al (below_al (below_al (Below.refl _ _) _) _) _) hb1
  clear hb1
  go_wp2
  go_loopw [5, 6] (fun c i wr => ∃ k : Nat, k ≤ 8 ∧ i = .int .i64 (k : Int) ∧ c = .int .u64 (br A B 0 k) ∧ RowF wr w.heap.size true (mixf k (fun j => wd j (A - B)) (fun j => wd j A)) ∧ RowF wr (w.heap.size + 1) false (fun j => wd j B) ∧ RowF wr (w.heap.size + 1 + 1) false (fun _ => 0) ∧ Below w.heap.size w wr) (fun _ i _ => 8 - (intOf i).toNat)
  case atStart => exact ⟨0, by omega, rfl, rfl, rA, rB, rR, bW⟩
  case round =>
    obtain ⟨k, hk, rfl, rfl, hA, hB, hR, hbel⟩ := hrel
    have c0 := br_bd k A B 0 (by omega) (by omega)
    have w0 := wd_bd k A
    have w1 := wd_bd k B
    by_cases h8 : k < 8
    · have cA := hA.cell h8
      have cB := hB.cell h8
      have fA := hA.free (1 + k)
      have eA : mixf k (fun j => wd j (A - B)) (fun j => wd j A) k = wd k A := by unfold mixf; rw [if_neg (Nat.lt_irrefl k)]
      rw [eA] at cA
      have N1 := Hid.mk'' (br_next k A B 0)
      have n2 := br_word k A B 0 (by omega) (by omega)
      rw [Int.sub_zero] at n2
      have N2 := Hid.mk'' n2
      have HS := Hid.mk'' (fun (w' : World) (h : RowF w' w.heap.size true (mixf k (fun j => wd j (A - B)) (fun j => wd j A))) (v : Int) => h.set v h8)
      clear eA n2
      obtain ⟨C, hC⟩ : ∃ C, C = br A B 0 k := ⟨_, rfl⟩
      obtain ⟨P, hP⟩ : ∃ P, P = wd k A := ⟨_, rfl⟩
      obtain ⟨Q, hQ⟩ : ∃ Q, Q = wd k B := ⟨_, rfl⟩
      rw [← hC] at c0 N1 N2 ⊢
      rw [← hP] at w0 cA N1 N2
      rw [← hQ] at w1 cB N1 N2
      clear hC hP hQ
      go_wp2
      go_quiet (fail)
      go_wp2
      go_roundw
      case rel =>
        refine ⟨k + 1, by omega, by go_num, ?_, (HS.out _ (hA.drewN _) _).congr ?_, (hB.drewN _).other _ (show w.heap.size + 1 ≠ w.heap.size by omega), (hR.drewN _).other _ (show w.heap.size + 1 + 1 ≠ w.heap.size by omega), ?_⟩
        · rw [N1.out]
        · intro j _
          unfold mixf
          by_cases e : j = k
          · subst e; rw [if_pos rfl, if_pos (by omega)]; exact N2.out.symm
          · rw [if_neg e]
            by_cases e2 : j < k
            · rw [if_pos e2, if_pos (by omega)]
            · rw [if_neg e2, if_neg (by omega)]
        · exact (below_drewN hbel _).setCell (Nat.le_refl _) _
      case measure => simp [intOf]; omega
    · obtain rfl : k = 8 := by omega
      have hA8 : Row9 wr w.heap.size true (wd 0 (A - B)) (wd 1 (A - B)) (wd 2 (A - B)) (wd 3 (A - B)) (wd 4 (A - B)) (wd 5 (A - B)) (wd 6 (A - B)) (wd 7 (A - B)) := hA
      have hR8 : Row9 wr (w.heap.size + 1 + 1) false 0 0 0 0 0 0 0 0 := hR
      clear hA hR hB
      go_wp2_with (first | (refine wpList_load9 rfl (.tmp 2) rfl _ _ _ _ _ _ _ _ _ _ rfl hA8 ?_) | (refine wpList_store9 rfl (.tmp 4) (.tmp 47) rfl _ _ _ _ _ _ _ _ _ _ _ _ _ _ _ _ _ _ _ rfl rfl hR8 ?_))
      exact bodyPost_ret (v := (.agg #[.bool true, .int .u64 (wd 0 (A - B)), .int .u64 (wd 1 (A - B)), .int .u64 (wd 2 (A - B)), .int .u64 (wd 3 (A - B)), .int .u64 (wd 4 (A - B)), .int .u64 (wd 5 (A - B)), .int .u64 (wd 6 (A - B)), .int .u64 (wd 7 (A - B))])) (results_9 Tryd.results60 _ _ (w.heap.size + 1 + 1) _ _ _ _ _ _ _ _ _ rfl (hR8.row _ _ _ _ _ _ _ _ _)) rfl ⟨rfl, below_setRow hbel (by omega) _⟩

set_option maxRecDepth 20000 in
set_option maxHeartbeats 1000000 in
theorem join_lt_true (A B : Int) (w : World) (hA : In8 A) (hB : In8 B) (hlt : A < B) :
    Calls Tryd.prog 60 #[(.agg #[.bool true, .int .u64 (wd 0 A), .int .u64 (wd 1 A), .int .u64 (wd 2 A), .int .u64 (wd 3 A), .int .u64 (wd 4 A), .int .u64 (wd 5 A), .int .u64 (wd 6 A), .int .u64 (wd 7 A)]), (.agg #[.bool false, .int .u64 (wd 0 B), .int .u64 (wd 1 B), .int .u64 (wd 2 B), .int .u64 (wd 3 B), .int .u64 (wd 4 B), .int .u64 (wd 5 B), .int .u64 (wd 6 B), .int .u64 (wd 7 B)])] w fun e w' => e = .returned (.agg #[.bool false, .int .u64 (wd 0 (B - A)), .int .u64 (wd 1 (B - A)), .int .u64 (wd 2 (B - A)), .int .u64 (wd 3 (B - A)), .int .u64 (wd 4 (B - A)), .int .u64 (wd 5 (B - A)), .int .u64 (wd 6 (B - A)), .int .u64 (wd 7 (B - A))]) ∧ Below w.heap.size w w' := by
  go_enter Tryd.func60, Tryd.ntmps60
  go_wp2_with fail
  refine (lower_any A B _ hA hB).mono ?_
  rintro e w1 ⟨rfl, hb1⟩
  rw [decide_eq_true hlt]
  have rA : Row9 w1 w.heap.size true (wd 0 A) (wd 1 A) (wd 2 A) (wd 3 A) (wd 4 A) (wd 5 A) (wd 6 A) (wd 7 A) := (((row9_new w _ _ _ _ _ _ _ _ _).alloc _).alloc _).keep hb1
  have rB : Row9 w1 (w.heap.size + 1) false (wd 0 B) (wd 1 B) (wd 2 B) (wd 3 B) (wd 4 B) (wd 5 B) (wd 6 B) (wd 7 B) := ((row9_new1 w _ _ _ _ _ _ _ _ _ _).alloc _).keep hb1
  have rR : Row9 w1 (w.heap.size + 1 + 1) false 0 0 0 0 0 0 0 0 := (row9_new2 w _ _ _ _ _ _ _ _ _ _ _).keep hb1
  have bW : Below w.heap.size w w1 := below_tr (below_al (below_al (below_al (Below.refl _ _) _) _) _) hb1
  have rB2 : Row9 (w1.setRow w.heap.size #[.bool false, .int .u64 (wd 0 B), .int .u64 (wd 1 B), .int .u64 (wd 2 B), .int .u64 (wd 3 B), .int .u64 (wd 4 B), .int .u64 (wd 5 B), .int .u64 (wd 6 B), .int .u64 (wd 7 B)]) (w.heap.size + 1) false (wd 0 B) (wd 1 B) (wd 2 B) (wd 3 B) (wd 4 B) (wd 5 B) (wd 6 B) (wd 7 B) := rB.rowOther (by omega) _
  have rA3 : Row9 ((w1.setRow w.heap.size #[.bool false, .int .u64 (wd 0 B), .int .u64 (wd 1 B), .int .u64 (wd 2 B), .int .u64 (wd 3 B), .int .u64 (wd 4 B), .int .u64 (wd 5 B), .int .u64 (wd 6 B), .int .u64 (wd 7 B)]).setRow (w.heap.size + 1) #[.bool true, .int .u64 (wd 0 A), .int .u64 (wd 1 A), .int .u64 (wd 2 A), .int .u64 (wd 3 A), .int .u64 (wd 4 A), .int .u64 (wd 5 A), .int .u64 (wd 6 A), .int .u64 (wd 7 A)]) w.heap.size false (wd 0 B) (wd 1 B) (wd 2 B) (wd 3 B) (wd 4 B) (wd 5 B) (wd 6 B) (wd 7 B) := (rA.row _ _ _ _ _ _ _ _ _).rowOther (by omega) _
  have rB3 : Row9 ((w1.setRow w.heap.size #[.bool false, .int .u64 (wd 0 B), .int .u64 (wd 1 B), .int .u64 (wd 2 B), .int .u64 (wd 3 B), .int .u64 (wd 4 B), .int .u64 (wd 5 B), .int .u64 (wd 6 B), .int .u64 (wd 7 B)]).setRow (w.heap.size + 1) #[.bool true, .int .u64 (wd 0 A), .int .u64 (wd 1 A), .int .u64 (wd 2 A), .int .u64 (wd 3 A), .int .u64 (wd 4 A), .int .u64 (wd 5 A), .int .u64 (wd 6 A), .int .u64 (wd 7 A)]) (w.heap.size + 1) true (wd 0 A) (wd 1 A) (wd 2 A) (wd 3 A) (wd 4 A) (wd 5 A) (wd 6 A) (wd 7 A) := rB2.row _ _ _ _ _ _ _ _ _
  have rR3 : Row9 ((w1.setRow w.heap.size #[.bool false, .int .u64 (wd 0 B), .int .u64 (wd 1 B), .int .u64 (wd 2 B), .int .u64 (wd 3 B), .int .u64 (wd 4 B), .int .u64 (wd 5 B), .int .u64 (wd 6 B), .int .u64 (wd 7 B)]).setRow (w.heap.size + 1) #[.bool true, .int .u64 (wd 0 A), .int .u64 (wd 1 A), .int .u64 (wd 2 A), .int .u64 (wd 3 A), .int .u64 (wd 4 A), .int .u64 (wd 5 A), .int .u64 (wd 6 A), .int .u64 (wd 7 A)]) (w.heap.size + 1 + 1) false 0 0 0 0 0 0 0 0 := (rR.rowOther (by omega) _).rowOther (by omega) _
  have bW3 : Below w.heap.size w ((w1.setRow w.heap.size #[.bool false, .int .u64 (wd 0 B), .int .u64 (wd 1 B), .int .u64 (wd 2 B), .int .u64 (wd 3 B), .int .u64 (wd 4 B), .int .u64 (wd 5 B), .int .u64 (wd 6 B), .int .u64 (wd 7 B)]).setRow (w.heap.size + 1) #[.bool true, .int .u64 (wd 0 A), .int .u64 (wd 1 A), .int .u64 (wd 2 A), .int .u64 (wd 3 A), .int .u64 (wd 4 A), .int .u64 (wd 5 A), .int .u64 (wd 6 A), .int .u64 (wd 7 A)]) := below_setRow (below_setRow bW (Nat.le_refl _) _) (by omega) _
  clear hb1
  go_wp2_with (first | (refine wpList_load9 rfl (.tmp 3) rfl _ _ _ _ _ _ _ _ _ _ rfl rB ?_) | (refine wpList_load9 rfl (.tmp 2) rfl _ _ _ _ _ _ _ _ _ _ rfl rA ?_) | (refine wpList_store9 rfl (.tmp 2) (.tmp 21) rfl _ _ _ _ _ _ _ _ _ _ _ _ _ _ _ _ _ _ _ rfl rfl rA ?_) | (refine wpList_store9 rfl (.tmp 3) (.tmp 22) rfl _ _ _ _ _ _ _ _ _ _ _ _ _ _ _ _ _ _ _ rfl rfl rB2 ?_))
  go_loopw [5, 6] (fun c i wr => ∃ k : Nat, k ≤ 8 ∧ i = .int .i64 (k : Int) ∧ c = .int .u64 (br B A 0 k) ∧ RowF wr w.heap.size false (mixf k (fun j => wd j (B - A)) (fun j => wd j B)) ∧ RowF wr (w.heap.size + 1) true (fun j => wd j A) ∧ RowF wr (w.heap.size + 1 + 1) false (fun _ => 0) ∧ Below w.heap.size w wr) (fun _ i _ => 8 - (intOf i).toNat)
  case atStart => exact ⟨0, by omega, rfl, rfl, rA3, rB3, rR3, bW3⟩
  case round =>
    obtain ⟨k, hk, rfl, rfl, hA, hB, hR, hbel⟩ := hrel
    have c0 := br_bd k B A 0 (by omega) (by omega)
    have w0 := wd_bd k B
    have w1 := wd_bd k A
    by_cases h8 : k < 8
    · have cA := hA.cell h8
      have cB := hB.cell h8
      have fA := hA.free (1 + k)
      have eA : mixf k (fun j => wd j (B - A)) (fun j => wd j B) k = wd k B := by unfold mixf; rw [if_neg (Nat.lt_irrefl k)]
      rw [eA] at cA
      have N1 := Hid.mk'' (br_next k B A 0)
      have n2 := br_word k B A 0 (by omega) (by omega)
      rw [Int.sub_zero] at n2
      have N2 := Hid.mk'' n2
      have HS := Hid.mk'' (fun (w' : World) (h : RowF w' w.heap.size false (mixf k (fun j => wd j (B - A)) (fun j => wd j B))) (v : Int) => h.set v h8)
      clear eA n2
      obtain ⟨C, hC⟩ : ∃ C, C = br B A 0 k := ⟨_, rfl⟩
      obtain ⟨P, hP⟩ : ∃ P, P = wd k B := ⟨_, rfl⟩
      obtain ⟨Q, hQ⟩ : ∃ Q, Q = wd k A := ⟨_, rfl⟩
      rw [← hC] at c0 N1 N2 ⊢
      rw [← hP] at w0 cA N1 N2
      rw [← hQ] at w1 cB N1 N2
      clear hC hP hQ
      go_wp2
      go_quiet (fail)
      go_wp2
      go_roundw
      case rel =>
        refine ⟨k + 1, by omega, by go_num, ?_, (HS.out _ (hA.drewN _) _).congr ?_, (hB.drewN _).other _ (show w.heap.size + 1 ≠ w.heap.size by omega), (hR.drewN _).other _ (show w.heap.size + 1 + 1 ≠ w.heap.size by omega), ?_⟩
        · rw [N1.out]
        · intro j _
          unfold mixf
          by_cases e : j = k
          · subst e; rw [if_pos rfl, if_pos (by omega)]; exact N2.out.symm
          · rw [if_neg e]
            by_cases e2 : j < k
            · rw [if_pos e2, if_pos (by omega)]
            · rw [if_neg e2, if_neg (by omega)]
        · exact (below_drewN hbel _).setCell (Nat.le_refl _) _
      case measure => simp [intOf]; omega
    · obtain rfl : k = 8 := by omega
      have hA8 : Row9 wr w.heap.size false (wd 0 (B - A)) (wd 1 (B - A)) (wd 2 (B - A)) (wd 3 (B - A)) (wd 4 (B - A)) (wd 5 (B - A)) (wd 6 (B - A)) (wd 7 (B - A)) := hA
      have hR8 : Row9 wr (w.heap.size + 1 + 1) false 0 0 0 0 0 0 0 0 := hR
      clear hA hR hB
      go_wp2_with (first | (refine wpList_load9 rfl (.tmp 2) rfl _ _ _ _ _ _ _ _ _ _ rfl hA8 ?_) | (refine wpList_store9 rfl (.tmp 4) (.tmp 47) rfl _ _ _ _ _ _ _ _ _ _ _ _ _ _ _ _ _ _ _ rfl rfl hR8 ?_))
      exact bodyPost_ret (v := (.agg #[.bool false, .int .u64 (wd 0 (B - A)), .int .u64 (wd 1 (B - A)), .int .u64 (wd 2 (B - A)), .int .u64 (wd 3 (B - A)), .int .u64 (wd 4 (B - A)), .int .u64 (wd 5 (B - A)), .int .u64 (wd 6 (B - A)), .int .u64 (wd 7 (B - A))])) (results_9 Tryd.results60 _ _ (w.heap.size + 1 + 1) _ _ _ _ _ _ _ _ _ rfl (hR8.row _ _ _ _ _ _ _ _ _)) rfl ⟨rfl, below_setRow hbel (by omega) _⟩

set_option maxRecDepth 20000 in
set_option maxHeartbeats 1000000 in
theorem join_ge_false (A B : Int) (w : World) (hA : In8 A) (hB : In8 B) (hlt : ¬ A < B) :
    Calls Tryd.prog 60 #[(.agg #[.bool false, .int .u64 (wd 0 A), .int .u64 (wd 1 A), .int .u64 (wd 2 A), .int .u64 (wd 3 A), .int .u64 (wd 4 A), .int .u64 (wd 5 A), .int .u64 (wd 6 A), .int .u64 (wd 7 A)]), (.agg #[.bool true, .int .u64 (wd 0 B), .int .u64 (wd 1 B), .int .u64 (wd 2 B), .int .u64 (wd 3 B), .int .u64 (wd 4 B), .int .u64 (wd 5 B), .int .u64 (wd 6 B), .int .u64 (wd 7 B)])] w fun e w' => e = .returned (.agg #[.bool false, .int .u64 (wd 0 (A - B)), .int .u64 (wd 1 (A - B)), .int .u64 (wd 2 (A - B)), .int .u64 (wd 3 (A - B)), .int .u64 (wd 4 (A - B)), .int .u64 (wd 5 (A - B)), .int .u64 (wd 6 (A - B)), .int .u64 (wd 7 (A - B))]) ∧ Below w.heap.size w w' := by
  go_enter Tryd.func60, Tryd.ntmps60
  go_wp2_with fail
  refine (lower_any A B _ hA hB).mono ?_
  rintro e w1 ⟨rfl, hb1⟩
  rw [decide_eq_false (show ¬ A < B by omega)]
  have rA : Row9 w1 w.heap.size false (wd 0 A) (wd 1 A) (wd 2 A) (wd 3 A) (wd 4 A) (wd 5 A) (wd 6 A) (wd 7 A) := (((row9_new w _ _ _ _ _ _ _ _ _).alloc _).alloc _).keep hb1
  have rB : Row9 w1 (w.heap.size + 1) true (wd 0 B) (wd 1 B) (wd 2 B) (wd 3 B) (wd 4 B) (wd 5 B) (wd 6 B) (wd 7 B) := ((row9_new1 w _ _ _ _ _ _ _ _ _ _).alloc _).keep hb1
  have rR : Row9 w1 (w.heap.size + 1 + 1) false 0 0 0 0 0 0 0 0 := (row9_new2 w _ _ _ _ _ _ _ _ _ _ _).keep hb1
  have bW : Below w.heap.size w w1 := below_tr (below_al (below_al (below_al (Below.refl _ _) _) _) _) hb1
  clear hb1
  go_wp2
  go_loopw [5, 6] (fun c i wr => ∃ k : Nat, k ≤ 8 ∧ i = .int .i64 (k : Int) ∧ c = .int .u64 (br A B 0 k) ∧ RowF wr w.heap.size false (mixf k (fun j => wd j (A - B)) (fun j => wd j A)) ∧ RowF wr (w.heap.size + 1) true (fun j => wd j B) ∧ RowF wr (w.heap.size + 1 + 1) false (fun _ => 0) ∧ Below w.heap.size w wr) (fun _ i _ => 8 - (intOf i).toNat)
  case atStart => exact ⟨0, by omega, rfl, rfl, rA, rB, rR, bW⟩
  case round =>
    obtain ⟨k, hk, rfl, rfl, hA, hB, hR, hbel⟩ := hrel
    have c0 := br_bd k A B 0 (by omega) (by omega)
    have w0 := wd_bd k A
    have w1 := wd_bd k B
    by_cases h8 : k < 8
    · have cA := hA.cell h8
      have cB := hB.cell h8
      have fA := hA.free (1 + k)
      have eA : mixf k (fun j => wd j (A - B)) (fun j => wd j A) k = wd k A := by unfold mixf; rw [if_neg (Nat.lt_irrefl k)]
      rw [eA] at cA
      have N1 := Hid.mk'' (br_next k A B 0)
      have n2 := br_word k A B 0 (by omega) (by omega)
      rw [Int.sub_zero] at n2
      have N2 := Hid.mk'' n2
      have HS := Hid.mk'' (fun (w' : World) (h : RowF w' w.heap.size false (mixf k (fun j => wd j (A - B)) (fun j => wd j A))) (v : Int) => h.set v h8)
      clear eA n2
      obtain ⟨C, hC⟩ : ∃ C, C = br A B 0 k := ⟨_, rfl⟩
      obtain ⟨P, hP⟩ : ∃ P, P = wd k A := ⟨_, rfl⟩
      obtain ⟨Q, hQ⟩ : ∃ Q, Q = wd k B := ⟨_, rfl⟩
      rw [← hC] at c0 N1 N2 ⊢
      rw [← hP] at w0 cA N1 N2
      rw [← hQ] at w1 cB N1 N2
      clear hC hP hQ
      go_wp2
      go_quiet (fail)
      go_wp2
      go_roundw
      case rel =>
        refine ⟨k + 1, by omega, by go_num, ?_, (HS.out _ (hA.drewN _) _).congr ?_, (hB.drewN _).other _ (show w.heap.size + 1 ≠ w.heap.size by omega), (hR.drewN _).other _ (show w.heap.size + 1 + 1 ≠ w.heap.size by omega), ?_⟩
        · rw [N1.out]
        · intro j _
          unfold mixf
          by_cases e : j = k
          · subst e; rw [if_pos rfl, if_pos (by omega)]; exact N2.out.symm
          · rw [if_neg e]
            by_cases e2 : j < k
            · rw [if_pos e2, if_pos (by omega)]
            · rw [if_neg e2, if_neg (by omega)]
        · exact (below_drewN hbel _).setCell (Nat.le_refl _) _
      case measure => simp [intOf]; omega
    · obtain rfl : k = 8 := by omega
      have hA8 : Row9 wr w.heap.size false (wd 0 (A - B)) (wd 1 (A - B)) (wd 2 (A - B)) (wd 3 (A - B)) (wd 4 (A - B)) (wd 5 (A - B)) (wd 6 (A - B)) (wd 7 (A - B)) := hA
      have hR8 : Row9 wr (w.heap.size + 1 + 1) false 0 0 0 0 0 0 0 0 := hR
      clear hA hR hB
      go_wp2_with (first | (refine wpList_load9 rfl (.tmp 2) rfl _ _ _ _ _ _ _ _ _ _ rfl hA8 ?_) | (refine wpList_store9 rfl (.tmp 4) (.tmp 47) rfl _ _ _ _ _ _ _ _ _ _ _ _ _ _ _ _ _ _ _ rfl rfl hR8 ?_))
      exact bodyPost_ret (v := (.agg #[.bool false, .int .u64 (wd 0 (A - B)), .int .u64 (wd 1 (A - B)), .int .u64 (wd 2 (A - B)), .int .u64 (wd 3 (A - B)), .int .u64 (wd 4 (A - B)), .int .u64 (wd 5 (A - B)), .int .u64 (wd 6 (A - B)), .int .u64 (wd 7 (A - B))])) (results_9 Tryd.results60 _ _ (w.heap.size + 1 + 1) _ _ _ _ _ _ _ _ _ rfl (hR8.row _ _ _ _ _ _ _ _ _)) rfl ⟨rfl, below_setRow hbel (by omega) _⟩

set_option maxRecDepth 20000 in
set_option maxHeartbeats 1000000 in
theorem join_lt_false (A B : Int) (w : World) (hA : In8 A) (hB : In8 B) (hlt : A < B) :
    Calls Tryd.prog 60 #[(.agg #[.bool false, .int .u64 (wd 0 A), .int .u64 (wd 1 A), .int .u64 (wd 2 A), .int .u64 (wd 3 A), .int .u64 (wd 4 A), .int .u64 (wd 5 A), .int .u64 (wd 6 A), .int .u64 (wd 7 A)]), (.agg #[.bool true, .int .u64 (wd 0 B), .int .u64 (wd 1 B), .int .u64 (wd 2 B), .int .u64 (wd 3 B), .int .u64 (wd 4 B), .int .u64 (wd 5 B), .int .u64 (wd 6 B), .int .u64 (wd 7 B)])] w fun e w' => e = .returned (.agg #[.bool true, .int .u64 (wd 0 (B - A)), .int .u64 (wd 1 (B - A)), .int .u64 (wd 2 (B - A)), .int .u64 (wd 3 (B - A)), .int .u64 (wd 4 (B - A)), .int .u64 (wd 5 (B - A)), .int .u64 (wd 6 (B - A)), .int .u64 (wd 7 (B - A))]) ∧ Below w.heap.size w w' := by
  go_enter Tryd.func60, Tryd.ntmps60
  go_wp2_with fail
  refine (lower_any A B _ hA hB).mono ?_
  rintro e w1 ⟨rfl, hb1⟩
  rw [decide_eq_true hlt]
  have rA : Row9 w1 w.heap.size false (wd 0 A) (wd 1 A) (wd 2 A) (wd 3 A) (wd 4 A) (wd 5 A) (wd 6 A) (wd 7 A) := (((row9_new w _ _ _ _ _ _ _ _ _).alloc _).alloc _).keep hb1
  have rB : Row9 w1 (w.heap.size + 1) true (wd 0 B) (wd 1 B) (wd 2 B) (wd 3 B) (wd 4 B) (wd 5 B) (wd 6 B) (wd 7 B) := ((row9_new1 w _ _ _ _ _ _ _ _ _ _).alloc _).keep hb1
  have rR : Row9 w1 (w.heap.size + 1 + 1) false 0 0 0 0 0 0 0 0 := (row9_new2 w _ _ _ _ _ _ _ _ _ _ _).keep hb1
  have bW : Below w.heap.size w w1 := below_tr (below_al (below_al (below_al (Below.refl _ _) _) _) _) hb1
  have rB2 : Row9 (w1.setRow w.heap.size #[.bool true, .int .u64 (wd 0 B), .int .u64 (wd 1 B), .int .u64 (wd 2 B), .int .u64 (wd 3 B), .int .u64 (wd 4 B), .int .u64 (wd 5 B), .int .u64 (wd 6 B), .int .u64 (wd 7 B)]) (w.heap.size + 1) true (wd 0 B) (wd 1 B) (wd 2 B) (wd 3 B) (wd 4 B) (wd 5 B) (wd 6 B) (wd 7 B) := rB.rowOther (by omega) _
  have rA3 : Row9 ((w1.setRow w.heap.size #[.bool true, .int .u64 (wd 0 B), .int .u64 (wd 1 B), .int .u64 (wd 2 B), .int .u64 (wd 3 B), .int .u64 (wd 4 B), .int .u64 (wd 5 B), .int .u64 (wd 6 B), .int .u64 (wd 7 B)]).setRow (w.heap.size + 1) #[.bool false, .int .u64 (wd 0 A), .int .u64 (wd 1 A), .int .u64 (wd 2 A), .int .u64 (wd 3 A), .int .u64 (wd 4 A), .int .u64 (wd 5 A), .int .u64 (wd 6 A), .int .u64 (wd 7 A)]) w.heap.size true (wd 0 B) (wd 1 B) (wd 2 B) (wd 3 B) (wd 4 B) (wd 5 B) (wd 6 B) (wd 7 B) := (rA.row _ _ _ _ _ _ _ _ _).rowOther (by omega) _
  have rB3 : Row9 ((w1.setRow w.heap.size #[.bool true, .int .u64 (wd 0 B), .int .u64 (wd 1 B), .int .u64 (wd 2 B), .int .u64 (wd 3 B), .int .u64 (wd 4 B), .int .u64 (wd 5 B), .int .u64 (wd 6 B), .int .u64 (wd 7 B)]).setRow (w.heap.size + 1) #[.bool false, .int .u64 (wd 0 A), .int .u64 (wd 1 A), .int .u64 (wd 2 A), .int .u64 (wd 3 A), .int .u64 (wd 4 A), .int .u64 (wd 5 A), .int .u64 (wd 6 A), .int .u64 (wd 7 A)]) (w.heap.size + 1) false (wd 0 A) (wd 1 A) (wd 2 A) (wd 3 A) (wd 4 A) (wd 5 A) (wd 6 A) (wd 7 A) := rB2.row _ _ _ _ _ _ _ _ _
  have rR3 : Row9 ((w1.setRow w.heap.size #[.bool true, .int .u64 (wd 0 B), .int .u64 (wd 1 B), .int .u64 (wd 2 B), .int .u64 (wd 3 B), .int .u64 (wd 4 B), .int .u64 (wd 5 B), .int .u64 (wd 6 B), .int .u64 (wd 7 B)]).setRow (w.heap.size + 1) #[.bool false, .int .u64 (wd 0 A), .int .u64 (wd 1 A), .int .u64 (wd 2 A), .int .u64 (wd 3 A), .int .u64 (wd 4 A), .int .u64 (wd 5 A), .int .u64 (wd 6 A), .int .u64 (wd 7 A)]) (w.heap.size + 1 + 1) false 0 0 0 0 0 0 0 0 := (rR.rowOther (by omega) _).rowOther (by omega) _
  have bW3 : Below w.heap.size w ((w1.setRow w.heap.size #[.bool true, .int .u64 (wd 0 B), .int .u64 (wd 1 B), .int .u64 (wd 2 B), .int .u64 (wd 3 B), .int .u64 (wd 4 B), .int .u64 (wd 5 B), .int .u64 (wd 6 B), .int .u64 (wd 7 B)]).setRow (w.heap.size + 1) #[.bool false, .int .u64 (wd 0 A), .int .u64 (wd 1 A), .int .u64 (wd 2 A), .int .u64 (wd 3 A), .int .u64 (wd 4 A), .int .u64 (wd 5 A), .int .u64 (wd 6 A), .int .u64 (wd 7 A)]) := below_setRow (below_setRow bW (Nat.le_refl _) _) (by omega) _
  clear hb1
  go_wp2_with (first | (refine wpList_load9 rfl (.tmp 3) rfl _ _ _ _ _ _ _ _ _ _ rfl rB ?_) | (refine wpList_load9 rfl (.tmp 2) rfl _ _ _ _ _ _ _ _ _ _ rfl rA ?_) | (refine wpList_store9 rfl (.tmp 2) (.tmp 21) rfl _ _ _ _ _ _ _ _ _ _ _ _ _ _ _ _ _ _ _ rfl rfl rA ?_) | (refine wpList_store9 rfl (.tmp 3) (.tmp 22) rfl _ _ _ _ _ _ _ _ _ _ _ _ _ _ _ _ _ _ _ rfl rfl rB2 ?_))
  go_loopw [5, 6] (fun c i wr => ∃ k : Nat, k ≤ 8 ∧ i = .int .i64 (k : Int) ∧ c = .int .u64 (br B A 0 k) ∧ RowF wr w.heap.size true (mixf k (fun j => wd j (B - A)) (fun j => wd j B)) ∧ RowF wr (w.heap.size + 1) false (fun j => wd j A) ∧ RowF wr (w.heap.size + 1 + 1) false (fun _ => 0) ∧ Below w.heap.size w wr) (fun _ i _ => 8 - (intOf i).toNat)
  case atStart => exact ⟨0, by omega, rfl, rfl, rA3, rB3, rR3, bW3⟩
  case round =>
    obtain ⟨k, hk, rfl, rfl, hA, hB, hR, hbel⟩ := hrel
    have c0 := br_bd k B A 0 (by omega) (by omega)
    have w0 := wd_bd k B
    have w1 := wd_bd k A
    by_cases h8 : k < 8
    · have cA := hA.cell h8
      have cB := hB.cell h8
      have fA := hA.free (1 + k)
      have eA : mixf k (fun j => wd j (B - A)) (fun j => wd j B) k = wd k B := by unfold mixf; rw [if_neg (Nat.lt_irrefl k)]
      rw [eA] at cA
      have N1 := Hid.mk'' (br_next k B A 0)
      have n2 := br_word k B A 0 (by omega) (by omega)
      rw [Int.sub_zero] at n2
      have N2 := Hid.mk'' n2
      have HS := Hid.mk'' (fun (w' : World) (h : RowF w' w.heap.size true (mixf k (fun j => wd j (B - A)) (fun j => wd j B))) (v : Int) => h.set v h8)
      clear eA n2
      obtain ⟨C, hC⟩ : ∃ C, C = br B A 0 k := ⟨_, rfl⟩
      obtain ⟨P, hP⟩ : ∃ P, P = wd k B := ⟨_, rfl⟩
      obtain ⟨Q, hQ⟩ : ∃ Q, Q = wd k A := ⟨_, rfl⟩
      rw [← hC] at c0 N1 N2 ⊢
      rw [← hP] at w0 cA N1 N2
      rw [← hQ] at w1 cB N1 N2
      clear hC hP hQ
      go_wp2
      go_quiet (fail)
      go_wp2
      go_roundw
      case rel =>
        refine ⟨k + 1, by omega, by go_num, ?_, (HS.out _ (hA.drewN _) _).congr ?_, (hB.drewN _).other _ (show w.heap.size + 1 ≠ w.heap.size by omega), (hR.drewN _).other _ (show w.heap.size + 1 + 1 ≠ w.heap.size by omega), ?_⟩
        · rw [N1.out]
        · intro j _
          unfold mixf
          by_cases e : j = k
          · subst e; rw [if_pos rfl, if_pos (by omega)]; exact N2.out.symm
          · rw [if_neg e]
            by_cases e2 : j < k
            · rw [if_pos e2, if_pos (by omega)]
            · rw [if_neg e2, if_neg (by omega)]
        · exact (below_drewN hbel _).setCell (Nat.le_refl _) _
      case measure => simp [intOf]; omega
    · obtain rfl : k = 8 := by omega
      have hA8 : Row9 wr w.heap.size true (wd 0 (B - A)) (wd 1 (B - A)) (wd 2 (B - A)) (wd 3 (B - A)) (wd 4 (B - A)) (wd 5 (B - A)) (wd 6 (B - A)) (wd 7 (B - A)) := hA
      have hR8 : Row9 wr (w.heap.size + 1 + 1) false 0 0 0 0 0 0 0 0 := hR
      clear hA hR hB
      go_wp2_with (first | (refine wpList_load9 rfl (.tmp 2) rfl _ _ _ _ _ _ _ _ _ _ rfl hA8 ?_) | (refine wpList_store9 rfl (.tmp 4) (.tmp 47) rfl _ _ _ _ _ _ _ _ _ _ _ _ _ _ _ _ _ _ _ rfl rfl hR8 ?_))
      exact bodyPost_ret (v := (.agg #[.bool true, .int .u64 (wd 0 (B - A)), .int .u64 (wd 1 (B - A)), .int .u64 (wd 2 (B - A)), .int .u64 (wd 3 (B - A)), .int .u64 (wd 4 (B - A)), .int .u64 (wd 5 (B - A)), .int .u64 (wd 6 (B - A)), .int .u64 (wd 7 (B - A))])) (results_9 Tryd.results60 _ _ (w.heap.size + 1 + 1) _ _ _ _ _ _ _ _ _ rfl (hR8.row _ _ _ _ _ _ _ _ _)) rfl ⟨rfl, below_setRow hbel (by omega) _⟩


namespace Lg
/-- A number with its sign. -/
def sgz (s : Bool) (A : Int) : Int := if s then -A else A
end Lg

/-- Join: the sum of both. -/
theorem join_any (p q : Bool) (A B : Int) (w : World) (hA : In8 A) (hB : In8 B) (hS : In8 (A + B)) :
    Calls Tryd.prog 60 #[(.agg #[.bool p, .int .u64 (wd 0 A), .int .u64 (wd 1 A), .int .u64 (wd 2 A), .int .u64 (wd 3 A), .int .u64 (wd 4 A), .int .u64 (wd 5 A), .int .u64 (wd 6 A), .int .u64 (wd 7 A)]), (.agg #[.bool q, .int .u64 (wd 0 B), .int .u64 (wd 1 B), .int .u64 (wd 2 B), .int .u64 (wd 3 B), .int .u64 (wd 4 B), .int .u64 (wd 5 B), .int .u64 (wd 6 B), .int .u64 (wd 7 B)])] w fun e w' => ∃ (s : Bool) (C : Int), e = .returned (.agg #[.bool s, .int .u64 (wd 0 C), .int .u64 (wd 1 C), .int .u64 (wd 2 C), .int .u64 (wd 3 C), .int .u64 (wd 4 C), .int .u64 (wd 5 C), .int .u64 (wd 6 C), .int .u64 (wd 7 C)]) ∧ In8 C ∧ sgz s C = sgz p A + sgz q B ∧ Below w.heap.size w w' := by
  have hA0 := hA
  have hB0 := hB
  unfold In8 at hA0 hB0
  by_cases hpq : p = q
  · subst hpq
    refine (join_same p A B w).mono ?_
    rintro e w' ⟨rfl, hb⟩
    refine ⟨p, A + B, rfl, hS, ?_, hb⟩
    unfold sgz; split <;> omega
  · by_cases hlt : A < B
    · have hD : In8 (B - A) := by unfold In8; omega
      cases p with
      | true =>
        obtain rfl : q = false := by cases q <;> simp_all
        refine (join_lt_true A B w hA hB hlt).mono ?_
        rintro e w' ⟨rfl, hb⟩
        exact ⟨false, B - A, rfl, hD, by simp [sgz]; omega, hb⟩
      | false =>
        obtain rfl : q = true := by cases q <;> simp_all
        refine (join_lt_false A B w hA hB hlt).mono ?_
        rintro e w' ⟨rfl, hb⟩
        exact ⟨true, B - A, rfl, hD, by simp [sgz]; omega, hb⟩
    · have hD : In8 (A - B) := by unfold In8; omega
      cases p with
      | true =>
        obtain rfl : q = false := by cases q <;> simp_all
        refine (join_ge_true A B w hA hB hlt).mono ?_
        rintro e w' ⟨rfl, hb⟩
        exact ⟨true, A - B, rfl, hD, by simp [sgz]; omega, hb⟩
      | false =>
        obtain rfl : q = true := by cases q <;> simp_all
        refine (join_ge_false A B w hA hB hlt).mono ?_
        rintro e w' ⟨rfl, hb⟩
        exact ⟨false, A - B, rfl, hD, by simp [sgz]; omega, hb⟩

end Go.Proofs.YtgmagehgnjopcaaDoor
