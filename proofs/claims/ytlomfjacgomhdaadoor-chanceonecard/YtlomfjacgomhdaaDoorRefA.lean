/-
  What a slice of ints reads as (a list of digits), and what the small functions of the document's answer (radomeref01) do: trim, Less.
-/
import Derived.Test.YtlomfjacgomhdaaDoorPure
import Derived.Test.YtlomfjacgomhdaaDoorBase
import Derived.WalkKit
import Derived.Deep.QuietTactic
import Derived.BigQuiet
import Derived.WalkSpells
import Derived.WalkLawsBesides
set_option linter.unusedSimpArgs false
set_option linter.unusedVariables false
namespace Go.Proofs.YtlomfjacgomhdaaDoor
open Go.RowKit
namespace Dec

/-- A block of integers. -/
def Tg (w : World) (b : Nat) : Prop := ∃ cs fz, w.heap[b]? = some (.cells cs 3 fz)
theorem Tg.lt {w : World} {b : Nat} (h : Tg w b) : b < w.heap.size := by
  obtain ⟨cs, fz, e⟩ := h
  rcases Nat.lt_or_ge b w.heap.size with k | k
  · exact k
  · rw [Array.getElem?_eq_none k] at e; cases e
theorem Tg.below {w w' : World} {b B : Nat} (h : Tg w b) (hb : Below B w w') (hB : b < B) : Tg w' b := by
  obtain ⟨cs, fz, e⟩ := h
  exact ⟨cs, fz, (hb.block b hB).trans e⟩
theorem Tg.set {w : World} {b : Nat} (h : Tg w b) (p : Addr) (u : Value) : Tg (w.setCell p u) b := by
  obtain ⟨cs, fz, e⟩ := h
  by_cases k : p.block = b
  · subst k
    refine ⟨if p.spot.isSome then cs else cs.setIfInBounds p.off u, fz, ?_⟩
    simp only [World.setCell, Array.getElem?_modify, e]
    simp
  · refine ⟨cs, fz, ?_⟩
    simp only [World.setCell, Array.getElem?_modify]
    rw [if_neg k]
    exact e
/-- The slice value v reads as the digits l. -/
def Rd (w : World) (v : Value) (l : List Nat) : Prop :=
  (v = .slice none 0 0 ∧ l = []) ∨ ∃ b off cap : Nat, v = .slice (some ⟨b, off, none⟩) l.length cap ∧ l.length ≤ cap ∧ Tg w b ∧ ∀ t, t < l.length → w.cell? ⟨b, off + t, none⟩ = some (.int .i64 ((l.getD t 0 : Nat) : Int))

theorem Rd.below {w w' : World} {v : Value} {l : List Nat} {B : Nat} (h : Rd w v l) (hb : Below B w w') (hB : w.heap.size ≤ B) : Rd w' v l := by
  rcases h with h | ⟨b, off, cap, hv, hc, hlt, hcell⟩
  · exact Or.inl h
  · exact Or.inr ⟨b, off, cap, hv, hc, hlt.below hb (Nat.lt_of_lt_of_le hlt.lt hB), fun t ht => (hb.cell (p := ⟨b, off + t, none⟩) (show b < B from Nat.lt_of_lt_of_le hlt.lt hB)).trans (hcell t ht)⟩

end Dec
open Dec

set_option maxHeartbeats 400000 in
theorem trim_nil (w : World) :
    Calls Tryd.prog 45 #[.slice none 0 0] w fun e w' => e = .returned (.slice none 0 0) ∧ w' = w := by
  go_enter Tryd.func45, Tryd.ntmps45
  go_wp2
  refine wp_loop_rounds 1 ?_
  rw [rounds_succ]
  go_wp2
  go_ret
  exact ⟨rfl, rfl⟩

set_option maxHeartbeats 400000 in
theorem trim_some (b off cap : Nat) (l : List Nat) (w : World) (hs : Small l) (hlc : l.length ≤ cap) (hm : l.length ≤ 4000000)
    (hc : ∀ t, t < l.length → w.cell? ⟨b, off + t, none⟩ = some (.int .i64 ((l.getD t 0 : Nat) : Int))) :
    Calls Tryd.prog 45 #[.slice (some ⟨b, off, none⟩) l.length cap] w fun e w' => e = .returned (.slice (some ⟨b, off, none⟩) (digs (val l)).length cap) ∧ w' = w := by
  obtain ⟨n, hn⟩ : ∃ n, n = l.length := ⟨_, rfl⟩
  rw [← hn]
  rw [← hn] at hm hlc
  have Hn : Hid (n = l.length) := hn
  clear hn
  go_enter Tryd.func45, Tryd.ntmps45
  go_wp2
  go_loop [0] (fun d => ∃ k : Nat, k ≤ n ∧ d = .slice (some ⟨b, off, none⟩) k cap ∧ val (l.take k) = val l) (fun d => match d with | .slice _ k _ => k | _ => 0)
  case atStart => exact ⟨n, Nat.le_refl _, rfl, by rw [Hn.out, take_all (Nat.le_refl _)]⟩
  case round =>
    obtain ⟨k, hk, rfl, hv⟩ := hrel
    have HV : Hid (val (l.take k) = val l) := hv
    clear hv
    by_cases h0 : 0 < k
    · have hck := hc (k - 1) (by rw [← Hn.out]; omega)
      go_wp2
      · have h1 : (((l[k - 1]?.getD 0 : Nat) : Int) == 0) = true := by assumption
        go_round
        case rel =>
          refine ⟨k - 1, by omega, rfl, ?_⟩
          rw [← HV.out]
          have := take_back (l := l) (k := k - 1) (by simpa using h1)
          rwa [show k - 1 + 1 = k by omega] at this
        case measure => simp; omega
      · have h1 : (((l[k - 1]?.getD 0 : Nat) : Int) == 0) = false := by assumption
        go_ret
        have e := digs_take hs (by rw [← Hn.out]; exact hk) HV.out (Or.inr (by simpa using h1))
        exact ⟨by rw [← e]; simp [show min k l.length = k by rw [← Hn.out]; omega], rfl⟩
    · go_wp2
      go_ret
      have e := digs_take hs (by rw [← Hn.out]; exact hk) HV.out (Or.inl (by omega))
      exact ⟨by rw [← e]; simp [show min k l.length = k by rw [← Hn.out]; omega], rfl⟩

/-- trim: the digits of the same number, without noughts behind. -/
theorem trim_any (v : Value) (l : List Nat) (w : World) (hs : Small l) (hm : l.length ≤ 4000000) (h : Rd w v l) :
    Calls Tryd.prog 45 #[v] w fun e w' => ∃ v', e = .returned v' ∧ Rd w v' (digs (val l)) ∧ w' = w := by
  rcases h with ⟨rfl, rfl⟩ | ⟨b, off, cap, rfl, hlc, hlt, hc⟩
  · refine (trim_nil w).mono ?_
    rintro e w' ⟨rfl, rfl⟩
    exact ⟨_, rfl, Or.inl ⟨rfl, rfl⟩, rfl⟩
  · refine (trim_some b off cap l w hs hlc hm hc).mono ?_
    rintro e w' ⟨rfl, rfl⟩
    have hl := length_digs_le (val_lt hs)
    refine ⟨_, rfl, Or.inr ⟨b, off, cap, rfl, by omega, hlt, fun t ht => ?_⟩, rfl⟩
    rw [hc t (by omega), getD_digs_val hs ht]

/-! ### Less -/

set_option maxHeartbeats 400000 in
theorem less_a0 (ao bo : Option Addr) (ca n cb : Nat) (w : World) (hn : n ≤ 1000000) :
    Calls Tryd.prog 43 #[.slice ao 0 ca, .slice bo n cb] w fun e w' => e = .returned (.bool (decide (0 < n))) ∧ w' = w := by
  by_cases h : n = 0
  · subst h
    go_enter Tryd.func43, Tryd.ntmps43
    go_wp2
    refine wp_loop_rounds 1 ?_
    rw [rounds_succ]
    go_wp2
    go_ret
    exact ⟨rfl, rfl⟩
  · have h1 : 0 < n := by omega
    go_enter Tryd.func43, Tryd.ntmps43
    go_wp2
    go_ret
    exact ⟨by simp [h1], rfl⟩

set_option maxHeartbeats 400000 in
theorem less_b0 (ao bo : Option Addr) (n ca cb : Nat) (w : World) (hn : n ≤ 1000000) :
    Calls Tryd.prog 43 #[.slice ao n ca, .slice bo 0 cb] w fun e w' => e = .returned (.bool false) ∧ w' = w := by
  by_cases h : n = 0
  · subst h
    go_enter Tryd.func43, Tryd.ntmps43
    go_wp2
    refine wp_loop_rounds 1 ?_
    rw [rounds_succ]
    go_wp2
    go_ret
    exact ⟨rfl, rfl⟩
  · have h1 : 0 < n := by omega
    go_enter Tryd.func43, Tryd.ntmps43
    go_wp2
    go_ret
    exact ⟨rfl, rfl⟩

set_option maxHeartbeats 400000 in
theorem less_ne (ao bo : Option Addr) (n m ca cb : Nat) (w : World) (hn : n ≤ 1000000) (hm : m ≤ 1000000) (hne : n ≠ m) :
    Calls Tryd.prog 43 #[.slice ao n ca, .slice bo m cb] w fun e w' => e = .returned (.bool (decide (n < m))) ∧ w' = w := by
  have hd : (((n : Nat) : Int) != ((m : Nat) : Int)) = true := by simp; omega
  have hd2 : decide (((n : Nat) : Int) < ((m : Nat) : Int)) = decide (n < m) := by simp
  go_enter Tryd.func43, Tryd.ntmps43
  go_wp2
  go_ret
  exact ⟨by first | rfl | (rw [hd2]) | simp, rfl⟩

set_option maxHeartbeats 800000 in
theorem less_some (ba oa bb ob n ca cb : Nat) (x y : List Nat) (w : World) (hn : n ≤ 1000000) (hx : x.length = n) (hy : y.length = n) (hsx : Small x) (hsy : Small y)
    (hca : ∀ t, t < n → w.cell? ⟨ba, oa + t, none⟩ = some (.int .i64 ((x.getD t 0 : Nat) : Int))) (hcb : ∀ t, t < n → w.cell? ⟨bb, ob + t, none⟩ = some (.int .i64 ((y.getD t 0 : Nat) : Int)))
    (hba : ba < w.heap.size) (hbb : bb < w.heap.size) :
    Calls Tryd.prog 43 #[.slice (some ⟨ba, oa, none⟩) n ca, .slice (some ⟨bb, ob, none⟩) n cb] w fun e w' => e = .returned (.bool (decide (val x < val y))) ∧ Below w.heap.size w w' := by
  have Hx : Hid (x.length = n) := hx
  have Hy : Hid (y.length = n) := hy
  clear hx hy
  go_enter Tryd.func43, Tryd.ntmps43
  go_wp2
  go_loopw [5] (fun i wr => ∃ k : Nat, k ≤ n ∧ i = .int .i64 ((k : Int) - 1) ∧ x.drop k = y.drop k ∧ Below w.heap.size w wr) (fun i _ => ((intOf i) + 1).toNat)
  case atStart => exact ⟨n, Nat.le_refl _, rfl, by rw [List.drop_of_length_le (by rw [Hx.out]; exact Nat.le_refl _), List.drop_of_length_le (by rw [Hy.out]; exact Nat.le_refl _)], Below.refl _ _⟩
  case round =>
    obtain ⟨k, hk, rfl, hd, hb⟩ := hrel
    have HD : Hid (x.drop k = y.drop k) := hd
    clear hd
    by_cases h0 : 0 < k
    · have ga : wr.cell? ⟨ba, oa + (k - 1), none⟩ = some (.int .i64 ((x.getD (k - 1) 0 : Nat) : Int)) := (hb.cell (p := ⟨ba, oa + (k - 1), none⟩) hba).trans (hca (k - 1) (by omega))
      have gb : wr.cell? ⟨bb, ob + (k - 1), none⟩ = some (.int .i64 ((y.getD (k - 1) 0 : Nat) : Int)) := (hb.cell (p := ⟨bb, ob + (k - 1), none⟩) hbb).trans (hcb (k - 1) (by omega))
      go_wp2
      go_quiet (fail)
      go_wp2
      · have h1 : (((x[k - 1]?.getD 0 : Nat) : Int) != ((y[k - 1]?.getD 0 : Nat) : Int)) = true := by assumption
        go_quiet (fail)
        go_wp2
        go_ret
        refine ⟨?_, below_drewN (below_drewN hb _) _⟩
        have e := less_top (k := k) hsx hsy (Hx.out.trans Hy.out.symm) h0 (by rw [Hx.out]; exact hk) HD.out (by simpa only [List.getD] using ne_of_bne h1)
        simp only [List.getD] at e
        exact ret_bool e
      · have h1 : (((x[k - 1]?.getD 0 : Nat) : Int) != ((y[k - 1]?.getD 0 : Nat) : Int)) = false := by assumption
        go_roundw
        case rel =>
          refine ⟨k - 1, by omega, by go_num, ?_, below_drewN hb _⟩
          exact drop_step (by rw [Hx.out]; omega) (by rw [Hy.out]; omega) h0 HD.out (by simpa only [List.getD] using eq_of_bne h1)
        case measure => simp [intOf]; omega
    · go_wp2
      go_ret
      refine ⟨?_, hb⟩
      have : k = 0 := by omega
      subst this
      have e := HD.out
      simp only [List.drop_zero] at e
      rw [e]; simp
/-- Less: is one size below another one? -/
theorem less_any (va vb : Value) (x y : Nat) (w : World) (hx : (digs x).length ≤ 1000000) (hy : (digs y).length ≤ 1000000) (ha : Rd w va (digs x)) (hb : Rd w vb (digs y)) :
    Calls Tryd.prog 43 #[va, vb] w fun e w' => e = .returned (.bool (decide (x < y))) ∧ Below w.heap.size w w' := by
  have sl : ∀ {v : Value} {l : List Nat}, Rd w v l → ∃ ao cap, v = .slice ao l.length cap := by
    intro v l h
    rcases h with ⟨rfl, rfl⟩ | ⟨b, off, cap, rfl, _⟩
    · exact ⟨_, _, rfl⟩
    · exact ⟨_, _, rfl⟩
  by_cases hne : (digs x).length = (digs y).length
  · rcases ha with ⟨rfl, e⟩ | ⟨ba, oa, ca, rfl, _, hba, hca⟩
    · obtain ⟨bo, cb, rfl⟩ := sl hb
      rw [← hne, e]
      refine (less_a0 _ _ 0 0 _ w (by omega)).mono ?_
      rintro e1 w' ⟨rfl, rfl⟩
      refine ⟨ret_bool ?_, Below.refl _ _⟩
      have h1 := (digs_nil_iff x).1 e
      have h2 := (digs_nil_iff y).1 (List.length_eq_zero_iff.1 (by rw [← hne, e]; rfl))
      rw [h1, h2]
    · rcases hb with ⟨rfl, e⟩ | ⟨bb, ob, cb, rfl, _, hbb, hcb⟩
      · refine (less_b0 _ _ _ _ _ w hx).mono ?_
        rintro e1 w' ⟨rfl, rfl⟩
        refine ⟨ret_bool ?_, Below.refl _ _⟩
        have h2 := (digs_nil_iff y).1 e
        rw [h2]; simp
      · rw [← hne]
        refine (less_some ba oa bb ob _ ca cb (digs x) (digs y) w hx rfl hne.symm (small_digs _) (small_digs _) hca (by rw [hne]; exact hcb) hba.lt hbb.lt).mono ?_
        rintro e1 w' ⟨rfl, hw⟩
        rw [val_digs, val_digs]
        exact ⟨rfl, hw⟩
  · obtain ⟨ao, ca, rfl⟩ := sl ha
    obtain ⟨bo, cb, rfl⟩ := sl hb
    refine (less_ne ao bo _ _ ca cb w hx hy hne).mono ?_
    rintro e1 w' ⟨rfl, rfl⟩
    refine ⟨ret_bool ?_, Below.refl _ _⟩
    rcases Nat.lt_or_gt_of_ne hne with h | h
    · rw [decide_eq_true h, decide_eq_true (lt_of_length h)]
    · have := lt_of_length h
      rw [decide_eq_false (by omega), decide_eq_false (by omega)]

end Go.Proofs.YtlomfjacgomhdaaDoor
