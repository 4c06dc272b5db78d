/-
  What the document's answer (radomeref01) does to sizes: plus and minus of two lists of digits make the digits of the sum and of the difference.
-/
import Derived.Test.YtlomfjacgomhdaaDoorRefA
import Derived.Maps.AppendAt
set_option linter.unusedSimpArgs false
set_option linter.unusedVariables false
namespace Go.Proofs.YtlomfjacgomhdaaDoor
open Go.RowKit
namespace Dec

theorem Tryd.infoInt : (Tryd.prog.info? 3).map (fun i => (i.zero, i.size, i.bytes)) = some (some (.int .i64 0), 1, 8) := by kernel_rfl

/-- The digits as values. -/
def vals (l : List Nat) : List Value := l.map fun d => Value.int .i64 ((d : Nat) : Int)

/-- v is a slice of the call's own that holds the digits l; below B nothing has turned since w0. -/
structure Own (B : Nat) (w0 w : World) (v : Value) (l : List Nat) : Prop where
  row : w.ownsRow B 3 1 v l.length (vals l)
  below : Below B w0 w
  base : B ≤ w.heap.size

theorem Own.nil {B : Nat} {w0 w : World} (h : Below B w0 w) (hB : B ≤ w.heap.size) : Own B w0 w (.slice none 0 0) [] := ⟨World.ownsRow_nil _ _ _ _, h, hB⟩

theorem Own.rd {B : Nat} {w0 w : World} {v : Value} {l : List Nat} (h : Own B w0 w v l) : Rd w v l := by
  obtain ⟨⟨h1, h2⟩, _, _⟩ := h
  rcases h2 with ⟨rfl, h0⟩ | ⟨g, cap, cur, rfl, hb, hg, hn, hc, hs, ht⟩
  · exact Or.inl ⟨rfl, List.length_eq_zero_iff.1 h0⟩
  · have hlt : g < w.heap.size := by
      rcases Nat.lt_or_ge g w.heap.size with k | k
      · exact k
      · rw [Array.getElem?_eq_none k] at hg; cases hg
    refine Or.inr ⟨g, 0, cap, rfl, hn, ⟨_, _, hg⟩, fun t htl => ?_⟩
    have e : (vals l)[t]? = some (.int .i64 ((l.getD t 0 : Nat) : Int)) := by
      simp [vals, List.getD, List.getElem?_eq_getElem htl]
    rw [← ht] at e
    have e2 : cur[t]? = some (.int .i64 ((l.getD t 0 : Nat) : Int)) := by
      rw [List.getElem?_take] at e
      split at e
      · simpa using e
      · cases e
    simp [World.cell?, hg, e2]

theorem wpList_push {ops : Array Oper} {rest : List Oper} {o : Oper} {a : Act} {Q : Exit → Act → World → Prop} {wr : World} (hgd : o.guard = none) (s x : Operand)
    (ho : o.op = .call { callee := .builtin .append, args := #[s, x], argTypes := #[49, 49] }) (B : Nat) (w0 : World) (v : Value) (l : List Nat) (hs : a.eval s = v) (hown : Own B w0 wr v l) (hl : l.length ≤ 2000000) (z : Int) (d : Nat)
    (hx : a.eval x = .slice (some ⟨wr.heap.size, 0, none⟩) 1 1) (hz : z = (d : Int))
    (h : ∀ v' w', Own B w0 w' v' (l ++ [d]) → wpList Tryd.prog ops Q rest (a.put o.dst v') w') : wpList Tryd.prog ops Q (o :: rest) a (wr.alloc (.cells #[.int .i64 z] 3)) := by
  obtain ⟨i0, hi, hz0, hz1, hz2⟩ := info_parts Tryd.infoInt
  subst hz
  refine wpList_append_own _ hgd s x 49 ho B 3 i0 (.int .i64 0) 1 8 Tryd.underlying49 hi hz0 hz1 hz2 rfl (by decide) v l.length (vals l) hs (hown.row.alloc _) ⟨wr.heap.size, 0, none⟩ 1 1 [.int .i64 (d : Int)] hx rfl (cell_one_new _ _ _) (by intro u hu; simp at hu; subst hu; rfl) (by unfold maxLen; omega) (by omega) (by have := hown.base; simp; omega) ?_
  intro v' w' h1 h2 _
  refine h v' w' ⟨by simpa [vals] using h1, ?_, Nat.le_trans (by have := hown.base; simp; omega) h2.size⟩
  refine (hown.below.alloc hown.base _).grown h2 (by have := hown.base; simp; omega) ?_
  intro k hk
  exact (hown.row.lt k hk).1

end Dec
open Dec

/-- The slice as the walks take it. -/
theorem Dec.Rd.shape {w : World} {v : Value} {l : List Nat} (h : Rd w v l) : ∃ ao b off cap, v = .slice ao l.length cap ∧ l.length ≤ cap ∧ (ao = some ⟨b, off, none⟩ ∨ (ao = none ∧ l.length = 0)) ∧
    ∀ t, t < l.length → b < w.heap.size ∧ w.cell? ⟨b, off + t, none⟩ = some (.int .i64 ((l.getD t 0 : Nat) : Int)) := by
  rcases h with ⟨rfl, rfl⟩ | ⟨b, off, cap, rfl, hlc, hlt, hc⟩
  · exact ⟨none, 0, 0, 0, rfl, Nat.le_refl _, Or.inr ⟨rfl, rfl⟩, fun t ht => by simp at ht⟩
  · exact ⟨_, b, off, cap, rfl, hlc, Or.inl rfl, fun t ht => ⟨hlt.lt, hc t ht⟩⟩

set_option maxHeartbeats 1600000 in
theorem plus_shape (ao bo : Option Addr) (ba oa ca bb ob cb n m : Nat) (x y : List Nat) (w : World) (hn : n ≤ 1000000) (hm : m ≤ 1000000) (hx : x.length = n) (hy : y.length = m) (hsx : Small x) (hsy : Small y)
    (hao : ao = some ⟨ba, oa, none⟩ ∨ (ao = none ∧ n = 0)) (hbo : bo = some ⟨bb, ob, none⟩ ∨ (bo = none ∧ m = 0))
    (hca : ∀ t, t < n → ba < w.heap.size ∧ w.cell? ⟨ba, oa + t, none⟩ = some (.int .i64 ((x.getD t 0 : Nat) : Int))) (hcb : ∀ t, t < m → bb < w.heap.size ∧ w.cell? ⟨bb, ob + t, none⟩ = some (.int .i64 ((y.getD t 0 : Nat) : Int))) :
    Calls Tryd.prog 42 #[.slice ao n ca, .slice bo m cb] w fun e w' => ∃ v, e = .returned v ∧ Rd w' v (digs (val x + val y)) ∧ Below w.heap.size w w' := by
  have Hx : Hid (x.length = n) := hx
  have Hy : Hid (y.length = m) := hy
  clear hx hy
  rcases hao with rfl | ⟨rfl, rfl⟩
  · rcases hbo with rfl | ⟨rfl, rfl⟩
    · go_enter Tryd.func42, Tryd.ntmps42
      go_wp2
      go_loopw [5, 6, 7] (fun out c i wr => ∃ (k : Nat) (o : List Nat) (cv : Nat), k ≤ n + m ∧ (k ≤ n ∨ k ≤ m) ∧ i = .int .i64 k ∧ c = .int .i64 cv ∧ cv ≤ 1 ∧ PlusAt x y k o cv ∧ Own w.heap.size w wr out o)
        (fun _ _ i _ => (n + m) - (intOf i).toNat)
      case atStart => exact ⟨0, [], 0, Nat.zero_le _, Or.inl (Nat.zero_le _), rfl, rfl, Nat.zero_le _, plusAt_start x y, Own.nil (Below.refl _ _) (Nat.le_refl _)⟩
      case round =>
        obtain ⟨k, o, cv, hk, hkk, rfl, rfl, hcv, hpl, hown⟩ := hrel
        have ga : k < n → wr.cell? ⟨ba, oa + k, none⟩ = some (.int .i64 ((x.getD k 0 : Nat) : Int)) := fun h => (hown.below.cell (p := ⟨ba, oa + k, none⟩) (hca k h).1).trans (hca k h).2
        have gb : k < m → wr.cell? ⟨bb, ob + k, none⟩ = some (.int .i64 ((y.getD k 0 : Nat) : Int)) := fun h => (hown.below.cell (p := ⟨bb, ob + k, none⟩) (hcb k h).1).trans (hcb k h).2
        have dx := hsx k
        have dy := hsy k
        have HX : Hid (x.length ≤ k → x[k]?.getD 0 = 0) := fun h => by simp [List.getElem?_eq_none h]
        have HY : Hid (y.length ≤ k → y[k]?.getD 0 = 0) := fun h => by simp [List.getElem?_eq_none h]
        simp only [List.getD] at dx dy
        by_cases h1 : k < n
        · by_cases h2 : k < m
          · go_wp2_with (at_builtin; refine wpList_push (by rfl) (.tmp 40) (.tmp 43) (by rfl) w.heap.size w _ o (by rfl) hown ?_ _ ((cv + x.getD k 0 + y.getD k 0) % 10) (by rfl) ?_ ?_)
            · have := hpl.1; omega
            · simp only [List.getD]; omega
            · intro v' w' hown'
              go_wp2
              go_roundw
              case rel => exact ⟨k + 1, _, (cv + x.getD k 0 + y.getD k 0) / 10, by omega, by omega, by go_num, by simp only [List.getD]; first | go_num | (congr 1; omega), by simp only [List.getD]; omega, plusAt_step hpl, hown'⟩
              case measure => simp [intOf]; omega
          · go_wp2_with (at_builtin; refine wpList_push (by rfl) (.tmp 40) (.tmp 43) (by rfl) w.heap.size w _ o (by rfl) hown ?_ _ ((cv + x.getD k 0 + y.getD k 0) % 10) (by rfl) ?_ ?_)
            · have := hpl.1; omega
            · simp only [List.getD]; have hy0 := HY.out (by rw [Hy.out]; omega); omega
            · intro v' w' hown'
              go_wp2
              go_roundw
              case rel => exact ⟨k + 1, _, (cv + x.getD k 0 + y.getD k 0) / 10, by omega, by omega, by go_num, by simp only [List.getD]; have hy0 := HY.out (by rw [Hy.out]; omega); first | go_num | (congr 1; omega), by simp only [List.getD]; omega, plusAt_step hpl, hown'⟩
              case measure => simp [intOf]; omega
        · by_cases h2 : k < m
          · go_wp2_with (at_builtin; refine wpList_push (by rfl) (.tmp 40) (.tmp 43) (by rfl) w.heap.size w _ o (by rfl) hown ?_ _ ((cv + x.getD k 0 + y.getD k 0) % 10) (by rfl) ?_ ?_)
            · have := hpl.1; omega
            · simp only [List.getD]; have hx0 := HX.out (by rw [Hx.out]; omega); omega
            · intro v' w' hown'
              go_wp2
              go_roundw
              case rel => exact ⟨k + 1, _, (cv + x.getD k 0 + y.getD k 0) / 10, by omega, by omega, by go_num, by simp only [List.getD]; have hx0 := HX.out (by rw [Hx.out]; omega); first | go_num | (congr 1; omega), by simp only [List.getD]; omega, plusAt_step hpl, hown'⟩
              case measure => simp [intOf]; omega
          · have hend := plusAt_end hpl (by rw [Hx.out]; omega) (by rw [Hy.out]; omega) hcv
            have Hend : Hid (Small (o ++ [cv]) ∧ val (o ++ [cv]) = val x + val y) := hend
            clear hend
            go_wp2_with (at_builtin; refine wpList_push (by rfl) (.tmp 47) (.tmp 49) (by rfl) w.heap.size w _ o (by rfl) hown ?_ _ cv (by rfl) (by rfl) ?_)
            · have := hpl.1; omega
            · intro v' w' hown'
              go_wp2_with fail
              refine (trim_any _ _ _ Hend.out.1 (by have := hpl.1; simp; omega) hown'.rd).mono ?_
              rintro e w1 ⟨v1, rfl, hrd, rfl⟩
              go_wp2
              go_ret
              exact ⟨_, rfl, by rw [← Hend.out.2]; exact hrd, hown'.below⟩
    · go_enter Tryd.func42, Tryd.ntmps42
      go_wp2
      go_loopw [5, 6, 7] (fun out c i wr => ∃ (k : Nat) (o : List Nat) (cv : Nat), k ≤ n + 0 ∧ (k ≤ n ∨ k ≤ 0) ∧ i = .int .i64 k ∧ c = .int .i64 cv ∧ cv ≤ 1 ∧ PlusAt x y k o cv ∧ Own w.heap.size w wr out o)
        (fun _ _ i _ => (n + 0) - (intOf i).toNat)
      case atStart => exact ⟨0, [], 0, Nat.zero_le _, Or.inl (Nat.zero_le _), rfl, rfl, Nat.zero_le _, plusAt_start x y, Own.nil (Below.refl _ _) (Nat.le_refl _)⟩
      case round =>
        obtain ⟨k, o, cv, hk, hkk, rfl, rfl, hcv, hpl, hown⟩ := hrel
        have ga : k < n → wr.cell? ⟨ba, oa + k, none⟩ = some (.int .i64 ((x.getD k 0 : Nat) : Int)) := fun h => (hown.below.cell (p := ⟨ba, oa + k, none⟩) (hca k h).1).trans (hca k h).2
        have dx := hsx k
        have dy := hsy k
        have HX : Hid (x.length ≤ k → x[k]?.getD 0 = 0) := fun h => by simp [List.getElem?_eq_none h]
        have HY : Hid (y.length ≤ k → y[k]?.getD 0 = 0) := fun h => by simp [List.getElem?_eq_none h]
        simp only [List.getD] at dx dy
        by_cases h1 : k < n
        · go_wp2_with (at_builtin; refine wpList_push (by rfl) (.tmp 40) (.tmp 43) (by rfl) w.heap.size w _ o (by rfl) hown ?_ _ ((cv + x.getD k 0 + y.getD k 0) % 10) (by rfl) ?_ ?_)
          · have := hpl.1; omega
          · simp only [List.getD]; have hy0 := HY.out (by rw [Hy.out]; omega); omega
          · intro v' w' hown'
            go_wp2
            go_roundw
            case rel => exact ⟨k + 1, _, (cv + x.getD k 0 + y.getD k 0) / 10, by omega, by omega, by go_num, by simp only [List.getD]; have hy0 := HY.out (by rw [Hy.out]; omega); first | go_num | (congr 1; omega), by simp only [List.getD]; omega, plusAt_step hpl, hown'⟩
            case measure => simp [intOf]; omega
        · have hend := plusAt_end hpl (by rw [Hx.out]; omega) (by rw [Hy.out]; omega) hcv
          have Hend : Hid (Small (o ++ [cv]) ∧ val (o ++ [cv]) = val x + val y) := hend
          clear hend
          go_wp2_with (at_builtin; refine wpList_push (by rfl) (.tmp 47) (.tmp 49) (by rfl) w.heap.size w _ o (by rfl) hown ?_ _ cv (by rfl) (by rfl) ?_)
          · have := hpl.1; omega
          · intro v' w' hown'
            go_wp2_with fail
            refine (trim_any _ _ _ Hend.out.1 (by have := hpl.1; simp; omega) hown'.rd).mono ?_
            rintro e w1 ⟨v1, rfl, hrd, rfl⟩
            go_wp2
            go_ret
            exact ⟨_, rfl, by rw [← Hend.out.2]; exact hrd, hown'.below⟩
  · rcases hbo with rfl | ⟨rfl, rfl⟩
    · go_enter Tryd.func42, Tryd.ntmps42
      go_wp2
      go_loopw [5, 6, 7] (fun out c i wr => ∃ (k : Nat) (o : List Nat) (cv : Nat), k ≤ 0 + m ∧ (k ≤ 0 ∨ k ≤ m) ∧ i = .int .i64 k ∧ c = .int .i64 cv ∧ cv ≤ 1 ∧ PlusAt x y k o cv ∧ Own w.heap.size w wr out o)
        (fun _ _ i _ => (0 + m) - (intOf i).toNat)
      case atStart => exact ⟨0, [], 0, Nat.zero_le _, Or.inl (Nat.zero_le _), rfl, rfl, Nat.zero_le _, plusAt_start x y, Own.nil (Below.refl _ _) (Nat.le_refl _)⟩
      case round =>
        obtain ⟨k, o, cv, hk, hkk, rfl, rfl, hcv, hpl, hown⟩ := hrel
        have gb : k < m → wr.cell? ⟨bb, ob + k, none⟩ = some (.int .i64 ((y.getD k 0 : Nat) : Int)) := fun h => (hown.below.cell (p := ⟨bb, ob + k, none⟩) (hcb k h).1).trans (hcb k h).2
        have dx := hsx k
        have dy := hsy k
        have HX : Hid (x.length ≤ k → x[k]?.getD 0 = 0) := fun h => by simp [List.getElem?_eq_none h]
        have HY : Hid (y.length ≤ k → y[k]?.getD 0 = 0) := fun h => by simp [List.getElem?_eq_none h]
        simp only [List.getD] at dx dy
        by_cases h1 : k < m
        · go_wp2_with (at_builtin; refine wpList_push (by rfl) (.tmp 40) (.tmp 43) (by rfl) w.heap.size w _ o (by rfl) hown ?_ _ ((cv + x.getD k 0 + y.getD k 0) % 10) (by rfl) ?_ ?_)
          · have := hpl.1; omega
          · simp only [List.getD]; have hx0 := HX.out (by rw [Hx.out]; omega); omega
          · intro v' w' hown'
            go_wp2
            go_roundw
            case rel => exact ⟨k + 1, _, (cv + x.getD k 0 + y.getD k 0) / 10, by omega, by omega, by go_num, by simp only [List.getD]; have hx0 := HX.out (by rw [Hx.out]; omega); first | go_num | (congr 1; omega), by simp only [List.getD]; omega, plusAt_step hpl, hown'⟩
            case measure => simp [intOf]; omega
        · have hend := plusAt_end hpl (by rw [Hx.out]; omega) (by rw [Hy.out]; omega) hcv
          have Hend : Hid (Small (o ++ [cv]) ∧ val (o ++ [cv]) = val x + val y) := hend
          clear hend
          go_wp2_with (at_builtin; refine wpList_push (by rfl) (.tmp 47) (.tmp 49) (by rfl) w.heap.size w _ o (by rfl) hown ?_ _ cv (by rfl) (by rfl) ?_)
          · have := hpl.1; omega
          · intro v' w' hown'
            go_wp2_with fail
            refine (trim_any _ _ _ Hend.out.1 (by have := hpl.1; simp; omega) hown'.rd).mono ?_
            rintro e w1 ⟨v1, rfl, hrd, rfl⟩
            go_wp2
            go_ret
            exact ⟨_, rfl, by rw [← Hend.out.2]; exact hrd, hown'.below⟩
    · go_enter Tryd.func42, Tryd.ntmps42
      go_wp2
      go_loopw [5, 6, 7] (fun out c i wr => ∃ (k : Nat) (o : List Nat) (cv : Nat), k ≤ 0 + 0 ∧ (k ≤ 0 ∨ k ≤ 0) ∧ i = .int .i64 k ∧ c = .int .i64 cv ∧ cv ≤ 1 ∧ PlusAt x y k o cv ∧ Own w.heap.size w wr out o)
        (fun _ _ i _ => (0 + 0) - (intOf i).toNat)
      case atStart => exact ⟨0, [], 0, Nat.zero_le _, Or.inl (Nat.zero_le _), rfl, rfl, Nat.zero_le _, plusAt_start x y, Own.nil (Below.refl _ _) (Nat.le_refl _)⟩
      case round =>
        obtain ⟨k, o, cv, hk, hkk, rfl, rfl, hcv, hpl, hown⟩ := hrel
        have dx := hsx k
        have dy := hsy k
        have HX : Hid (x.length ≤ k → x[k]?.getD 0 = 0) := fun h => by simp [List.getElem?_eq_none h]
        have HY : Hid (y.length ≤ k → y[k]?.getD 0 = 0) := fun h => by simp [List.getElem?_eq_none h]
        simp only [List.getD] at dx dy
        have hend := plusAt_end hpl (by rw [Hx.out]; omega) (by rw [Hy.out]; omega) hcv
        have Hend : Hid (Small (o ++ [cv]) ∧ val (o ++ [cv]) = val x + val y) := hend
        clear hend
        go_wp2_with (at_builtin; refine wpList_push (by rfl) (.tmp 47) (.tmp 49) (by rfl) w.heap.size w _ o (by rfl) hown ?_ _ cv (by rfl) (by rfl) ?_)
        · have := hpl.1; omega
        · intro v' w' hown'
          go_wp2_with fail
          refine (trim_any _ _ _ Hend.out.1 (by have := hpl.1; simp; omega) hown'.rd).mono ?_
          rintro e w1 ⟨v1, rfl, hrd, rfl⟩
          go_wp2
          go_ret
          exact ⟨_, rfl, by rw [← Hend.out.2]; exact hrd, hown'.below⟩

/-- plus: the digits of the sum. -/
theorem plus_any (va vb : Value) (x y : Nat) (w : World) (hx : (digs x).length ≤ 1000000) (hy : (digs y).length ≤ 1000000) (ha : Rd w va (digs x)) (hb : Rd w vb (digs y)) :
    Calls Tryd.prog 42 #[va, vb] w fun e w' => ∃ v, e = .returned v ∧ Rd w' v (digs (x + y)) ∧ Below w.heap.size w w' := by
  obtain ⟨ao, ba, oa, ca, rfl, _, hao, hca⟩ := ha.shape
  obtain ⟨bo, bb, ob, cb, rfl, _, hbo, hcb⟩ := hb.shape
  have := plus_shape ao bo ba oa ca bb ob cb _ _ (digs x) (digs y) w hx hy rfl rfl (small_digs _) (small_digs _) hao hbo hca hcb
  rw [val_digs, val_digs] at this
  exact this

set_option maxHeartbeats 1600000 in
theorem minus_shape (ao bo : Option Addr) (ba oa ca bb ob cb n m : Nat) (x y : List Nat) (w : World) (hn : n ≤ 1000000) (hmn : m ≤ n) (hx : x.length = n) (hy : y.length = m) (hsx : Small x) (hsy : Small y) (hle : val y ≤ val x)
    (hao : ao = some ⟨ba, oa, none⟩ ∨ (ao = none ∧ n = 0)) (hbo : bo = some ⟨bb, ob, none⟩ ∨ (bo = none ∧ m = 0))
    (hca : ∀ t, t < n → ba < w.heap.size ∧ w.cell? ⟨ba, oa + t, none⟩ = some (.int .i64 ((x.getD t 0 : Nat) : Int))) (hcb : ∀ t, t < m → bb < w.heap.size ∧ w.cell? ⟨bb, ob + t, none⟩ = some (.int .i64 ((y.getD t 0 : Nat) : Int))) :
    Calls Tryd.prog 44 #[.slice ao n ca, .slice bo m cb] w fun e w' => ∃ v, e = .returned v ∧ Rd w' v (digs (val x - val y)) ∧ Below w.heap.size w w' := by
  have Hx : Hid (x.length = n) := hx
  have Hy : Hid (y.length = m) := hy
  clear hx hy
  rcases hao with rfl | ⟨rfl, rfl⟩
  · rcases hbo with rfl | ⟨rfl, rfl⟩
    · go_enter Tryd.func44, Tryd.ntmps44
      go_wp2
      go_loopw [5, 6, 7] (fun out c i wr => ∃ (k : Nat) (o : List Nat) (cv : Nat), k ≤ n ∧ i = .int .i64 k ∧ c = .int .i64 cv ∧ cv ≤ 1 ∧ MinusAt x y k o cv ∧ Own w.heap.size w wr out o)
        (fun _ _ i _ => n - (intOf i).toNat)
      case atStart => exact ⟨0, [], 0, Nat.zero_le _, rfl, rfl, Nat.zero_le _, minusAt_start x y, Own.nil (Below.refl _ _) (Nat.le_refl _)⟩
      case round =>
        obtain ⟨k, o, cv, hk, rfl, rfl, hcv, hpl, hown⟩ := hrel
        have ga : k < n → wr.cell? ⟨ba, oa + k, none⟩ = some (.int .i64 ((x.getD k 0 : Nat) : Int)) := fun h => (hown.below.cell (p := ⟨ba, oa + k, none⟩) (hca k h).1).trans (hca k h).2
        have gb : k < m → wr.cell? ⟨bb, ob + k, none⟩ = some (.int .i64 ((y.getD k 0 : Nat) : Int)) := fun h => (hown.below.cell (p := ⟨bb, ob + k, none⟩) (hcb k h).1).trans (hcb k h).2
        have dx := hsx k
        have dy := hsy k
        have HY : Hid (y.length ≤ k → y[k]?.getD 0 = 0) := fun h => by simp [List.getElem?_eq_none h]
        simp only [List.getD] at dx dy
        by_cases h1 : k < n
        · by_cases h2 : k < m
          · by_cases h3 : x[k]?.getD 0 < cv + y[k]?.getD 0
            · go_wp2_with (at_builtin; refine wpList_push (by rfl) (.tmp 35) (.tmp 37) (by rfl) w.heap.size w _ o (by rfl) hown ?_ _ (x.getD k 0 + 10 - cv - y.getD k 0) (by rfl) ?_ ?_)
              · have := hpl.1; omega
              · simp only [List.getD]; omega
              · intro v' w' hown'
                go_wp2
                go_roundw
                case rel => exact ⟨k + 1, _, 1, by omega, by go_num, by go_num, by omega, minusAt_step hpl (by (try simp only [List.getD]); omega) (by simp only [List.getD]; omega), hown'⟩
                case measure => simp [intOf]; omega
            · go_wp2_with (at_builtin; refine wpList_push (by rfl) (.tmp 35) (.tmp 37) (by rfl) w.heap.size w _ o (by rfl) hown ?_ _ (x.getD k 0 - cv - y.getD k 0) (by rfl) ?_ ?_)
              · have := hpl.1; omega
              · simp only [List.getD]; omega
              · intro v' w' hown'
                go_wp2
                go_roundw
                case rel => exact ⟨k + 1, _, 0, by omega, by go_num, by go_num, by omega, minusAt_step hpl (by (try simp only [List.getD]); omega) (by simp only [List.getD]; omega), hown'⟩
                case measure => simp [intOf]; omega
          · by_cases h3 : x[k]?.getD 0 < cv
            · go_wp2_with (at_builtin; refine wpList_push (by rfl) (.tmp 35) (.tmp 37) (by rfl) w.heap.size w _ o (by rfl) hown ?_ _ (x.getD k 0 + 10 - cv - y.getD k 0) (by rfl) ?_ ?_)
              · have := hpl.1; omega
              · simp only [List.getD]; have hy0 := HY.out (by rw [Hy.out]; omega); omega
              · intro v' w' hown'
                go_wp2
                go_roundw
                case rel => exact ⟨k + 1, _, 1, by omega, by go_num, by go_num, by omega, minusAt_step hpl (by (try simp only [List.getD]); have hy0 := HY.out (by rw [Hy.out]; omega); omega) (by simp only [List.getD]; have hy0 := HY.out (by rw [Hy.out]; omega); omega), hown'⟩
                case measure => simp [intOf]; omega
            · go_wp2_with (at_builtin; refine wpList_push (by rfl) (.tmp 35) (.tmp 37) (by rfl) w.heap.size w _ o (by rfl) hown ?_ _ (x.getD k 0 - cv - y.getD k 0) (by rfl) ?_ ?_)
              · have := hpl.1; omega
              · simp only [List.getD]; have hy0 := HY.out (by rw [Hy.out]; omega); omega
              · intro v' w' hown'
                go_wp2
                go_roundw
                case rel => exact ⟨k + 1, _, 0, by omega, by go_num, by go_num, by omega, minusAt_step hpl (by (try simp only [List.getD]); have hy0 := HY.out (by rw [Hy.out]; omega); omega) (by simp only [List.getD]; have hy0 := HY.out (by rw [Hy.out]; omega); omega), hown'⟩
                case measure => simp [intOf]; omega
        · have hend := minusAt_end hpl (by rw [Hx.out]; omega) (by rw [Hy.out]; omega) hcv hle
          have Hend : Hid (Small o ∧ val o = val x - val y) := hend
          clear hend
          go_wp2_with fail
          refine (trim_any _ _ _ Hend.out.1 (by have := hpl.1; omega) hown.rd).mono ?_
          rintro e w1 ⟨v1, rfl, hrd, rfl⟩
          go_wp2
          go_ret
          exact ⟨_, rfl, by rw [← Hend.out.2]; exact hrd, hown.below⟩
    · go_enter Tryd.func44, Tryd.ntmps44
      go_wp2
      go_loopw [5, 6, 7] (fun out c i wr => ∃ (k : Nat) (o : List Nat) (cv : Nat), k ≤ n ∧ i = .int .i64 k ∧ c = .int .i64 cv ∧ cv ≤ 1 ∧ MinusAt x y k o cv ∧ Own w.heap.size w wr out o)
        (fun _ _ i _ => n - (intOf i).toNat)
      case atStart => exact ⟨0, [], 0, Nat.zero_le _, rfl, rfl, Nat.zero_le _, minusAt_start x y, Own.nil (Below.refl _ _) (Nat.le_refl _)⟩
      case round =>
        obtain ⟨k, o, cv, hk, rfl, rfl, hcv, hpl, hown⟩ := hrel
        have ga : k < n → wr.cell? ⟨ba, oa + k, none⟩ = some (.int .i64 ((x.getD k 0 : Nat) : Int)) := fun h => (hown.below.cell (p := ⟨ba, oa + k, none⟩) (hca k h).1).trans (hca k h).2
        have dx := hsx k
        have dy := hsy k
        have HY : Hid (y.length ≤ k → y[k]?.getD 0 = 0) := fun h => by simp [List.getElem?_eq_none h]
        simp only [List.getD] at dx dy
        by_cases h1 : k < n
        · by_cases h3 : x[k]?.getD 0 < cv
          · go_wp2_with (at_builtin; refine wpList_push (by rfl) (.tmp 35) (.tmp 37) (by rfl) w.heap.size w _ o (by rfl) hown ?_ _ (x.getD k 0 + 10 - cv - y.getD k 0) (by rfl) ?_ ?_)
            · have := hpl.1; omega
            · simp only [List.getD]; have hy0 := HY.out (by rw [Hy.out]; omega); omega
            · intro v' w' hown'
              go_wp2
              go_roundw
              case rel => exact ⟨k + 1, _, 1, by omega, by go_num, by go_num, by omega, minusAt_step hpl (by (try simp only [List.getD]); have hy0 := HY.out (by rw [Hy.out]; omega); omega) (by simp only [List.getD]; have hy0 := HY.out (by rw [Hy.out]; omega); omega), hown'⟩
              case measure => simp [intOf]; omega
          · go_wp2_with (at_builtin; refine wpList_push (by rfl) (.tmp 35) (.tmp 37) (by rfl) w.heap.size w _ o (by rfl) hown ?_ _ (x.getD k 0 - cv - y.getD k 0) (by rfl) ?_ ?_)
            · have := hpl.1; omega
            · simp only [List.getD]; have hy0 := HY.out (by rw [Hy.out]; omega); omega
            · intro v' w' hown'
              go_wp2
              go_roundw
              case rel => exact ⟨k + 1, _, 0, by omega, by go_num, by go_num, by omega, minusAt_step hpl (by (try simp only [List.getD]); have hy0 := HY.out (by rw [Hy.out]; omega); omega) (by simp only [List.getD]; have hy0 := HY.out (by rw [Hy.out]; omega); omega), hown'⟩
              case measure => simp [intOf]; omega
        · have hend := minusAt_end hpl (by rw [Hx.out]; omega) (by rw [Hy.out]; omega) hcv hle
          have Hend : Hid (Small o ∧ val o = val x - val y) := hend
          clear hend
          go_wp2_with fail
          refine (trim_any _ _ _ Hend.out.1 (by have := hpl.1; omega) hown.rd).mono ?_
          rintro e w1 ⟨v1, rfl, hrd, rfl⟩
          go_wp2
          go_ret
          exact ⟨_, rfl, by rw [← Hend.out.2]; exact hrd, hown.below⟩
  · obtain rfl : m = 0 := by omega
    rcases hbo with rfl | ⟨rfl, _⟩
    · go_enter Tryd.func44, Tryd.ntmps44
      go_wp2
      go_loopw [5, 6, 7] (fun out c i wr => ∃ (k : Nat) (o : List Nat) (cv : Nat), k ≤ 0 ∧ i = .int .i64 k ∧ c = .int .i64 cv ∧ cv ≤ 1 ∧ MinusAt x y k o cv ∧ Own w.heap.size w wr out o)
        (fun _ _ i _ => 0 - (intOf i).toNat)
      case atStart => exact ⟨0, [], 0, Nat.zero_le _, rfl, rfl, Nat.zero_le _, minusAt_start x y, Own.nil (Below.refl _ _) (Nat.le_refl _)⟩
      case round =>
        obtain ⟨k, o, cv, hk, rfl, rfl, hcv, hpl, hown⟩ := hrel
        have gb : k < 0 → wr.cell? ⟨bb, ob + k, none⟩ = some (.int .i64 ((y.getD k 0 : Nat) : Int)) := fun h => (hown.below.cell (p := ⟨bb, ob + k, none⟩) (hcb k h).1).trans (hcb k h).2
        have dx := hsx k
        have dy := hsy k
        have HY : Hid (y.length ≤ k → y[k]?.getD 0 = 0) := fun h => by simp [List.getElem?_eq_none h]
        simp only [List.getD] at dx dy
        have hend := minusAt_end hpl (by rw [Hx.out]; omega) (by rw [Hy.out]; omega) hcv hle
        have Hend : Hid (Small o ∧ val o = val x - val y) := hend
        clear hend
        go_wp2_with fail
        refine (trim_any _ _ _ Hend.out.1 (by have := hpl.1; omega) hown.rd).mono ?_
        rintro e w1 ⟨v1, rfl, hrd, rfl⟩
        go_wp2
        go_ret
        exact ⟨_, rfl, by rw [← Hend.out.2]; exact hrd, hown.below⟩
    · go_enter Tryd.func44, Tryd.ntmps44
      go_wp2
      go_loopw [5, 6, 7] (fun out c i wr => ∃ (k : Nat) (o : List Nat) (cv : Nat), k ≤ 0 ∧ i = .int .i64 k ∧ c = .int .i64 cv ∧ cv ≤ 1 ∧ MinusAt x y k o cv ∧ Own w.heap.size w wr out o)
        (fun _ _ i _ => 0 - (intOf i).toNat)
      case atStart => exact ⟨0, [], 0, Nat.zero_le _, rfl, rfl, Nat.zero_le _, minusAt_start x y, Own.nil (Below.refl _ _) (Nat.le_refl _)⟩
      case round =>
        obtain ⟨k, o, cv, hk, rfl, rfl, hcv, hpl, hown⟩ := hrel
        have dx := hsx k
        have dy := hsy k
        have HY : Hid (y.length ≤ k → y[k]?.getD 0 = 0) := fun h => by simp [List.getElem?_eq_none h]
        simp only [List.getD] at dx dy
        have hend := minusAt_end hpl (by rw [Hx.out]; omega) (by rw [Hy.out]; omega) hcv hle
        have Hend : Hid (Small o ∧ val o = val x - val y) := hend
        clear hend
        go_wp2_with fail
        refine (trim_any _ _ _ Hend.out.1 (by have := hpl.1; omega) hown.rd).mono ?_
        rintro e w1 ⟨v1, rfl, hrd, rfl⟩
        go_wp2
        go_ret
        exact ⟨_, rfl, by rw [← Hend.out.2]; exact hrd, hown.below⟩

/-- minus: the digits of the difference. -/
theorem minus_any (va vb : Value) (x y : Nat) (w : World) (hx : (digs x).length ≤ 1000000) (hle : y ≤ x) (ha : Rd w va (digs x)) (hb : Rd w vb (digs y)) :
    Calls Tryd.prog 44 #[va, vb] w fun e w' => ∃ v, e = .returned v ∧ Rd w' v (digs (x - y)) ∧ Below w.heap.size w w' := by
  obtain ⟨ao, ba, oa, ca, rfl, _, hao, hca⟩ := ha.shape
  obtain ⟨bo, bb, ob, cb, rfl, _, hbo, hcb⟩ := hb.shape
  have := minus_shape ao bo ba oa ca bb ob cb _ _ (digs x) (digs y) w hx (length_le_of_le hle) rfl rfl (small_digs _) (small_digs _) (by rw [val_digs, val_digs]; exact hle) hao hbo hca hcb
  rw [val_digs, val_digs] at this
  exact this

end Go.Proofs.YtlomfjacgomhdaaDoor
