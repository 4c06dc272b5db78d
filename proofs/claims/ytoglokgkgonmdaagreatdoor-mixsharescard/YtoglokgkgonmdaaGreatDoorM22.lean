/-
  What package mix answers (layer 15), said once: its contracts; lists of the program's states; what must come whatever the input is (sure of the laws).
-/
import Derived.Test.YtoglokgkgonmdaaGreatDoorM8
import Derived.Test.YtoglokgkgonmdaaGreatDoorM19
import Derived.Test.YtoglokgkgonmdaaGreatDoorM16
import Derived.Test.YtoglokgkgonmdaaGreatDoorM6
import Derived.Test.YtoglokgkgonmdaaGreatDoorErrA
import Derived.Test.YtoglokgkgonmdaaGreatDoorM7
import Derived.Test.YtoglokgkgonmdaaGreatDoorM21
set_option linter.unusedSimpArgs false
set_option linter.unusedVariables false
namespace Go.Proofs.YtoglokgkgonmdaaGreatDoor
open Go.RowKit Vc Cn

namespace Mx
theorem hideQ {p : Prop} (h : p) : Hid p := h
/-- An error of the project. -/
def errX (n : Int) : Value := .iface 61 (.int .i64 n)
/-- A list of n states of the program, one after another. -/
structure Pst (w : World) (lo : Option Addr) (n cm : Nat) (X : Nat → Nat → Int) (r c : Nat → Int) (z : Nat → Nat → Int) : Prop where
  le : n ≤ cm
  cap : cm ≤ 9223372036854775807
  at' : ∀ k, k < n → ∃ g, lo = some ⟨g, 0, none⟩ ∧ w.rangeAt g (k * 44) (Pd.svals (X k) (r k) (c k) (z k))
theorem Pst.keep {w w' : World} {lo : Option Addr} {n cm : Nat} {X : Nat → Nat → Int} {r c : Nat → Int} {z : Nat → Nat → Int} (h : Pst w lo n cm X r c z) (b : Below w.heap.size w w') : Pst w' lo n cm X r c z :=
  ⟨h.le, h.cap, fun k hk => by obtain ⟨g, hg, hr⟩ := h.at' k hk; exact ⟨g, hg, fun j v hv => keep_cell b (hr j v hv)⟩⟩
theorem Pst.congr {w : World} {lo : Option Addr} {n cm : Nat} {X X' : Nat → Nat → Int} {r c r' c' : Nat → Int} {z z' : Nat → Nat → Int} (h : Pst w lo n cm X r c z) (e : ∀ k, k < n → Pd.svals (X k) (r k) (c k) (z k) = Pd.svals (X' k) (r' k) (c' k) (z' k)) : Pst w lo n cm X' r' c' z' :=
  ⟨h.le, h.cap, fun k hk => by rw [← e k hk]; exact h.at' k hk⟩
theorem Pst.get {w : World} {lo : Option Addr} {n cm : Nat} {X : Nat → Nat → Int} {r c : Nat → Int} {z : Nat → Nat → Int} (h : Pst w lo n cm X r c z) : ∃ g, (0 < n → lo = some ⟨g, 0, none⟩) ∧ ∀ k, k < n → w.rangeAt g (k * 44) (Pd.svals (X k) (r k) (c k) (z k)) := by
  rcases Nat.eq_zero_or_pos n with e | e
  · exact ⟨0, fun q => by omega, fun k hk => by omega⟩
  · obtain ⟨g, hg, _⟩ := h.at' 0 e
    refine ⟨g, fun _ => hg, fun k hk => ?_⟩
    obtain ⟨g', hg', hr⟩ := h.at' k hk
    rw [hg] at hg'
    injection hg' with q
    injection q with q _ _
    subst q
    exact hr
/-- States that may be joined by chances. -/
def MayJ (n m : Nat) (ch : Nat → Int) (X : Nat → Nat → Int) (r c : Nat → Int) (F : Nat → Nat → Nat → Int) : Prop := n = m ∧ Ch m ch 0 ∧ ∀ k, k < n → r k = 6 ∧ c k = 6 ∧ Pr.MayV (X k) (F k)
def MShares : Prop := ∀ (W : World) (ao lo : Option Addr) (n ca m cm : Nat) (z : Nat → Int) (A : Nat → Option Addr) (L C : Nat → Nat) (R : Nat → Nat → Int) (t : Int), Sl W ao n ca z → B64 z → Sls W lo m cm A L C → (∀ i, i < m → Sl W (A i) (L i) (C i) (R i)) → (∀ i, B64 (R i)) → -9223372036854775808 ≤ t → t ≤ 9223372036854775807 →
  Calls Tryz.prog 5 #[.slice ao n ca, .slice lo m cm, .int .i64 t] W fun e w' => ∃ vo vn vc ev, e = .returned (.tuple #[.slice vo vn vc, ev]) ∧ Below W.heap.size W w' ∧ Sl w' vo vn vc (shr n z R t.toNat) ∧
    ((¬ (MayX n z m L R ∧ 0 ≤ t ∧ t < n) ∧ vn = 0 ∧ ev = errX 1) ∨ (MayX n z m L R ∧ 0 ≤ t ∧ t < n ∧ vn = n ∧ ev = .nilIface))
def MJoin : Prop := ∀ (W : World) (lo ho : Option Addr) (n cm m hc : Nat) (X : Nat → Nat → Int) (r c : Nat → Int) (z : Nat → Nat → Int) (F : Nat → Nat → Nat → Int) (ch : Nat → Int), Pst W lo n cm X r c z → (∀ k, k < n → r k = 6 → c k = 6 → z k = Mt.mz 6 6 (F k)) → (∀ k, B64 (X k)) → (∀ k, Mt.B2 (F k)) → Sl W ho m hc ch → B64 ch →
  Calls Tryz.prog 12 #[.slice lo n cm, .slice ho m hc] W fun e w' => Below W.heap.size W w' ∧
    ((¬ MayJ n m ch X r c F ∧ e = .returned (.tuple #[.agg (Pd.svals (fun _ => 0) 0 0 (fun _ => 0)).toArray, .bool false, errX 1])) ∨
     (MayJ n m ch X r c F ∧ e = .returned (.tuple #[.agg (Pd.svals (jX n ch X) 6 6 (Mt.mz 6 6 (jP n ch X F))).toArray, .bool (jO n ch X F), .nilIface])))
def MAll : Prop := ∀ (W : World) (lo ho ro : Option Addr) (n cm m hc q rm : Nat) (X : Nat → Nat → Int) (r c : Nat → Int) (z : Nat → Nat → Int) (F : Nat → Nat → Nat → Int) (ch : Nat → Int) (A : Nat → Option Addr) (L C : Nat → Nat) (R : Nat → Nat → Int), Pst W lo n cm X r c z → (∀ k, k < n → r k = 6 → c k = 6 → z k = Mt.mz 6 6 (F k)) → (∀ k, B64 (X k)) → (∀ k, Mt.B2 (F k)) →
  Sl W ho m hc ch → B64 ch → Sls W ro q rm A L C → (∀ i, i < q → Sl W (A i) (L i) (C i) (R i)) → (∀ i, B64 (R i)) →
  Calls Tryz.prog 14 #[.slice lo n cm, .slice ho m hc, .slice ro q rm] W fun e w' => ∃ vo vn vc co cn cc b ev, e = .returned (.tuple #[.slice vo vn vc, .slice co cn cc, .bool b, ev]) ∧ Below W.heap.size W w' ∧
    Pst w' vo vn vc (fun k => jX n (shr n ch R k) X) (fun _ => 6) (fun _ => 6) (fun k => Mt.mz 6 6 (jP n (shr n ch R k) X F)) ∧ Sl w' co cn cc (sh 1073741824 (mxw n ch R) n) ∧
    ((¬ (MayJ n m ch X r c F ∧ MayX m ch q L R) ∧ vn = 0 ∧ cn = 0 ∧ b = false ∧ ev = errX 1) ∨ (MayJ n m ch X r c F ∧ MayX m ch q L R ∧ vn = n ∧ cn = n ∧ b = aO n ch R X F ∧ ev = .nilIface))
structure MPkg : Prop where
  shares : MShares
  join : MJoin
  all : MAll
theorem run_slice1 (X : Nat → Int) (r c : Int) (z : Nat → Int) (w : World) : (Instr.buildSlice 45 1 #[(0, .agg (Pd.svals X r c z).toArray)]).run Tryz.prog w = .ok (.slice (some ⟨w.heap.size, 0, none⟩) 1 1) (w.alloc (.cells (Pd.svals X r c z).toArray 42)) := by kernel_rfl
theorem run_slice2 (X Y : Nat → Int) (r c r' c' : Int) (z z' : Nat → Int) (w : World) : (Instr.buildSlice 45 2 #[(0, .agg (Pd.svals X r c z).toArray), (1, .agg (Pd.svals Y r' c' z').toArray)]).run Tryz.prog w = .ok (.slice (some ⟨w.heap.size, 0, none⟩) 2 2) (w.alloc (.cells (Pd.svals X r c z ++ Pd.svals Y r' c' z').toArray 42)) := by kernel_rfl
theorem wpList_slice1 {ops : Array Oper} {rest : List Oper} {o : Oper} {a : Act} {w : World} {Q : Exit → Act → World → Prop} (x : Operand) (ho : o.op = .buildSlice 45 1 #[(0, x)]) (X : Nat → Int) (r c : Int) (z : Nat → Int) (hx : a.eval x = .agg (Pd.svals X r c z).toArray) (hgd : o.guard = none)
    (h : wpList Tryz.prog ops Q rest (a.put o.dst (.slice (some ⟨w.heap.size, 0, none⟩) 1 1)) (w.alloc (.cells (Pd.svals X r c z).toArray 42))) : wpList Tryz.prog ops Q (o :: rest) a w := by
  refine wpList_plain hgd fun _ hK => ?_
  unfold Oper.wp execOp
  have em : ((#[(0, x)] : Array (Nat × Operand)).map fun (i, x) => (i, a.eval x)) = #[(0, .agg (Pd.svals X r c z).toArray)] := by simp [hx]
  simp only [ho, em, Sem.run_bind, run_slice1, Result.andThen_ok]
  exact hK _ _ h
theorem wpList_slice2 {ops : Array Oper} {rest : List Oper} {o : Oper} {a : Act} {w : World} {Q : Exit → Act → World → Prop} (x y : Operand) (ho : o.op = .buildSlice 45 2 #[(0, x), (1, y)]) (X Y : Nat → Int) (r c r' c' : Int) (z z' : Nat → Int) (hx : a.eval x = .agg (Pd.svals X r c z).toArray) (hy : a.eval y = .agg (Pd.svals Y r' c' z').toArray) (hgd : o.guard = none)
    (h : wpList Tryz.prog ops Q rest (a.put o.dst (.slice (some ⟨w.heap.size, 0, none⟩) 2 2)) (w.alloc (.cells (Pd.svals X r c z ++ Pd.svals Y r' c' z').toArray 42))) : wpList Tryz.prog ops Q (o :: rest) a w := by
  refine wpList_plain hgd fun _ hK => ?_
  unfold Oper.wp execOp
  have em : ((#[(0, x), (1, y)] : Array (Nat × Operand)).map fun (i, x) => (i, a.eval x)) = #[(0, .agg (Pd.svals X r c z).toArray), (1, .agg (Pd.svals Y r' c' z').toArray)] := by simp [hx, hy]
  simp only [ho, em, Sem.run_bind, run_slice2, Result.andThen_ok]
  exact hK _ _ h
/-- A list of two, as it is written out. -/
theorem pst_two (w : World) (X : Nat → Nat → Int) (r c : Nat → Int) (z : Nat → Nat → Int) : Pst (w.alloc (.cells (Pd.svals (X 0) (r 0) (c 0) (z 0) ++ Pd.svals (X 1) (r 1) (c 1) (z 1)).toArray 42)) (some ⟨w.heap.size, 0, none⟩) 2 2 X r c z := by
  have hr := St.crow_new w 42 (Pd.svals (X 0) (r 0) (c 0) (z 0) ++ Pd.svals (X 1) (r 1) (c 1) (z 1))
  refine ⟨Nat.le_refl _, by omega, fun k hk => ⟨_, rfl, ?_⟩⟩
  match k, hk with
  | 0, _ => exact St.CRow.mid hr (fun j v hv => by
      have hl : j < (Pd.svals (X 0) (r 0) (c 0) (z 0)).length := by
        rcases Nat.lt_or_ge j (Pd.svals (X 0) (r 0) (c 0) (z 0)).length with q | q
        · exact q
        · rw [List.getElem?_eq_none q] at hv; cases hv
      rw [Nat.zero_mul, Nat.zero_add, List.getElem?_append_left hl]; exact hv)
  | 1, _ => exact St.CRow.mid hr (fun j v hv => by
      rw [List.getElem?_append_right (by rw [Pd.svals_len]; omega), Pd.svals_len, show 1 * 44 + j - 44 = j by omega]; exact hv)
/-- States at 0 and at 10 m, by halves. -/
def muX : Nat → Nat → Int := fun k => if k = 0 then Pd.six 0 0 0 0 0 0 else Pd.six 10485760 0 0 0 0 0
def muD : Nat → Int := Pd.six 1048576 1048576 1048576 1048576 1048576 1048576
def muF : Nat → Nat → Nat → Int := fun _ => Pd.bP muD
def muC : Nat → Int := fun _ => 536870912
def muR : Nat → Nat → Int := fun i j => if i = j then 1073741824 else 0
theorem mu_o : jO 2 muC muX muF = false := by decide +kernel
theorem mu_x : jX 2 muC muX 0 = 5242880 := by decide +kernel
theorem mu_p : Mt.mz 6 6 (jP 2 muC muX muF) 0 = 27262976 := by decide +kernel
theorem muX_in (k : Nat) : ∀ i, i < 6 → Pr.InV (muX k i) := by
  unfold muX
  by_cases e : k = 0
  · rw [if_pos e]; decide +kernel
  · rw [if_neg e]; decide +kernel
theorem muD_in : ∀ i, i < 6 → 1 ≤ muD i ∧ muD i ≤ 4611686018427387903 := by decide +kernel
theorem mu_may : MayJ 2 2 muC muX (fun _ => 6) (fun _ => 6) muF := ⟨rfl, ⟨by omega, by omega, by omega, by omega, fun _ _ => by show (0 : Int) ≤ 536870912; omega, by decide +kernel⟩, fun k hk => ⟨rfl, rfl, Pd.blank_may (muX_in k) muD_in⟩⟩
theorem six_b' {a b c d e f : Int} (h : ∀ v ∈ [a, b, c, d, e, f], -9223372036854775808 ≤ v ∧ v ≤ 9223372036854775807) : B64 (Pd.six a b c d e f) := fun k => by
  match k with
  | 0 => exact h a (by simp)
  | 1 => exact h b (by simp)
  | 2 => exact h c (by simp)
  | 3 => exact h d (by simp)
  | 4 => exact h e (by simp)
  | 5 => exact h f (by simp)
  | k + 6 => exact h f (by simp)
theorem muX_b (k : Nat) : B64 (muX k) := by
  unfold muX
  by_cases e : k = 0
  · rw [if_pos e]; exact six_b' (by decide)
  · rw [if_neg e]; exact six_b' (by decide)
theorem muF_b (k : Nat) : Mt.B2 (muF k) := Pd.bP_b2 (six_b' (by decide))
theorem muR_may : MayX 2 muC 2 (fun _ => 2) muR := ⟨mu_may.2.1, rfl, fun i hi => ⟨rfl, by omega, by omega, by omega, by omega, fun k hk => by show (0 : Int) ≤ if i = k then 1073741824 else 0; split <;> omega, by
  match i, hi with
  | 0, _ => decide +kernel
  | 1, _ => decide +kernel⟩⟩
theorem mu_w : ∀ k, k < 2 → shr 2 muC muR 1 k = if k = 0 then 0 else 1073741824 := by decide +kernel
end Mx
open Mx Pd St Mt

section
variable (P : Mx.MPkg)
include P
theorem msure_join (w : World) (ho : Option Addr) (h : Sl w ho 2 2 muC) (lo : Option Addr) (hl : Pst w lo 2 2 muX (fun _ => 6) (fun _ => 6) (fun _ => mz 6 6 (bP muD))) : Calls Tryz.prog 12 #[.slice lo 2 2, .slice ho 2 2] w fun e w' => e = .returned (.tuple #[.agg (svals (jX 2 muC muX) 6 6 (mz 6 6 (jP 2 muC muX muF))).toArray, .bool false, .nilIface]) ∧ Below w.heap.size w w' := by
  refine (P.join w lo ho 2 2 2 2 muX _ _ _ muF muC hl (fun k _ _ _ => rfl) muX_b muF_b h (fun k => by show _ ≤ (536870912 : Int) ∧ (536870912 : Int) ≤ _; omega)).mono ?_
  rintro e w' ⟨k1, ⟨h, _⟩ | ⟨_, rfl⟩⟩
  · exact absurd mu_may h
  · exact ⟨by rw [mu_o], k1⟩
theorem msure_shares (w : World) (ao : Option Addr) (x y z : Addr) (h : Sl w ao 2 2 (fun k => if k = 0 then 536870912 else 536870912)) (h0 : w.cell? x = some (.slice (some y) 2 2)) (h1 : w.cell? (x.add 1) = some (.slice (some z) 2 2)) (hy : Sl w (some y) 2 2 (fun k => if k = 0 then 1073741824 else 0)) (hz : Sl w (some z) 2 2 (fun k => if k = 0 then 0 else 1073741824)) :
    Calls Tryz.prog 5 #[.slice ao 2 2, .slice (some x) 2 2, .int .i64 1] w fun e w' => ∃ vo vc, e = .returned (.tuple #[.slice vo 2 vc, .nilIface]) ∧ Sl w' vo 2 vc (fun k => if k = 0 then 0 else 1073741824) ∧ Below w.heap.size w w' := by
  refine (P.shares w ao (some x) 2 2 2 2 muC _ _ _ muR 1 (h.congr fun k hk => by show (if k = 0 then (536870912 : Int) else 536870912) = 536870912; split <;> rfl) (fun k => by show _ ≤ (536870912 : Int) ∧ (536870912 : Int) ≤ _; omega) (Sls.duoQ (n := 0) (m := 0) h0 h1) (fun i hi => ?_) (fun i k => by show _ ≤ (if i = k then (1073741824 : Int) else 0) ∧ (if i = k then (1073741824 : Int) else 0) ≤ _; split <;> omega) (by omega) (by omega)).mono ?_
  · match i, hi with
    | 0, _ => exact hy.congr fun k hk => (by decide : ∀ k, k < 2 → (if k = 0 then (1073741824 : Int) else 0) = muR 0 k) k hk
    | 1, _ => exact hz.congr fun k hk => (by decide : ∀ k, k < 2 → (if k = 0 then (0 : Int) else 1073741824) = muR 1 k) k hk
  · rintro e w' ⟨vo, vn, vc, ev, rfl, k1, s1, ⟨h, _⟩ | ⟨_, _, _, rfl, rfl⟩⟩
    · exact absurd ⟨muR_may, by omega, by omega⟩ h
    · exact ⟨vo, vc, rfl, s1.congr (fun k hk => mu_w k hk), k1⟩
end
end Go.Proofs.YtoglokgkgonmdaaGreatDoor

/-
  Layer 15's laws: what must come whatever the input is (sure), from package mix's contracts.
-/
set_option linter.unusedSimpArgs false
set_option linter.unusedVariables false
namespace Go.Proofs.YtoglokgkgonmdaaGreatDoor
open Go.RowKit Vc Mx Pd St Mt

set_option maxRecDepth 20000 in
set_option maxHeartbeats 2000000 in
theorem msure_any (P : Mx.MPkg) (w : World) :
    Calls Tryz.prog 10 #[] w fun e w' => e = .returned (.bool true) ∧ Below w.heap.size w w' := by
  have H1 : Hid (∀ W, Calls Tryz.prog 26 #[.int .i64 0, .int .i64 0, .int .i64 0, .int .i64 0, .int .i64 1048576, .int .i64 1048576, .int .i64 1048576] W fun e w' => e = .returned (.tuple #[.agg (svals (muX 0) 6 6 (mz 6 6 (bP muD))).toArray, .nilIface]) ∧ Below W.heap.size W w') := fun W => pblank_yes 0 0 0 0 1048576 1048576 1048576 W (by decide +kernel) muD_in
  have H2 : Hid (∀ W, Calls Tryz.prog 26 #[.int .i64 10485760, .int .i64 0, .int .i64 0, .int .i64 0, .int .i64 1048576, .int .i64 1048576, .int .i64 1048576] W fun e w' => e = .returned (.tuple #[.agg (svals (muX 1) 6 6 (mz 6 6 (bP muD))).toArray, .nilIface]) ∧ Below W.heap.size W w') := fun W => pblank_yes 10485760 0 0 0 1048576 1048576 1048576 W (by decide +kernel) muD_in
  have H3 : Hid (∀ W, Calls Tryz.prog 12 #[.slice (some ⟨W.heap.size, 0, none⟩) 2 2, .slice (some ⟨W.heap.size + 1, 0, none⟩) 2 2] ((W.alloc (.cells (svals (muX 0) 6 6 (mz 6 6 (bP muD)) ++ svals (muX 1) 6 6 (mz 6 6 (bP muD))).toArray 42)).alloc (.cells #[.int .i64 536870912, .int .i64 536870912] 2)) fun e w' =>
      e = .returned (.tuple #[.agg (svals (jX 2 muC muX) 6 6 (mz 6 6 (jP 2 muC muX muF))).toArray, .bool false, .nilIface]) ∧ Below W.heap.size W w') := fun W => by
    have kA := below_al (Below.refl _ W) (.cells (svals (muX 0) 6 6 (mz 6 6 (bP muD)) ++ svals (muX 1) 6 6 (mz 6 6 (bP muD))).toArray 42)
    refine (msure_join P _ _ (Sl.duoQ (a := 536870912) (b := 536870912) (by go_simp) (by rw [Addr.add_lit]; go_simp) |>.congr fun k hk => by show (if k = 0 then (536870912 : Int) else 536870912) = 536870912; split <;> rfl) _ ((pst_two W muX (fun _ => 6) (fun _ => 6) (fun _ => mz 6 6 (bP muD))).keep (below_al (Below.refl _ _) _))).mono ?_
    rintro e w' ⟨rfl, k⟩
    exact ⟨rfl, below_tr (below_al kA _) k⟩
  have HS := hideQ (msure_shares P)
  have s0 := mu_x
  have s2 := mu_p
  obtain ⟨zP, hzP⟩ : ∃ z, z = mz 6 6 (bP muD) := ⟨_, rfl⟩
  obtain ⟨XA, hXA⟩ : ∃ z, z = muX 0 := ⟨_, rfl⟩
  obtain ⟨XB, hXB⟩ : ∃ z, z = muX 1 := ⟨_, rfl⟩
  obtain ⟨zN, hzN⟩ : ∃ z, z = mz 6 6 (jP 2 muC muX muF) := ⟨_, rfl⟩
  obtain ⟨Y, hY⟩ : ∃ Y, Y = jX 2 muC muX := ⟨_, rfl⟩
  rw [← hzP, ← hXA] at H1
  rw [← hzP, ← hXB] at H2
  rw [← hzP, ← hXA, ← hXB, ← hzN, ← hY] at H3
  rw [← hzN] at s2
  rw [← hY] at s0
  clear hzP hXA hXB hzN hY
  go_enter Tryz.func10, Tryz.ntmps10
  go_wp2_with fail
  refine (H1.out _).mono ?_
  rintro e w1 ⟨rfl, k1⟩
  go_wp2_with (first
    | (rw [zeroS]; refine St.wpList_storeNew isS rfl _ _ (by rfl) _ _ _ (by rfl) (by rfl) (svals_len _ _ _ _) (svals_len _ _ _ _) (one_svals _ _ _ _) ?_; intro w2 t2 k2; have B2 := below_tr k1 k2; clear k1 k2)
    | fail)
  refine (H2.out _).mono ?_
  rintro e w3 ⟨rfl, k3⟩
  have t3 := CRow.keep t2 k3
  have B3 := below_tr B2 k3
  clear t2 B2 k3
  go_wp2_with (first
    | (rw [zeroS]; refine St.wpList_storeNew isS rfl _ _ (by rfl) _ _ _ (by rfl) (by rfl) (svals_len _ _ _ _) (svals_len _ _ _ _) (one_svals _ _ _ _) ?_; intro w4 t4 k4; have t3' := CRow.keep t3 k4; have B4 := below_tr B3 k4; clear k4 t3 B3)
    | ((with_reducible show wpList _ _ _ _ _ _); refine St.wpList_load isS (by rfl) _ (by rfl) _ _ (by rfl) (by with_reducible exact t3') (svals_len _ _ _ _) ?_)
    | ((with_reducible show wpList _ _ _ _ _ _); refine St.wpList_load isS (by rfl) _ (by rfl) _ _ (by rfl) (by with_reducible exact t4) (svals_len _ _ _ _) ?_)
    | ((with_reducible show wpList _ _ _ _ _ _); refine wpList_slice2 _ _ (by with_reducible rfl) _ _ _ _ _ _ _ _ (by rfl) (by rfl) (by rfl) ?_)
    | fail)
  refine (H3.out _).mono ?_
  rintro e w5 ⟨rfl, k5⟩
  have B5 := below_tr B4 k5
  clear t3' t4 B4 k5
  go_wp2_with (first
    | (rw [zeroS]; refine St.wpList_storeNew isS rfl _ _ (by rfl) _ _ _ (by rfl) (by rfl) (svals_len _ _ _ _) (svals_len _ _ _ _) (one_svals _ _ _ _) ?_; intro w6 t6 k6; have B6 := below_tr B5 k6; clear k6 B5)
    | fail)
  refine (HS.out _ _ _ ⟨w6.heap.size + 1, 0, none⟩ ⟨w6.heap.size + 2, 0, none⟩ (Sl.duoQ (by go_simp) (by rw [Addr.add_lit]; go_simp)) (by go_simp) (by rw [Addr.add_lit]; go_simp) (Sl.duoQ (by go_simp) (by rw [Addr.add_lit]; go_simp)) (Sl.duoQ (by go_simp) (by rw [Addr.add_lit]; go_simp))).mono ?_
  rintro e w7 ⟨vo, vc, rfl, s7, k7⟩
  have k7' := below_tr (below_al (below_al (below_al (below_al (Below.refl _ _) _) _) _) _) k7
  have B7 := below_tr B6 k7'
  have t7 := CRow.keep t6 k7'
  have c0 : w7.cell? ⟨w5.heap.size, 0, none⟩ = some (.int .i64 5242880) := by have e := SRow.x t7 (k := 0) (by omega) rfl; rw [s0] at e; exact e
  have c2 : w7.cell? ⟨w5.heap.size, 8, none⟩ = some (.int .i64 27262976) := by have e := SRow.z t7 (k := 0) (by omega) rfl; rw [s2] at e; exact e
  clear t7 t6 k7 k7' B6
  go_wp2_with fail
  refine (nums_yes _ _ 2 _ 2 _ _ (s7.keep (below_al (Below.refl _ _) _)) (Sl.duoQ (by go_simp) (by rw [Addr.add_lit]; go_simp))).mono ?_
  rintro e w8 ⟨rfl, k8⟩
  have B8 := below_tr B7 (below_tr (below_al (Below.refl _ _) _) k8)
  clear k8 B7 s7
  go_wp2
  go_ret
  exact ⟨rfl, B8⟩
end Go.Proofs.YtoglokgkgonmdaaGreatDoor
