/-
  What package chance answers (layer 14), said once: its contracts; what must come whatever the input is (sure of the laws).
-/
import Derived.Test.YtlomfjacgomhdaaDoorCnP
import Derived.Test.YtlomfjacgomhdaaDoorVcB
import Derived.Test.YtlomfjacgomhdaaDoorErrA
import Derived.Test.YtlomfjacgomhdaaDoorRefC
set_option linter.unusedSimpArgs false
set_option linter.unusedVariables false
namespace Go.Proofs.YtlomfjacgomhdaaDoor
open Go.RowKit Vc

namespace Cn
theorem hideQ {p : Prop} (h : p) : Hid p := h
/-- The first place of the greatest one. -/
def mst (z : Nat → Int) : Nat → Nat
  | 0 => 0
  | k + 1 => if z (mst z k) < z k then k else mst z k
theorem mst_lt (z : Nat → Int) : ∀ n, mst z (n + 1) ≤ n
  | 0 => by show (if z 0 < z 0 then 0 else 0) ≤ 0; split <;> exact Nat.le_refl _
  | n + 1 => by
    show (if z (mst z (n + 1)) < z (n + 1) then n + 1 else mst z (n + 1)) ≤ n + 1
    split
    · exact Nat.le_refl _
    · exact Nat.le_succ_of_le (mst_lt z n)
/-- An error of the project. -/
def errV (n : Int) : Value := .iface 46 (.int .i64 n)
def COf : Prop := ∀ (W : World) (ao : Option Addr) (n ca : Nat) (z : Nat → Int) (fl : Int), Sl W ao n ca z → B64 z → -9223372036854775808 ≤ fl → fl ≤ 9223372036854775807 →
  Calls Tryd.prog 6 #[.slice ao n ca, .int .i64 fl] W fun e w' => ∃ vo vn vc ev, e = .returned (.tuple #[.slice vo vn vc, ev]) ∧ Below W.heap.size W w' ∧ Sl w' vo vn vc (fun k => sh (1073741824 - fl * n) z n k + fl) ∧
    ((¬ MayW n z fl ∧ vn = 0 ∧ ev = errV 1) ∨ (MayW n z fl ∧ tot z n = 0 ∧ vn = 0 ∧ ev = errV 11) ∨ (MayW n z fl ∧ 0 < tot z n ∧ vn = n ∧ ev = .nilIface))
def CEven : Prop := ∀ (W : World) (n : Int), -9223372036854775808 ≤ n → n ≤ 9223372036854775807 →
  Calls Tryd.prog 8 #[.int .i64 n] W fun e w' => ∃ vo vn vc ev, e = .returned (.tuple #[.slice vo vn vc, ev]) ∧ Below W.heap.size W w' ∧ Sl w' vo vn vc (sh 1073741824 (fun _ => 1) vn) ∧
    ((¬ (1 ≤ n ∧ n ≤ 4) ∧ vn = 0 ∧ ev = errV 1) ∨ (1 ≤ n ∧ n ≤ 4 ∧ (vn : Int) = n ∧ ev = .nilIface))
def CCheck : Prop := ∀ (W : World) (ao : Option Addr) (n ca : Nat) (z : Nat → Int) (fl : Int), Sl W ao n ca z → B64 z → -9223372036854775808 ≤ fl → fl ≤ 9223372036854775807 →
  Calls Tryd.prog 9 #[.slice ao n ca, .int .i64 fl] W fun e w' => ∃ ev, e = .returned ev ∧ Below W.heap.size W w' ∧ ((Ch n z fl ∧ ev = .nilIface) ∨ (¬ Ch n z fl ∧ ev = errV 1))
def CMix : Prop := ∀ (W : World) (ao lo : Option Addr) (n ca m cm : Nat) (z : Nat → Int) (A : Nat → Option Addr) (L C : Nat → Nat) (R : Nat → Nat → Int), Sl W ao n ca z → B64 z → Sls W lo m cm A L C → (∀ i, i < m → Sl W (A i) (L i) (C i) (R i)) → (∀ i, B64 (R i)) →
  Calls Tryd.prog 16 #[.slice ao n ca, .slice lo m cm] W fun e w' => ∃ vo vn vc ev, e = .returned (.tuple #[.slice vo vn vc, ev]) ∧ Below W.heap.size W w' ∧ Sl w' vo vn vc (sh 1073741824 (mxw n z R) n) ∧
    ((¬ MayX n z m L R ∧ vn = 0 ∧ ev = errV 1) ∨ (MayX n z m L R ∧ vn = n ∧ ev = .nilIface))
def CMost : Prop := ∀ (W : World) (ao : Option Addr) (n ca : Nat) (z : Nat → Int), Sl W ao n ca z → B64 z →
  Calls Tryd.prog 10 #[.slice ao n ca] W fun e w' => ∃ (k : Nat) (ev : Value), e = .returned (.tuple #[.int .i64 (k : Int), ev]) ∧ Below W.heap.size W w' ∧ ((¬ (1 ≤ n ∧ n ≤ 4) ∧ k = 0 ∧ ev = errV 1) ∨ (1 ≤ n ∧ n ≤ 4 ∧ k = mst z n ∧ ev = .nilIface))
structure Pkg : Prop where
  of : COf
  even : CEven
  check : CCheck
  mix : CMix
  most : CMost
end Cn
open Cn
namespace Vc
theorem Sl.duoQ {w : World} {x : Addr} {a b : Int} (h : w.cell? x = some (.int .i64 a)) (h2 : w.cell? (x.add 1) = some (.int .i64 b)) : Sl w (some x) 2 2 (fun k => if k = 0 then a else b) :=
  ⟨Nat.le_refl _, by omega, fun k hk => ⟨x, rfl, by
    match k, hk with
    | 0, _ => exact h
    | 1, _ => exact h2⟩⟩
theorem Sl.trioQ {w : World} {x : Addr} {a b c : Int} (h : w.cell? x = some (.int .i64 a)) (h2 : w.cell? (x.add 1) = some (.int .i64 b)) (h3 : w.cell? (x.add 2) = some (.int .i64 c)) : Sl w (some x) 3 3 (fun k => if k = 0 then a else if k = 1 then b else c) :=
  ⟨Nat.le_refl _, by omega, fun k hk => ⟨x, rfl, by
    match k, hk with
    | 0, _ => exact h
    | 1, _ => exact h2
    | 2, _ => exact h3⟩⟩
theorem Sls.duoQ {w : World} {x y z : Addr} {n m : Nat} (h : w.cell? x = some (.slice (some y) 2 2)) (h2 : w.cell? (x.add 1) = some (.slice (some z) 2 2)) : Sls w (some x) 2 2 (fun k => if k = 0 then some y else some z) (fun _ => 2) (fun _ => 2) :=
  ⟨Nat.le_refl _, by omega, fun k hk => ⟨x, rfl, by
    match k, hk with
    | 0, _ => exact h
    | 1, _ => exact h2⟩⟩
end Vc

section
variable (P : Pkg)
include P
theorem sure_even (w : World) : Calls Tryd.prog 8 #[.int .i64 3] w fun e w' => ∃ vo vc, e = .returned (.tuple #[.slice vo 3 vc, .nilIface]) ∧ Sl w' vo 3 vc (fun k => if k = 0 then 357913942 else if k = 1 then 357913941 else 357913941) ∧ Below w.heap.size w w' := by
  refine (P.even w 3 (by omega) (by omega)).mono ?_
  rintro e w' ⟨vo, vn, vc, ev, rfl, k1, s1, ⟨h, _⟩ | ⟨_, _, h, rfl⟩⟩
  · exact absurd ⟨by omega, by omega⟩ h
  · obtain rfl : vn = 3 := by omega
    exact ⟨vo, vc, rfl, s1.congr (fun k hk => by
      match k, hk with
      | 0, _ => decide +kernel
      | 1, _ => decide +kernel
      | 2, _ => decide +kernel), k1⟩
theorem sure_of (w : World) (ao : Option Addr) (h : Sl w ao 2 2 (fun k => if k = 0 then 1 else 0)) : Calls Tryd.prog 6 #[.slice ao 2 2, .int .i64 1000] w fun e w' => ∃ vo vc, e = .returned (.tuple #[.slice vo 2 vc, .nilIface]) ∧ Sl w' vo 2 vc (fun k => if k = 0 then 1073740824 else 1000) ∧ Below w.heap.size w w' := by
  refine (P.of w ao 2 2 _ 1000 h (fun k => by show _ ≤ (if k = 0 then (1 : Int) else 0) ∧ (if k = 0 then (1 : Int) else 0) ≤ _; split <;> omega) (by omega) (by omega)).mono ?_
  have may : MayW 2 (fun k => if k = 0 then 1 else 0) 1000 := ⟨by omega, by omega, by omega, by omega, fun k hk => by show 0 ≤ (if k = 0 then (1 : Int) else 0) ∧ (if k = 0 then (1 : Int) else 0) ≤ _; split <;> omega⟩
  have t1 : tot (fun k => if k = 0 then 1 else 0) 2 = 1 := by decide +kernel
  rintro e w' ⟨vo, vn, vc, ev, rfl, k1, s1, ⟨h, _⟩ | ⟨_, h, _⟩ | ⟨_, _, rfl, rfl⟩⟩
  · exact absurd may h
  · omega
  · exact ⟨vo, vc, rfl, s1.congr (fun k hk => by
      match k, hk with
      | 0, _ => decide +kernel
      | 1, _ => decide +kernel), k1⟩
theorem sure_most (w : World) (ao : Option Addr) (h : Sl w ao 3 3 (fun k => if k = 0 then 1 else if k = 1 then 5 else 5)) : Calls Tryd.prog 10 #[.slice ao 3 3] w fun e w' => e = .returned (.tuple #[.int .i64 1, .nilIface]) ∧ Below w.heap.size w w' := by
  refine (P.most w ao 3 3 _ h (fun k => by show _ ≤ (if k = 0 then (1 : Int) else if k = 1 then 5 else 5) ∧ (if k = 0 then (1 : Int) else if k = 1 then 5 else 5) ≤ _; split <;> (try split) <;> omega)).mono ?_
  rintro e w' ⟨k, ev, rfl, k1, ⟨h, _⟩ | ⟨_, _, rfl, rfl⟩⟩
  · exact absurd ⟨by omega, by omega⟩ h
  · exact ⟨rfl, k1⟩
theorem sure_mix (w : World) (ao : Option Addr) (x y z : Addr) (h : Sl w ao 2 2 (fun k => if k = 0 then 1073741824 else 0)) (h0 : w.cell? x = some (.slice (some y) 2 2)) (h1 : w.cell? (x.add 1) = some (.slice (some z) 2 2)) (hy : Sl w (some y) 2 2 (fun k => if k = 0 then 3 else 1073741821)) (hz : Sl w (some z) 2 2 (fun k => if k = 0 then 1073741824 else 0)) :
    Calls Tryd.prog 16 #[.slice ao 2 2, .slice (some x) 2 2] w fun e w' => ∃ vo vc, e = .returned (.tuple #[.slice vo 2 vc, .nilIface]) ∧ Sl w' vo 2 vc (fun k => if k = 0 then 3 else 1073741821) ∧ Below w.heap.size w w' := by
  have b1 : ∀ k : Nat, 0 ≤ (if k = 0 then (1073741824 : Int) else 0) ∧ (if k = 0 then (1073741824 : Int) else 0) ≤ 1073741824 := fun k => by split <;> omega
  have b2 : ∀ k : Nat, 0 ≤ (if k = 0 then (3 : Int) else 1073741821) ∧ (if k = 0 then (3 : Int) else 1073741821) ≤ 1073741824 := fun k => by split <;> omega
  refine (P.mix w ao (some x) 2 2 2 2 _ _ _ _ (fun i j => if i = 0 then (if j = 0 then 3 else 1073741821) else (if j = 0 then 1073741824 else 0)) h (fun k => ?_) (Sls.duoQ (n := 0) (m := 0) h0 h1) (fun i hi => ?_) (fun i k => ?_)).mono ?_
  · have := b1 k; show _ ≤ (if k = 0 then (1073741824 : Int) else 0) ∧ (if k = 0 then (1073741824 : Int) else 0) ≤ _; omega
  · match i, hi with
    | 0, _ => exact hy
    | 1, _ => exact hz
  · show _ ≤ (if i = 0 then (if k = 0 then (3 : Int) else 1073741821) else (if k = 0 then 1073741824 else 0)) ∧ (if i = 0 then (if k = 0 then (3 : Int) else 1073741821) else (if k = 0 then 1073741824 else 0)) ≤ _
    have := b1 k; have := b2 k
    by_cases e : i = 0
    · rw [if_pos e]; omega
    · rw [if_neg e]; omega
  · have may : MayX 2 (fun k => if k = 0 then 1073741824 else 0) 2 (fun _ => 2) (fun i j => if i = 0 then (if j = 0 then 3 else 1073741821) else (if j = 0 then 1073741824 else 0)) := by
      refine ⟨⟨by omega, by omega, by omega, by omega, fun k hk => (b1 k).1, by decide +kernel⟩, rfl, fun i hi => ⟨rfl, by omega, by omega, by omega, by omega, fun k hk => ?_, ?_⟩⟩
      · show 0 ≤ (if i = 0 then (if k = 0 then (3 : Int) else 1073741821) else (if k = 0 then 1073741824 else 0))
        have := b1 k; have := b2 k
        by_cases e : i = 0
        · rw [if_pos e]; omega
        · rw [if_neg e]; omega
      · match i, hi with
        | 0, _ => decide +kernel
        | 1, _ => decide +kernel
    rintro e w' ⟨vo, vn, vc, ev, rfl, k1, s1, ⟨h, _⟩ | ⟨_, rfl, rfl⟩⟩
    · exact absurd may h
    · exact ⟨vo, vc, rfl, s1.congr (fun k hk => by
        match k, hk with
        | 0, _ => decide +kernel
        | 1, _ => decide +kernel), k1⟩
set_option maxRecDepth 10000 in
set_option maxHeartbeats 2000000 in
theorem csure_any (w : World) :
    Calls Tryd.prog 14 #[] w fun e w' => e = .returned (.bool true) ∧ Below w.heap.size w w' := by
  have HE := hideQ (sure_even P)
  have HO := hideQ (sure_of P)
  have HX := hideQ (sure_mix P)
  have HM := hideQ (sure_most P)
  go_enter Tryd.func14, Tryd.ntmps14
  go_wp2_with fail
  refine (HE.out _).mono ?_
  rintro e w1 ⟨o1, c1, rfl, s1, K1⟩
  go_wp2_with fail
  refine (HO.out _ _ (Sl.duoQ (by go_simp) (by rw [Addr.add_lit]; go_simp))).mono ?_
  rintro e w2 ⟨o2, c2, rfl, s2, k2⟩
  have k2' := below_tr (below_al (Below.refl _ _) _) k2
  have K2 := below_tr K1 k2'
  have s1' := s1.keep k2'
  clear k2 k2' K1 s1
  go_wp2_with fail
  refine (HX.out _ _ _ ⟨w2.heap.size + 1, 0, none⟩ ⟨w2.heap.size + 2, 0, none⟩ (Sl.duoQ (by go_simp) (by rw [Addr.add_lit]; go_simp)) (by go_simp) (by rw [Addr.add_lit]; go_simp) (Sl.duoQ (by go_simp) (by rw [Addr.add_lit]; go_simp)) (Sl.duoQ (by go_simp) (by rw [Addr.add_lit]; go_simp))).mono ?_
  rintro e w3 ⟨o3, c3, rfl, s3, k3⟩
  have k3' := below_tr (below_al (below_al (below_al (below_al (Below.refl _ _) _) _) _) _) k3
  have K3 := below_tr K2 k3'
  have s1 := s1'.keep k3'
  have s2' := s2.keep k3'
  clear k3 k3' K2 s1' s2
  go_wp2_with fail
  refine (HM.out _ _ (Sl.trioQ (by go_simp) (by rw [Addr.add_lit]; go_simp) (by rw [Addr.add_lit]; go_simp))).mono ?_
  rintro e w4 ⟨rfl, k4⟩
  have k4' := below_tr (below_al (Below.refl _ _) _) k4
  have K4 := below_tr K3 k4'
  have s1' := s1.keep k4'
  have s2 := s2'.keep k4'
  have s3' := s3.keep k4'
  clear k4 k4' K3 s1 s2' s3
  go_wp2_with fail
  refine (nums_yes _ _ 3 _ 3 _ _ (s1'.keep (below_al (Below.refl _ _) _)) (Sl.trioQ (by go_simp) (by rw [Addr.add_lit]; go_simp) (by rw [Addr.add_lit]; go_simp))).mono ?_
  rintro e w5 ⟨rfl, k5⟩
  have k5' := below_tr (below_al (Below.refl _ _) _) k5
  have K5 := below_tr K4 k5'
  have s2' := s2.keep k5'
  have s3 := s3'.keep k5'
  clear k5 k5' K4 s1' s2 s3'
  go_wp2_with fail
  refine (nums_yes _ _ 2 _ 2 _ _ (s2'.keep (below_al (Below.refl _ _) _)) (Sl.duoQ (by go_simp) (by rw [Addr.add_lit]; go_simp))).mono ?_
  rintro e w6 ⟨rfl, k6⟩
  have k6' := below_tr (below_al (Below.refl _ _) _) k6
  have K6 := below_tr K5 k6'
  have s3' := s3.keep k6'
  clear k6 k6' K5 s2' s3
  go_wp2_with fail
  refine (nums_yes _ _ 2 _ 2 _ _ (s3'.keep (below_al (Below.refl _ _) _)) (Sl.duoQ (by go_simp) (by rw [Addr.add_lit]; go_simp))).mono ?_
  rintro e w7 ⟨rfl, k7⟩
  have K7 := below_tr K6 (below_tr (below_al (Below.refl _ _) _) k7)
  clear k7 K6 s3'
  go_wp2
  go_ret
  exact ⟨rfl, K7⟩
end
end Go.Proofs.YtlomfjacgomhdaaDoor
