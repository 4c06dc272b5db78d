/-
  The document's answer of layer 13 (radomeref13): May, add, around.
-/
import Derived.Test.YtdgcnaijndocnaaGreatDoorM33
import Derived.Test.YtdgcnaijndocnaaGreatDoorM4
import Derived.Test.YtdgcnaijndocnaaGreatDoorM5
import Derived.Test.YtdgcnaijndocnaaGreatDoorM34
import Derived.Test.YtdgcnaijndocnaaGreatDoorLdR
import Derived.Test.YtdgcnaijndocnaaGreatDoorM6
import Derived.Deep.RegionWith
import Derived.Test.YtdgcnaijndocnaaGreatDoorM22
import Derived.Test.YtdgcnaijndocnaaGreatDoorRegM
import Derived.Test.YtdgcnaijndocnaaGreatDoorM21
import Derived.Deep.CutRange
import Derived.Test.YtdgcnaijndocnaaGreatDoorM10
import Derived.Test.YtdgcnaijndocnaaGreatDoorM9
set_option linter.unusedSimpArgs false
set_option linter.unusedVariables false
namespace Go.Proofs.YtdgcnaijndocnaaGreatDoor
open Go.RowKit Vc St Mt Dt Pr
attribute [local go_sem ↓] Go.wp_at_zero Go.wp_at_succ
namespace Ud
theorem isSeen : Is 27 5 := ⟨by kernel_rfl, ⟨_, Tryz.underlying27, rfl⟩⟩
end Ud
open Ud
set_option maxRecDepth 10000 in
set_option maxHeartbeats 2000000 in
theorem rmay13_any (x y a b c : Int) (w : World) :
  Calls Tryz.prog 28 #[.agg (pv x y a b c).toArray] w fun e w' => e = .returned (.bool (decide (MayN x y a b c))) ∧ Below w.heap.size w w' := by
 have m0 := crow_new w 27 (pv x y a b c)
 have B0 := below_al (Below.refl _ w) (.cells (pv x y a b c).toArray 27)
 obtain ⟨W, hW⟩ : ∃ W, W = w.alloc (.cells (pv x y a b c).toArray 27) := ⟨_, rfl⟩
 rw [← hW] at m0 B0
 have HW := hide hW
 have c0 : W.cell? ⟨w.heap.size, 0, none⟩ = some (.int .i64 x) := CRow.cell m0 (k := 0) rfl rfl
 have c1 : W.cell? ⟨w.heap.size, 1, none⟩ = some (.int .i64 y) := CRow.cell m0 (k := 1) rfl rfl
 have c2 : W.cell? ⟨w.heap.size, 2, none⟩ = some (.int .i64 a) := CRow.cell m0 (k := 2) rfl rfl
 have c3 : W.cell? ⟨w.heap.size, 3, none⟩ = some (.int .i64 b) := CRow.cell m0 (k := 3) rfl rfl
 have c4 : W.cell? ⟨w.heap.size, 4, none⟩ = some (.int .i64 c) := CRow.cell m0 (k := 4) rfl rfl
 clear hW m0
 by_cases h0 : InV x
 case neg =>
  have HI0 := hide (fun W => rin12_any x W)
  rw [decide_eq_false h0] at HI0
  rw [decide_eq_false (show ¬ MayN x y a b c from fun q => h0 q.1)]
  clear h0
  go_enter Tryz.func28, Tryz.ntmps28
  go_wp2_with (first | (rw [← HW.out]) | fail)
  refine (HI0.out _).mono ?_
  rintro e w0 ⟨rfl, rfl⟩
  go_wp2
  go_ret
  exact ⟨rfl, B0⟩
 by_cases h1 : InV y
 case neg =>
  have HI0 := hide (fun W => rin12_any x W)
  rw [decide_eq_true h0] at HI0
  have HI1 := hide (fun W => rin12_any y W)
  rw [decide_eq_false h1] at HI1
  rw [decide_eq_false (show ¬ MayN x y a b c from fun q => h1 q.2.1)]
  clear h0 h1
  go_enter Tryz.func28, Tryz.ntmps28
  go_wp2_with (first | (rw [← HW.out]) | fail)
  refine (HI0.out _).mono ?_
  rintro e w0 ⟨rfl, rfl⟩
  go_wp2_with fail
  refine (HI1.out _).mono ?_
  rintro e w1 ⟨rfl, rfl⟩
  go_wp2
  go_ret
  exact ⟨rfl, B0⟩
 by_cases h2 : InV a
 case neg =>
  have HI0 := hide (fun W => rin12_any x W)
  rw [decide_eq_true h0] at HI0
  have HI1 := hide (fun W => rin12_any y W)
  rw [decide_eq_true h1] at HI1
  have HI2 := hide (fun W => rin12_any a W)
  rw [decide_eq_false h2] at HI2
  rw [decide_eq_false (show ¬ MayN x y a b c from fun q => h2 q.2.2.1)]
  clear h0 h1 h2
  go_enter Tryz.func28, Tryz.ntmps28
  go_wp2_with (first | (rw [← HW.out]) | fail)
  refine (HI0.out _).mono ?_
  rintro e w0 ⟨rfl, rfl⟩
  go_wp2_with fail
  refine (HI1.out _).mono ?_
  rintro e w1 ⟨rfl, rfl⟩
  go_wp2_with fail
  refine (HI2.out _).mono ?_
  rintro e w2 ⟨rfl, rfl⟩
  go_wp2
  go_ret
  exact ⟨rfl, B0⟩
 by_cases h3 : InV b
 case neg =>
  have HI0 := hide (fun W => rin12_any x W)
  rw [decide_eq_true h0] at HI0
  have HI1 := hide (fun W => rin12_any y W)
  rw [decide_eq_true h1] at HI1
  have HI2 := hide (fun W => rin12_any a W)
  rw [decide_eq_true h2] at HI2
  have HI3 := hide (fun W => rin12_any b W)
  rw [decide_eq_false h3] at HI3
  rw [decide_eq_false (show ¬ MayN x y a b c from fun q => h3 q.2.2.2.1)]
  clear h0 h1 h2 h3
  go_enter Tryz.func28, Tryz.ntmps28
  go_wp2_with (first | (rw [← HW.out]) | fail)
  refine (HI0.out _).mono ?_
  rintro e w0 ⟨rfl, rfl⟩
  go_wp2_with fail
  refine (HI1.out _).mono ?_
  rintro e w1 ⟨rfl, rfl⟩
  go_wp2_with fail
  refine (HI2.out _).mono ?_
  rintro e w2 ⟨rfl, rfl⟩
  go_wp2_with fail
  refine (HI3.out _).mono ?_
  rintro e w3 ⟨rfl, rfl⟩
  go_wp2
  go_ret
  exact ⟨rfl, B0⟩
 by_cases h4 : InV c
 case neg =>
  have HI0 := hide (fun W => rin12_any x W)
  rw [decide_eq_true h0] at HI0
  have HI1 := hide (fun W => rin12_any y W)
  rw [decide_eq_true h1] at HI1
  have HI2 := hide (fun W => rin12_any a W)
  rw [decide_eq_true h2] at HI2
  have HI3 := hide (fun W => rin12_any b W)
  rw [decide_eq_true h3] at HI3
  have HI4 := hide (fun W => rin12_any c W)
  rw [decide_eq_false h4] at HI4
  rw [decide_eq_false (show ¬ MayN x y a b c from fun q => h4 q.2.2.2.2.1)]
  clear h0 h1 h2 h3 h4
  go_enter Tryz.func28, Tryz.ntmps28
  go_wp2_with (first | (rw [← HW.out]) | fail)
  refine (HI0.out _).mono ?_
  rintro e w0 ⟨rfl, rfl⟩
  go_wp2_with fail
  refine (HI1.out _).mono ?_
  rintro e w1 ⟨rfl, rfl⟩
  go_wp2_with fail
  refine (HI2.out _).mono ?_
  rintro e w2 ⟨rfl, rfl⟩
  go_wp2_with fail
  refine (HI3.out _).mono ?_
  rintro e w3 ⟨rfl, rfl⟩
  go_wp2_with fail
  refine (HI4.out _).mono ?_
  rintro e w4 ⟨rfl, rfl⟩
  go_wp2
  go_ret
  exact ⟨rfl, B0⟩
 by_cases h5 : 0 ≤ a
 case neg =>
  have HI0 := hide (fun W => rin12_any x W)
  rw [decide_eq_true h0] at HI0
  have HI1 := hide (fun W => rin12_any y W)
  rw [decide_eq_true h1] at HI1
  have HI2 := hide (fun W => rin12_any a W)
  rw [decide_eq_true h2] at HI2
  have HI3 := hide (fun W => rin12_any b W)
  rw [decide_eq_true h3] at HI3
  have HI4 := hide (fun W => rin12_any c W)
  rw [decide_eq_true h4] at HI4
  rw [decide_eq_false (show ¬ MayN x y a b c from fun q => h5 q.2.2.2.2.2.1)]
  have d5 : decide (a ≥ 0) = false := decide_eq_false h5
  clear h0 h1 h2 h3 h4
  go_enter Tryz.func28, Tryz.ntmps28
  go_wp2_with (first | (rw [← HW.out]) | fail)
  refine (HI0.out _).mono ?_
  rintro e w0 ⟨rfl, rfl⟩
  go_wp2_with fail
  refine (HI1.out _).mono ?_
  rintro e w1 ⟨rfl, rfl⟩
  go_wp2_with fail
  refine (HI2.out _).mono ?_
  rintro e w2 ⟨rfl, rfl⟩
  go_wp2_with fail
  refine (HI3.out _).mono ?_
  rintro e w3 ⟨rfl, rfl⟩
  go_wp2_with fail
  refine (HI4.out _).mono ?_
  rintro e w4 ⟨rfl, rfl⟩
  go_wp2
  go_ret
  exact ⟨rfl, B0⟩
 by_cases h6 : 0 ≤ b
 ·have HI0 := hide (fun W => rin12_any x W)
  rw [decide_eq_true h0] at HI0
  have HI1 := hide (fun W => rin12_any y W)
  rw [decide_eq_true h1] at HI1
  have HI2 := hide (fun W => rin12_any a W)
  rw [decide_eq_true h2] at HI2
  have HI3 := hide (fun W => rin12_any b W)
  rw [decide_eq_true h3] at HI3
  have HI4 := hide (fun W => rin12_any c W)
  rw [decide_eq_true h4] at HI4
  rw [decide_eq_true (show MayN x y a b c from ⟨h0, h1, h2, h3, h4, h5, h6⟩)]
  have d5 : decide (a ≥ 0) = true := decide_eq_true h5
  have d6 : decide (b ≥ 0) = true := decide_eq_true h6
  clear h0 h1 h2 h3 h4
  go_enter Tryz.func28, Tryz.ntmps28
  go_wp2_with (first | (rw [← HW.out]) | fail)
  refine (HI0.out _).mono ?_
  rintro e w0 ⟨rfl, rfl⟩
  go_wp2_with fail
  refine (HI1.out _).mono ?_
  rintro e w1 ⟨rfl, rfl⟩
  go_wp2_with fail
  refine (HI2.out _).mono ?_
  rintro e w2 ⟨rfl, rfl⟩
  go_wp2_with fail
  refine (HI3.out _).mono ?_
  rintro e w3 ⟨rfl, rfl⟩
  go_wp2_with fail
  refine (HI4.out _).mono ?_
  rintro e w4 ⟨rfl, rfl⟩
  go_wp2
  go_ret
  exact ⟨rfl, B0⟩
 ·have HI0 := hide (fun W => rin12_any x W)
  rw [decide_eq_true h0] at HI0
  have HI1 := hide (fun W => rin12_any y W)
  rw [decide_eq_true h1] at HI1
  have HI2 := hide (fun W => rin12_any a W)
  rw [decide_eq_true h2] at HI2
  have HI3 := hide (fun W => rin12_any b W)
  rw [decide_eq_true h3] at HI3
  have HI4 := hide (fun W => rin12_any c W)
  rw [decide_eq_true h4] at HI4
  rw [decide_eq_false (show ¬ MayN x y a b c from fun q => h6 q.2.2.2.2.2.2)]
  have d5 : decide (a ≥ 0) = true := decide_eq_true h5
  have d6 : decide (b ≥ 0) = false := decide_eq_false h6
  clear h0 h1 h2 h3 h4
  go_enter Tryz.func28, Tryz.ntmps28
  go_wp2_with (first | (rw [← HW.out]) | fail)
  refine (HI0.out _).mono ?_
  rintro e w0 ⟨rfl, rfl⟩
  go_wp2_with fail
  refine (HI1.out _).mono ?_
  rintro e w1 ⟨rfl, rfl⟩
  go_wp2_with fail
  refine (HI2.out _).mono ?_
  rintro e w2 ⟨rfl, rfl⟩
  go_wp2_with fail
  refine (HI3.out _).mono ?_
  rintro e w3 ⟨rfl, rfl⟩
  go_wp2_with fail
  refine (HI4.out _).mono ?_
  rintro e w4 ⟨rfl, rfl⟩
  go_wp2
  go_ret
  exact ⟨rfl, B0⟩
set_option maxRecDepth 10000 in
set_option maxHeartbeats 1000000 in
theorem radd13_no (a b : Int) (w : World) (a0 : -9223372036854775808 ≤ a) (a1 : a ≤ 9223372036854775807) (b0 : -9223372036854775808 ≤ b) (b1 : b ≤ 9223372036854775807) :
    Calls Tryz.prog 29 #[.int .i64 a, .int .i64 b, .bool false] w fun e w' => e = .returned (.tuple #[.int .i64 (Qn.clamp (a + b)), .bool (Qn.great (a + b))]) ∧ Below w.heap.size w w' := by
  have HA := hide (fun W => of_any a W a0 a1)
  have HB := hide (fun W => of_any b W b0 b1)
  have HS := hide (fun va vb W => add_any va vb a b W (digs_short (by omega) (by omega)) (digs_short (by omega) (by omega)))
  have HC := hide (fun v W => bound_is v (a + b) W (digs_short (by omega) (by omega)))
  obtain ⟨y, hy⟩ : ∃ y, y = Qn.clamp (a + b) := ⟨_, rfl⟩
  obtain ⟨q, hq⟩ : ∃ q, q = Qn.great (a + b) := ⟨_, rfl⟩
  rw [← hy, ← hq] at HC ⊢
  clear hy hq a0 a1 b0 b1
  go_enter Tryz.func29, Tryz.ntmps29
  go_wp2_with fail
  refine (HA.out _).mono ?_
  rintro e w1 ⟨v1, rfl, i1, k1⟩
  go_wp2_with fail
  refine (HB.out _).mono ?_
  rintro e w2 ⟨v2, rfl, i2, k2⟩
  have i1' := i1.below k2
  go_wp2_with fail
  refine (HS.out _ _ _ i1' i2).mono ?_
  rintro e w3 ⟨v3, rfl, i3, k3⟩
  go_wp2_with fail
  refine (HC.out _ _ i3).mono ?_
  rintro e w4 ⟨rfl, k4⟩
  go_wp2
  go_ret2
  exact ⟨rfl, below_tr (below_tr (below_tr k1 k2) k3) k4⟩
set_option maxRecDepth 10000 in
set_option maxHeartbeats 1000000 in
theorem radd13_yes (a b : Int) (w : World) (a0 : -9223372036854775808 ≤ a) (a1 : a ≤ 9223372036854775807) (b0 : -9223372036854775808 ≤ b) (b1 : b ≤ 9223372036854775807) :
    Calls Tryz.prog 29 #[.int .i64 a, .int .i64 b, .bool true] w fun e w' => e = .returned (.tuple #[.int .i64 (Qn.clamp (a - b)), .bool (Qn.great (a - b))]) ∧ Below w.heap.size w w' := by
  have HA := hide (fun W => of_any a W a0 a1)
  have HB := hide (fun W => of_any b W b0 b1)
  have HS := hide (fun va vb W => sub_any va vb a b W (digs_short (by omega) (by omega)) (digs_short (by omega) (by omega)))
  have HC := hide (fun v W => bound_is v (a - b) W (digs_short (by omega) (by omega)))
  obtain ⟨y, hy⟩ : ∃ y, y = Qn.clamp (a - b) := ⟨_, rfl⟩
  obtain ⟨q, hq⟩ : ∃ q, q = Qn.great (a - b) := ⟨_, rfl⟩
  rw [← hy, ← hq] at HC ⊢
  clear hy hq a0 a1 b0 b1
  go_enter Tryz.func29, Tryz.ntmps29
  go_wp2_with fail
  refine (HA.out _).mono ?_
  rintro e w1 ⟨v1, rfl, i1, k1⟩
  go_wp2_with fail
  refine (HB.out _).mono ?_
  rintro e w2 ⟨v2, rfl, i2, k2⟩
  have i1' := i1.below k2
  go_wp2_with fail
  refine (HS.out _ _ _ i1' i2).mono ?_
  rintro e w3 ⟨v3, rfl, i3, k3⟩
  go_wp2_with fail
  refine (HC.out _ _ i3).mono ?_
  rintro e w4 ⟨rfl, k4⟩
  go_wp2
  go_ret2
  exact ⟨rfl, below_tr (below_tr (below_tr k1 k2) k3) k4⟩
end Go.Proofs.YtdgcnaijndocnaaGreatDoor
namespace Go.Proofs.YtdgcnaijndocnaaGreatDoor
open Go.RowKit Vc Mt St Qn Dt Ld
namespace Ld
theorem elS : Vg.El 23 22 24 := ⟨Tryz.underlying23, ⟨_, infoSl, rfl⟩⟩
theorem elI : Vg.El 22 2 8 := ⟨Tryz.underlying22, ⟨_, infoI64, rfl⟩⟩
theorem but_grown {P : Nat → Prop} {w w' : World} {row : Option Nat} (g : w.grownBy w' row) (h : ∀ b, row = some b → P b) : But P w w' :=
  ⟨g.os, g.tape, g.output, g.size, fun k hk hp => g.block k hk (fun e => hp (h k e.symm))⟩
structure FTwo (B : Nat) (w0 w : World) (o : Nat) (vL vD : Value) (i n : Nat) (L : Nat → Nat → Int) (d : Nat → Int) : Prop where
  two : ∃ S, Vg.Two B w0 w 22 vL i (svals i S) 2 vD i (vals i d) ∧ ∀ k, k < i → ∃ a c, S k = .slice a n c ∧ Sl w a n c (L k) ∧ ∀ x, a = some x → vL.ownBlock ≠ some x.block ∧ vD.ownBlock ≠ some x.block ∧ o ≤ x.block
  gl : ∀ q, vL.ownBlock = some q → o ≤ q
  gd : ∀ q, vD.ownBlock = some q → o ≤ q
  le : o ≤ w.heap.size
theorem FTwo.nil {B : Nat} {w0 w : World} {o n : Nat} (h : Below B w0 w) (hB : B ≤ w.heap.size) (ho : o ≤ w.heap.size) (L : Nat → Nat → Int) (d : Nat → Int) : FTwo B w0 w o (.slice none 0 0) (.slice none 0 0) 0 n L d :=
  ⟨⟨fun _ => undef, Vg.Two.nil h hB _ _, fun k hk => by omega⟩, fun q e => (by cases e), fun q e => (by cases e), ho⟩
theorem FTwo.keep {B : Nat} {w0 w w' : World} {o i n : Nat} {vL vD : Value} {L : Nat → Nat → Int} {d : Nat → Int} (h : FTwo B w0 w o vL vD i n L d) (b : Below w.heap.size w w') : FTwo B w0 w' o vL vD i n L d := by
  obtain ⟨S, h1, h2⟩ := h.two
  refine ⟨⟨S, h1.keep b, fun k hk => ?_⟩, h.gl, h.gd, Nat.le_trans h.le b.size⟩
  obtain ⟨a, c, e1, e2, e3⟩ := h2 k hk
  exact ⟨a, c, e1, e2.keep b, e3⟩
theorem FTwo.below {B : Nat} {w0 w : World} {o i n : Nat} {vL vD : Value} {L : Nat → Nat → Int} {d : Nat → Int} (h : FTwo B w0 w o vL vD i n L d) : Below B w0 w := by obtain ⟨S, h1, _⟩ := h.two; exact h1.below
theorem rowBut {P : Nat → Prop} {a b : World} {B : Nat} {t : TypeId} {s : Nat} {v : Value} {n : Nat} {xs : List Value} (h : a.ownsRow B t s v n xs) (k : But P a b) (hx : ∀ g, v.ownBlock = some g → ¬ P g) : b.ownsRow B t s v n xs := by
  obtain ⟨h1, h2⟩ := h
  refine ⟨h1, ?_⟩
  rcases h2 with h2 | ⟨g, cap, cur, rfl, hb, hg, hn, hc, hs, ht⟩
  · exact Or.inl h2
  · refine Or.inr ⟨g, cap, cur, rfl, hb, ?_, hn, hc, hs, ht⟩
    have hlt : g < a.heap.size := by
      rcases Nat.lt_or_ge g a.heap.size with q | q
      · exact q
      · rw [Array.getElem?_eq_none q] at hg; cases hg
    exact (k.block g hlt (hx g rfl)).trans hg
theorem FTwo.put {B : Nat} {w0 w w' : World} {o i n g : Nat} {vL vD : Value} {L : Nat → Nat → Int} {d : Nat → Int} (h : FTwo B w0 w o vL vD i n L d) (hg : g < o) (hB : B ≤ g) (b : But (· = g) w w') : FTwo B w0 w' o vL vD i n L d := by
  obtain ⟨S, h1, h2⟩ := h.two
  refine ⟨⟨S, ⟨rowBut h1.x b (fun q e e2 => by have := h.gl q e; omega), rowBut h1.y b (fun q e e2 => by have := h.gd q e; omega), h1.apart, b.below h1.below h1.base (fun k hk => by rw [hk]; exact hB), Nat.le_trans h1.base b.size⟩, fun k hk => ?_⟩, h.gl, h.gd, Nat.le_trans h.le b.size⟩
  obtain ⟨a, c, e1, e2, e3⟩ := h2 k hk
  exact ⟨a, c, e1, slBut e2 b (fun x hx => by have := (e3 x hx).2.2; omega), e3⟩
theorem ftwo_push {B : Nat} {w0 wo w2 : World} {o i n : Nat} {vL vD v1 v2 : Value} {L : Nat → Nat → Int} {d : Nat → Int} {S : Nat → Value} (hrows : ∀ k, k < i → ∃ a c, S k = .slice a n c ∧ Sl wo a n c (L k) ∧ ∀ x, a = some x → vL.ownBlock ≠ some x.block ∧ vD.ownBlock ≠ some x.block ∧ o ≤ x.block)
  (b : But (fun q => vL.ownBlock = some q ∨ vD.ownBlock = some q) wo w2) {ra : Option Addr} {rc : Nat} (t2 : Vg.Two B w0 w2 22 v1 (i + 1) (svals i S ++ [.slice ra n rc]) 2 v2 (i + 1) (vals i d ++ [.int .i64 (d i)]))
  (n1 : ∀ q, q < wo.heap.size → vL.ownBlock ≠ some q → v1.ownBlock ≠ some q) (n2 : ∀ q, q < wo.heap.size → vD.ownBlock ≠ some q → v2.ownBlock ≠ some q) (hn : 0 < n) (hr : Sl wo ra n rc (L i)) (hra : ∀ x, ra = some x → vL.ownBlock ≠ some x.block ∧ vD.ownBlock ≠ some x.block ∧ o ≤ x.block)
  (ho : o ≤ wo.heap.size) (gl : ∀ q, vL.ownBlock = some q → o ≤ q) (gd : ∀ q, vD.ownBlock = some q → o ≤ q) : FTwo B w0 w2 o v1 v2 (i + 1) n L d := by
 rw [svals_push, vals_push] at t2
 have key : ∀ {a : Option Addr} {c : Nat} {z : Nat → Int}, Sl wo a n c z → (∀ x, a = some x → vL.ownBlock ≠ some x.block ∧ vD.ownBlock ≠ some x.block ∧ o ≤ x.block) → Sl w2 a n c z ∧ ∀ x, a = some x → v1.ownBlock ≠ some x.block ∧ v2.ownBlock ≠ some x.block ∧ o ≤ x.block := by
  intro a c z hs hx
  refine ⟨slBut hs b (fun x e => by have := hx x e; rintro (q | q); exact this.1 q; exact this.2.1 q), fun x e => ?_⟩
  obtain ⟨y, hy, hc⟩ := hs.at' 0 hn
  rw [e] at hy
  cases hy
  have hlt := World.block_lt_of_cell? wo _ hc
  rw [addr_block] at hlt
  exact ⟨n1 _ hlt (hx x e).1, n2 _ hlt (hx x e).2.1, (hx x e).2.2⟩
 have up : ∀ {v v' : Value}, (∀ q, v.ownBlock = some q → o ≤ q) → (∀ q, q < wo.heap.size → v.ownBlock ≠ some q → v'.ownBlock ≠ some q) → ∀ q, v'.ownBlock = some q → o ≤ q := fun h1 h2 q e => by
  rcases Nat.lt_or_ge q o with c | c
  ·exact absurd e (h2 q (by omega) (fun e2 => by have := h1 q e2; omega))
  ·exact c
 refine ⟨⟨_, t2, fun k hk => ?_⟩, up gl n1, up gd n2, Nat.le_trans ho b.size⟩
 by_cases hki : k < i
 ·obtain ⟨a, c, e1, e2, e3⟩ := hrows k hki
  obtain ⟨e4, e5⟩ := key e2 e3
  exact ⟨a, c, by simp only [if_pos hki]; exact e1, e4, e5⟩
 ·obtain rfl : k = i := by omega
  obtain ⟨e4, e5⟩ := key hr hra
  exact ⟨ra, rc, by simp only [if_neg hki], e4, e5⟩
theorem FTwo.grid {B : Nat} {w0 w : World} {o i n : Nat} {vL vD : Value} {L : Nat → Nat → Int} {d : Nat → Int} (h : FTwo B w0 w o vL vD i n L d) : ∃ lo cl do' cd, vL = .slice lo i cl ∧ vD = .slice do' i cd ∧ Grid w lo i cl n L ∧ Sl w do' i cd d := by
  obtain ⟨S, h1, h2⟩ := h.two
  have hL : Lst B w0 w vL i n L := ⟨⟨S, h1.x, fun k hk => by obtain ⟨a, c, e1, e2, e3⟩ := h2 k hk; exact ⟨a, c, e1, e2, fun x hx => (e3 x hx).1⟩⟩, h1.below, h1.base⟩
  have hD : Own B w0 w vD i d := ⟨h1.y, h1.below, h1.base⟩
  obtain ⟨lo, cl, rfl, hg⟩ := hL.grid
  obtain ⟨do', cd, rfl, hs⟩ := hD.sl
  exact ⟨lo, cl, do', cd, rfl, rfl, hg, hs⟩
theorem FTwo.apart {B : Nat} {w0 w : World} {o i n : Nat} {vL vD : Value} {L : Nat → Nat → Int} {d : Nat → Int} (h : FTwo B w0 w o vL vD i n L d) {ra : Option Addr} (hf : Fresh w.heap.size ra) : ∀ x, ra = some x → vL.ownBlock ≠ some x.block ∧ vD.ownBlock ≠ some x.block ∧ o ≤ x.block := by
  intro x hx
  have h3 := hf x hx
  have h4 := h.le
  obtain ⟨S, h1, _⟩ := h.two
  exact ⟨fun e => by have := (h1.x.lt _ e).2; omega, fun e => by have := (h1.y.lt _ e).2; omega, by omega⟩
theorem own_form {w : World} {B : Nat} {t : TypeId} {s : Nat} {v : Value} {n : Nat} {xs : List Value} (h : w.ownsRow B t s v n xs) : ∃ ao c, v = .slice ao n c := by
  obtain ⟨_, h2⟩ := h
  rcases h2 with ⟨rfl, rfl⟩ | ⟨g, cap, cur, rfl, _⟩
  · exact ⟨_, _, rfl⟩
  · exact ⟨_, _, rfl⟩
theorem but_row (w : World) (g : Nat) (cs : Array Value) : But (· = g) w (w.setRow g cs) := ⟨rfl, rfl, rfl, by simp, fun k hk hn => setRow_other w g k cs hn⟩
theorem zeroG : (#[.slice none 0 0, .slice none 0 0] : Array Value) = ([.slice none 0 0, .slice none 0 0] : List Value).toArray := rfl
end Ld
end Go.Proofs.YtdgcnaijndocnaaGreatDoor
namespace Go.Proofs.YtdgcnaijndocnaaGreatDoor
open Go.RowKit Vc St Mt Cm Ld Pd Pr Qn Dt
attribute [local go_sem ↓] Go.wp_at_zero Go.wp_at_succ
namespace Pd
theorem mrowBut {P : Nat → Prop} {a b : World} {g : Nat} {r c : Int} {z : Nat → Int} (h : MRow a g r c z) (k : But P a b) (hx : ¬ P g) : MRow b g r c z := by
  unfold MRow; rw [k.block g h.lt hx]; exact h
end Pd
end Go.Proofs.YtdgcnaijndocnaaGreatDoor
namespace Go.Proofs.YtdgcnaijndocnaaGreatDoor
open Go.RowKit Vc St Mt Pr Qn Ud
attribute [local go_sem ↓] Go.wp_at_zero Go.wp_at_succ
namespace Up
theorem isSn : Is 45 5 := ⟨by kernel_rfl, ⟨_, Tryz.underlying45, rfl⟩⟩
theorem is2 : Is 29 2 := ⟨by kernel_rfl, ⟨_, Tryz.underlying29, rfl⟩⟩
abbrev URow (w : World) (s : Nat) (o : Bool) : Prop := CRow w s 72 [.bool o]
theorem URow.o {w : World} {s : Nat} {o : Bool} (h : URow w s o) : w.cell? ⟨s, 0, none⟩ = some (.bool o) := h.cell (k := 0) rfl rfl
theorem URow.set {w : World} {s : Nat} {o : Bool} (h : URow w s o) (v : Bool) : URow (w.setCell ⟨s, 0, none⟩ (.bool v)) s v := CRow.set h 0 (.bool v)
abbrev atF (g : Nat) : Value := .func (.func 121) #[] #[.pointer (some ⟨g, 0, none⟩)]
theorem g2_mz (a b c : Int) : mz 2 2 (fun i => if i = 0 then v2 a b else v2 b c) = mz 2 2 (g2 a b c) := by
  funext k; exact mz_congr (fun i j hi hj => g2_rows a b c i j hi hj) k
end Up
open Up
set_option maxHeartbeats 400000 in
theorem ubounded_any (t : Bool) (ao : Option Addr) (n ca : Nat) (z : Nat → Int) (w : World) (h : Sl w ao n ca z) (ht : t = true ↔ ∀ k, k < n → InV (z k)) :
  Calls Tryz.prog 54 #[.slice ao n ca] w fun e w' => e = .returned (.bool t) ∧ w' = w := by
 have HN : Hid (∀ k, k < n → ¬ InV (z k) → t = false) := fun k hk q => by
  cases t with
  | false => rfl
  | true => exact absurd (ht.1 rfl k hk) q
 have HY : Hid ((∀ k, k < n → InV (z k)) → t = true) := fun q => ht.2 q
 obtain ⟨x, hx, hc⟩ := h.get
 have l1 := h.le
 have l2 := h.cap
 have HX := Ud.hide hx
 have HC := Ud.hide hc
 clear h hx hc ht
 go_enter Tryz.func54, Tryz.ntmps54
 go_wp2
 go_loopw [9] (fun i wr => ∃ k : Nat, k ≤ n ∧ i = .int .i64 (k : Int) ∧ wr = w ∧ Hid (∀ q, q < k → InV (z q))) (fun i _ => n - (intOf i).toNat)
 case atStart => exact ⟨0, by omega, rfl, rfl, fun q hq => by omega⟩
 case round =>
  obtain ⟨k, hk, rfl, rfl, hok⟩ := hrel
  by_cases h : k < n
  ·obtain rfl := HX.out (by omega)
   have cc := HC.out k h
   obtain ⟨v, hv⟩ : ∃ v, v = z k := ⟨_, rfl⟩
   rw [← hv] at cc
   have HV := Ud.hide hv
   clear hv
   have HG : Hid (great v = false ↔ InV v) := great_iff
   have HK := Ud.hide (clamp_any v wr)
   obtain ⟨c, hc⟩ : ∃ c, c = clamp v := ⟨_, rfl⟩
   obtain ⟨g, hg⟩ : ∃ g, g = great v := ⟨_, rfl⟩
   rw [← hc, ← hg] at HK
   rw [← hg] at HG
   clear hc hg
   go_wp2_with fail
   refine HK.out.mono ?_
   rintro e w1 ⟨rfl, rfl⟩
   cases g with
   | true =>
    go_wp2
    go_ret
    exact ⟨by rw [HN.out k h (fun q => by rw [← HV.out] at q; cases HG.out.2 q)]; rfl, rfl⟩
   | false =>
    go_wp2
    go_roundw
    case rel => exact ⟨k + 1, by omega, by go_num, trivial, fun q hq => by
      rcases Nat.lt_or_ge q k with c | c
      ·exact hok.out q c
      ·obtain rfl : q = k := by omega
       rw [← HV.out]; exact HG.out.1 (by first | rfl | trivial)⟩
    case measure => simp [intOf]; omega
  ·obtain rfl : k = n := by omega
   go_wp2
   go_ret
   exact ⟨by rw [HY.out hok.out]; rfl, rfl⟩
namespace Up
def five (x y a b c : Int) : Nat → Int
  | 0 => x
  | 1 => y
  | 2 => a
  | 3 => b
  | _ => c
theorem arr_five (x y a b c : Int) : #[.int .i64 x, .int .i64 y, .int .i64 a, .int .i64 b, .int .i64 c] = (vals 5 (five x y a b c)).toArray := rfl
theorem five_in (x y a b c : Int) : (∀ k, k < 5 → InV (five x y a b c k)) ↔ InV x ∧ InV y ∧ InV a ∧ InV b ∧ InV c :=
  ⟨fun h => ⟨h 0 (by omega), h 1 (by omega), h 2 (by omega), h 3 (by omega), h 4 (by omega)⟩, fun h k hk => by
    match k, hk with
    | 0, _ => exact h.1
    | 1, _ => exact h.2.1
    | 2, _ => exact h.2.2.1
    | 3, _ => exact h.2.2.2.1
    | 4, _ => exact h.2.2.2.2⟩
end Up
set_option maxRecDepth 10000 in
set_option maxHeartbeats 1000000 in
theorem uplace_any (x y a b c : Int) (w : World) :
  Calls Tryz.prog 18 #[.agg (pv x y a b c).toArray] w fun e w' => e = .returned (.bool (decide (MayN x y a b c))) ∧ Below w.heap.size w w' := by
 have m0 := crow_new w 45 (pv x y a b c)
 have B0 := below_al (Below.refl _ w) (.cells (pv x y a b c).toArray 45)
 obtain ⟨W, hW⟩ : ∃ W, W = w.alloc (.cells (pv x y a b c).toArray 45) := ⟨_, rfl⟩
 rw [← hW] at m0 B0
 have HW := Ud.hide hW
 have c0 : W.cell? ⟨w.heap.size, 0, none⟩ = some (.int .i64 x) := CRow.cell m0 (k := 0) rfl rfl
 have c1 : W.cell? ⟨w.heap.size, 1, none⟩ = some (.int .i64 y) := CRow.cell m0 (k := 1) rfl rfl
 have c2 : W.cell? ⟨w.heap.size, 2, none⟩ = some (.int .i64 a) := CRow.cell m0 (k := 2) rfl rfl
 have c3 : W.cell? ⟨w.heap.size, 3, none⟩ = some (.int .i64 b) := CRow.cell m0 (k := 3) rfl rfl
 have c4 : W.cell? ⟨w.heap.size, 4, none⟩ = some (.int .i64 c) := CRow.cell m0 (k := 4) rfl rfl
 have q2 := crow_new W 2 (vals 5 (five x y a b c))
 have k2 := below_al (Below.refl _ W) (.cells (vals 5 (five x y a b c)).toArray 2)
 have s2 : Sl (W.alloc (.cells (vals 5 (five x y a b c)).toArray 2)) (some ⟨W.heap.size, 0, none⟩) 5 5 (five x y a b c) := crow_sl q2 (by omega)
 have B2 := below_tr B0 k2
 have m2 := CRow.keep m0 k2
 have e2 : (W.alloc (.cells (vals 5 (five x y a b c)).toArray 2)).cell? ⟨w.heap.size, 2, none⟩ = some (.int .i64 a) := CRow.cell m2 (k := 2) rfl rfl
 have e3 : (W.alloc (.cells (vals 5 (five x y a b c)).toArray 2)).cell? ⟨w.heap.size, 3, none⟩ = some (.int .i64 b) := CRow.cell m2 (k := 3) rfl rfl
 obtain ⟨V, hV⟩ : ∃ V, V = W.alloc (.cells (vals 5 (five x y a b c)).toArray 2) := ⟨_, rfl⟩
 rw [← hV] at s2 B2 e2 e3
 have HV := Ud.hide hV
 obtain ⟨g, hg⟩ : ∃ g, g = W.heap.size := ⟨_, rfl⟩
 rw [← hg] at s2
 have HGz := Ud.hide hg
 by_cases hI : InV x ∧ InV y ∧ InV a ∧ InV b ∧ InV c
 ·have HB := Ud.hide (ubounded_any true (some ⟨g, 0, none⟩) 5 5 _ V s2 ⟨fun _ => (five_in x y a b c).2 hI, fun _ => rfl⟩)
  by_cases ha : 0 ≤ a
  ·by_cases hb : 0 ≤ b
   ·rw [decide_eq_true (show MayN x y a b c from ⟨hI.1, hI.2.1, hI.2.2.1, hI.2.2.2.1, hI.2.2.2.2, ha, hb⟩)]
    clear hW hV hg m0 q2 k2 m2 hI
    go_enter Tryz.func18, Tryz.ntmps18
    go_wp2_with (first | (rw [← HW.out]) | fail)
    rw [arr_five x y a b c, ← HV.out, ← HGz.out]
    refine HB.out.mono ?_
    rintro e w1 ⟨rfl, rfl⟩
    go_wp2
    go_ret
    exact ⟨rfl, B2⟩
   ·rw [decide_eq_false (show ¬ MayN x y a b c from fun q => hb q.2.2.2.2.2.2)]
    have hb' : decide (0 ≤ b) = false := decide_eq_false hb
    clear hW hV hg m0 q2 k2 m2 hI
    go_enter Tryz.func18, Tryz.ntmps18
    go_wp2_with (first | (rw [← HW.out]) | fail)
    rw [arr_five x y a b c, ← HV.out, ← HGz.out]
    refine HB.out.mono ?_
    rintro e w1 ⟨rfl, rfl⟩
    go_wp2
    go_ret
    exact ⟨rfl, B2⟩
  ·rw [decide_eq_false (show ¬ MayN x y a b c from fun q => ha q.2.2.2.2.2.1)]
   have ha' : decide (0 ≤ a) = false := decide_eq_false ha
   clear hW hV hg m0 q2 k2 m2 hI
   go_enter Tryz.func18, Tryz.ntmps18
   go_wp2_with (first | (rw [← HW.out]) | fail)
   rw [arr_five x y a b c, ← HV.out, ← HGz.out]
   refine HB.out.mono ?_
   rintro e w1 ⟨rfl, rfl⟩
   go_wp2
   go_ret
   exact ⟨rfl, B2⟩
 ·have HB := Ud.hide (ubounded_any false (some ⟨g, 0, none⟩) 5 5 _ V s2 ⟨fun q => (by cases q), fun q => absurd ((five_in x y a b c).1 q) hI⟩)
  rw [decide_eq_false (show ¬ MayN x y a b c from fun q => hI ⟨q.1, q.2.1, q.2.2.1, q.2.2.2.1, q.2.2.2.2.1⟩)]
  clear hW hV hg m0 q2 k2 m2 hI
  go_enter Tryz.func18, Tryz.ntmps18
  go_wp2_with (first | (rw [← HW.out]) | fail)
  rw [arr_five x y a b c, ← HV.out, ← HGz.out]
  refine HB.out.mono ?_
  rintro e w1 ⟨rfl, rfl⟩
  go_wp2
  go_ret
  exact ⟨rfl, B2⟩
set_option maxRecDepth 10000 in
set_option maxHeartbeats 1000000 in
theorem uat1_any (g n m i j : Nat) (F : Nat → Nat → Int) (w : World) (h : MRow w g n m (mz n m F)) (h1 : 1 ≤ n) (h2 : n ≤ 6) (h3 : 1 ≤ m) (h4 : m ≤ 6) (hi : i < n) (hj : j < m) :
    Calls Tryz.prog 121 #[.int .i64 (i : Int), .int .i64 (j : Int), .pointer (some ⟨g, 0, none⟩)] w fun e w' => e = .returned (.int .i64 (F i j)) ∧ Below w.heap.size w w' := by
  have HA := Ud.hide (fun W => mat_any n m i j F W h1 h2 h3 h4 hi hj)
  obtain ⟨z, hz⟩ : ∃ z, z = mz n m F := ⟨_, rfl⟩
  rw [← hz] at h HA
  clear hz
  go_enter Tryz.func121, Tryz.ntmps121
  go_wp2_with (first
    | (refine Hk.loadM _ (by with_reducible rfl) _ _ _ _ (by rfl) (by with_reducible exact h) (by kernel_rfl) ?_)
    | fail)
  refine (HA.out _).mono ?_
  rintro e w1 ⟨rfl, k1⟩
  go_wp2
  go_ret
  exact ⟨rfl, k1⟩
set_option maxRecDepth 10000 in
set_option maxHeartbeats 1000000 in
theorem uat_any (r c : Int) (z : Nat → Int) (w : World) :
    Calls Tryz.prog 58 #[.agg (mvals r c z).toArray] w fun e w' => e = .returned (atF w.heap.size) ∧ MRow w' w.heap.size r c z ∧ Below w.heap.size w w' := by
  have r0 := mrow_new w r c z
  have B0 := below_al (Below.refl _ w) (.cells (mvals r c z).toArray 41)
  obtain ⟨W, hW⟩ : ∃ W, W = w.alloc (.cells (mvals r c z).toArray 41) := ⟨_, rfl⟩
  rw [← hW] at r0 B0
  have HW := Ud.hide hW
  clear hW
  go_enter Tryz.func58, Tryz.ntmps58
  go_wp2_with (first | (rw [← HW.out]) | fail)
  go_ret
  exact ⟨rfl, r0, B0⟩
set_option maxRecDepth 10000 in
set_option maxHeartbeats 1000000 in
theorem uevenPair_any (a b c : Int) (w : World) :
  Calls Tryz.prog 59 #[.int .i64 a, .int .i64 b, .int .i64 c] w fun e w' => e = .returned (.agg (mvals 2 2 (mz 2 2 (g2 a b c))).toArray) ∧ Below w.heap.size w w' := by
 have HO := Ud.hide (fun lo W (h : Grid W lo 2 2 2 (fun i => if i = 0 then v2 a b else v2 b c)) => show Calls Tryz.prog 61 #[.slice lo 2 2] W fun e w' => e = .returned (.tuple #[.agg (mvals 2 2 (mz 2 2 (g2 a b c))).toArray, .nilIface]) ∧ Below W.heap.size W w' by
  obtain ⟨A, C, h1, h2⟩ := h
  have e := mof_any 2 2 lo 2 A C _ W (by omega) (by omega) (by omega) (by omega) h1 h2
  rw [g2_mz] at e
  exact e)
 obtain ⟨z, hz⟩ : ∃ z, z = mz 2 2 (g2 a b c) := ⟨_, rfl⟩
 rw [← hz] at HO
 rw [← hz]
 clear hz
 have r0 := mrow_new w 0 0 (fun _ => 0)
 have B0 := below_al (Below.refl _ w) (.cells (mvals 0 0 (fun _ => 0)).toArray 41)
 obtain ⟨W, hW⟩ : ∃ W, W = w.alloc (.cells (mvals 0 0 (fun _ => 0)).toArray 41) := ⟨_, rfl⟩
 rw [← hW] at r0 B0
 have HW := Ud.hide hW
 have l0 := r0.lt
 clear hW
 have x0 := ((crow_new W 2 (vals 2 (v2 a b))).alloc (.cells (vals 2 (v2 b c)).toArray 2)).alloc (.cells [.slice (some ⟨W.heap.size, 0, none⟩) 2 2, .slice (some ⟨W.heap.size + 1, 0, none⟩) 2 2].toArray 22)
 have x1 := (crow_new1 W (.cells (vals 2 (v2 a b)).toArray 2) 2 (vals 2 (v2 b c))).alloc (.cells [.slice (some ⟨W.heap.size, 0, none⟩) 2 2, .slice (some ⟨W.heap.size + 1, 0, none⟩) 2 2].toArray 22)
 have x2 := crow_new2 W (.cells (vals 2 (v2 a b)).toArray 2) (.cells (vals 2 (v2 b c)).toArray 2) 22 [.slice (some ⟨W.heap.size, 0, none⟩) 2 2, .slice (some ⟨W.heap.size + 1, 0, none⟩) 2 2]
 have kV : Below W.heap.size W (((W.alloc (.cells (vals 2 (v2 a b)).toArray 2)).alloc (.cells (vals 2 (v2 b c)).toArray 2)).alloc (.cells [.slice (some ⟨W.heap.size, 0, none⟩) 2 2, .slice (some ⟨W.heap.size + 1, 0, none⟩) 2 2].toArray 22)) := below_al (below_al (below_al (Below.refl _ _) _) _) _
 obtain ⟨V, hV⟩ : ∃ V, V = ((W.alloc (.cells (vals 2 (v2 a b)).toArray 2)).alloc (.cells (vals 2 (v2 b c)).toArray 2)).alloc (.cells [.slice (some ⟨W.heap.size, 0, none⟩) 2 2, .slice (some ⟨W.heap.size + 1, 0, none⟩) 2 2].toArray 22) := ⟨_, rfl⟩
 rw [← hV] at x0 x1 x2 kV
 have HV := Ud.hide hV
 have hg := grid2 x2 x0 x1
 have r1 := r0.keep kV
 have B1 := below_tr B0 kV
 clear hV x0 x1 x2 r0 B0 kV
 go_enter Tryz.func59, Tryz.ntmps59
 go_wp2_with (first | (rw [zeroM, ← HW.out]) | fail)
 have ea : ∀ p q : Int, #[Value.int .i64 p, .int .i64 q] = (vals 2 (v2 p q)).toArray := fun p q => rfl
 rw [ea a b, ea b c]
 erw [← HV.out]
 refine (HO.out _ _ hg).mono ?_
 rintro e w1 ⟨rfl, k1⟩
 have o1 := r1.keep k1
 have B2 := below_tr B1 k1
 clear HO HW HV r1 B1
 go_wp2_with (first
  | (rw [zeroM]; refine Mt.wpList_storeNew rfl _ _ (by rfl) _ _ _ _ (by rfl) (by rfl) ?_; intro w2 n2 k2; have o2 := o1.keep k2; have B3 := below_tr B2 k2; clear o1 B2)
  | (refine Hk.loadM _ (by with_reducible rfl) _ _ _ _ (by rfl) (by with_reducible exact n2) (by kernel_rfl) ?_)
  | (refine wpList_storeM rfl _ _ (by rfl) _ _ _ _ _ _ _ (by rfl) (by rfl) (by with_reducible exact o2) ?_)
  | fail)
 exact bodyPost_ret (results_M1 Tryz.results59 _ _ w.heap.size _ _ _ rfl (o2.row _ _ _)) rfl ⟨rfl, Mt.below_row B3 (Nat.le_refl _) _⟩
end Go.Proofs.YtdgcnaijndocnaaGreatDoor
namespace Go.Proofs.YtdgcnaijndocnaaGreatDoor
open Go.RowKit Vc St Mt Pr Qn Ud Up Ld
attribute [local go_sem ↓] Go.wp_at_zero Go.wp_at_succ
set_option maxHeartbeats 400000 in
theorem unumber_any (s : Nat) (n : Int) (a o : Bool) (w : World) (h : URow w s a) :
    Calls Tryz.prog 60 #[.pointer (some ⟨s, 0, none⟩), .int .i64 n, .bool o] w fun e w' => e = .returned (.int .i64 n) ∧ URow w' s (a || o) ∧ But (· = s) w w' := by
  have c0 := URow.o h
  have f0 := CRow.free h 0
  have Bb : But (· = s) w w := But.refl _ _
  cases a with
  | true =>
    go_enter Tryz.func60, Tryz.ntmps60
    go_wp2
    go_ret
    exact ⟨rfl, URow.set h true, Bb.set (p := ⟨s, 0, none⟩) _ rfl⟩
  | false =>
    go_enter Tryz.func60, Tryz.ntmps60
    go_wp2
    go_ret
    exact ⟨rfl, URow.set h o, Bb.set (p := ⟨s, 0, none⟩) _ rfl⟩
namespace Up
theorem built2 (x y : Int) : Tryz.prog.built 29 [(0, .int .i64 x), (1, .int .i64 y)] = some (vals 2 (v2 x y)).toArray := by kernel_rfl
theorem yields2 {ops : Array Oper} {S : World → Prop} {o : Oper} {a : Act} (hw : Region.wanted o (yielded ops a.tmps) = true) (p q : Operand) (ho : o.op = .build 29 #[(0, p), (1, q)])
    (x y : Int) (hx : a.eval p = .int .i64 x) (hy : a.eval q = .int .i64 y) : YieldsIf Tryz.prog ops S o (.agg (vals 2 (v2 x y)).toArray) a :=
  .inl ⟨hw, fun w _ => by
    unfold execOp
    have em : ((#[(0, p), (1, q)] : Array (Nat × Operand)).map fun (i, x) => (i, a.eval x)).toList = [(0, .int .i64 x), (1, .int .i64 y)] := by simp [hx, hy]
    simp only [ho, Sem.run_bind, run_build w 29 _ _ (by rw [em]; exact built2 x y), Result.andThen_ok, Sem.run_pure]⟩
theorem zero2 : (#[.int .i64 0, .int .i64 0] : Array Value) = (vals 2 (fun _ => 0)).toArray := by kernel_rfl
def vo (X : Nat → Int) (x y : Int) : Bool := great (x - X 0) || great (y - X 3)
end Up
set_option maxRecDepth 10000 in
set_option maxHeartbeats 2000000 in
theorem uaway_any (s : Nat) (X : Nat → Int) (r c' : Int) (z : Nat → Int) (x y a b c : Int) (o : Bool) (w : World) (h : URow w s o) (bX : B64 X) (hx : -9223372036854775808 ≤ x ∧ x ≤ 9223372036854775807) (hy : -9223372036854775808 ≤ y ∧ y ≤ 9223372036854775807) :
  Calls Tryz.prog 21 #[.pointer (some ⟨s, 0, none⟩), .agg (Pd.svals X r c' z).toArray, .agg (pv x y a b c).toArray] w fun e w' => e = .returned (.agg (vals 2 (v2 (ox X x) (oy X y))).toArray) ∧ URow w' s (o || vo X x y) ∧ But (· = s) w w' := by
 have hs := CRow.lt h
 have H1 := Ud.hide (fun W => qsub_any x (X 0) W hx.1 hx.2 (bX 0).1 (bX 0).2)
 have H2 := Ud.hide (fun W => qsub_any y (X 3) W hy.1 hy.2 (bX 3).1 (bX 3).2)
 have t0 := ((crow_new w 43 (Pd.svals X r c' z)).alloc (.cells (pv x y a b c).toArray 45)).alloc (.cells (vals 2 (fun _ => 0)).toArray 29)
 have m0 := (crow_new1 w (.cells (Pd.svals X r c' z).toArray 43) 45 (pv x y a b c)).alloc (.cells (vals 2 (fun _ => 0)).toArray 29)
 have r0 := crow_new2 w (.cells (Pd.svals X r c' z).toArray 43) (.cells (pv x y a b c).toArray 45) 29 (vals 2 (fun _ => 0))
 have B0 : Below w.heap.size w (((w.alloc (.cells (Pd.svals X r c' z).toArray 43)).alloc (.cells (pv x y a b c).toArray 45)).alloc (.cells (vals 2 (fun _ => 0)).toArray 29)) := below_al (below_al (below_al (Below.refl _ _) _) _) _
 obtain ⟨W, hW⟩ : ∃ W, W = ((w.alloc (.cells (Pd.svals X r c' z).toArray 43)).alloc (.cells (pv x y a b c).toArray 45)).alloc (.cells (vals 2 (fun _ => 0)).toArray 29) := ⟨_, rfl⟩
 rw [← hW] at t0 m0 r0 B0
 have HW := Ud.hide hW
 have lr := CRow.lt r0
 have s0 := CRow.keep h B0
 have b0 : But (· = s) w W := but_of B0
 have HS : Hid (∀ V, But (· = s) W V → (V.cell? ⟨w.heap.size, 0, none⟩ = some (.int .i64 (X 0)) ∧ V.cell? ⟨w.heap.size, 3, none⟩ = some (.int .i64 (X 3)) ∧ V.cell? ⟨w.heap.size + 1, 0, none⟩ = some (.int .i64 x) ∧ V.cell? ⟨w.heap.size + 1, 1, none⟩ = some (.int .i64 y))) := fun V k =>
  ⟨Pd.SRow.x (crowBut t0 k (by omega)) (k := 0) (by omega) rfl, Pd.SRow.x (crowBut t0 k (by omega)) (k := 3) (by omega) rfl, CRow.cell (crowBut m0 k (by omega)) (k := 0) rfl rfl, CRow.cell (crowBut m0 k (by omega)) (k := 1) rfl rfl⟩
 have HR : Hid (∀ V, But (· = s) W V → CRow V (w.heap.size + 1 + 1) 29 (vals 2 (fun _ => 0))) := fun V k => crowBut r0 k (by omega)
 unfold vo ox oy
 obtain ⟨u0, hu0⟩ : ∃ u, u = X 0 := ⟨_, rfl⟩
 obtain ⟨u3, hu3⟩ : ∃ u, u = X 3 := ⟨_, rfl⟩
 rw [← hu0] at H1 HS ⊢
 rw [← hu3] at H2 HS ⊢
 obtain ⟨v1, hv1⟩ : ∃ v, v = clamp (x - u0) := ⟨_, rfl⟩
 obtain ⟨v2', hv2⟩ : ∃ v, v = clamp (y - u3) := ⟨_, rfl⟩
 obtain ⟨g1, hg1⟩ : ∃ v, v = great (x - u0) := ⟨_, rfl⟩
 obtain ⟨g2', hg2⟩ : ∃ v, v = great (y - u3) := ⟨_, rfl⟩
 rw [← hv1, ← hg1] at H1
 rw [← hv2, ← hg2] at H2
 rw [← hv1, ← hv2, ← hg1, ← hg2]
 clear hW h t0 m0 r0 B0 hu0 hu3 hv1 hv2 hg1 hg2 bX hx hy
 go_enter Tryz.func21, Tryz.ntmps21
 go_upto_region 1 with (first | (erw [zero2, ← HW.out]) | fail)
 try erw [zero2, ← HW.out]
 refine Ru.wp_region_U [21] (fun w' => w'.cell? ⟨w.heap.size, 0, none⟩ = some (.int .i64 u0) ∧ w'.cell? ⟨w.heap.size, 3, none⟩ = some (.int .i64 u3) ∧ w'.cell? ⟨w.heap.size + 1, 0, none⟩ = some (.int .i64 x) ∧ w'.cell? ⟨w.heap.size + 1, 1, none⟩ = some (.int .i64 y)) (by kernel_rfl) (HS.out _ ((But.refl (· = s) W).drew)) (fun hHeld => ?_)
 refine Ru.wpAnyU_take (i := 0) (v := .pointer (some ⟨s, 0, none⟩)) rfl (by kernel_rfl) (by kernel_rfl) (by kernel_rfl) (by kernel_rfl) (by kernel_rfl) (by kernel_rfl) (fun _ _ _ h => h) (Or.inl ⟨by kernel_rfl, fun w hS => by obtain ⟨sc0, sc1, sc2, sc3⟩ := hS; go_simp⟩) hHeld ?_
 simp only [Act.put, zq1, zq2, zq3, zq4, zq5, zq6]
 refine Ru.wpAnyU_take (i := 1) (v := .pointer (some ⟨w.heap.size + 1, 0, none⟩)) rfl (by kernel_rfl) (by kernel_rfl) (by kernel_rfl) (by kernel_rfl) (by kernel_rfl) (by kernel_rfl) (fun _ _ _ h => h) (Or.inl ⟨by kernel_rfl, fun w hS => by obtain ⟨sc0, sc1, sc2, sc3⟩ := hS; go_simp⟩) hHeld ?_
 simp only [Act.put, zq1, zq2, zq3, zq4, zq5, zq6]
 refine Ru.wpAnyU_take (i := 2) (v := .int .i64 x) rfl (by kernel_rfl) (by kernel_rfl) (by kernel_rfl) (by kernel_rfl) (by kernel_rfl) (by kernel_rfl) (fun _ _ _ h => h) (Or.inl ⟨by kernel_rfl, fun w hS => by obtain ⟨sc0, sc1, sc2, sc3⟩ := hS; go_simp⟩) hHeld ?_
 simp only [Act.put, zq1, zq2, zq3, zq4, zq5, zq6]
 refine Ru.wpAnyU_take (i := 3) (v := .pointer (some ⟨w.heap.size, 0, none⟩)) rfl (by kernel_rfl) (by kernel_rfl) (by kernel_rfl) (by kernel_rfl) (by kernel_rfl) (by kernel_rfl) (fun _ _ _ h => h) (Or.inl ⟨by kernel_rfl, fun w hS => by obtain ⟨sc0, sc1, sc2, sc3⟩ := hS; go_simp⟩) hHeld ?_
 simp only [Act.put, zq1, zq2, zq3, zq4, zq5, zq6]
 refine Ru.wpAnyU_take (i := 4) (v := .pointer (some ⟨w.heap.size, 0, none⟩)) rfl (by kernel_rfl) (by kernel_rfl) (by kernel_rfl) (by kernel_rfl) (by kernel_rfl) (by kernel_rfl) (fun _ _ _ h => h) (Or.inl ⟨by kernel_rfl, fun w hS => by obtain ⟨sc0, sc1, sc2, sc3⟩ := hS; go_simp⟩) hHeld ?_
 simp only [Act.put, zq1, zq2, zq3, zq4, zq5, zq6]
 refine Ru.wpAnyU_take (i := 5) (v := .int .i64 u0) rfl (by kernel_rfl) (by kernel_rfl) (by kernel_rfl) (by kernel_rfl) (by kernel_rfl) (by kernel_rfl) (fun _ _ _ h => h) (Or.inl ⟨by kernel_rfl, fun w hS => by obtain ⟨sc0, sc1, sc2, sc3⟩ := hS; go_simp⟩) hHeld ?_
 simp only [Act.put, zq1, zq2, zq3, zq4, zq5, zq6]
 refine Ru.wpAnyU_take (i := 10) (v := .pointer (some ⟨s, 0, none⟩)) rfl (by kernel_rfl) (by kernel_rfl) (by kernel_rfl) (by kernel_rfl) (by kernel_rfl) (by kernel_rfl) (fun _ _ _ h => h) (Or.inl ⟨by kernel_rfl, fun w hS => by obtain ⟨sc0, sc1, sc2, sc3⟩ := hS; go_simp⟩) hHeld ?_
 simp only [Act.put, zq1, zq2, zq3, zq4, zq5, zq6]
 refine Ru.wpAnyU_take (i := 11) (v := .pointer (some ⟨w.heap.size + 1, 1, none⟩)) rfl (by kernel_rfl) (by kernel_rfl) (by kernel_rfl) (by kernel_rfl) (by kernel_rfl) (by kernel_rfl) (fun _ _ _ h => h) (Or.inl ⟨by kernel_rfl, fun w hS => by obtain ⟨sc0, sc1, sc2, sc3⟩ := hS; go_simp⟩) hHeld ?_
 simp only [Act.put, zq1, zq2, zq3, zq4, zq5, zq6]
 refine Ru.wpAnyU_take (i := 12) (v := .int .i64 y) rfl (by kernel_rfl) (by kernel_rfl) (by kernel_rfl) (by kernel_rfl) (by kernel_rfl) (by kernel_rfl) (fun _ _ _ h => h) (Or.inl ⟨by kernel_rfl, fun w hS => by obtain ⟨sc0, sc1, sc2, sc3⟩ := hS; go_simp⟩) hHeld ?_
 simp only [Act.put, zq1, zq2, zq3, zq4, zq5, zq6]
 refine Ru.wpAnyU_take (i := 13) (v := .pointer (some ⟨w.heap.size, 0, none⟩)) rfl (by kernel_rfl) (by kernel_rfl) (by kernel_rfl) (by kernel_rfl) (by kernel_rfl) (by kernel_rfl) (fun _ _ _ h => h) (Or.inl ⟨by kernel_rfl, fun w hS => by obtain ⟨sc0, sc1, sc2, sc3⟩ := hS; go_simp⟩) hHeld ?_
 simp only [Act.put, zq1, zq2, zq3, zq4, zq5, zq6]
 refine Ru.wpAnyU_take (i := 14) (v := .pointer (some ⟨w.heap.size, 3, none⟩)) rfl (by kernel_rfl) (by kernel_rfl) (by kernel_rfl) (by kernel_rfl) (by kernel_rfl) (by kernel_rfl) (fun _ _ _ h => h) (Or.inl ⟨by kernel_rfl, fun w hS => by obtain ⟨sc0, sc1, sc2, sc3⟩ := hS; go_simp⟩) hHeld ?_
 simp only [Act.put, zq1, zq2, zq3, zq4, zq5, zq6]
 refine Ru.wpAnyU_take (i := 15) (v := .int .i64 u3) rfl (by kernel_rfl) (by kernel_rfl) (by kernel_rfl) (by kernel_rfl) (by kernel_rfl) (by kernel_rfl) (fun _ _ _ h => h) (Or.inl ⟨by kernel_rfl, fun w hS => by obtain ⟨sc0, sc1, sc2, sc3⟩ := hS; go_simp⟩) hHeld ?_
 simp only [Act.put, zq1, zq2, zq3, zq4, zq5, zq6]
 refine Ru.wpAnyU_ready (rs := [6]) (by kernel_rfl) (by simp) ?_
 refine Ru.AllReadyU.cons rfl (by kernel_rfl) (fun K hK => ?_) Ru.AllReadyU.nil
 go_simp
 refine (H1.out _).mono ?_
 rintro e v_1 ⟨rfl, k_1⟩
 have D_1 := ((But.refl (· = s) W).drew).then k_1
 have o_1 := CRow.keep (CRow.drew s0) k_1
 go_wp2_with fail
 refine hK.out _ _ (HS.out _ D_1) (fun hHeld => ?_)
 clear hK K
 try simp only [Act.put, zq1, zq2, zq3, zq4, zq5, zq6]
 refine Ru.wpAnyU_take (i := 7) (v := .int .i64 v1) rfl (by kernel_rfl) (by kernel_rfl) (by kernel_rfl) (by kernel_rfl) (by kernel_rfl) (by kernel_rfl) (fun _ _ _ h => h) (Or.inl ⟨by kernel_rfl, fun w hS => by obtain ⟨sc0, sc1, sc2, sc3⟩ := hS; go_simp⟩) hHeld ?_
 simp only [Act.put, zq1, zq2, zq3, zq4, zq5, zq6]
 refine Ru.wpAnyU_take (i := 8) (v := .bool g1) rfl (by kernel_rfl) (by kernel_rfl) (by kernel_rfl) (by kernel_rfl) (by kernel_rfl) (by kernel_rfl) (fun _ _ _ h => h) (Or.inl ⟨by kernel_rfl, fun w hS => by obtain ⟨sc0, sc1, sc2, sc3⟩ := hS; go_simp⟩) hHeld ?_
 simp only [Act.put, zq1, zq2, zq3, zq4, zq5, zq6]
 refine Ru.wpAnyU_ready (rs := [9]) (by kernel_rfl) (by simp) ?_
 refine Ru.AllReadyU.cons rfl (by kernel_rfl) (fun K hK => ?_) Ru.AllReadyU.nil
 go_simp
 refine (unumber_any s v1 _ g1 _ o_1).mono ?_
 rintro e v_2 ⟨rfl, o_2, k_2⟩
 have D_2 := D_1.trans k_2
 go_wp2_with fail
 refine hK.out _ _ (HS.out _ D_2) (fun hHeld => ?_)
 clear hK K
 try simp only [Act.put, zq1, zq2, zq3, zq4, zq5, zq6]
 refine Ru.wpAnyU_ready (rs := [16]) (by kernel_rfl) (by simp) ?_
 refine Ru.AllReadyU.cons rfl (by kernel_rfl) (fun K hK => ?_) Ru.AllReadyU.nil
 go_simp
 refine (H2.out _).mono ?_
 rintro e v_3 ⟨rfl, k_3⟩
 have D_3 := D_2.then k_3
 have o_3 := CRow.keep o_2 k_3
 go_wp2_with fail
 refine hK.out _ _ (HS.out _ D_3) (fun hHeld => ?_)
 clear hK K
 try simp only [Act.put, zq1, zq2, zq3, zq4, zq5, zq6]
 refine Ru.wpAnyU_take (i := 17) (v := .int .i64 v2') rfl (by kernel_rfl) (by kernel_rfl) (by kernel_rfl) (by kernel_rfl) (by kernel_rfl) (by kernel_rfl) (fun _ _ _ h => h) (Or.inl ⟨by kernel_rfl, fun w hS => by obtain ⟨sc0, sc1, sc2, sc3⟩ := hS; go_simp⟩) hHeld ?_
 simp only [Act.put, zq1, zq2, zq3, zq4, zq5, zq6]
 refine Ru.wpAnyU_take (i := 18) (v := .bool g2') rfl (by kernel_rfl) (by kernel_rfl) (by kernel_rfl) (by kernel_rfl) (by kernel_rfl) (by kernel_rfl) (fun _ _ _ h => h) (Or.inl ⟨by kernel_rfl, fun w hS => by obtain ⟨sc0, sc1, sc2, sc3⟩ := hS; go_simp⟩) hHeld ?_
 simp only [Act.put, zq1, zq2, zq3, zq4, zq5, zq6]
 refine Ru.wpAnyU_ready (rs := [19]) (by kernel_rfl) (by simp) ?_
 refine Ru.AllReadyU.cons rfl (by kernel_rfl) (fun K hK => ?_) Ru.AllReadyU.nil
 go_simp
 refine (unumber_any s v2' _ g2' _ o_3).mono ?_
 rintro e v_4 ⟨rfl, o_4, k_4⟩
 have D_4 := D_3.trans k_4
 go_wp2_with fail
 refine hK.out _ _ (HS.out _ D_4) (fun hHeld => ?_)
 clear hK K
 try simp only [Act.put, zq1, zq2, zq3, zq4, zq5, zq6]
 refine Ru.wpAnyU_take (i := 20) (v := .agg (vals 2 (v2 v1 v2')).toArray) rfl (by kernel_rfl) (by kernel_rfl) (by kernel_rfl) (by kernel_rfl) (by kernel_rfl) (by kernel_rfl) (fun _ _ _ h => h) (Up.yields2 (by kernel_rfl) _ _ (by rfl) v1 v2' (by rfl) (by rfl)) hHeld ?_
 simp only [Act.put, zq1, zq2, zq3, zq4, zq5, zq6]
 refine Ru.wpAnyU_ready (rs := [21]) (by kernel_rfl) (by simp) ?_
 refine Ru.AllReadyU.cons2 rfl (by kernel_rfl) (fun K hK => ?_) Ru.AllReadyU.nil
 refine Ru.stepC is2 (by kernel_rfl) _ _ (by rfl) (w.heap.size + 1 + 1) _ (vals 2 (v2 v1 v2')) (by rfl) (by rfl) (HR.out _ D_4) (vals_len _ _) (vals_len _ _) (one_vals _ _) ?_
 have rE := CRow.row (HR.out _ D_4) (vals 2 (v2 v1 v2'))
 have oE := CRow.rowOther o_4 (g := w.heap.size + 1 + 1) (by omega) (vals 2 (v2 v1 v2')).toArray
 have bE := (b0.trans D_4).rowNew (g := w.heap.size + 1 + 1) (vals 2 (v2 v1 v2')).toArray (by omega)
 refine hK.out _ _ ?_
 clear hK K
 try simp only [Act.put, zq1, zq2, zq3, zq4, zq5, zq6]
 refine wpAny_done (by kernel_rfl) ?_ _
 go_wp2_with fail
 have eO : (o || (g1 || g2')) = ((o || g1) || g2') := by cases o <;> cases g1 <;> rfl
 rw [← eO] at oE
 exact bodyPost_ret (results_1 is2 Tryz.results21 _ _ (w.heap.size + 1 + 1) _ rfl rE (vals_len _ _)) rfl ⟨rfl, oE, bE⟩
namespace Up
def mo (P : Nat → Nat → Int) (a b c : Int) : Bool := great (P 0 0 + a) || great (P 0 3 + c) || great (P 3 3 + b)
theorem og_is (X : Nat → Int) (P : Nat → Nat → Int) (x y a b c : Int) : og X P x y a b c = (mo P a b c || vo X x y) := by
  unfold og mo vo
  cases great (P 0 0 + a) <;> cases great (P 0 3 + c) <;> cases great (P 3 3 + b) <;> cases great (x - X 0) <;> rfl
end Up
set_option maxRecDepth 10000 in
set_option maxHeartbeats 4000000 in
theorem uboth_any (s : Nat) (P : Nat → Nat → Int) (x y a b c : Int) (o : Bool) (w : World) (h : URow w s o) (bP : B2 P) (ha : -9223372036854775808 ≤ a ∧ a ≤ 9223372036854775807) (hb : -9223372036854775808 ≤ b ∧ b ≤ 9223372036854775807) (hc : -9223372036854775808 ≤ c ∧ c ≤ 9223372036854775807) :
  Calls Tryz.prog 20 #[.pointer (some ⟨s, 0, none⟩), .agg (mvals 6 6 (mz 6 6 P)).toArray, .agg (pv x y a b c).toArray] w fun e w' => e = .returned (.agg (mvals 2 2 (mz 2 2 (oM P a b c))).toArray) ∧ URow w' s (o || mo P a b c) ∧ But (· = s) w w' := by
 have hs := CRow.lt h
 have H1 := Ud.hide (fun W => qadd_any (P 0 0) a W (bP 0 0).1 (bP 0 0).2 ha.1 ha.2)
 have H2 := Ud.hide (fun W => qadd_any (P 0 3) c W (bP 0 3).1 (bP 0 3).2 hc.1 hc.2)
 have H3 := Ud.hide (fun W => qadd_any (P 3 3) b W (bP 3 3).1 (bP 3 3).2 hb.1 hb.2)
 have HE := Ud.hide (fun W => uevenPair_any (oa P a) (ob P c) (oc P b) W)
 have A1 := Ud.hide (fun g W (q : MRow W g 6 6 (mz 6 6 P)) => uat1_any g 6 6 0 0 P W q (by omega) (by omega) (by omega) (by omega) (by omega) (by omega))
 have A2 := Ud.hide (fun g W (q : MRow W g 6 6 (mz 6 6 P)) => uat1_any g 6 6 0 3 P W q (by omega) (by omega) (by omega) (by omega) (by omega) (by omega))
 have A3 := Ud.hide (fun g W (q : MRow W g 6 6 (mz 6 6 P)) => uat1_any g 6 6 3 3 P W q (by omega) (by omega) (by omega) (by omega) (by omega) (by omega))
 have HT := Ud.hide (fun W => uat_any 6 6 (mz 6 6 P) W)
 unfold mo
 show Calls _ _ _ _ fun e w' => e = .returned (.agg (mvals 2 2 (mz 2 2 (g2 (oa P a) (ob P c) (oc P b)))).toArray) ∧ _
 obtain ⟨z, hz⟩ : ∃ z, z = mz 6 6 P := ⟨_, rfl⟩
 obtain ⟨z2, hz2⟩ : ∃ z, z = mz 2 2 (g2 (oa P a) (ob P c) (oc P b)) := ⟨_, rfl⟩
 rw [← hz2] at HE
 rw [← hz] at A1 A2 A3 HT
 rw [← hz, ← hz2]
 unfold oa ob oc at HE
 obtain ⟨p1, hp1⟩ : ∃ p, p = P 0 0 := ⟨_, rfl⟩
 obtain ⟨p2, hp2⟩ : ∃ p, p = P 0 3 := ⟨_, rfl⟩
 obtain ⟨p3, hp3⟩ : ∃ p, p = P 3 3 := ⟨_, rfl⟩
 rw [← hp1] at H1 A1
 rw [← hp2] at H2 A2
 rw [← hp3] at H3 A3
 rw [← hp1, ← hp2, ← hp3] at HE
 rw [← hp1, ← hp2, ← hp3]
 obtain ⟨v1, hv1⟩ : ∃ v, v = clamp (p1 + a) := ⟨_, rfl⟩
 obtain ⟨v2', hv2⟩ : ∃ v, v = clamp (p2 + c) := ⟨_, rfl⟩
 obtain ⟨v3, hv3⟩ : ∃ v, v = clamp (p3 + b) := ⟨_, rfl⟩
 obtain ⟨g1, hg1⟩ : ∃ v, v = great (p1 + a) := ⟨_, rfl⟩
 obtain ⟨g2', hg2⟩ : ∃ v, v = great (p2 + c) := ⟨_, rfl⟩
 obtain ⟨g3, hg3⟩ : ∃ v, v = great (p3 + b) := ⟨_, rfl⟩
 rw [← hv1, ← hg1] at H1
 rw [← hv2, ← hg2] at H2
 rw [← hv3, ← hg3] at H3
 rw [← hv1, ← hv2, ← hv3] at HE
 rw [← hg1, ← hg2, ← hg3]
 clear hz hz2 hp1 hp2 hp3 hv1 hv2 hv3 hg1 hg2 hg3 bP ha hb hc
 have t0 := ((mrow_new w 6 6 z).alloc (.cells (pv x y a b c).toArray 45)).alloc (.cells (mvals 0 0 (fun _ => 0)).toArray 41)
 have m0 := (crow_new1 w (.cells (mvals 6 6 z).toArray 41) 45 (pv x y a b c)).alloc (.cells (mvals 0 0 (fun _ => 0)).toArray 41)
 have r0 := mrow_new2 w (.cells (mvals 6 6 z).toArray 41) (.cells (pv x y a b c).toArray 45) 0 0 (fun _ => 0)
 have B0 : Below w.heap.size w (((w.alloc (.cells (mvals 6 6 z).toArray 41)).alloc (.cells (pv x y a b c).toArray 45)).alloc (.cells (mvals 0 0 (fun _ => 0)).toArray 41)) := below_al (below_al (below_al (Below.refl _ _) _) _) _
 obtain ⟨W, hW⟩ : ∃ W, W = ((w.alloc (.cells (mvals 6 6 z).toArray 41)).alloc (.cells (pv x y a b c).toArray 45)).alloc (.cells (mvals 0 0 (fun _ => 0)).toArray 41) := ⟨_, rfl⟩
 rw [← hW] at t0 m0 r0 B0
 have HW := Ud.hide hW
 have lr := r0.lt
 have s0 := CRow.keep h B0
 clear hW h
 go_enter Tryz.func20, Tryz.ntmps20
 go_wp2_with (first
  | (rw [zeroM, ← HW.out]; refine Hk.loadM _ (by with_reducible rfl) _ _ _ _ (by rfl) (by with_reducible exact t0) (by kernel_rfl) ?_)
  | fail)
 refine (HT.out _).mono ?_
 rintro e w1 ⟨rfl, q1, k1⟩
 have lq := q1.lt
 have m1 := CRow.keep m0 k1
 have r1 := r0.keep k1
 have s1 := CRow.keep s0 k1
 have b1 : But (· = s) w w1 := (but_of B0).then k1
 obtain ⟨g, hg⟩ : ∃ g, g = W.heap.size := ⟨_, rfl⟩
 rw [← hg] at q1 lq lr
 have HG := Ud.hide hg
 have HS : Hid (∀ V, But (· = s) w1 V → (MRow V g 6 6 z ∧ V.cell? ⟨w.heap.size + 1, 2, none⟩ = some (.int .i64 a) ∧ V.cell? ⟨w.heap.size + 1, 3, none⟩ = some (.int .i64 b) ∧ V.cell? ⟨w.heap.size + 1, 4, none⟩ = some (.int .i64 c))) := fun V k =>
  ⟨Pd.mrowBut q1 k (by omega), CRow.cell (crowBut m1 k (by omega)) (k := 2) rfl rfl, CRow.cell (crowBut m1 k (by omega)) (k := 3) rfl rfl, CRow.cell (crowBut m1 k (by omega)) (k := 4) rfl rfl⟩
 have HR : Hid (∀ V, But (· = s) w1 V → MRow V (w.heap.size + 1 + 1) 0 0 (fun _ => 0)) := fun V k => Pd.mrowBut r1 k (by omega)
 clear hg HW HT t0 m0 r0 B0 s0 k1 q1 m1 r1
 go_upto_region 2 with (first | (rw [← HG.out]) | fail)
 try rw [← HG.out]
 refine Ru.wp_region_U [28] (fun w' => MRow w' g 6 6 z ∧ w'.cell? ⟨w.heap.size + 1, 2, none⟩ = some (.int .i64 a) ∧ w'.cell? ⟨w.heap.size + 1, 3, none⟩ = some (.int .i64 b) ∧ w'.cell? ⟨w.heap.size + 1, 4, none⟩ = some (.int .i64 c)) (by kernel_rfl) (HS.out _ ((But.refl (· = s) w1).drew)) (fun hHeld => ?_)
 refine Ru.wpAnyU_take (i := 0) (v := .pointer (some ⟨s, 0, none⟩)) rfl (by kernel_rfl) (by kernel_rfl) (by kernel_rfl) (by kernel_rfl) (by kernel_rfl) (by kernel_rfl) (fun _ _ _ h => h) (Or.inl ⟨by kernel_rfl, fun w hS => by obtain ⟨sc0, sc1, sc2, sc3⟩ := hS; go_simp⟩) hHeld ?_
 simp only [Act.put, zq1, zq2, zq3, zq4, zq5, zq6]
 refine Ru.wpAnyU_take (i := 1) (v := atF g) rfl (by kernel_rfl) (by kernel_rfl) (by kernel_rfl) (by kernel_rfl) (by kernel_rfl) (by kernel_rfl) (fun _ _ _ h => h) (Or.inl ⟨by kernel_rfl, fun w hS => by obtain ⟨sc0, sc1, sc2, sc3⟩ := hS; go_simp⟩) hHeld ?_
 simp only [Act.put, zq1, zq2, zq3, zq4, zq5, zq6]
 refine Ru.wpAnyU_take (i := 3) (v := .pointer (some ⟨w.heap.size + 1, 2, none⟩)) rfl (by kernel_rfl) (by kernel_rfl) (by kernel_rfl) (by kernel_rfl) (by kernel_rfl) (by kernel_rfl) (fun _ _ _ h => h) (Or.inl ⟨by kernel_rfl, fun w hS => by obtain ⟨sc0, sc1, sc2, sc3⟩ := hS; go_simp⟩) hHeld ?_
 simp only [Act.put, zq1, zq2, zq3, zq4, zq5, zq6]
 refine Ru.wpAnyU_take (i := 4) (v := .int .i64 a) rfl (by kernel_rfl) (by kernel_rfl) (by kernel_rfl) (by kernel_rfl) (by kernel_rfl) (by kernel_rfl) (fun _ _ _ h => h) (Or.inl ⟨by kernel_rfl, fun w hS => by obtain ⟨sc0, sc1, sc2, sc3⟩ := hS; go_simp⟩) hHeld ?_
 simp only [Act.put, zq1, zq2, zq3, zq4, zq5, zq6]
 refine Ru.wpAnyU_take (i := 9) (v := .pointer (some ⟨s, 0, none⟩)) rfl (by kernel_rfl) (by kernel_rfl) (by kernel_rfl) (by kernel_rfl) (by kernel_rfl) (by kernel_rfl) (fun _ _ _ h => h) (Or.inl ⟨by kernel_rfl, fun w hS => by obtain ⟨sc0, sc1, sc2, sc3⟩ := hS; go_simp⟩) hHeld ?_
 simp only [Act.put, zq1, zq2, zq3, zq4, zq5, zq6]
 refine Ru.wpAnyU_take (i := 10) (v := atF g) rfl (by kernel_rfl) (by kernel_rfl) (by kernel_rfl) (by kernel_rfl) (by kernel_rfl) (by kernel_rfl) (fun _ _ _ h => h) (Or.inl ⟨by kernel_rfl, fun w hS => by obtain ⟨sc0, sc1, sc2, sc3⟩ := hS; go_simp⟩) hHeld ?_
 simp only [Act.put, zq1, zq2, zq3, zq4, zq5, zq6]
 refine Ru.wpAnyU_take (i := 12) (v := .pointer (some ⟨w.heap.size + 1, 4, none⟩)) rfl (by kernel_rfl) (by kernel_rfl) (by kernel_rfl) (by kernel_rfl) (by kernel_rfl) (by kernel_rfl) (fun _ _ _ h => h) (Or.inl ⟨by kernel_rfl, fun w hS => by obtain ⟨sc0, sc1, sc2, sc3⟩ := hS; go_simp⟩) hHeld ?_
 simp only [Act.put, zq1, zq2, zq3, zq4, zq5, zq6]
 refine Ru.wpAnyU_take (i := 13) (v := .int .i64 c) rfl (by kernel_rfl) (by kernel_rfl) (by kernel_rfl) (by kernel_rfl) (by kernel_rfl) (by kernel_rfl) (fun _ _ _ h => h) (Or.inl ⟨by kernel_rfl, fun w hS => by obtain ⟨sc0, sc1, sc2, sc3⟩ := hS; go_simp⟩) hHeld ?_
 simp only [Act.put, zq1, zq2, zq3, zq4, zq5, zq6]
 refine Ru.wpAnyU_take (i := 18) (v := .pointer (some ⟨s, 0, none⟩)) rfl (by kernel_rfl) (by kernel_rfl) (by kernel_rfl) (by kernel_rfl) (by kernel_rfl) (by kernel_rfl) (fun _ _ _ h => h) (Or.inl ⟨by kernel_rfl, fun w hS => by obtain ⟨sc0, sc1, sc2, sc3⟩ := hS; go_simp⟩) hHeld ?_
 simp only [Act.put, zq1, zq2, zq3, zq4, zq5, zq6]
 refine Ru.wpAnyU_take (i := 19) (v := atF g) rfl (by kernel_rfl) (by kernel_rfl) (by kernel_rfl) (by kernel_rfl) (by kernel_rfl) (by kernel_rfl) (fun _ _ _ h => h) (Or.inl ⟨by kernel_rfl, fun w hS => by obtain ⟨sc0, sc1, sc2, sc3⟩ := hS; go_simp⟩) hHeld ?_
 simp only [Act.put, zq1, zq2, zq3, zq4, zq5, zq6]
 refine Ru.wpAnyU_take (i := 21) (v := .pointer (some ⟨w.heap.size + 1, 3, none⟩)) rfl (by kernel_rfl) (by kernel_rfl) (by kernel_rfl) (by kernel_rfl) (by kernel_rfl) (by kernel_rfl) (fun _ _ _ h => h) (Or.inl ⟨by kernel_rfl, fun w hS => by obtain ⟨sc0, sc1, sc2, sc3⟩ := hS; go_simp⟩) hHeld ?_
 simp only [Act.put, zq1, zq2, zq3, zq4, zq5, zq6]
 refine Ru.wpAnyU_take (i := 22) (v := .int .i64 b) rfl (by kernel_rfl) (by kernel_rfl) (by kernel_rfl) (by kernel_rfl) (by kernel_rfl) (by kernel_rfl) (fun _ _ _ h => h) (Or.inl ⟨by kernel_rfl, fun w hS => by obtain ⟨sc0, sc1, sc2, sc3⟩ := hS; go_simp⟩) hHeld ?_
 simp only [Act.put, zq1, zq2, zq3, zq4, zq5, zq6]
 refine Ru.wpAnyU_ready (rs := [2]) (by kernel_rfl) (by simp) ?_
 refine Ru.AllReadyU.cons rfl (by kernel_rfl) (fun K hK => ?_) Ru.AllReadyU.nil
 go_simp
 refine (A1.out g _ (HS.out _ ((But.refl (· = s) w1).drew)).1).mono ?_
 rintro e v_1 ⟨rfl, k_1⟩
 have D_1 := ((But.refl (· = s) w1).drew).then k_1
 have o_1 := CRow.keep (CRow.drew s1) k_1
 go_wp2_with fail
 refine hK.out _ _ (HS.out _ D_1) (fun hHeld => ?_)
 clear hK K
 try simp only [Act.put, zq1, zq2, zq3, zq4, zq5, zq6]
 refine Ru.wpAnyU_ready (rs := [5]) (by kernel_rfl) (by simp) ?_
 refine Ru.AllReadyU.cons rfl (by kernel_rfl) (fun K hK => ?_) Ru.AllReadyU.nil
 go_simp
 refine (H1.out _).mono ?_
 rintro e v_2 ⟨rfl, k_2⟩
 have D_2 := D_1.then k_2
 have o_2 := CRow.keep o_1 k_2
 go_wp2_with fail
 refine hK.out _ _ (HS.out _ D_2) (fun hHeld => ?_)
 clear hK K
 try simp only [Act.put, zq1, zq2, zq3, zq4, zq5, zq6]
 refine Ru.wpAnyU_take (i := 6) (v := .int .i64 v1) rfl (by kernel_rfl) (by kernel_rfl) (by kernel_rfl) (by kernel_rfl) (by kernel_rfl) (by kernel_rfl) (fun _ _ _ h => h) (Or.inl ⟨by kernel_rfl, fun w hS => by obtain ⟨sc0, sc1, sc2, sc3⟩ := hS; go_simp⟩) hHeld ?_
 simp only [Act.put, zq1, zq2, zq3, zq4, zq5, zq6]
 refine Ru.wpAnyU_take (i := 7) (v := .bool g1) rfl (by kernel_rfl) (by kernel_rfl) (by kernel_rfl) (by kernel_rfl) (by kernel_rfl) (by kernel_rfl) (fun _ _ _ h => h) (Or.inl ⟨by kernel_rfl, fun w hS => by obtain ⟨sc0, sc1, sc2, sc3⟩ := hS; go_simp⟩) hHeld ?_
 simp only [Act.put, zq1, zq2, zq3, zq4, zq5, zq6]
 refine Ru.wpAnyU_ready (rs := [8]) (by kernel_rfl) (by simp) ?_
 refine Ru.AllReadyU.cons rfl (by kernel_rfl) (fun K hK => ?_) Ru.AllReadyU.nil
 go_simp
 refine (unumber_any s v1 _ g1 _ o_2).mono ?_
 rintro e v_3 ⟨rfl, o_3, k_3⟩
 have D_3 := D_2.trans k_3
 go_wp2_with fail
 refine hK.out _ _ (HS.out _ D_3) (fun hHeld => ?_)
 clear hK K
 try simp only [Act.put, zq1, zq2, zq3, zq4, zq5, zq6]
 refine Ru.wpAnyU_ready (rs := [11]) (by kernel_rfl) (by simp) ?_
 refine Ru.AllReadyU.cons rfl (by kernel_rfl) (fun K hK => ?_) Ru.AllReadyU.nil
 go_simp
 refine (A2.out g _ (HS.out _ D_3).1).mono ?_
 rintro e v_4 ⟨rfl, k_4⟩
 have D_4 := D_3.then k_4
 have o_4 := CRow.keep o_3 k_4
 go_wp2_with fail
 refine hK.out _ _ (HS.out _ D_4) (fun hHeld => ?_)
 clear hK K
 try simp only [Act.put, zq1, zq2, zq3, zq4, zq5, zq6]
 refine Ru.wpAnyU_ready (rs := [14]) (by kernel_rfl) (by simp) ?_
 refine Ru.AllReadyU.cons rfl (by kernel_rfl) (fun K hK => ?_) Ru.AllReadyU.nil
 go_simp
 refine (H2.out _).mono ?_
 rintro e v_5 ⟨rfl, k_5⟩
 have D_5 := D_4.then k_5
 have o_5 := CRow.keep o_4 k_5
 go_wp2_with fail
 refine hK.out _ _ (HS.out _ D_5) (fun hHeld => ?_)
 clear hK K
 try simp only [Act.put, zq1, zq2, zq3, zq4, zq5, zq6]
 refine Ru.wpAnyU_take (i := 15) (v := .int .i64 v2') rfl (by kernel_rfl) (by kernel_rfl) (by kernel_rfl) (by kernel_rfl) (by kernel_rfl) (by kernel_rfl) (fun _ _ _ h => h) (Or.inl ⟨by kernel_rfl, fun w hS => by obtain ⟨sc0, sc1, sc2, sc3⟩ := hS; go_simp⟩) hHeld ?_
 simp only [Act.put, zq1, zq2, zq3, zq4, zq5, zq6]
 refine Ru.wpAnyU_take (i := 16) (v := .bool g2') rfl (by kernel_rfl) (by kernel_rfl) (by kernel_rfl) (by kernel_rfl) (by kernel_rfl) (by kernel_rfl) (fun _ _ _ h => h) (Or.inl ⟨by kernel_rfl, fun w hS => by obtain ⟨sc0, sc1, sc2, sc3⟩ := hS; go_simp⟩) hHeld ?_
 simp only [Act.put, zq1, zq2, zq3, zq4, zq5, zq6]
 refine Ru.wpAnyU_ready (rs := [17]) (by kernel_rfl) (by simp) ?_
 refine Ru.AllReadyU.cons rfl (by kernel_rfl) (fun K hK => ?_) Ru.AllReadyU.nil
 go_simp
 refine (unumber_any s v2' _ g2' _ o_5).mono ?_
 rintro e v_6 ⟨rfl, o_6, k_6⟩
 have D_6 := D_5.trans k_6
 go_wp2_with fail
 refine hK.out _ _ (HS.out _ D_6) (fun hHeld => ?_)
 clear hK K
 try simp only [Act.put, zq1, zq2, zq3, zq4, zq5, zq6]
 refine Ru.wpAnyU_ready (rs := [20]) (by kernel_rfl) (by simp) ?_
 refine Ru.AllReadyU.cons rfl (by kernel_rfl) (fun K hK => ?_) Ru.AllReadyU.nil
 go_simp
 refine (A3.out g _ (HS.out _ D_6).1).mono ?_
 rintro e v_7 ⟨rfl, k_7⟩
 have D_7 := D_6.then k_7
 have o_7 := CRow.keep o_6 k_7
 go_wp2_with fail
 refine hK.out _ _ (HS.out _ D_7) (fun hHeld => ?_)
 clear hK K
 try simp only [Act.put, zq1, zq2, zq3, zq4, zq5, zq6]
 refine Ru.wpAnyU_ready (rs := [23]) (by kernel_rfl) (by simp) ?_
 refine Ru.AllReadyU.cons rfl (by kernel_rfl) (fun K hK => ?_) Ru.AllReadyU.nil
 go_simp
 refine (H3.out _).mono ?_
 rintro e v_8 ⟨rfl, k_8⟩
 have D_8 := D_7.then k_8
 have o_8 := CRow.keep o_7 k_8
 go_wp2_with fail
 refine hK.out _ _ (HS.out _ D_8) (fun hHeld => ?_)
 clear hK K
 try simp only [Act.put, zq1, zq2, zq3, zq4, zq5, zq6]
 refine Ru.wpAnyU_take (i := 24) (v := .int .i64 v3) rfl (by kernel_rfl) (by kernel_rfl) (by kernel_rfl) (by kernel_rfl) (by kernel_rfl) (by kernel_rfl) (fun _ _ _ h => h) (Or.inl ⟨by kernel_rfl, fun w hS => by obtain ⟨sc0, sc1, sc2, sc3⟩ := hS; go_simp⟩) hHeld ?_
 simp only [Act.put, zq1, zq2, zq3, zq4, zq5, zq6]
 refine Ru.wpAnyU_take (i := 25) (v := .bool g3) rfl (by kernel_rfl) (by kernel_rfl) (by kernel_rfl) (by kernel_rfl) (by kernel_rfl) (by kernel_rfl) (fun _ _ _ h => h) (Or.inl ⟨by kernel_rfl, fun w hS => by obtain ⟨sc0, sc1, sc2, sc3⟩ := hS; go_simp⟩) hHeld ?_
 simp only [Act.put, zq1, zq2, zq3, zq4, zq5, zq6]
 refine Ru.wpAnyU_ready (rs := [26]) (by kernel_rfl) (by simp) ?_
 refine Ru.AllReadyU.cons rfl (by kernel_rfl) (fun K hK => ?_) Ru.AllReadyU.nil
 go_simp
 refine (unumber_any s v3 _ g3 _ o_8).mono ?_
 rintro e v_9 ⟨rfl, o_9, k_9⟩
 have D_9 := D_8.trans k_9
 go_wp2_with fail
 refine hK.out _ _ (HS.out _ D_9) (fun hHeld => ?_)
 clear hK K
 try simp only [Act.put, zq1, zq2, zq3, zq4, zq5, zq6]
 refine Ru.wpAnyU_ready (rs := [27]) (by kernel_rfl) (by simp) ?_
 refine Ru.AllReadyU.cons rfl (by kernel_rfl) (fun K hK => ?_) Ru.AllReadyU.nil
 go_simp
 refine (HE.out _).mono ?_
 rintro e v_10 ⟨rfl, k_10⟩
 have D_10 := D_9.then k_10
 have o_10 := CRow.keep o_9 k_10
 go_wp2_with fail
 refine hK.out _ _ (HS.out _ D_10) (fun hHeld => ?_)
 clear hK K
 try simp only [Act.put, zq1, zq2, zq3, zq4, zq5, zq6]
 refine Ru.wpAnyU_ready (rs := [28]) (by kernel_rfl) (by simp) ?_
 refine Ru.AllReadyU.cons2 rfl (by kernel_rfl) (fun K hK => ?_) Ru.AllReadyU.nil
 refine Ru.stepM (by kernel_rfl) _ _ (by rfl) (w.heap.size + 1 + 1) _ _ 2 2 _ z2 (by rfl) (by rfl) (HR.out _ D_10) ?_
 have rE := (HR.out _ D_10).row 2 2 z2
 have oE := CRow.rowOther o_10 (g := w.heap.size + 1 + 1) (by omega) (mvals 2 2 z2).toArray
 have bE := (b1.trans D_10).rowNew (g := w.heap.size + 1 + 1) (mvals 2 2 z2).toArray (by omega)
 refine hK.out _ _ ?_
 clear hK K
 try simp only [Act.put, zq1, zq2, zq3, zq4, zq5, zq6]
 refine wpAny_done (by kernel_rfl) ?_ _
 go_wp2_with fail
 have eO : (o || (g1 || g2' || g3)) = (((o || g1) || g2') || g3) := by cases o <;> cases g1 <;> cases g2' <;> rfl
 rw [← eO] at oE
 exact bodyPost_ret (results_M1 Tryz.results20 _ _ (w.heap.size + 1 + 1) _ _ _ rfl rE) rfl ⟨rfl, oE, bE⟩
end Go.Proofs.YtdgcnaijndocnaaGreatDoor
namespace Go.Proofs.YtdgcnaijndocnaaGreatDoor
open Go.RowKit Vc St Mt Pr Qn Ud Up Ld
attribute [local go_sem ↓] Go.wp_at_zero Go.wp_at_succ
namespace Up
end Up
namespace Up
end Up
namespace Up
end Up
end Go.Proofs.YtdgcnaijndocnaaGreatDoor
namespace Go.Proofs.YtdgcnaijndocnaaGreatDoor
open Go.RowKit Vc St Mt Pr Qn Ud Up Ld
attribute [local go_sem ↓] Go.wp_at_zero Go.wp_at_succ
namespace Up
end Up
namespace Up
theorem all2 (g : Nat) (w : World) : (Instr.sliceAt 29 (.pointer (some ⟨g, 0, none⟩)) none none none).run Tryz.prog w = .ok (.slice (some ⟨g, 0, none⟩) 2 2) w := by kernel_rfl
end Up
end Go.Proofs.YtdgcnaijndocnaaGreatDoor
namespace Go.Proofs.YtdgcnaijndocnaaGreatDoor
open Go.RowKit Vc St Mt Pr Qn Ud Up Ld
attribute [local go_sem ↓] Go.wp_at_zero Go.wp_at_succ
namespace Up
end Up
namespace Up
def gvals (V : Nat → Int) (n : Int) (z d : Nat → Int) : List Value := vals 2 V ++ fvals n z d
theorem gvals_len (V : Nat → Int) (n : Int) (z d : Nat → Int) : (gvals V n z d).length = 45 := by simp [gvals, vals_len, fvals_len]
theorem gvals_v {V : Nat → Int} {n : Int} {z d : Nat → Int} {k : Nat} (h : k < 2) : (gvals V n z d)[k]? = some (.int .i64 (V k)) := by
  unfold gvals
  rw [List.getElem?_append_left (by rw [vals_len]; exact h)]
  exact vals_at h
theorem gvals_f (V : Nat → Int) (n : Int) (z d : Nat → Int) (k : Nat) : (gvals V n z d)[k + 2]? = (fvals n z d)[k]? := by
  unfold gvals
  rw [List.getElem?_append_right (by rw [vals_len]; omega), vals_len, Nat.add_sub_cancel]
theorem one_gvals (V : Nat → Int) (n : Int) (z d : Nat → Int) : ∀ v ∈ gvals V n z d, v.oneCell' = true := by
  intro v hv
  rcases List.mem_append.1 hv with hv | hv
  · obtain ⟨k, _, rfl⟩ := List.mem_map.1 hv
    rfl
  · exact one_fvals _ _ _ v hv
theorem isG : Is 35 45 := ⟨by kernel_rfl, ⟨_, Tryz.underlying35, rfl⟩⟩
abbrev GRow (w : World) (g : Nat) (V : Nat → Int) (n : Int) (z d : Nat → Int) : Prop := CRow w g 35 (gvals V n z d)
theorem GRow.v {w : World} {g : Nat} {V : Nat → Int} {n : Int} {z d : Nat → Int} (h : GRow w g V n z d) {k o : Nat} (hk : k < 2) (ho : o = k) : w.cell? ⟨g, o, none⟩ = some (.int .i64 (V k)) := h.cell (gvals_v hk) ho
theorem GRow.sl {w : World} {g : Nat} {V : Nat → Int} {n : Int} {z d : Nat → Int} (h : GRow w g V n z d) : Sl w (some ⟨g, 0, none⟩) 2 2 V :=
  ⟨Nat.le_refl _, by omega, fun k hk => ⟨_, rfl, by rw [Addr.add_lit]; exact GRow.v h hk (by omega)⟩⟩
theorem GRow.rf {w : World} {g : Nat} {V : Nat → Int} {n : Int} {z d : Nat → Int} (h : GRow w g V n z d) : w.rangeAt g 2 (fvals n z d) := CRow.mid h (o := 2) fun j v hv => by
  rw [Nat.add_comm, gvals_f]; exact hv
end Up
set_option maxRecDepth 10000 in
set_option maxHeartbeats 2000000 in
theorem ufar_by (V : Nat → Int) (n : Int) (z d : Nat → Int) (x : Int) (q : Bool) (f : Value) (w : World)
  (hF : ∀ g W, Sl W (some ⟨g, 0, none⟩) 2 2 V → Calls Tryz.prog 62 #[.agg (fvals n z d).toArray, .slice (some ⟨g, 0, none⟩) 2 2] W fun e w' => e = .returned (.tuple #[.int .i64 x, .bool q, f]) ∧ Below W.heap.size W w') :
  Calls Tryz.prog 23 #[.agg (gvals V n z d).toArray] w fun e w' => e = .returned (.tuple #[.int .i64 x, .bool q, f]) ∧ Below w.heap.size w w' := by
 have HF := Ud.hide hF
 have g0 := crow_new w 35 (gvals V n z d)
 have B0 := below_al (Below.refl _ w) (.cells (gvals V n z d).toArray 35)
 obtain ⟨W, hW⟩ : ∃ W, W = w.alloc (.cells (gvals V n z d).toArray 35) := ⟨_, rfl⟩
 rw [← hW] at g0 B0
 have HW := Ud.hide hW
 have al2 := fun W => all2 w.heap.size W
 have HS : Hid (∀ U, Below W.heap.size W U → GRow U w.heap.size V n z d) := fun U k => CRow.keep g0 k
 clear hW hF g0
 go_enter Tryz.func23, Tryz.ntmps23
 go_upto_region 1 with (first | (rw [← HW.out]) | fail)
 try rw [← HW.out]
 refine Ru.wp_region_U [] (fun w' => GRow w' w.heap.size V n z d) (by kernel_rfl) (HS.out _ (Vc.below_drew' _)) (fun hHeld => ?_)
 refine Ru.wpAnyU_take (i := 0) (v := .pointer (some ⟨w.heap.size, 2, none⟩)) rfl (by kernel_rfl) (by kernel_rfl) (by kernel_rfl) (by kernel_rfl) (by kernel_rfl) (by kernel_rfl) (fun _ _ _ h => h) (Or.inl ⟨by kernel_rfl, fun w hS => by have sc0 := hS; go_simp⟩) hHeld ?_
 simp only [Act.put, zq1, zq2, zq3, zq4, zq5, zq6]
 refine Ru.wpAnyU_take (i := 1) (v := .agg (fvals n z d).toArray) rfl (by kernel_rfl) (by kernel_rfl) (by kernel_rfl) (by kernel_rfl) (by kernel_rfl) (by kernel_rfl) (fun _ _ _ h => h) (Ud.yieldsPart isF (by kernel_rfl) _ (by rfl) w.heap.size 2 _ (by rfl) (fun w h => GRow.rf h) (fvals_len _ _ _)) hHeld ?_
 simp only [Act.put, zq1, zq2, zq3, zq4, zq5, zq6]
 refine Ru.wpAnyU_take (i := 2) (v := .pointer (some ⟨w.heap.size, 0, none⟩)) rfl (by kernel_rfl) (by kernel_rfl) (by kernel_rfl) (by kernel_rfl) (by kernel_rfl) (by kernel_rfl) (fun _ _ _ h => h) (Or.inl ⟨by kernel_rfl, fun w hS => by have sc0 := hS; go_simp⟩) hHeld ?_
 simp only [Act.put, zq1, zq2, zq3, zq4, zq5, zq6]
 refine Ru.wpAnyU_take (i := 3) (v := .slice (some ⟨w.heap.size, 0, none⟩) 2 2) rfl (by kernel_rfl) (by kernel_rfl) (by kernel_rfl) (by kernel_rfl) (by kernel_rfl) (by kernel_rfl) (fun _ _ _ h => h) (Or.inl ⟨by kernel_rfl, fun w hS => by have sc0 := hS; go_simp⟩) hHeld ?_
 simp only [Act.put, zq1, zq2, zq3, zq4, zq5, zq6]
 refine Ru.wpAnyU_ready (rs := [4]) (by kernel_rfl) (by simp) ?_
 refine Ru.AllReadyU.cons rfl (by kernel_rfl) (fun K hK => ?_) Ru.AllReadyU.nil
 go_simp
 refine (HF.out _ _ (GRow.sl (HS.out _ (Vc.below_drew' _)))).mono ?_
 rintro _ w1 ⟨rfl, k1⟩
 have D1 := below_tr (Vc.below_drew' W) k1
 go_wp2_with fail
 refine hK.out _ _ (HS.out _ D1) (fun hHeld => ?_)
 clear hK K
 try simp only [Act.put, zq1, zq2, zq3, zq4, zq5, zq6]
 refine Ru.wpAnyU_take (i := 5) (v := .int .i64 x) rfl (by kernel_rfl) (by kernel_rfl) (by kernel_rfl) (by kernel_rfl) (by kernel_rfl) (by kernel_rfl) (fun _ _ _ h => h) (Or.inl ⟨by kernel_rfl, fun w hS => by have sc0 := hS; go_simp⟩) hHeld ?_
 simp only [Act.put, zq1, zq2, zq3, zq4, zq5, zq6]
 refine Ru.wpAnyU_take (i := 6) (v := .bool q) rfl (by kernel_rfl) (by kernel_rfl) (by kernel_rfl) (by kernel_rfl) (by kernel_rfl) (by kernel_rfl) (fun _ _ _ h => h) (Or.inl ⟨by kernel_rfl, fun w hS => by have sc0 := hS; go_simp⟩) hHeld ?_
 simp only [Act.put, zq1, zq2, zq3, zq4, zq5, zq6]
 refine Ru.wpAnyU_take (i := 7) (v := f) rfl (by kernel_rfl) (by kernel_rfl) (by kernel_rfl) (by kernel_rfl) (by kernel_rfl) (by kernel_rfl) (fun _ _ _ h => h) (Or.inl ⟨by kernel_rfl, fun w hS => by have sc0 := hS; go_simp⟩) hHeld ?_
 simp only [Act.put, zq1, zq2, zq3, zq4, zq5, zq6]
 refine Ru.wpAnyU_take (i := 8) (v := .int .i64 x) rfl (by kernel_rfl) (by kernel_rfl) (by kernel_rfl) (by kernel_rfl) (by kernel_rfl) (by kernel_rfl) (fun _ _ _ h => h) (Or.inl ⟨by kernel_rfl, fun w hS => by have sc0 := hS; go_simp⟩) hHeld ?_
 simp only [Act.put, zq1, zq2, zq3, zq4, zq5, zq6]
 refine Ru.wpAnyU_take (i := 9) (v := .bool q) rfl (by kernel_rfl) (by kernel_rfl) (by kernel_rfl) (by kernel_rfl) (by kernel_rfl) (by kernel_rfl) (fun _ _ _ h => h) (Or.inl ⟨by kernel_rfl, fun w hS => by have sc0 := hS; go_simp⟩) hHeld ?_
 simp only [Act.put, zq1, zq2, zq3, zq4, zq5, zq6]
 refine Ru.wpAnyU_take (i := 10) (v := f) rfl (by kernel_rfl) (by kernel_rfl) (by kernel_rfl) (by kernel_rfl) (by kernel_rfl) (by kernel_rfl) (fun _ _ _ h => h) (Or.inl ⟨by kernel_rfl, fun w hS => by have sc0 := hS; go_simp⟩) hHeld ?_
 simp only [Act.put, zq1, zq2, zq3, zq4, zq5, zq6]
 refine Ru.wpAnyU_done (by kernel_rfl) ?_
 go_wp2
 go_ret3
 exact ⟨rfl, below_tr B0 D1⟩
end Go.Proofs.YtdgcnaijndocnaaGreatDoor
namespace Go.Proofs.YtdgcnaijndocnaaGreatDoor
open Go.RowKit Vc St Mt Cm Ld Pd Pr Qn Dt
attribute [local go_sem ↓] Go.wp_at_zero Go.wp_at_succ
namespace Pd
end Pd
end Go.Proofs.YtdgcnaijndocnaaGreatDoor
namespace Go.Proofs.YtdgcnaijndocnaaGreatDoor
open Go.RowKit Vc St Mt Pr Qn Ud Up Ld
attribute [local go_sem ↓] Go.wp_at_zero Go.wp_at_succ
namespace Up
theorem zeroUp : (#[.int .i64 0, .int .i64 0, .int .i64 0, .int .i64 0, .int .i64 0, .int .i64 0, .int .i64 0, .int .i64 0, .int .i64 0, .int .i64 0, .int .i64 0, .int .i64 0, .int .i64 0, .int .i64 0, .int .i64 0, .int .i64 0, .int .i64 0, .int .i64 0, .int .i64 0, .int .i64 0, .int .i64 0, .int .i64 0, .int .i64 0, .int .i64 0, .int .i64 0, .int .i64 0, .int .i64 0, .int .i64 0, .int .i64 0, .int .i64 0, .int .i64 0, .int .i64 0, .int .i64 0, .int .i64 0, .int .i64 0, .int .i64 0, .int .i64 0, .int .i64 0, .int .i64 0, .int .i64 0, .int .i64 0, .int .i64 0, .int .i64 0, .int .i64 0, .int .i64 0] : Array Value) = (gvals (fun _ => 0) 0 (fun _ => 0) (fun _ => 0)).toArray := by kernel_rfl
theorem builtG0 : Tryz.prog.built 35 [] = some (gvals (fun _ => 0) 0 (fun _ => 0) (fun _ => 0)).toArray := by kernel_rfl
theorem builtG2 (V : Nat → Int) (n : Int) (z d : Nat → Int) : Tryz.prog.built 35 [(0, .agg (vals 2 V).toArray), (1, .agg (fvals n z d).toArray)] = some (gvals V n z d).toArray := by kernel_rfl
theorem buildG0 {ops : Array Oper} {rest : List Oper} {o : Oper} {a : Act} {w : World} {Q : Exit → Act → World → Prop} (ho : o.op = .build 35 #[]) (hw : Region.wanted o (yielded ops a.tmps) = true)
    (h : wpList Tryz.prog ops Q rest (a.put o.dst (.agg (gvals (fun _ => 0) 0 (fun _ => 0) (fun _ => 0)).toArray)) w) : wpList Tryz.prog ops Q (o :: rest) a w :=
  wpList_want hw fun _ hK => by
    unfold Oper.wp execOp
    have em : ((#[] : Array (Nat × Operand)).map fun (i, x) => (i, a.eval x)).toList = [] := by simp
    simp only [ho, Sem.run_bind, run_build w 35 _ _ (by rw [em]; exact builtG0), Result.andThen_ok]
    exact hK _ _ h
theorem yieldsG {ops : Array Oper} {S : World → Prop} {o : Oper} {a : Act} (hw : Region.wanted o (yielded ops a.tmps) = true) (x y : Operand) (ho : o.op = .build 35 #[(0, x), (1, y)])
    (V : Nat → Int) (n : Int) (z d : Nat → Int) (hx : a.eval x = .agg (vals 2 V).toArray) (hy : a.eval y = .agg (fvals n z d).toArray) : YieldsIf Tryz.prog ops S o (.agg (gvals V n z d).toArray) a :=
  .inl ⟨hw, fun w _ => by
    unfold execOp
    have em : ((#[(0, x), (1, y)] : Array (Nat × Operand)).map fun (i, x) => (i, a.eval x)).toList = [(0, .agg (vals 2 V).toArray), (1, .agg (fvals n z d).toArray)] := by simp [hx, hy]
    simp only [ho, Sem.run_bind, run_build w 35 _ _ (by rw [em]; exact builtG2 V n z d), Result.andThen_ok, Sem.run_pure]⟩
end Up
set_option maxRecDepth 10000 in
set_option maxHeartbeats 2000000 in
theorem uof_chk (X : Nat → Int) (r c' : Int) (z : Nat → Int) (x y a b c : Int) (w : World) (hC : ∀ W, Calls Tryz.prog 17 #[.agg (Pd.svals X r c' z).toArray] W fun e w' => e = .returned (.iface 70 (.int .i64 1)) ∧ Below W.heap.size W w') :
  Calls Tryz.prog 6 #[.agg (Pd.svals X r c' z).toArray, .agg (pv x y a b c).toArray] w fun e w' => e = .returned (.tuple #[.agg (gvals (fun _ => 0) 0 (fun _ => 0) (fun _ => 0)).toArray, .bool false, .iface 70 (.int .i64 1)]) ∧ Below w.heap.size w w' := by
 have HC := Ud.hide hC
 clear hC
 have t0 := ((crow_new w 43 (Pd.svals X r c' z)).alloc (.cells (pv x y a b c).toArray 45)).alloc (.cells (gvals (fun _ => 0) 0 (fun _ => 0) (fun _ => 0)).toArray 35)
 have m0 := (crow_new1 w (.cells (Pd.svals X r c' z).toArray 43) 45 (pv x y a b c)).alloc (.cells (gvals (fun _ => 0) 0 (fun _ => 0) (fun _ => 0)).toArray 35)
 have r0 := crow_new2 w (.cells (Pd.svals X r c' z).toArray 43) (.cells (pv x y a b c).toArray 45) 35 (gvals (fun _ => 0) 0 (fun _ => 0) (fun _ => 0))
 have B0 : Below w.heap.size w (((w.alloc (.cells (Pd.svals X r c' z).toArray 43)).alloc (.cells (pv x y a b c).toArray 45)).alloc (.cells (gvals (fun _ => 0) 0 (fun _ => 0) (fun _ => 0)).toArray 35)) := below_al (below_al (below_al (Below.refl _ _) _) _) _
 obtain ⟨W, hW⟩ : ∃ W, W = ((w.alloc (.cells (Pd.svals X r c' z).toArray 43)).alloc (.cells (pv x y a b c).toArray 45)).alloc (.cells (gvals (fun _ => 0) 0 (fun _ => 0) (fun _ => 0)).toArray 35) := ⟨_, rfl⟩
 rw [← hW] at t0 m0 r0 B0
 have HW := Ud.hide hW
 clear hW
 go_enter Tryz.func6, Tryz.ntmps6
 go_wp2_with (first
  | (rw [zeroUp, ← HW.out]; refine St.wpList_load Pd.isS (by rfl) _ (by rfl) _ _ (by rfl) (by with_reducible exact t0) (Pd.svals_len _ _ _ _) ?_)
  | fail)
 refine (HC.out _).mono ?_
 rintro e w1 ⟨rfl, k1⟩
 have r1 := CRow.keep r0 k1
 have B1 := below_tr B0 k1
 go_wp2_with (first
  | (refine Up.buildG0 (by with_reducible rfl) (by kernel_rfl) ?_)
  | (refine St.wpList_store Up.isG rfl _ _ (by rfl) _ _ _ (by rfl) (by rfl) (by with_reducible exact r1) (gvals_len _ _ _ _) (gvals_len _ _ _ _) (one_gvals _ _ _ _) ?_)
  | fail)
 exact bodyPost_ret (results_3 Up.isG Tryz.results6 _ _ (w.heap.size + 1 + 1) _ rfl (CRow.row r1 _) (gvals_len _ _ _ _)) rfl ⟨rfl, St.below_row B1 (by omega) _⟩
set_option maxRecDepth 10000 in
set_option maxHeartbeats 2000000 in
theorem uof_place (X : Nat → Int) (r c' : Int) (z : Nat → Int) (x y a b c : Int) (w : World) (hC : ∀ W, Calls Tryz.prog 17 #[.agg (Pd.svals X r c' z).toArray] W fun e w' => e = .returned (.nilIface) ∧ Below W.heap.size W w') (hp : ¬ MayN x y a b c) :
  Calls Tryz.prog 6 #[.agg (Pd.svals X r c' z).toArray, .agg (pv x y a b c).toArray] w fun e w' => e = .returned (.tuple #[.agg (gvals (fun _ => 0) 0 (fun _ => 0) (fun _ => 0)).toArray, .bool false, .iface 70 (.int .i64 1)]) ∧ Below w.heap.size w w' := by
 have HC := Ud.hide hC
 have HP := Ud.hide (fun W => uplace_any x y a b c W)
 rw [decide_eq_false hp] at HP
 clear hC hp
 have t0 := ((crow_new w 43 (Pd.svals X r c' z)).alloc (.cells (pv x y a b c).toArray 45)).alloc (.cells (gvals (fun _ => 0) 0 (fun _ => 0) (fun _ => 0)).toArray 35)
 have m0 := (crow_new1 w (.cells (Pd.svals X r c' z).toArray 43) 45 (pv x y a b c)).alloc (.cells (gvals (fun _ => 0) 0 (fun _ => 0) (fun _ => 0)).toArray 35)
 have r0 := crow_new2 w (.cells (Pd.svals X r c' z).toArray 43) (.cells (pv x y a b c).toArray 45) 35 (gvals (fun _ => 0) 0 (fun _ => 0) (fun _ => 0))
 have B0 : Below w.heap.size w (((w.alloc (.cells (Pd.svals X r c' z).toArray 43)).alloc (.cells (pv x y a b c).toArray 45)).alloc (.cells (gvals (fun _ => 0) 0 (fun _ => 0) (fun _ => 0)).toArray 35)) := below_al (below_al (below_al (Below.refl _ _) _) _) _
 obtain ⟨W, hW⟩ : ∃ W, W = ((w.alloc (.cells (Pd.svals X r c' z).toArray 43)).alloc (.cells (pv x y a b c).toArray 45)).alloc (.cells (gvals (fun _ => 0) 0 (fun _ => 0) (fun _ => 0)).toArray 35) := ⟨_, rfl⟩
 rw [← hW] at t0 m0 r0 B0
 have HW := Ud.hide hW
 clear hW
 go_enter Tryz.func6, Tryz.ntmps6
 go_wp2_with (first
  | (rw [zeroUp, ← HW.out]; refine St.wpList_load Pd.isS (by rfl) _ (by rfl) _ _ (by rfl) (by with_reducible exact t0) (Pd.svals_len _ _ _ _) ?_)
  | fail)
 refine (HC.out _).mono ?_
 rintro e w1 ⟨rfl, k1⟩
 have r1 := CRow.keep r0 k1
 have m1 := CRow.keep m0 k1
 have B1 := below_tr B0 k1
 go_wp2_with (first
  | (refine St.wpList_load isSn (by rfl) _ (by rfl) _ _ (by rfl) (by with_reducible exact m1) rfl ?_)
  | fail)
 refine (HP.out _).mono ?_
 rintro e w2 ⟨rfl, k2⟩
 have r2 := CRow.keep r1 k2
 have B2 := below_tr B1 k2
 go_wp2_with (first
  | (refine Up.buildG0 (by with_reducible rfl) (by kernel_rfl) ?_)
  | (refine St.wpList_store Up.isG rfl _ _ (by rfl) _ _ _ (by rfl) (by rfl) (by with_reducible exact r2) (gvals_len _ _ _ _) (gvals_len _ _ _ _) (one_gvals _ _ _ _) ?_)
  | fail)
 exact bodyPost_ret (results_3 Up.isG Tryz.results6 _ _ (w.heap.size + 1 + 1) _ rfl (CRow.row r2 _) (gvals_len _ _ _ _)) rfl ⟨rfl, St.below_row B2 (by omega) _⟩
set_option maxRecDepth 10000 in
set_option maxHeartbeats 4000000 in
theorem uof_none (X : Nat → Int) (P : Nat → Nat → Int) (x y a b c : Int) (w : World) (hm : MayV X P) (hp : MayN x y a b c) (bX : B64 X) (bP : B2 P) (hf : ¬ ∀ i, i < 2 → fine (oM P a b c) i) :
  Calls Tryz.prog 6 #[.agg (Pd.svals X 6 6 (mz 6 6 P)).toArray, .agg (pv x y a b c).toArray] w fun e w' => e = .returned (.tuple #[.agg (gvals (fun _ => 0) 0 (fun _ => 0) (fun _ => 0)).toArray, .bool false, .iface 70 (.int .i64 8)]) ∧ Below w.heap.size w w' := by
 have ha : -9223372036854775808 ≤ a ∧ a ≤ 9223372036854775807 := by have := hp.2.2.1; unfold InV at this; omega
 have hb : -9223372036854775808 ≤ b ∧ b ≤ 9223372036854775807 := by have := hp.2.2.2.1; unfold InV at this; omega
 have hc : -9223372036854775808 ≤ c ∧ c ≤ 9223372036854775807 := by have := hp.2.2.2.2.1; unfold InV at this; omega
 have HC : Hid (∀ W, Calls Tryz.prog 17 #[.agg (Pd.svals X 6 6 (mz 6 6 P)).toArray] W fun e w' => e = .returned .nilIface ∧ Below W.heap.size W w') := fun W => pcheck_six X P true W ⟨fun _ => hm, fun _ => rfl⟩
 have HP := Ud.hide (fun W => uplace_any x y a b c W)
 rw [decide_eq_true hp] at HP
 have HU := Ud.hide (fun s o W (q : URow W s o) => uboth_any s P x y a b c o W q bP ha hb hc)
 have HL := Ud.hide (fun W => lof_any 2 (oM P a b c) W (by omega) (by omega) (g2_same _ _ _) (g2_b (cl64 _) (cl64 _) (cl64 _)))
 rw [ofV_no hf] at HL
 obtain ⟨zP, hzP⟩ : ∃ z, z = mz 6 6 P := ⟨_, rfl⟩
 obtain ⟨zM, hzM⟩ : ∃ z, z = mz 2 2 (oM P a b c) := ⟨_, rfl⟩
 rw [← hzP] at HC HU
 rw [← hzM] at HU HL
 rw [← hzP]
 clear hzP hzM hm hp bX bP hf ha hb hc
 have t0 := ((crow_new w 43 (Pd.svals X 6 6 zP)).alloc (.cells (pv x y a b c).toArray 45)).alloc (.cells (gvals (fun _ => 0) 0 (fun _ => 0) (fun _ => 0)).toArray 35)
 have m0 := (crow_new1 w (.cells (Pd.svals X 6 6 zP).toArray 43) 45 (pv x y a b c)).alloc (.cells (gvals (fun _ => 0) 0 (fun _ => 0) (fun _ => 0)).toArray 35)
 have r0 := crow_new2 w (.cells (Pd.svals X 6 6 zP).toArray 43) (.cells (pv x y a b c).toArray 45) 35 (gvals (fun _ => 0) 0 (fun _ => 0) (fun _ => 0))
 have B0 : Below w.heap.size w (((w.alloc (.cells (Pd.svals X 6 6 zP).toArray 43)).alloc (.cells (pv x y a b c).toArray 45)).alloc (.cells (gvals (fun _ => 0) 0 (fun _ => 0) (fun _ => 0)).toArray 35)) := below_al (below_al (below_al (Below.refl _ _) _) _) _
 obtain ⟨W, hW⟩ : ∃ W, W = ((w.alloc (.cells (Pd.svals X 6 6 zP).toArray 43)).alloc (.cells (pv x y a b c).toArray 45)).alloc (.cells (gvals (fun _ => 0) 0 (fun _ => 0) (fun _ => 0)).toArray 35) := ⟨_, rfl⟩
 rw [← hW] at t0 m0 r0 B0
 have HW := Ud.hide hW
 clear hW
 go_enter Tryz.func6, Tryz.ntmps6
 go_wp2_with (first
  | (rw [zeroUp, ← HW.out]; refine St.wpList_load Pd.isS (by rfl) _ (by rfl) _ _ (by rfl) (by with_reducible exact t0) (Pd.svals_len _ _ _ _) ?_)
  | fail)
 refine (HC.out _).mono ?_
 rintro e w1 ⟨rfl, k1⟩
 have t1 := CRow.keep t0 k1
 have r1 := CRow.keep r0 k1
 have m1 := CRow.keep m0 k1
 have B1 := below_tr B0 k1
 clear t0 r0 m0 B0 k1 HC
 go_wp2_with (first
  | (refine St.wpList_load isSn (by rfl) _ (by rfl) _ _ (by rfl) (by with_reducible exact m1) rfl ?_)
  | fail)
 refine (HP.out _).mono ?_
 rintro e w2 ⟨rfl, k2⟩
 have t2 := CRow.keep t1 k2
 have r2 := CRow.keep r1 k2
 have m2 := CRow.keep m1 k2
 have B2 := below_tr B1 k2
 have s3 := crow_new w2 72 [.bool false]
 have k3 := below_al (Below.refl _ w2) (.cells [.bool false].toArray 72)
 have t3 := CRow.keep t2 k3
 have r3 := CRow.keep r2 k3
 have m3 := CRow.keep m2 k3
 have B3 := below_tr B2 k3
 have l2 := CRow.lt r2
 obtain ⟨w3, hw3⟩ : ∃ w3, w3 = w2.alloc (.cells [.bool false].toArray 72) := ⟨_, rfl⟩
 rw [← hw3] at s3 t3 r3 m3 B3
 have H3 := Ud.hide hw3
 obtain ⟨s, hs⟩ : ∃ s, s = w2.heap.size := ⟨_, rfl⟩
 rw [← hs] at s3 l2
 have Hs := Ud.hide hs
 have ls := CRow.lt s3
 have rm3 := Pd.SRow.rm t3
 clear hw3 hs t1 r1 m1 B1 t2 r2 m2 B2 k2 k3 HP HW
 go_wp2_with (first
  | (rw [← H3.out, ← Hs.out])
  | (refine St.wpList_part Pd.isMt (by rfl) _ (by rfl) _ _ _ (by rfl) (by with_reducible exact rm3) (mvals_len _ _ _) ?_)
  | (refine St.wpList_load isSn (by rfl) _ (by rfl) _ _ (by rfl) (by with_reducible exact m3) rfl ?_)
  | fail)
 refine (HU.out s _ _ s3).mono ?_
 rintro e w4 ⟨rfl, s4, k4⟩
 have t4 := crowBut t3 k4 (by omega)
 have r4 := crowBut r3 k4 (by omega)
 have m4 := crowBut m3 k4 (by omega)
 have B4 := k4.below B3 B3.size (fun q e => by omega)
 clear t3 r3 m3 B3 s3 rm3 H3 Hs
 go_wp2_with fail
 refine (HL.out _).mono ?_
 rintro e w5 ⟨rfl, k5⟩
 have t5 := CRow.keep t4 k5
 have r5 := CRow.keep r4 k5
 have m5 := CRow.keep m4 k5
 have s5 := CRow.keep s4 k5
 have B5 := below_tr B4 k5
 clear t4 r4 m4 s4 B4 k5
 go_wp2_with (first
  | (rw [zeroF]; refine St.wpList_storeNew isF rfl _ _ (by rfl) _ _ _ (by rfl) (by rfl) (fvals_len _ _ _) (fvals_len _ _ _) (one_fvals _ _ _) ?_; intro w6 n6 k6; have r6 := CRow.keep r5 k6; have B6 := below_tr B5 k6; clear r5 B5)
  | (refine Up.buildG0 (by with_reducible rfl) (by kernel_rfl) ?_)
  | (refine St.wpList_store Up.isG rfl _ _ (by rfl) _ _ _ (by rfl) (by rfl) (by with_reducible exact r6) (gvals_len _ _ _ _) (gvals_len _ _ _ _) (one_gvals _ _ _ _) ?_)
  | fail)
 exact bodyPost_ret (results_3 Up.isG Tryz.results6 _ _ (w.heap.size + 1 + 1) _ rfl (CRow.row r6 _) (gvals_len _ _ _ _)) rfl ⟨rfl, St.below_row B6 (by omega) _⟩
end Go.Proofs.YtdgcnaijndocnaaGreatDoor
namespace Go.Proofs.YtdgcnaijndocnaaGreatDoor
open Go.RowKit Vc St Mt Pr Qn Ud Up Ld
attribute [local go_sem ↓] Go.wp_at_zero Go.wp_at_succ
namespace Up
end Up
end Go.Proofs.YtdgcnaijndocnaaGreatDoor
namespace Go.Proofs.YtdgcnaijndocnaaGreatDoor
open Go.RowKit Vc St Mt Pr Qn Ud Up Ld
namespace Up
theorem may_gap {P : Nat → Nat → Int} {a b c : Int} (hf : ∀ i, i < 2 → fine (oM P a b c) i) : FMay 2 (mz 2 2 (fL P a b c)) (fD P a b c) := may_st (n := 2) (by omega) (by omega) hf
theorem v_b (X : Nat → Int) (x y : Int) : B64 (v2 (ox X x) (oy X y)) := v2_b (cl64 _) (cl64 _)
end Up
theorem ufar_ok (X : Nat → Int) (P : Nat → Nat → Int) (x y a b c : Int) (w : World) (hf : ∀ i, i < 2 → fine (oM P a b c) i) :
    Calls Tryz.prog 23 #[.agg (gvals (v2 (ox X x) (oy X y)) 2 (mz 2 2 (fL P a b c)) (fD P a b c)).toArray] w fun e w' => e = .returned (.tuple #[.int .i64 (farV (downV (fL P a b c) (v2 (ox X x) (oy X y)) 2) (fD P a b c) 2), .bool (downO (fL P a b c) (v2 (ox X x) (oy X y)) 2 || farO (downV (fL P a b c) (v2 (ox X x) (oy X y)) 2) (fD P a b c) 2), .nilIface]) ∧ Below w.heap.size w w' :=
  ufar_by _ _ _ _ _ _ _ w fun g W hs => lfar_any 2 (some ⟨g, 0, none⟩) 2 (v2 (ox X x) (oy X y)) (fL P a b c) (fD P a b c) W (may_gap hf) hs (v_b X x y) (fL_b P a b c)
end Go.Proofs.YtdgcnaijndocnaaGreatDoor
namespace Go.Proofs.YtdgcnaijndocnaaGreatDoor
open Go.RowKit Vc St Mt Ud Up
namespace Up
end Up
theorem ufar_none (w : World) : Calls Tryz.prog 23 #[.agg (gvals (fun _ => 0) 0 (fun _ => 0) (fun _ => 0)).toArray] w fun e w' => e = .returned (.tuple #[.int .i64 0, .bool false, .iface 70 (.int .i64 1)]) ∧ Below w.heap.size w w' :=
  ufar_by _ _ _ _ _ _ _ w fun g W _ => lfar_no 0 (fun _ => 0) (fun _ => 0) (some ⟨g, 0, none⟩) 2 2 W (fun h => by have := h.1; omega)
end Go.Proofs.YtdgcnaijndocnaaGreatDoor
namespace Go.Proofs.YtdgcnaijndocnaaGreatDoor
open Go.RowKit Vc St Mt Cm Ld Pd Pr Qn Dt
attribute [local go_sem ↓] Go.wp_at_zero Go.wp_at_succ
end Go.Proofs.YtdgcnaijndocnaaGreatDoor
namespace Go.Proofs.YtdgcnaijndocnaaGreatDoor
open Go.RowKit Vc St Mt Cm Ld Pd Pr Qn Dt
attribute [local go_sem ↓] Go.wp_at_zero Go.wp_at_succ
namespace Pd
end Pd
end Go.Proofs.YtdgcnaijndocnaaGreatDoor
namespace Go.Proofs.YtdgcnaijndocnaaGreatDoor
open Go.RowKit Vc St Mt Cm Ld Pd Pr Qn Dt
attribute [local go_sem ↓] Go.wp_at_zero Go.wp_at_succ
namespace Pd
theorem builtS1 (r c : Int) (z : Nat → Int) : Tryz.prog.built 43 [(1, .agg (mvals r c z).toArray)] = some (svals (fun _ => 0) r c z).toArray := by kernel_rfl
theorem buildS1 {ops : Array Oper} {rest : List Oper} {o : Oper} {a : Act} {w : World} {Q : Exit → Act → World → Prop} (y : Operand) (ho : o.op = .build 43 #[(1, y)]) (r c : Int) (z : Nat → Int) (hy : a.eval y = .agg (mvals r c z).toArray) (hw : Region.wanted o (yielded ops a.tmps) = true)
    (h : wpList Tryz.prog ops Q rest (a.put o.dst (.agg (svals (fun _ => 0) r c z).toArray)) w) : wpList Tryz.prog ops Q (o :: rest) a w :=
  wpList_want hw fun _ hK => by
    unfold Oper.wp execOp
    have em : ((#[(1, y)] : Array (Nat × Operand)).map fun (i, x) => (i, a.eval x)).toList = [(1, .agg (mvals r c z).toArray)] := by simp [hy]
    simp only [ho, Sem.run_bind, run_build w 43 _ _ (by rw [em]; exact builtS1 r c z), Result.andThen_ok]
    exact hK _ _ h
end Pd
set_option maxRecDepth 10000 in
set_option maxHeartbeats 1000000 in
theorem pgive_any (xo po : Option Addr) (xc n pc : Nat) (X : Nat → Int) (r c : Int) (z : Nat → Int) (w : World) (hX : Sl w xo 6 xc X)
  (hP : ∀ W, Below w.heap.size w W → Calls Tryz.prog 22 #[.slice po n pc] W fun e w' => e = .returned (.agg (mvals r c z).toArray) ∧ Below W.heap.size W w') :
  Calls Tryz.prog 7 #[.agg #[.slice xo 6 xc, .slice po n pc]] w fun e w' => e = .returned (.agg (svals X r c z).toArray) ∧ Below w.heap.size w w' := by
 have m0 := (crow_new w 25 [.slice xo 6 xc, .slice po n pc]).alloc (.cells (svals (fun _ => 0) 0 0 (fun _ => 0)).toArray 43)
 have r0 := crow_new1 w (.cells [.slice xo 6 xc, .slice po n pc].toArray 25) 43 (svals (fun _ => 0) 0 0 (fun _ => 0))
 have B0 : Below w.heap.size w ((w.alloc (.cells [.slice xo 6 xc, .slice po n pc].toArray 25)).alloc (.cells (svals (fun _ => 0) 0 0 (fun _ => 0)).toArray 43)) := below_al (below_al (Below.refl _ _) _) _
 obtain ⟨W, hW⟩ : ∃ W, W = (w.alloc (.cells [.slice xo 6 xc, .slice po n pc].toArray 25)).alloc (.cells (svals (fun _ => 0) 0 0 (fun _ => 0)).toArray 43) := ⟨_, rfl⟩
 rw [← hW] at m0 r0 B0
 have HW := hide hW
 have HP := hide (hP W B0)
 have c1 : W.cell? ⟨w.heap.size, 1, none⟩ = some (.slice po n pc) := CRow.cell m0 (k := 1) rfl rfl
 clear hW hP
 go_enter Tryz.func7, Tryz.ntmps7
 go_wp2_with (first | (rw [zeroS]; erw [← HW.out]) | fail)
 refine HP.out.mono ?_
 rintro e w1 ⟨rfl, k1⟩
 have m1 := CRow.keep m0 k1
 have r1 := CRow.keep r0 k1
 have B1 := below_tr B0 k1
 have l1 := CRow.lt r1
 clear HW HP m0 r0 B0 k1 c1
 go_wp2_with (first
  | (refine Pd.buildS1 _ (by with_reducible rfl) r c z (by rfl) (by kernel_rfl) ?_)
  | (rw [zeroS]; refine St.wpList_storeNew isS rfl _ _ (by rfl) _ _ _ (by rfl) (by rfl) (svals_len _ _ _ _) (svals_len _ _ _ _) (one_svals _ _ _ _) ?_; intro w2 n2 k2; have m2 := CRow.keep m1 k2; have r2 := CRow.keep r1 k2; have B2 := below_tr B1 k2; have c0 : w2.cell? ⟨w.heap.size, 0, none⟩ = some (.slice xo 6 xc) := CRow.cell m2 (k := 0) rfl rfl; clear m1 r1 B1 k2)
  | fail)
 obtain ⟨g, hg⟩ : ∃ g, g = w1.heap.size := ⟨_, rfl⟩
 rw [← hg] at n2 l1 ⊢
 have HX := hide hX
 clear hg c0 hX
 go_loopw [4] (fun i wr => ∃ k : Nat, k ≤ 6 ∧ i = .int .i64 (k : Int) ∧ CRow wr w.heap.size 25 [.slice xo 6 xc, .slice po n pc] ∧ SRow wr (w.heap.size + 1) (fun _ => 0) 0 0 (fun _ => 0) ∧ SRow wr g (pt X (fun _ => 0) k) r c z ∧ Below w.heap.size w wr) (fun i _ => 6 - (intOf i).toNat)
 case atStart => exact ⟨0, by omega, rfl, m2, r2, SRow.congr n2 (fun i _ => pt_zero X (fun _ => 0) i) (fun _ _ => rfl), B2⟩
 case round =>
  obtain ⟨k, hk, rfl, m3, r3, n3, B3⟩ := hrel
  have x3 := HX.out.keep B3
  obtain ⟨xa, hxa, hxc⟩ := x3.get
  obtain rfl := hxa (by omega)
  have l5 := x3.le
  have l6 := x3.cap
  by_cases h : k < 6
  ·have c0 : World.cell? _ ⟨w.heap.size, 0, none⟩ = some (.slice (some xa) 6 xc) := CRow.cell m3 (k := 0) rfl rfl
   have c2 := hxc k h
   have c3 := SRow.x n3 (k := k) h rfl
   have f3 := CRow.free n3 k
   obtain ⟨v, hv⟩ : ∃ v, v = X k := ⟨_, rfl⟩
   rw [← hv] at c2
   have HV := hide hv
   clear hv hxc hxa x3
   go_wp2
   go_roundw
   case rel => exact ⟨k + 1, by omega, by go_num, CRow.other m3 _ (by show w.heap.size ≠ g; omega), CRow.other r3 _ (by show w.heap.size + 1 ≠ g; omega), SRow.congr (SRow.setx n3 h rfl _) (fun i _ => by rw [HV.out]; exact pt_step X (fun _ => 0) k i) (fun _ _ => rfl), B3.trans (St.below_set B3.size (by show w.heap.size ≤ g; omega) _)⟩
   case measure => simp [intOf]; omega
  ·obtain rfl : k = 6 := by omega
   have n4 := SRow.congr n3 (fun i hi => pt_end X (fun _ => 0) hi) (fun _ _ => rfl)
   clear n3 hxc hxa x3 h
   go_wp2_with (first
    | (refine St.wpList_load isS (by rfl) _ (by rfl) _ _ (by rfl) (by with_reducible exact n4) (svals_len _ _ _ _) ?_)
    | (refine St.wpList_store isS rfl _ _ (by rfl) _ _ _ (by rfl) (by rfl) (by with_reducible exact r3) (svals_len _ _ _ _) (svals_len _ _ _ _) (one_svals _ _ _ _) ?_)
    | fail)
   exact bodyPost_ret (results_1 isS Tryz.results7 _ _ (w.heap.size + 1) _ rfl (CRow.row r3 _) (svals_len _ _ _ _)) rfl ⟨rfl, St.below_row B3 (by omega) _⟩
namespace Pd
end Pd
end Go.Proofs.YtdgcnaijndocnaaGreatDoor
namespace Go.Proofs.YtdgcnaijndocnaaGreatDoor
open Go.RowKit Vc St Mt Pr Qn Ud Up Ld
attribute [local go_sem ↓] Go.wp_at_zero Go.wp_at_succ
set_option maxRecDepth 10000 in
set_option maxHeartbeats 4000000 in
theorem uof_yes (X : Nat → Int) (P : Nat → Nat → Int) (x y a b c : Int) (w : World) (hm : MayV X P) (hp : MayN x y a b c) (bX : B64 X) (bP : B2 P) (hf : ∀ i, i < 2 → fine (oM P a b c) i) :
  Calls Tryz.prog 6 #[.agg (Pd.svals X 6 6 (mz 6 6 P)).toArray, .agg (pv x y a b c).toArray] w fun e w' => e = .returned (.tuple #[.agg (gvals (v2 (ox X x) (oy X y)) 2 (mz 2 2 (fL P a b c)) (fD P a b c)).toArray, .bool (og X P x y a b c), .nilIface]) ∧ Below w.heap.size w w' := by
 have ha : -9223372036854775808 ≤ a ∧ a ≤ 9223372036854775807 := by have := hp.2.2.1; unfold InV at this; omega
 have hb : -9223372036854775808 ≤ b ∧ b ≤ 9223372036854775807 := by have := hp.2.2.2.1; unfold InV at this; omega
 have hc : -9223372036854775808 ≤ c ∧ c ≤ 9223372036854775807 := by have := hp.2.2.2.2.1; unfold InV at this; omega
 have HC : Hid (∀ W, Calls Tryz.prog 17 #[.agg (Pd.svals X 6 6 (mz 6 6 P)).toArray] W fun e w' => e = .returned .nilIface ∧ Below W.heap.size W w') := fun W => pcheck_six X P true W ⟨fun _ => hm, fun _ => rfl⟩
 have HP := Ud.hide (fun W => uplace_any x y a b c W)
 rw [decide_eq_true hp] at HP
 have HU := Ud.hide (fun s o W (q : URow W s o) => uboth_any s P x y a b c o W q bP ha hb hc)
 have HL := Ud.hide (fun W => lof_any 2 (oM P a b c) W (by omega) (by omega) (g2_same _ _ _) (g2_b (cl64 _) (cl64 _) (cl64 _)))
 have hx : -9223372036854775808 ≤ x ∧ x ≤ 9223372036854775807 := by have := hp.1; unfold InV at this; omega
 have hy : -9223372036854775808 ≤ y ∧ y ≤ 9223372036854775807 := by have := hp.2.1; unfold InV at this; omega
 have HY := Ud.hide (fun s o W (q : URow W s o) => uaway_any s X 6 6 (mz 6 6 P) x y a b c o W q bX hx hy)
 rw [ofV_yes hf] at HL
 unfold fL fD
 rw [og_is]
 obtain ⟨zP, hzP⟩ : ∃ z, z = mz 6 6 P := ⟨_, rfl⟩
 obtain ⟨zM, hzM⟩ : ∃ z, z = mz 2 2 (oM P a b c) := ⟨_, rfl⟩
 obtain ⟨zL, hzL⟩ : ∃ z, z = mz 2 2 (st (oM P a b c) 2).1 := ⟨_, rfl⟩
 obtain ⟨d, hd⟩ : ∃ z, z = (st (oM P a b c) 2).2 := ⟨_, rfl⟩
 obtain ⟨V, hV⟩ : ∃ z, z = v2 (ox X x) (oy X y) := ⟨_, rfl⟩
 obtain ⟨x1, hx1⟩ : ∃ z, z = mo P a b c := ⟨_, rfl⟩
 obtain ⟨x2, hx2⟩ : ∃ z, z = vo X x y := ⟨_, rfl⟩
 rw [← hzP] at HC HU HY
 rw [← hzM] at HU HL
 rw [← hx1] at HU
 rw [← hzL, ← hd] at HL
 rw [← hV, ← hx2] at HY
 rw [← hzP, ← hzL, ← hd, ← hV, ← hx1, ← hx2]
 obtain ⟨xb, hxb⟩ : ∃ q, q = (x1 || x2) := ⟨_, rfl⟩
 rw [← hxb]
 have HXB : Hid (xb = ((false || x1) || x2)) := by show xb = ((false || x1) || x2); rw [hxb, Bool.false_or]
 clear hzP hzM hzL hd hV hm hp bX bP hf ha hb hc hx hy hx1 hx2 hxb
 have t0 := ((crow_new w 43 (Pd.svals X 6 6 zP)).alloc (.cells (pv x y a b c).toArray 45)).alloc (.cells (gvals (fun _ => 0) 0 (fun _ => 0) (fun _ => 0)).toArray 35)
 have m0 := (crow_new1 w (.cells (Pd.svals X 6 6 zP).toArray 43) 45 (pv x y a b c)).alloc (.cells (gvals (fun _ => 0) 0 (fun _ => 0) (fun _ => 0)).toArray 35)
 have r0 := crow_new2 w (.cells (Pd.svals X 6 6 zP).toArray 43) (.cells (pv x y a b c).toArray 45) 35 (gvals (fun _ => 0) 0 (fun _ => 0) (fun _ => 0))
 have B0 : Below w.heap.size w (((w.alloc (.cells (Pd.svals X 6 6 zP).toArray 43)).alloc (.cells (pv x y a b c).toArray 45)).alloc (.cells (gvals (fun _ => 0) 0 (fun _ => 0) (fun _ => 0)).toArray 35)) := below_al (below_al (below_al (Below.refl _ _) _) _) _
 obtain ⟨W, hW⟩ : ∃ W, W = ((w.alloc (.cells (Pd.svals X 6 6 zP).toArray 43)).alloc (.cells (pv x y a b c).toArray 45)).alloc (.cells (gvals (fun _ => 0) 0 (fun _ => 0) (fun _ => 0)).toArray 35) := ⟨_, rfl⟩
 rw [← hW] at t0 m0 r0 B0
 have HW := Ud.hide hW
 clear hW
 go_enter Tryz.func6, Tryz.ntmps6
 go_wp2_with (first
  | (rw [zeroUp, ← HW.out]; refine St.wpList_load Pd.isS (by rfl) _ (by rfl) _ _ (by rfl) (by with_reducible exact t0) (Pd.svals_len _ _ _ _) ?_)
  | fail)
 refine (HC.out _).mono ?_
 rintro e w1 ⟨rfl, k1⟩
 have t1 := CRow.keep t0 k1
 have r1 := CRow.keep r0 k1
 have m1 := CRow.keep m0 k1
 have B1 := below_tr B0 k1
 clear t0 r0 m0 B0 k1 HC
 go_wp2_with (first
  | (refine St.wpList_load isSn (by rfl) _ (by rfl) _ _ (by rfl) (by with_reducible exact m1) rfl ?_)
  | fail)
 refine (HP.out _).mono ?_
 rintro e w2 ⟨rfl, k2⟩
 have t2 := CRow.keep t1 k2
 have r2 := CRow.keep r1 k2
 have m2 := CRow.keep m1 k2
 have B2 := below_tr B1 k2
 have s3 := crow_new w2 72 [.bool false]
 have k3 := below_al (Below.refl _ w2) (.cells [.bool false].toArray 72)
 have t3 := CRow.keep t2 k3
 have r3 := CRow.keep r2 k3
 have m3 := CRow.keep m2 k3
 have B3 := below_tr B2 k3
 have l2 := CRow.lt r2
 obtain ⟨w3, hw3⟩ : ∃ w3, w3 = w2.alloc (.cells [.bool false].toArray 72) := ⟨_, rfl⟩
 rw [← hw3] at s3 t3 r3 m3 B3
 have H3 := Ud.hide hw3
 obtain ⟨s, hs⟩ : ∃ s, s = w2.heap.size := ⟨_, rfl⟩
 rw [← hs] at s3 l2
 have Hs := Ud.hide hs
 have ls := CRow.lt s3
 have rm3 := Pd.SRow.rm t3
 clear hw3 hs t1 r1 m1 B1 t2 r2 m2 B2 k2 k3 HP HW
 go_wp2_with (first
  | (rw [← H3.out, ← Hs.out])
  | (refine St.wpList_part Pd.isMt (by rfl) _ (by rfl) _ _ _ (by rfl) (by with_reducible exact rm3) (mvals_len _ _ _) ?_)
  | (refine St.wpList_load isSn (by rfl) _ (by rfl) _ _ (by rfl) (by with_reducible exact m3) rfl ?_)
  | fail)
 refine (HU.out s _ _ s3).mono ?_
 rintro e w4 ⟨rfl, s4, k4⟩
 have t4 := crowBut t3 k4 (by omega)
 have r4 := crowBut r3 k4 (by omega)
 have m4 := crowBut m3 k4 (by omega)
 have B4 := k4.below B3 B3.size (fun q e => by omega)
 clear t3 r3 m3 B3 s3 rm3 H3 Hs
 go_wp2_with fail
 refine (HL.out _).mono ?_
 rintro e w5 ⟨rfl, k5⟩
 have t5 := CRow.keep t4 k5
 have r5 := CRow.keep r4 k5
 have m5 := CRow.keep m4 k5
 have s5 := CRow.keep s4 k5
 have B5 := below_tr B4 k5
 clear t4 r4 m4 s4 B4 k5
 go_upto_region 7 with (first
  | (rw [zeroF]; refine St.wpList_storeNew isF rfl _ _ (by rfl) _ _ _ (by rfl) (by rfl) (fvals_len _ _ _) (fvals_len _ _ _) (one_fvals _ _ _) ?_; intro w6 n6 k6)
  | fail)
 have t6 := CRow.keep t5 k6
 have m6 := CRow.keep m5 k6
 have r6 := CRow.keep r5 k6
 have s6 := CRow.keep s5 k6
 have B6 := below_tr B5 k6
 have ln := CRow.lt n6
 have l5 := CRow.lt r5
 have ls5 := CRow.lt s5
 obtain ⟨gf, hgf⟩ : ∃ q, q = w5.heap.size := ⟨_, rfl⟩
 rw [← hgf] at n6 ln l5 ls5 ⊢
 have HS : Hid (∀ U, But (· = s) w6 U → (Pd.SRow U w.heap.size X 6 6 zP ∧ CRow U (w.heap.size + 1) 45 (pv x y a b c) ∧ FRow U gf 2 zL d)) := fun U k => ⟨crowBut t6 k (by omega), crowBut m6 k (by omega), crowBut n6 k (by omega)⟩
 have HR2 : Hid (∀ U, But (· = s) w6 U → CRow U (w.heap.size + 1 + 1) 35 (gvals (fun _ => 0) 0 (fun _ => 0) (fun _ => 0))) := fun U k => crowBut r6 k (by omega)
 have HB : Hid (∀ U, But (· = s) w6 U → Below w.heap.size w U) := fun U k => k.below B6 B6.size (fun q e => by omega)
 have D0 : But (· = s) w6 w6.drew := (But.refl _ _).drew
 have o0 : URow w6.drew s (false || x1) := CRow.drew s6
 have lr := CRow.lt r6
 have ls := CRow.lt s6
 clear hgf t5 m5 r5 s5 B5 k6 HU HL t6 m6 r6 s6 B6 n6
 refine Ru.wp_region_U [6] (fun w' => Pd.SRow w' w.heap.size X 6 6 zP ∧ CRow w' (w.heap.size + 1) 45 (pv x y a b c) ∧ FRow w' gf 2 zL d) (by kernel_rfl) (HS.out _ D0) (fun hHeld => ?_)
 refine Ru.wpAnyU_take (i := 0) (v := .agg (Pd.svals X 6 6 zP).toArray) rfl (by kernel_rfl) (by kernel_rfl) (by kernel_rfl) (by kernel_rfl) (by kernel_rfl) (by kernel_rfl) (fun _ _ _ h => h) (Ru.yieldsC Pd.isS (by kernel_rfl) _ (by rfl) w.heap.size _ (by rfl) (fun w h => h.1) (Pd.svals_len _ _ _ _)) hHeld ?_
 simp only [Act.put, zq1, zq2, zq3, zq4, zq5, zq6]
 refine Ru.wpAnyU_take (i := 1) (v := .agg (pv x y a b c).toArray) rfl (by kernel_rfl) (by kernel_rfl) (by kernel_rfl) (by kernel_rfl) (by kernel_rfl) (by kernel_rfl) (fun _ _ _ h => h) (Ru.yieldsC isSn (by kernel_rfl) _ (by rfl) (w.heap.size + 1) _ (by rfl) (fun w h => h.2.1) rfl) hHeld ?_
 simp only [Act.put, zq1, zq2, zq3, zq4, zq5, zq6]
 refine Ru.wpAnyU_take (i := 3) (v := .agg (fvals 2 zL d).toArray) rfl (by kernel_rfl) (by kernel_rfl) (by kernel_rfl) (by kernel_rfl) (by kernel_rfl) (by kernel_rfl) (fun _ _ _ h => h) (Ru.yieldsC isF (by kernel_rfl) _ (by rfl) gf _ (by rfl) (fun w h => h.2.2) (fvals_len _ _ _)) hHeld ?_
 simp only [Act.put, zq1, zq2, zq3, zq4, zq5, zq6]
 refine Ru.wpAnyU_ready (rs := [2, 5]) (by kernel_rfl) (by simp) ?_
 refine Ru.AllReadyU.cons rfl (by kernel_rfl) (fun K hK => ?_) ?_
 ·go_simp
  refine (HY.out s _ _ o0).mono ?_
  rintro e v_1 ⟨rfl, o_1, k_1⟩
  have D_1 := D0.trans k_1
  go_wp2_with fail
  refine hK.out _ _ (HS.out _ D_1) (fun hHeld => ?_)
  clear hK K
  try simp only [Act.put, zq1, zq2, zq3, zq4, zq5, zq6]
  refine Ru.wpAnyU_take (i := 4) (v := .agg (gvals V 2 zL d).toArray) rfl (by kernel_rfl) (by kernel_rfl) (by kernel_rfl) (by kernel_rfl) (by kernel_rfl) (by kernel_rfl) (fun _ _ _ h => h) (Up.yieldsG (by kernel_rfl) _ _ (by rfl) V 2 zL d (by rfl) (by rfl)) hHeld ?_
  simp only [Act.put, zq1, zq2, zq3, zq4, zq5, zq6]
  refine Ru.wpAnyU_ready (rs := [5]) (by kernel_rfl) (by simp) ?_
  refine Ru.AllReadyU.cons rfl (by kernel_rfl) (fun K hK => ?_) Ru.AllReadyU.nil
  go_simp
  try rw [zeroUp]
  have n_2 : CRow (v_1.alloc (.cells (gvals (fun _ => 0) 0 (fun _ => 0) (fun _ => 0)).toArray 35)) (v_1.heap.size) 35 (gvals (fun _ => 0) 0 (fun _ => 0) (fun _ => 0)) := crow_new v_1 35 (gvals (fun _ => 0) 0 (fun _ => 0) (fun _ => 0))
  have a_2 := below_al (Below.refl _ v_1) (.cells (gvals (fun _ => 0) 0 (fun _ => 0) (fun _ => 0)).toArray 35)
  have D_2 := D_1.then a_2
  have o_2 := CRow.keep o_1 a_2
  have g_2 := D_1.size
  refine hK.out _ _ (HS.out _ D_2) (fun hHeld => ?_)
  clear hK K
  try simp only [Act.put, zq1, zq2, zq3, zq4, zq5, zq6]
  refine Ru.wpAnyU_ready (rs := [6]) (by kernel_rfl) (by simp) ?_
  refine Ru.AllReadyU.cons2 rfl (by kernel_rfl) (fun K hK => ?_) Ru.AllReadyU.nil
  refine Ru.stepC Up.isG (by kernel_rfl) _ _ (by rfl) (v_1.heap.size) _ (gvals V 2 zL d) (by rfl) (by rfl) n_2 (gvals_len _ _ _ _) (gvals_len _ _ _ _) (one_gvals _ _ _ _) ?_
  have nE := CRow.row n_2 (gvals V 2 zL d)
  have oE := CRow.rowOther o_2 (g := v_1.heap.size) (by omega) (gvals V 2 zL d).toArray
  have rE := CRow.rowOther (HR2.out _ D_2) (g := v_1.heap.size) (by omega) (gvals V 2 zL d).toArray
  have bE := St.below_row (HB.out _ D_2) (g := v_1.heap.size) (by omega) (gvals V 2 zL d).toArray
  have gz : s < v_1.heap.size := by omega
  have gr : w.heap.size + 1 + 1 ≠ v_1.heap.size := by omega
  rw [← HXB.out] at oE
  obtain ⟨ge, hge⟩ : ∃ q, q = v_1.heap.size := ⟨_, rfl⟩
  rw [← hge] at nE oE rE bE gz gr ⊢
  refine hK.out _ _ ?_
  clear hK K
  clear HS HR2 HB D0 o0 HY
  generalize (World.setRow _ ge (gvals V 2 zL d).toArray) = wE at *
  try simp only [Act.put, zq1, zq2, zq3, zq4, zq5, zq6]
  refine wpAny_done (by kernel_rfl) ?_ _
  have c5 := URow.o oE
  go_upto_region 8 with fail
  refine Ru.wp_region_U [5] (fun w' => CRow w' ge 35 (gvals V 2 zL d) ∧ w'.cell? ⟨s, 0, none⟩ = some (.bool xb)) (by kernel_rfl) ⟨CRow.drew nE, c5⟩ (fun hHeld => ?_)
  refine Ru.wpAnyU_take (i := 0) (v := .agg (gvals V 2 zL d).toArray) rfl (by kernel_rfl) (by kernel_rfl) (by kernel_rfl) (by kernel_rfl) (by kernel_rfl) (by kernel_rfl) (fun _ _ _ h => h) (Ru.yieldsC Up.isG (by kernel_rfl) _ (by rfl) ge _ (by rfl) (fun w h => h.1) (gvals_len _ _ _ _)) hHeld ?_
  simp only [Act.put, zq1, zq2, zq3, zq4, zq5, zq6]
  refine Ru.wpAnyU_take (i := 1) (v := .pointer (some ⟨s, 0, none⟩)) rfl (by kernel_rfl) (by kernel_rfl) (by kernel_rfl) (by kernel_rfl) (by kernel_rfl) (by kernel_rfl) (fun _ _ _ h => h) (Or.inl ⟨by kernel_rfl, fun w hS => by obtain ⟨sc0, sc1⟩ := hS; go_simp⟩) hHeld ?_
  simp only [Act.put, zq1, zq2, zq3, zq4, zq5, zq6]
  refine Ru.wpAnyU_take (i := 2) (v := .bool xb) rfl (by kernel_rfl) (by kernel_rfl) (by kernel_rfl) (by kernel_rfl) (by kernel_rfl) (by kernel_rfl) (fun _ _ _ h => h) (Or.inl ⟨by kernel_rfl, fun w hS => by obtain ⟨sc0, sc1⟩ := hS; go_simp⟩) hHeld ?_
  simp only [Act.put, zq1, zq2, zq3, zq4, zq5, zq6]
  refine Ru.wpAnyU_ready (rs := [3]) (by kernel_rfl) (by simp) ?_
  refine Ru.AllReadyU.cons rfl (by kernel_rfl) (fun K hK => ?_) Ru.AllReadyU.nil
  refine Ru.stepC Up.isG (by kernel_rfl) _ _ (by rfl) (w.heap.size + 1 + 1) _ (gvals V 2 zL d) (by rfl) (by rfl) (CRow.drew rE) (gvals_len _ _ _ _) (gvals_len _ _ _ _) (one_gvals _ _ _ _) ?_
  have nF : CRow (wE.drew.setRow (w.heap.size + 1 + 1) (gvals V 2 zL d).toArray) ge 35 (gvals V 2 zL d) := CRow.rowOther (CRow.drew nE) (by omega) _
  have oF : URow (wE.drew.setRow (w.heap.size + 1 + 1) (gvals V 2 zL d).toArray) s xb := CRow.rowOther (CRow.drew oE) (by omega) _
  have rF : CRow (wE.drew.setRow (w.heap.size + 1 + 1) (gvals V 2 zL d).toArray) (w.heap.size + 1 + 1) 35 (gvals V 2 zL d) := CRow.row (CRow.drew rE) _
  have bF := St.below_row bE.drew (g := w.heap.size + 1 + 1) (by omega) (gvals V 2 zL d).toArray
  refine hK.out _ _ ⟨nF, URow.o oF⟩ (fun hHeld => ?_)
  clear hK K
  try simp only [Act.put, zq1, zq2, zq3, zq4, zq5, zq6]
  refine Ru.wpAnyU_take (i := 4) (v := .bool xb) rfl (by kernel_rfl) (by kernel_rfl) (by kernel_rfl) (by kernel_rfl) (by kernel_rfl) (by kernel_rfl) (fun _ _ _ h => h) (Or.inl ⟨by kernel_rfl, fun w hS => by obtain ⟨sc0, sc1⟩ := hS; go_simp⟩) hHeld ?_
  simp only [Act.put, zq1, zq2, zq3, zq4, zq5, zq6]
  refine Ru.wpAnyU_ready (rs := [5]) (by kernel_rfl) (by simp) ?_
  refine Ru.AllReadyU.cons2 rfl (by kernel_rfl) (fun K hK => ?_) Ru.AllReadyU.nil
  go_simp
  refine hK.out _ _ ?_
  clear hK K
  try simp only [Act.put, zq1, zq2, zq3, zq4, zq5, zq6]
  refine wpAny_done (by kernel_rfl) ?_ _
  go_wp2
  exact bodyPost_ret (results_3 Up.isG Tryz.results6 _ _ (w.heap.size + 1 + 1) _ rfl rF (gvals_len _ _ _ _)) rfl ⟨rfl, bF⟩
 refine Ru.AllReadyU.cons rfl (by kernel_rfl) (fun K hK => ?_) Ru.AllReadyU.nil
 go_simp
 try rw [zeroUp]
 have n_3 : CRow (w6.drew.alloc (.cells (gvals (fun _ => 0) 0 (fun _ => 0) (fun _ => 0)).toArray 35)) (w6.heap.size) 35 (gvals (fun _ => 0) 0 (fun _ => 0) (fun _ => 0)) := crow_new w6.drew 35 (gvals (fun _ => 0) 0 (fun _ => 0) (fun _ => 0))
 have a_3 := below_al (Below.refl _ w6.drew) (.cells (gvals (fun _ => 0) 0 (fun _ => 0) (fun _ => 0)).toArray 35)
 have D_3 := D0.then a_3
 have o_3 := CRow.keep o0 a_3
 have g_3 := D0.size
 have e_3 : w6.drew.heap.size = w6.heap.size := rfl
 refine hK.out _ _ (HS.out _ D_3) (fun hHeld => ?_)
 clear hK K
 try simp only [Act.put, zq1, zq2, zq3, zq4, zq5, zq6]
 refine Ru.wpAnyU_ready (rs := [2]) (by kernel_rfl) (by simp) ?_
 refine Ru.AllReadyU.cons rfl (by kernel_rfl) (fun K hK => ?_) Ru.AllReadyU.nil
 go_simp
 refine (HY.out s _ _ o_3).mono ?_
 rintro e v_4 ⟨rfl, o_4, k_4⟩
 have D_4 := D_3.trans k_4
 have n_4 := crowBut n_3 k_4 (by omega)
 go_wp2_with fail
 refine hK.out _ _ (HS.out _ D_4) (fun hHeld => ?_)
 clear hK K
 try simp only [Act.put, zq1, zq2, zq3, zq4, zq5, zq6]
 refine Ru.wpAnyU_take (i := 4) (v := .agg (gvals V 2 zL d).toArray) rfl (by kernel_rfl) (by kernel_rfl) (by kernel_rfl) (by kernel_rfl) (by kernel_rfl) (by kernel_rfl) (fun _ _ _ h => h) (Up.yieldsG (by kernel_rfl) _ _ (by rfl) V 2 zL d (by rfl) (by rfl)) hHeld ?_
 simp only [Act.put, zq1, zq2, zq3, zq4, zq5, zq6]
 refine Ru.wpAnyU_ready (rs := [6]) (by kernel_rfl) (by simp) ?_
 refine Ru.AllReadyU.cons2 rfl (by kernel_rfl) (fun K hK => ?_) Ru.AllReadyU.nil
 refine Ru.stepC Up.isG (by kernel_rfl) _ _ (by rfl) (w6.heap.size) _ (gvals V 2 zL d) (by rfl) (by rfl) n_4 (gvals_len _ _ _ _) (gvals_len _ _ _ _) (one_gvals _ _ _ _) ?_
 have nE := CRow.row n_4 (gvals V 2 zL d)
 have oE := CRow.rowOther o_4 (g := w6.heap.size) (by omega) (gvals V 2 zL d).toArray
 have rE := CRow.rowOther (HR2.out _ D_4) (g := w6.heap.size) (by omega) (gvals V 2 zL d).toArray
 have bE := St.below_row (HB.out _ D_4) (g := w6.heap.size) (by omega) (gvals V 2 zL d).toArray
 have gz : s < w6.heap.size := by omega
 have gr : w.heap.size + 1 + 1 ≠ w6.heap.size := by omega
 rw [← HXB.out] at oE
 obtain ⟨ge, hge⟩ : ∃ q, q = w6.heap.size := ⟨_, rfl⟩
 rw [← hge] at nE oE rE bE gz gr ⊢
 refine hK.out _ _ ?_
 clear hK K
 clear HS HR2 HB D0 o0 HY
 generalize (World.setRow _ ge (gvals V 2 zL d).toArray) = wE at *
 try simp only [Act.put, zq1, zq2, zq3, zq4, zq5, zq6]
 refine wpAny_done (by kernel_rfl) ?_ _
 have c5 := URow.o oE
 go_upto_region 8 with fail
 refine Ru.wp_region_U [5] (fun w' => CRow w' ge 35 (gvals V 2 zL d) ∧ w'.cell? ⟨s, 0, none⟩ = some (.bool xb)) (by kernel_rfl) ⟨CRow.drew nE, c5⟩ (fun hHeld => ?_)
 refine Ru.wpAnyU_take (i := 0) (v := .agg (gvals V 2 zL d).toArray) rfl (by kernel_rfl) (by kernel_rfl) (by kernel_rfl) (by kernel_rfl) (by kernel_rfl) (by kernel_rfl) (fun _ _ _ h => h) (Ru.yieldsC Up.isG (by kernel_rfl) _ (by rfl) ge _ (by rfl) (fun w h => h.1) (gvals_len _ _ _ _)) hHeld ?_
 simp only [Act.put, zq1, zq2, zq3, zq4, zq5, zq6]
 refine Ru.wpAnyU_take (i := 1) (v := .pointer (some ⟨s, 0, none⟩)) rfl (by kernel_rfl) (by kernel_rfl) (by kernel_rfl) (by kernel_rfl) (by kernel_rfl) (by kernel_rfl) (fun _ _ _ h => h) (Or.inl ⟨by kernel_rfl, fun w hS => by obtain ⟨sc0, sc1⟩ := hS; go_simp⟩) hHeld ?_
 simp only [Act.put, zq1, zq2, zq3, zq4, zq5, zq6]
 refine Ru.wpAnyU_take (i := 2) (v := .bool xb) rfl (by kernel_rfl) (by kernel_rfl) (by kernel_rfl) (by kernel_rfl) (by kernel_rfl) (by kernel_rfl) (fun _ _ _ h => h) (Or.inl ⟨by kernel_rfl, fun w hS => by obtain ⟨sc0, sc1⟩ := hS; go_simp⟩) hHeld ?_
 simp only [Act.put, zq1, zq2, zq3, zq4, zq5, zq6]
 refine Ru.wpAnyU_ready (rs := [3]) (by kernel_rfl) (by simp) ?_
 refine Ru.AllReadyU.cons rfl (by kernel_rfl) (fun K hK => ?_) Ru.AllReadyU.nil
 refine Ru.stepC Up.isG (by kernel_rfl) _ _ (by rfl) (w.heap.size + 1 + 1) _ (gvals V 2 zL d) (by rfl) (by rfl) (CRow.drew rE) (gvals_len _ _ _ _) (gvals_len _ _ _ _) (one_gvals _ _ _ _) ?_
 have nF : CRow (wE.drew.setRow (w.heap.size + 1 + 1) (gvals V 2 zL d).toArray) ge 35 (gvals V 2 zL d) := CRow.rowOther (CRow.drew nE) (by omega) _
 have oF : URow (wE.drew.setRow (w.heap.size + 1 + 1) (gvals V 2 zL d).toArray) s xb := CRow.rowOther (CRow.drew oE) (by omega) _
 have rF : CRow (wE.drew.setRow (w.heap.size + 1 + 1) (gvals V 2 zL d).toArray) (w.heap.size + 1 + 1) 35 (gvals V 2 zL d) := CRow.row (CRow.drew rE) _
 have bF := St.below_row bE.drew (g := w.heap.size + 1 + 1) (by omega) (gvals V 2 zL d).toArray
 refine hK.out _ _ ⟨nF, URow.o oF⟩ (fun hHeld => ?_)
 clear hK K
 try simp only [Act.put, zq1, zq2, zq3, zq4, zq5, zq6]
 refine Ru.wpAnyU_take (i := 4) (v := .bool xb) rfl (by kernel_rfl) (by kernel_rfl) (by kernel_rfl) (by kernel_rfl) (by kernel_rfl) (by kernel_rfl) (fun _ _ _ h => h) (Or.inl ⟨by kernel_rfl, fun w hS => by obtain ⟨sc0, sc1⟩ := hS; go_simp⟩) hHeld ?_
 simp only [Act.put, zq1, zq2, zq3, zq4, zq5, zq6]
 refine Ru.wpAnyU_ready (rs := [5]) (by kernel_rfl) (by simp) ?_
 refine Ru.AllReadyU.cons2 rfl (by kernel_rfl) (fun K hK => ?_) Ru.AllReadyU.nil
 go_simp
 refine hK.out _ _ ?_
 clear hK K
 try simp only [Act.put, zq1, zq2, zq3, zq4, zq5, zq6]
 refine wpAny_done (by kernel_rfl) ?_ _
 go_wp2
 exact bodyPost_ret (results_3 Up.isG Tryz.results6 _ _ (w.heap.size + 1 + 1) _ rfl rF (gvals_len _ _ _ _)) rfl ⟨rfl, bF⟩
end Go.Proofs.YtdgcnaijndocnaaGreatDoor
