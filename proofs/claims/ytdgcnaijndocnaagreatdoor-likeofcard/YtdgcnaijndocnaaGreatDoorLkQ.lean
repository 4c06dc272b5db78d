/-
  What package like answers (layer 16), said once: its contracts; what must come whatever the input is (sure of the laws).
-/
import Derived.Test.YtdgcnaijndocnaaGreatDoorM36
import Derived.Test.YtdgcnaijndocnaaGreatDoorM35
import Derived.Test.YtdgcnaijndocnaaGreatDoorM27
set_option linter.unusedSimpArgs false
set_option linter.unusedVariables false
namespace Go.Proofs.YtdgcnaijndocnaaGreatDoor
open Go.RowKit Vc Cn Lk
namespace Lk
theorem hideL {p : Prop} (h : p) : Hid p := h
def errK (n : Int) : Value := .iface 70 (.int .i64 n)
def KOf : Prop := ∀ (W : World) (X : Nat → Int) (P : Nat → Nat → Int) (x y a b c : Int), (∀ i, i < 2 → Ld.fine (Ud.oM P a b c) i) →
  Calls Tryz.prog 8 #[.agg (Up.gvals (Ud.v2 (Ud.ox X x) (Ud.oy X y)) 2 (Mt.mz 2 2 (Ud.fL P a b c)) (Ud.fD P a b c)).toArray] W fun e w' =>
    e = .returned (.tuple #[.int .i64 (ofN (Ud.fL P a b c) (Ud.fD P a b c) (Ud.v2 (Ud.ox X x) (Ud.oy X y))), .bool (ofO (Ud.fL P a b c) (Ud.fD P a b c) (Ud.v2 (Ud.ox X x) (Ud.oy X y))), .nilIface]) ∧ Below W.heap.size W w'
def KOf0 : Prop := ∀ (W : World), Calls Tryz.prog 8 #[.agg (Up.gvals (fun _ => 0) 0 (fun _ => 0) (fun _ => 0)).toArray] W fun e w' => e = .returned (.tuple #[.int .i64 0, .bool false, errK 1]) ∧ Below W.heap.size W w'
def KWeights : Prop := ∀ (W : World) (lo co : Option Addr) (n cl m cc : Nat) (l c : Nat → Int) (fl : Int), Sl W lo n cl l → B64 l → Sl W co m cc c → B64 c → -9223372036854775808 ≤ fl → fl ≤ 9223372036854775807 →
  Calls Tryz.prog 12 #[.slice lo n cl, .slice co m cc, .int .i64 fl] W fun e w' => ∃ vo vn vc b ev, e = .returned (.tuple #[.slice vo vn vc, .bool b, ev]) ∧ Below W.heap.size W w' ∧ Sl w' vo vn vc (oc fl (wz l c n) n) ∧
    ((¬ (n = m ∧ MayL n l c fl) ∧ vn = 0 ∧ ev = errK 1) ∨ (n = m ∧ MayL n l c fl ∧ vn = n ∧ b = wo l c n n ∧ ev = .nilIface))
def KBest : Prop := ∀ (W : World) (lo : Option Addr) (n cl : Nat) (l : Nat → Int), Sl W lo n cl l → B64 l →
  Calls Tryz.prog 14 #[.slice lo n cl] W fun e w' => ∃ (k : Nat) (d : Int) (ev : Value), e = .returned (.tuple #[.int .i64 (k : Int), .int .i64 d, ev]) ∧ Below W.heap.size W w' ∧
    ((¬ (1 ≤ n ∧ n ≤ 64) ∧ k = 0 ∧ d = 0 ∧ ev = errK 1) ∨ (1 ≤ n ∧ n ≤ 64 ∧ k = pl l n ∧ d = lft l (pl l n) n ∧ ev = .nilIface))
structure LPkg : Prop where
  of : KOf
  none : KOf0
  weights : KWeights
  best : KBest
theorem one_ch : Ch 2 (fun k => if k = 0 then 536870912 else 536870912) 0 := ⟨by omega, by omega, by omega, by omega, fun k _ => by show (0 : Int) ≤ if k = 0 then 536870912 else 536870912; split <;> omega, by decide +kernel⟩
theorem one_may : MayL 2 (fun k => if k = 0 then 5 else 5) (fun k => if k = 0 then 536870912 else 536870912) 0 := ⟨one_ch, by omega, by omega, fun k _ => by show _ ≤ (if k = 0 then (5 : Int) else 5) ∧ (if k = 0 then (5 : Int) else 5) ≤ _; split <;> omega⟩
end Lk
section
variable (P : Lk.LPkg)
include P
theorem lsure_w (w : World) (ao bo : Option Addr) (h : Sl w ao 2 2 (fun k => if k = 0 then 5 else 5)) (h2 : Sl w bo 2 2 (fun k => if k = 0 then 536870912 else 536870912)) :
    Calls Tryz.prog 12 #[.slice ao 2 2, .slice bo 2 2, .int .i64 0] w fun e w' => ∃ vo vc, e = .returned (.tuple #[.slice vo 2 vc, .bool false, .nilIface]) ∧ Sl w' vo 2 vc (fun k => if k = 0 then 536870912 else 536870912) ∧ Below w.heap.size w w' := by
  refine (P.weights w ao bo 2 2 2 2 _ _ 0 h (fun k => by show _ ≤ (if k = 0 then (5 : Int) else 5) ∧ (if k = 0 then (5 : Int) else 5) ≤ _; split <;> omega) h2 (fun k => by show _ ≤ (if k = 0 then (536870912 : Int) else 536870912) ∧ (if k = 0 then (536870912 : Int) else 536870912) ≤ _; split <;> omega) (by omega) (by omega)).mono ?_
  rintro e w' ⟨vo, vn, vc, b, ev, rfl, k1, s1, ⟨q, _⟩ | ⟨_, _, rfl, rfl, rfl⟩⟩
  · exact absurd ⟨rfl, one_may⟩ q
  · exact ⟨vo, vc, by rw [show wo (fun k => if k = 0 then 5 else 5) (fun k => if k = 0 then 536870912 else 536870912) 2 2 = false by decide +kernel], s1.congr (fun k hk => by
      match k, hk with
      | 0, _ => decide +kernel
      | 1, _ => decide +kernel), k1⟩
theorem lsure_b (w : World) (ao : Option Addr) (h : Sl w ao 3 3 (fun k => if k = 0 then 1 else if k = 1 then 9 else 4)) :
    Calls Tryz.prog 14 #[.slice ao 3 3] w fun e w' => e = .returned (.tuple #[.int .i64 1, .int .i64 5, .nilIface]) ∧ Below w.heap.size w w' := by
  refine (P.best w ao 3 3 _ h (fun k => by show _ ≤ (if k = 0 then (1 : Int) else if k = 1 then 9 else 4) ∧ (if k = 0 then (1 : Int) else if k = 1 then 9 else 4) ≤ _; split <;> (try split) <;> omega)).mono ?_
  rintro e w' ⟨k, d, ev, rfl, k1, ⟨q, _⟩ | ⟨_, _, rfl, rfl, rfl⟩⟩
  · exact absurd ⟨by omega, by omega⟩ q
  · exact ⟨by rw [show pl (fun k => if k = 0 then 1 else if k = 1 then 9 else 4) 3 = 1 by decide +kernel, show lft (fun k => if k = 0 then 1 else if k = 1 then 9 else 4) 1 3 = 5 by decide +kernel]; rfl, k1⟩
set_option maxRecDepth 20000 in
set_option maxHeartbeats 2000000 in
theorem lsure_any (w : World) (hE : ErrTab w) :
  Calls Tryz.prog 5 #[] w fun e w' => e = .returned (.bool true) ∧ Below w.heap.size w w' := by
 have HW := hideL (lsure_w P)
 have HB := hideL (lsure_b P)
 have HO : Hid (∀ W, Calls Tryz.prog 8 #[.agg (Up.gvals (fun _ => 0) 0 (fun _ => 0) (fun _ => 0)).toArray] W fun e w' => e = .returned (.tuple #[.int .i64 0, .bool false, .iface 70 (.int .i64 1)]) ∧ Below W.heap.size W w') := P.none
 have HE := hideL hE
 clear hE
 go_enter Tryz.func5, Tryz.ntmps5
 go_wp2_with fail
 refine (HW.out _ _ _ (Sl.duoQ (by go_simp) (by rw [Addr.add_lit]; go_simp)) (Sl.duoQ (by go_simp) (by rw [Addr.add_lit]; go_simp))).mono ?_
 rintro e w1 ⟨vo, vc, rfl, s1, k1⟩
 have K1 := below_tr (below_al (below_al (Below.refl _ w) _) _) k1
 clear k1
 go_wp2_with fail
 refine (HB.out _ _ (Sl.trioQ (by go_simp) (by rw [Addr.add_lit]; go_simp) (by rw [Addr.add_lit]; go_simp))).mono ?_
 rintro e w2 ⟨rfl, k2⟩
 have k2' := below_tr (below_al (Below.refl _ w1) _) k2
 have K2 := below_tr K1 k2'
 have s2 := s1.keep k2'
 clear k2 k2' s1 K1
 go_wp2_with (first
  | ((with_reducible show wpList _ _ _ _ _ _); refine Up.buildG0 (by with_reducible rfl) (by kernel_rfl) ?_)
  | fail)
 refine (HO.out _).mono ?_
 rintro e w3 ⟨rfl, k3⟩
 have K3 := below_tr K2 k3
 have s3 := s2.keep k3
 clear k3 s2 K2
 go_wp2_with fail
 refine (nums_yes _ _ 2 _ 2 _ _ (s3.keep (below_al (Below.refl _ _) _)) (Sl.duoQ (by go_simp) (by rw [Addr.add_lit]; go_simp))).mono ?_
 rintro e w4 ⟨rfl, k4⟩
 have K4 := below_tr K3 (below_tr (below_al (Below.refl _ _) _) k4)
 clear k4 s3 K3
 go_wp2_with fail
 refine (num_err 1 _ (HE.out.below K4)).mono ?_
 rintro e w5 ⟨rfl, k5⟩
 go_wp2
 go_ret
 exact ⟨rfl, below_tr K4 k5⟩
end
end Go.Proofs.YtdgcnaijndocnaaGreatDoor
