/-
  LikeWeights, of whatever comes in, from package like's contracts. (By py/LkW.py.)
-/
import Derived.Test.YtdgcnaijndocnaaGreatDoorLkQ
import Derived.Test.YtdgcnaijndocnaaGreatDoorFLikeWeights
set_option linter.unusedSimpArgs false
set_option linter.unusedVariables false
namespace Go.Proofs.YtdgcnaijndocnaaGreatDoor
open Go.RowKit Vc Cn Lk

namespace Lk
theorem getD_b64 {z : List Int} (h5 : ∀ n ∈ z, (Lit.int .i64 n).wf = true) : B64 (fun k => z.getD k 0) := by
  intro k
  show _ ≤ z.getD k 0 ∧ z.getD k 0 ≤ _
  by_cases hk : k < z.length
  · have e : z.getD k 0 = z[k] := by simp [List.getD, List.getElem?_eq_getElem hk]
    rw [e]
    exact bounds_i64 (h5 _ (List.getElem_mem hk))
  · have e : z.getD k 0 = 0 := by simp [List.getD, List.getElem?_eq_none (Nat.le_of_not_lt hk)]
    rw [e]; omega
theorem isrowW {w : World} {a : Option Addr} {len cap : Nat} {z : List Int} (h : FLikeWeights.IsRow .i64 w a len cap z) : Sl w a len cap (fun k => z.getD k 0) ∧ B64 (fun k => z.getD k 0) := by
  rcases h with ⟨rfl, rfl, rfl, rfl⟩ | ⟨x, rfl, h1, h2, h3, h4, h5⟩
  · exact ⟨Sl.none _ _, fun k => by simp⟩
  · exact ⟨⟨h1, h2, fun k hk => ⟨x, rfl, h4 k (by omega)⟩⟩, getD_b64 h5⟩
end Lk

set_option maxRecDepth 20000 in
set_option maxHeartbeats 2000000 in
theorem lw_yes (P : Lk.LPkg) (lo co : Option Addr) (n cl cc : Nat) (l c : Nat → Int) (fl : Int) (w : World) (hs : Sl w lo n cl l) (bl : B64 l) (hc : Sl w co n cc c) (bc : B64 c) (f0 : -9223372036854775808 ≤ fl) (f1 : fl ≤ 9223372036854775807) (hE : ErrTab w) (hM : MayL n l c fl) :
    Calls Tryz.prog 4 #[.slice lo n cl, .slice co n cc, .int .i64 fl] w fun e w' => e = .returned (.bool true) ∧ Below w.heap.size w w' := by
  have n1 := hM.ch.one
  have n4 : n ≤ 64 := by have := hM.ch.four; omega
  have HX := hideL (P.weights w lo co n cl n cc l c fl hs bl hc bc f0 f1)
  have HD := hideL (fun W (b : Below w.heap.size w W) => rweights_yes n cl cc lo co l c fl W (hs.keep b) (hc.keep b) bl bc hM)
  have HB := hideL (fun W (b : Below w.heap.size w W) => P.best W lo n cl l (hs.keep b) bl)
  have HR := hideL (fun W (b : Below w.heap.size w W) => rbest_any n cl lo l W (hs.keep b) bl n1 n4)
  have g1 : decide ((n : Int) < 1) = false := decide_eq_false (by omega)
  have g2 : decide ((n : Int) > 64) = false := decide_eq_false (by omega)
  have HN := hideL (show 1 ≤ n ∧ n ≤ 64 from ⟨n1, n4⟩)
  have HSu := hideL (lsure_any P)
  have HE := hideL hE
  have HM := hideL hM
  clear hs bl hc bc hE hM n1 n4 f0 f1
  go_enter Tryz.func4, Tryz.ntmps4
  go_wp2_with fail
  refine HX.out.mono ?_
  rintro e w1 ⟨vo, vn, vc, b, ev, rfl, k1, s1, ⟨q, _⟩ | ⟨_, _, q1, q2, rfl⟩⟩
  · exact absurd ⟨trivial, HM.out⟩ q
  obtain rfl : n = vn := q1.symm
  have HO : Hid (b = wo l c n n) := q2
  clear q1 q2
  go_wp2_with fail
  refine (HD.out _ k1).mono ?_
  rintro e w2 ⟨xo, xc, rfl, ow⟩
  rw [← HO.out]
  have K2 := below_tr k1 ow.below
  obtain ⟨ao, ca, e1, s2⟩ := ow.sl
  cases e1
  have s1' := s1.keep ow.below
  clear s1 ow k1
  go_wp2_with fail
  refine (HB.out _ K2).mono ?_
  rintro e w3 ⟨p, d, ev, rfl, k3, ⟨q, _⟩ | ⟨_, _, rfl, rfl, rfl⟩⟩
  · exact absurd HN.out q
  have K3 := below_tr K2 k3
  have s1 := s1'.keep k3
  have s2' := s2.keep k3
  clear s1' s2 k3 K2
  go_wp2_with fail
  refine (num_nil _).mono ?_
  rintro e w4 ⟨rfl, k4⟩
  have K4 := below_tr K3 k4
  have s1' := s1.keep k4
  have s2 := s2'.keep k4
  clear s1 s2' k4 K3
  have eb : (b != b) = false := by cases b <;> rfl
  go_wp2_with fail
  refine (nums_yes _ _ n _ _ _ _ s1' s2).mono ?_
  rintro e w5 ⟨rfl, k5⟩
  have K5 := below_tr K4 k5
  clear s1' s2 k5 K4
  obtain ⟨PL, hPL⟩ : ∃ q, q = pl l n := ⟨_, rfl⟩
  obtain ⟨LF, hLF⟩ : ∃ q, q = lft l (pl l n) n := ⟨_, rfl⟩
  rw [← hLF, ← hPL] at HR
  rw [← hLF, ← hPL]
  clear hPL hLF
  go_wp2_with fail
  refine (HR.out _ K5).mono ?_
  rintro e w6 ⟨rfl, k6⟩
  have K6 := below_tr K5 k6
  clear k6 K5
  go_wp2_with fail
  refine (HSu.out _ (HE.out.below K6)).mono ?_
  rintro e w7 ⟨rfl, k7⟩
  go_wp2
  go_ret
  exact ⟨rfl, below_tr K6 k7⟩

set_option maxRecDepth 20000 in
set_option maxHeartbeats 2000000 in
theorem lw_no (P : Lk.LPkg) (lo co : Option Addr) (n cl m cc : Nat) (l c : Nat → Int) (fl : Int) (w : World) (hs : Sl w lo n cl l) (bl : B64 l) (hc : Sl w co m cc c) (bc : B64 c) (f0 : -9223372036854775808 ≤ fl) (f1 : fl ≤ 9223372036854775807) (hE : ErrTab w) (hM : ¬ (n = m ∧ MayL n l c fl)) (n1 : 1 ≤ n) (n4 : n ≤ 64) :
    Calls Tryz.prog 4 #[.slice lo n cl, .slice co m cc, .int .i64 fl] w fun e w' => e = .returned (.bool true) ∧ Below w.heap.size w w' := by
  have HX := hideL (P.weights w lo co n cl m cc l c fl hs bl hc bc f0 f1)
  have HD := hideL (fun W (b : Below w.heap.size w W) => rweights_no n m cl cc lo co l c fl W (hs.keep b) (hc.keep b) bl bc f0 f1 hM)
  have HB := hideL (fun W (b : Below w.heap.size w W) => P.best W lo n cl l (hs.keep b) bl)
  have HR := hideL (fun W (b : Below w.heap.size w W) => rbest_any n cl lo l W (hs.keep b) bl n1 n4)
  have g1 : decide ((n : Int) < 1) = false := decide_eq_false (by omega)
  have g2 : decide ((n : Int) > 64) = false := decide_eq_false (by omega)
  have HN := hideL (show 1 ≤ n ∧ n ≤ 64 from ⟨n1, n4⟩)
  have HSu := hideL (lsure_any P)
  have HE := hideL hE
  have HM := hideL hM
  clear hs bl hc bc hE hM n1 n4 f0 f1
  go_enter Tryz.func4, Tryz.ntmps4
  go_wp2_with fail
  refine HX.out.mono ?_
  rintro e w1 ⟨vo, vn, vc, b, ev, rfl, k1, s1, ⟨_, rfl, rfl⟩ | ⟨q1, q2, _⟩⟩
  rotate_left
  · exact absurd ⟨q1, q2⟩ HM.out
  unfold errK
  go_wp2_with fail
  refine (HD.out _ k1).mono ?_
  rintro e w2 ⟨rfl, k2⟩
  have K2 := below_tr k1 k2
  have s1' := s1.keep k2
  have s2 := Sl.none w2 (oc fl (wz l c n) n)
  clear s1 k1 k2
  go_wp2_with fail
  refine (HB.out _ K2).mono ?_
  rintro e w3 ⟨p, d, ev, rfl, k3, ⟨q, _⟩ | ⟨_, _, rfl, rfl, rfl⟩⟩
  · exact absurd HN.out q
  have K3 := below_tr K2 k3
  have s1 := s1'.keep k3
  have s2' := s2.keep k3
  clear s1' s2 k3 K2
  go_wp2_with fail
  refine (num_err 1 _ (HE.out.below K3)).mono ?_
  rintro e w4 ⟨rfl, k4⟩
  have K4 := below_tr K3 k4
  have s1' := s1.keep k4
  have s2 := s2'.keep k4
  clear s1 s2' k4 K3
  go_wp2_with fail
  refine (nums_yes _ _ 0 _ _ _ _ s1' s2).mono ?_
  rintro e w5 ⟨rfl, k5⟩
  have K5 := below_tr K4 k5
  clear s1' s2 k5 K4
  obtain ⟨PL, hPL⟩ : ∃ q, q = pl l n := ⟨_, rfl⟩
  obtain ⟨LF, hLF⟩ : ∃ q, q = lft l (pl l n) n := ⟨_, rfl⟩
  rw [← hLF, ← hPL] at HR
  rw [← hLF, ← hPL]
  clear hPL hLF
  go_wp2_with fail
  refine (HR.out _ K5).mono ?_
  rintro e w6 ⟨rfl, k6⟩
  have K6 := below_tr K5 k6
  clear k6 K5
  go_wp2_with fail
  refine (HSu.out _ (HE.out.below K6)).mono ?_
  rintro e w7 ⟨rfl, k7⟩
  go_wp2
  go_ret
  exact ⟨rfl, below_tr K6 k7⟩

set_option maxRecDepth 20000 in
set_option maxHeartbeats 2000000 in
theorem lw_far (P : Lk.LPkg) (lo co : Option Addr) (n cl m cc : Nat) (l c : Nat → Int) (fl : Int) (w : World) (hs : Sl w lo n cl l) (bl : B64 l) (hc : Sl w co m cc c) (bc : B64 c) (f0 : -9223372036854775808 ≤ fl) (f1 : fl ≤ 9223372036854775807) (hE : ErrTab w) (hM : ¬ (n = m ∧ MayL n l c fl)) (hn : ¬ (1 ≤ n ∧ n ≤ 64)) :
    Calls Tryz.prog 4 #[.slice lo n cl, .slice co m cc, .int .i64 fl] w fun e w' => e = .returned (.bool true) ∧ Below w.heap.size w w' := by
  have HX := hideL (P.weights w lo co n cl m cc l c fl hs bl hc bc f0 f1)
  have HD := hideL (fun W (b : Below w.heap.size w W) => rweights_no n m cl cc lo co l c fl W (hs.keep b) (hc.keep b) bl bc f0 f1 hM)
  have HB := hideL (fun W (b : Below w.heap.size w W) => P.best W lo n cl l (hs.keep b) bl)
  have HN := hideL hn
  have HSu := hideL (lsure_any P)
  have HE := hideL hE
  have HM := hideL hM
  clear hs bl hc bc hE hM hn f0 f1
  by_cases g1 : n < 1
  · have g3 : decide ((n : Int) < 1) = true := decide_eq_true (by omega)
    clear g1
    go_enter Tryz.func4, Tryz.ntmps4
    go_wp2_with fail
    refine HX.out.mono ?_
    rintro e w1 ⟨vo, vn, vc, b, ev, rfl, k1, s1, ⟨_, rfl, rfl⟩ | ⟨q1, q2, _⟩⟩
    rotate_left
    · exact absurd ⟨q1, q2⟩ HM.out
    unfold errK
    go_wp2_with fail
    refine (HD.out _ k1).mono ?_
    rintro e w2 ⟨rfl, k2⟩
    have K2 := below_tr k1 k2
    have s1' := s1.keep k2
    have s2 := Sl.none w2 (oc fl (wz l c n) n)
    clear s1 k1 k2
    go_wp2_with fail
    refine (HB.out _ K2).mono ?_
    rintro e w3 ⟨p, d, ev, rfl, k3, ⟨_, rfl, rfl, rfl⟩ | ⟨q1, q2, _⟩⟩
    rotate_left
    · exact absurd ⟨q1, q2⟩ HN.out
    unfold errK
    have K3 := below_tr K2 k3
    have s1 := s1'.keep k3
    have s2' := s2.keep k3
    clear s1' s2 k3 K2
    go_wp2_with fail
    refine (num_err 1 _ (HE.out.below K3)).mono ?_
    rintro e w4 ⟨rfl, k4⟩
    have K4 := below_tr K3 k4
    have s1' := s1.keep k4
    have s2 := s2'.keep k4
    clear s1 s2' k4 K3
    go_wp2_with fail
    refine (nums_yes _ _ 0 _ _ _ _ s1' s2).mono ?_
    rintro e w5 ⟨rfl, k5⟩
    have K5 := below_tr K4 k5
    clear s1' s2 k5 K4
    go_wp2_with fail
    refine (num_err 1 _ (HE.out.below K5)).mono ?_
    rintro e w6 ⟨rfl, k6⟩
    have K6 := below_tr K5 k6
    clear k6 K5
    go_wp2_with fail
    refine (HSu.out _ (HE.out.below K6)).mono ?_
    rintro e w7 ⟨rfl, k7⟩
    go_wp2
    go_ret
    exact ⟨rfl, below_tr K6 k7⟩
  · have g3 : decide ((n : Int) < 1) = false := decide_eq_false (by omega)
    have g4 : decide ((n : Int) > 64) = true := decide_eq_true (by have := HN.out; omega)
    clear g1
    go_enter Tryz.func4, Tryz.ntmps4
    go_wp2_with fail
    refine HX.out.mono ?_
    rintro e w1 ⟨vo, vn, vc, b, ev, rfl, k1, s1, ⟨_, rfl, rfl⟩ | ⟨q1, q2, _⟩⟩
    rotate_left
    · exact absurd ⟨q1, q2⟩ HM.out
    unfold errK
    go_wp2_with fail
    refine (HD.out _ k1).mono ?_
    rintro e w2 ⟨rfl, k2⟩
    have K2 := below_tr k1 k2
    have s1' := s1.keep k2
    have s2 := Sl.none w2 (oc fl (wz l c n) n)
    clear s1 k1 k2
    go_wp2_with fail
    refine (HB.out _ K2).mono ?_
    rintro e w3 ⟨p, d, ev, rfl, k3, ⟨_, rfl, rfl, rfl⟩ | ⟨q1, q2, _⟩⟩
    rotate_left
    · exact absurd ⟨q1, q2⟩ HN.out
    unfold errK
    have K3 := below_tr K2 k3
    have s1 := s1'.keep k3
    have s2' := s2.keep k3
    clear s1' s2 k3 K2
    go_wp2_with fail
    refine (num_err 1 _ (HE.out.below K3)).mono ?_
    rintro e w4 ⟨rfl, k4⟩
    have K4 := below_tr K3 k4
    have s1' := s1.keep k4
    have s2 := s2'.keep k4
    clear s1 s2' k4 K3
    go_wp2_with fail
    refine (nums_yes _ _ 0 _ _ _ _ s1' s2).mono ?_
    rintro e w5 ⟨rfl, k5⟩
    have K5 := below_tr K4 k5
    clear s1' s2 k5 K4
    go_wp2_with fail
    refine (num_err 1 _ (HE.out.below K5)).mono ?_
    rintro e w6 ⟨rfl, k6⟩
    have K6 := below_tr K5 k6
    clear k6 K5
    go_wp2_with fail
    refine (HSu.out _ (HE.out.below K6)).mono ?_
    rintro e w7 ⟨rfl, k7⟩
    go_wp2
    go_ret
    exact ⟨rfl, below_tr K6 k7⟩

theorem lweights_walk (P : Lk.LPkg) : FLikeWeights.Walk := by
  intro a0 len0 cap0 z0 a1 len1 cap1 z1 fl w h0 h1 h2 hE
  obtain ⟨s0, b0⟩ := isrowW h0
  obtain ⟨s1, b1⟩ := isrowW h1
  have hf := bounds_i64 h2
  by_cases hM : len0 = len1 ∧ MayL len0 (fun k => z0.getD k 0) (fun k => z1.getD k 0) fl
  · obtain ⟨rfl, hM⟩ := hM
    exact lw_yes P a0 a1 len0 cap0 cap1 _ _ fl w s0 b0 s1 b1 hf.1 hf.2 hE hM
  · by_cases hn : 1 ≤ len0 ∧ len0 ≤ 64
    · exact lw_no P a0 a1 len0 cap0 len1 cap1 _ _ fl w s0 b0 s1 b1 hf.1 hf.2 hE hM hn.1 hn.2
    · exact lw_far P a0 a1 len0 cap0 len1 cap1 _ _ fl w s0 b0 s1 b1 hf.1 hf.2 hE hM hn
end Go.Proofs.YtdgcnaijndocnaaGreatDoor
