/-
  What is proved: whatever chances and rows it is given, the law ChanceMixes of layer 14 returns true, ends without a panic, and leaves what was there as it was; its condition: the library's variable errors.errorType holds what the program's text lays there, which the card ties.
-/
import Derived.Test.YtlomfjacgomhdaaDoorM7
import Derived.Test.YtlomfjacgomhdaaDoorCnC
import Derived.Test.YtlomfjacgomhdaaDoorFChanceMixes
set_option linter.unusedSimpArgs false
set_option linter.unusedVariables false
namespace Go.Proofs.YtlomfjacgomhdaaDoor
open Go.RowKit Vc Cn

namespace Cn
theorem getD_b64 {z : List Int} (h5 : ∀ n ∈ z, (Lit.int .i64 n).wf = true) : B64 (fun k => z.getD k 0) := by
  intro k
  show _ ≤ z.getD k 0 ∧ z.getD k 0 ≤ _
  by_cases hk : k < z.length
  · have e : z.getD k 0 = z[k] := by simp [List.getD, List.getElem?_eq_getElem hk]
    rw [e]
    exact bounds_i64 (h5 _ (List.getElem_mem hk))
  · have e : z.getD k 0 = 0 := by simp [List.getD, List.getElem?_eq_none (Nat.le_of_not_lt hk)]
    rw [e]; omega
theorem isrowX {w : World} {a : Option Addr} {len cap : Nat} {z : List Int} (h : FChanceMixes.IsRow .i64 w a len cap z) : Sl w a len cap (fun k => z.getD k 0) ∧ B64 (fun k => z.getD k 0) := by
  rcases h with ⟨rfl, rfl, rfl, rfl⟩ | ⟨x, rfl, h1, h2, h3, h4, h5⟩
  · exact ⟨Sl.none _ _, fun k => by simp⟩
  · exact ⟨⟨h1, h2, fun k hk => ⟨x, rfl, h4 k (by omega)⟩⟩, getD_b64 h5⟩
theorem isrowsX {w : World} {a : Option Addr} {len cap : Nat} {A : Nat → Option Addr} {L C : Nat → Nat} {Z : Nat → List Int} (h : FChanceMixes.IsRows .i64 w a len cap A L C Z) :
    Sls w a len cap A L C ∧ ∀ r, r < len → Sl w (A r) (L r) (C r) (fun k => (Z r).getD k 0) ∧ B64 (fun k => (Z r).getD k 0) := by
  rcases h with ⟨rfl, rfl, rfl⟩ | ⟨x, rfl, h1, h2, h3⟩
  · exact ⟨⟨Nat.le_refl _, by omega, fun j hj => by omega⟩, fun r hr => by omega⟩
  · refine ⟨⟨h1, h2, fun j hj => ⟨x, rfl, (h3 j (by omega)).1⟩⟩, fun r hr => ?_⟩
    obtain ⟨r1, r2, r3, r4, r5, r6, r7⟩ := h3 r (by omega)
    refine ⟨⟨r2, r3, fun k hk => ?_⟩, getD_b64 r5⟩
    cases e : A r with
    | none => have := r6 e; omega
    | some y => exact ⟨y, rfl, r7 y e k (by omega)⟩
end Cn

set_option maxRecDepth 10000 in
set_option maxHeartbeats 2000000 in
theorem cmixes_any (P : Pkg) (ao lo : Option Addr) (n ca m cm : Nat) (z : Nat → Int) (A : Nat → Option Addr) (L C : Nat → Nat) (R : Nat → Nat → Int) (w : World) (hs : Sl w ao n ca z) (hz : B64 z) (hl : Sls w lo m cm A L C)
    (hr : ∀ i, i < m → Sl w (A i) (L i) (C i) (R i)) (hR : ∀ i, B64 (R i)) (hE : ErrTab w) :
    Calls Tryd.prog 4 #[.slice ao n ca, .slice lo m cm] w fun e w' => e = .returned (.bool true) ∧ Below w.heap.size w w' := by
  have HX := hideQ (P.mix w ao lo n ca m cm z A L C R hs hz hl hr hR)
  have HD := hideQ (fun W (b : Below w.heap.size w W) => dmix14_any ao lo n ca m cm z A L C R W (hs.keep b) hz (hl.keep b) (fun i hi => (hr i hi).keep b) hR)
  have HSu := hideQ (csure_any P)
  have HE := hideQ hE
  clear hs hz hl hr hR hE
  go_enter Tryd.func4, Tryd.ntmps4
  go_wp2_with fail
  refine (HX.out).mono ?_
  rintro e w1 ⟨vo, vn, vc, ev, rfl, k1, s1, H1⟩
  go_wp2_with fail
  refine (HD.out _ k1).mono ?_
  rintro e w2 ⟨v, er, rfl, H2⟩
  rcases H1 with ⟨hno, rfl, rfl⟩ | ⟨hyes, rfl, rfl⟩
  · rcases H2 with ⟨_, rfl, rfl, k2⟩ | ⟨h, _⟩
    · have K2 := below_tr k1 k2
      have s1' := s1.keep k2
      clear hno s1
      go_wp2_with fail
      refine (nums_yes _ _ 0 _ _ _ _ s1' (Sl.none _ _)).mono ?_
      rintro e w3 ⟨rfl, k3⟩
      have K3 := below_tr K2 k3
      unfold errV
      go_wp2_with fail
      refine (num_err 1 _ (HE.out.below K3)).mono ?_
      rintro e w4 ⟨rfl, k4⟩
      go_wp2_with fail
      refine (HSu.out _).mono ?_
      rintro e w5 ⟨rfl, k5⟩
      go_wp2
      go_ret
      exact ⟨rfl, below_tr (below_tr K3 k4) k5⟩
    · exact absurd h hno
  · rcases H2 with ⟨h, _⟩ | ⟨_, rfl, ow⟩
    · exact absurd hyes h
    · obtain ⟨bo, cb, rfl, s2⟩ := ow.sl
      have k2 := ow.below
      have K2 := below_tr k1 k2
      have s1' := s1.keep k2
      clear hyes s1 ow
      go_wp2_with fail
      refine (nums_yes _ _ _ _ _ _ _ s1' s2).mono ?_
      rintro e w3 ⟨rfl, k3⟩
      have K3 := below_tr K2 k3
      go_wp2_with fail
      refine (num_nil _).mono ?_
      rintro e w4 ⟨rfl, k4⟩
      go_wp2_with fail
      refine (HSu.out _).mono ?_
      rintro e w5 ⟨rfl, k5⟩
      go_wp2
      go_ret
      exact ⟨rfl, below_tr (below_tr K3 k4) k5⟩

theorem cmixes_walk (P : Pkg) : FChanceMixes.Walk := by
  intro a0 len0 cap0 z0 a1 len1 cap1 A1 L1 C1 Z1 w h0 h1 hE
  obtain ⟨s0, b0⟩ := isrowX h0
  obtain ⟨s1, r1⟩ := isrowsX h1
  refine cmixes_any P a0 a1 len0 cap0 len1 cap1 _ A1 L1 C1 (fun i k => if i < len1 then (Z1 i).getD k 0 else 0) w s0 b0 s1 (fun i hi => (r1 i hi).1.congr (fun k _ => by rw [if_pos hi])) (fun i k => ?_) hE
  show _ ≤ (if i < len1 then (Z1 i).getD k 0 else 0) ∧ (if i < len1 then (Z1 i).getD k 0 else 0) ≤ _
  by_cases e : i < len1
  · rw [if_pos e]; exact (r1 i e).2 k
  · rw [if_neg e]; omega
end Go.Proofs.YtlomfjacgomhdaaDoor
