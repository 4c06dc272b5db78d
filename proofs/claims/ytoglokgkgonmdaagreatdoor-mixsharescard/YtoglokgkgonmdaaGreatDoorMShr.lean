/-
  What is proved: whatever chances, rows and place it is given, the law MixShares of layer 15 returns true, ends without a panic, and leaves what was there as it was; its condition: the library's variable errors.errorType holds what the program's text lays there, which the card ties.
-/
import Derived.Test.YtoglokgkgonmdaaGreatDoorM22
import Derived.Test.YtoglokgkgonmdaaGreatDoorM29
import Derived.Test.YtoglokgkgonmdaaGreatDoorFMixShares
set_option linter.unusedSimpArgs false
set_option linter.unusedVariables false
namespace Go.Proofs.YtoglokgkgonmdaaGreatDoor
open Go.RowKit Vc Cn Mx

namespace Mx
theorem getD_b64 {z : List Int} (h5 : ∀ n ∈ z, (Lit.int .i64 n).wf = true) : B64 (fun k => z.getD k 0) := by
  intro k
  show _ ≤ z.getD k 0 ∧ z.getD k 0 ≤ _
  by_cases hk : k < z.length
  · have e : z.getD k 0 = z[k] := by simp [List.getD, List.getElem?_eq_getElem hk]
    rw [e]
    exact bounds_i64 (h5 _ (List.getElem_mem hk))
  · have e : z.getD k 0 = 0 := by simp [List.getD, List.getElem?_eq_none (Nat.le_of_not_lt hk)]
    rw [e]; omega
theorem isrowX {w : World} {a : Option Addr} {len cap : Nat} {z : List Int} (h : FMixShares.IsRow .i64 w a len cap z) : Sl w a len cap (fun k => z.getD k 0) ∧ B64 (fun k => z.getD k 0) := by
  rcases h with ⟨rfl, rfl, rfl, rfl⟩ | ⟨x, rfl, h1, h2, h3, h4, h5⟩
  · exact ⟨Sl.none _ _, fun k => by simp⟩
  · exact ⟨⟨h1, h2, fun k hk => ⟨x, rfl, h4 k (by omega)⟩⟩, getD_b64 h5⟩
theorem isrowsX {w : World} {a : Option Addr} {len cap : Nat} {A : Nat → Option Addr} {L C : Nat → Nat} {Z : Nat → List Int} (h : FMixShares.IsRows .i64 w a len cap A L C Z) :
    Sls w a len cap A L C ∧ ∀ r, r < len → Sl w (A r) (L r) (C r) (fun k => (Z r).getD k 0) ∧ B64 (fun k => (Z r).getD k 0) := by
  rcases h with ⟨rfl, rfl, rfl⟩ | ⟨x, rfl, h1, h2, h3⟩
  · exact ⟨⟨Nat.le_refl _, by omega, fun j hj => by omega⟩, fun r hr => by omega⟩
  · refine ⟨⟨h1, h2, fun j hj => ⟨x, rfl, (h3 j (by omega)).1⟩⟩, fun r hr => ?_⟩
    obtain ⟨r1, r2, r3, r4, r5, r6, r7⟩ := h3 r (by omega)
    refine ⟨⟨r2, r3, fun k hk => ?_⟩, getD_b64 r5⟩
    cases e : A r with
    | none => have := r6 e; omega
    | some y => exact ⟨y, rfl, r7 y e k (by omega)⟩
end Mx

set_option maxRecDepth 10000 in
set_option maxHeartbeats 2000000 in
theorem mshares_any (P : Mx.MPkg) (ao lo : Option Addr) (n ca m cm : Nat) (z : Nat → Int) (A : Nat → Option Addr) (L C : Nat → Nat) (R : Nat → Nat → Int) (t : Int) (w : World) (hs : Sl w ao n ca z) (hz : B64 z) (hl : Sls w lo m cm A L C)
    (hr : ∀ i, i < m → Sl w (A i) (L i) (C i) (R i)) (hR : ∀ i, B64 (R i)) (t0 : -9223372036854775808 ≤ t) (t1 : t ≤ 9223372036854775807) (hE : ErrTab w) :
    Calls Tryz.prog 3 #[.slice ao n ca, .slice lo m cm, .int .i64 t] w fun e w' => e = .returned (.bool true) ∧ Below w.heap.size w w' := by
  have HX := Mx.hideQ (P.shares w ao lo n ca m cm z A L C R t hs hz hl hr hR t0 t1)
  have HD := Mx.hideQ (fun W (b : Below w.heap.size w W) => dshares15_any ao lo n ca m cm z A L C R t W (hs.keep b) hz (hl.keep b) (fun i hi => (hr i hi).keep b) hR t0 t1)
  have HSu := Mx.hideQ (msure_any P)
  have HE := Mx.hideQ hE
  clear hs hz hl hr hR hE
  go_enter Tryz.func3, Tryz.ntmps3
  go_wp2_with fail
  refine (HX.out).mono ?_
  rintro e w1 ⟨vo, vn, vc, ev, rfl, k1, s1, H1⟩
  go_wp2_with fail
  refine (HD.out _ k1).mono ?_
  rintro e w2 ⟨v, er, rfl, H2⟩
  rcases H1 with ⟨hno, rfl, rfl⟩ | ⟨hyes, ht0, htn, rfl, rfl⟩
  · rcases H2 with ⟨_, rfl, rfl, k2⟩ | ⟨h1, h2, h3, _⟩
    · have K2 := below_tr k1 k2
      have s1' := s1.keep k2
      clear hno s1
      go_wp2_with fail
      refine (nums_yes _ _ 0 _ _ _ _ s1' (Sl.none _ _)).mono ?_
      rintro e w3 ⟨rfl, k3⟩
      have K3 := below_tr K2 k3
      unfold errX
      go_wp2_with fail
      refine (num_err 1 _ (HE.out.below K3)).mono ?_
      rintro e w4 ⟨rfl, k4⟩
      go_wp2_with fail
      refine (HSu.out _).mono ?_
      rintro e w5 ⟨rfl, k5⟩
      go_wp2
      go_ret
      exact ⟨rfl, below_tr (below_tr K3 k4) k5⟩
    · exact absurd ⟨h1, h2, h3⟩ hno
  · rcases H2 with ⟨h, _⟩ | ⟨_, _, _, rfl, ow⟩
    · exact absurd ⟨hyes, ht0, htn⟩ h
    · obtain ⟨bo, cb, rfl, s2⟩ := ow.sl
      have k2 := ow.below
      have K2 := below_tr k1 k2
      have s1' := s1.keep k2
      have hch := shr_ch hyes (t := t.toNat) (by omega)
      have HC := Mx.hideQ (fun W (b : Below w2.heap.size w2 W) => dcheck14_any vo vn vc _ 0 W (s1'.keep b) (shr_b64 hyes (t := t.toNat) (by omega)) true ⟨fun _ => hch, fun _ => rfl⟩ (by omega) (by omega))
      clear hyes s1 ow hch
      go_wp2_with fail
      refine (nums_yes _ _ _ _ _ _ _ s1' s2).mono ?_
      rintro e w3 ⟨rfl, k3⟩
      have K3 := below_tr K2 k3
      go_wp2_with fail
      refine (num_nil _).mono ?_
      rintro e w4 ⟨rfl, k4⟩
      have HC4 := Mx.hideQ (HC.out w4 (below_tr k3 k4))
      clear HC
      go_wp2_with fail
      refine (HC4.out).mono ?_
      rintro e w5 ⟨rfl, k5⟩
      go_wp2_with fail
      refine (HSu.out _).mono ?_
      rintro e w6 ⟨rfl, k6⟩
      go_wp2
      go_ret
      exact ⟨rfl, below_tr (below_tr (below_tr K3 k4) k5) k6⟩

theorem mshares_walk (P : Mx.MPkg) : FMixShares.Walk := by
  intro a0 len0 cap0 z0 a1 len1 cap1 A1 L1 C1 Z1 t w h0 h1 ht hE
  obtain ⟨s0, b0⟩ := Mx.isrowX h0
  obtain ⟨s1, r1⟩ := Mx.isrowsX h1
  refine mshares_any P a0 a1 len0 cap0 len1 cap1 _ A1 L1 C1 (fun i k => if i < len1 then (Z1 i).getD k 0 else 0) t w s0 b0 s1 (fun i hi => (r1 i hi).1.congr (fun k _ => by rw [if_pos hi])) (fun i k => ?_) (bounds_i64 ht).1 (bounds_i64 ht).2 hE
  show _ ≤ (if i < len1 then (Z1 i).getD k 0 else 0) ∧ (if i < len1 then (Z1 i).getD k 0 else 0) ≤ _
  by_cases e : i < len1
  · rw [if_pos e]; exact (r1 i e).2 k
  · rw [if_neg e]; omega
end Go.Proofs.YtoglokgkgonmdaaGreatDoor
