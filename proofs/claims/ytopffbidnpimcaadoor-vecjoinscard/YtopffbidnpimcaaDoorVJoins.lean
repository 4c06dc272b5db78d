/-
  What is proved: whatever vectors and chances it is given, the law VecJoins of layer 7 returns true, ends without a panic, and leaves what was there as it was; its condition: the library's variable errors.errorType holds what the program's text lays there, which the card ties.
-/
import Derived.Test.YtopffbidnpimcaaDoorVcS
import Derived.Test.YtopffbidnpimcaaDoorVcR
import Derived.Test.YtopffbidnpimcaaDoorErrA
import Derived.Test.YtopffbidnpimcaaDoorFVecJoins
set_option linter.unusedSimpArgs false
set_option linter.unusedVariables false
namespace Go.Proofs.YtopffbidnpimcaaDoor
open Go.RowKit Vc Qn Dt

namespace Vc
theorem getD_b64 {z : List Int} (h5 : ∀ n ∈ z, (Lit.int .i64 n).wf = true) : B64 (fun k => z.getD k 0) := by
  intro k
  show _ ≤ z.getD k 0 ∧ z.getD k 0 ≤ _
  by_cases hk : k < z.length
  · have e : z.getD k 0 = z[k] := by simp [List.getD, List.getElem?_eq_getElem hk]
    rw [e]
    exact bounds_i64 (h5 _ (List.getElem_mem hk))
  · have e : z.getD k 0 = 0 := by simp [List.getD, List.getElem?_eq_none (Nat.le_of_not_lt hk)]
    rw [e]; omega
theorem isrow2 {w : World} {a : Option Addr} {len cap : Nat} {z : List Int} (h : FVecJoins.IsRow .i64 w a len cap z) : Sl w a len cap (fun k => z.getD k 0) ∧ B64 (fun k => z.getD k 0) := by
  rcases h with ⟨rfl, rfl, rfl, rfl⟩ | ⟨x, rfl, h1, h2, h3, h4, h5⟩
  · exact ⟨Sl.none _ _, fun k => by simp⟩
  · exact ⟨⟨h1, h2, fun k hk => ⟨x, rfl, h4 k (by omega)⟩⟩, getD_b64 h5⟩
theorem isrows {w : World} {a : Option Addr} {len cap : Nat} {A : Nat → Option Addr} {L C : Nat → Nat} {Z : Nat → List Int} (h : FVecJoins.IsRows .i64 w a len cap A L C Z) :
    Sls w a len cap A L C ∧ ∀ r, r < len → Sl w (A r) (L r) (C r) (fun k => (Z r).getD k 0) ∧ B64 (fun k => (Z r).getD k 0) := by
  rcases h with ⟨rfl, rfl, rfl⟩ | ⟨x, rfl, h1, h2, h3⟩
  · exact ⟨⟨Nat.le_refl _, by omega, fun j hj => by omega⟩, fun r hr => by omega⟩
  · refine ⟨⟨h1, h2, fun j hj => ⟨x, rfl, (h3 j (by omega)).1⟩⟩, fun r hr => ?_⟩
    obtain ⟨r1, r2, r3, r4, r5, r6, r7⟩ := h3 r (by omega)
    refine ⟨⟨r2, r3, fun k hk => ?_⟩, getD_b64 r5⟩
    cases e : A r with
    | none => have := r6 e; omega
    | some y => exact ⟨y, rfl, r7 y e k (by omega)⟩
end Vc

set_option maxRecDepth 10000 in
set_option maxHeartbeats 1000000 in
/-- Whatever is wrong: both sides say so. -/
theorem vjoins_err (lo ho : Option Addr) (m q cm hc : Nat) (w : World) (hE : ErrTab w)
    (J : ∀ W, Below w.heap.size w W → Calls Tryd.prog 16 #[.slice lo m cm, .slice ho q hc] W fun e w' => e = .returned (.tuple #[.slice none 0 0, .bool false, .iface 56 (.int .i64 1)]) ∧ Below W.heap.size W w')
    (K : ∀ W, Below w.heap.size w W → Calls Tryd.prog 17 #[.slice lo m cm, .slice ho q hc] W fun e w' => e = .returned (.int .i64 1) ∧ Below W.heap.size W w') :
    Calls Tryd.prog 4 #[.slice lo m cm, .slice ho q hc] w fun e w' => e = .returned (.bool true) ∧ Below w.heap.size w w' := by
  have HJ := Hid.mkV J
  have HK := Hid.mkV K
  clear J K
  go_enter Tryd.func4, Tryd.ntmps4
  go_wp2_with fail
  refine (HJ.out _ (Below.refl _ _)).mono ?_
  rintro e w1 ⟨rfl, k1⟩
  go_wp2_with fail
  refine (HK.out _ k1).mono ?_
  rintro e w2 ⟨rfl, k2⟩
  have K2 := below_tr k1 k2
  go_wp2_with fail
  refine (num_err 1 _ (hE.below K2)).mono ?_
  rintro e w3 ⟨rfl, k3⟩
  go_wp2_with fail
  refine (vsure_any _).mono ?_
  rintro e w4 ⟨rfl, k4⟩
  go_wp2
  go_ret
  exact ⟨rfl, below_tr (below_tr K2 k3) k4⟩

set_option maxRecDepth 10000 in
set_option maxHeartbeats 1000000 in
theorem vjoins_ok (n : Nat) (lo ho : Option Addr) (m cm hc : Nat) (A : Nat → Option Addr) (C : Nat → Nat) (Z : Nat → Nat → Int) (c : Nat → Int) (w : World) (h : Sls w lo m cm A (fun _ => n) C) (hz : ∀ k, k < m → Sl w (A k) n (C k) (Z k)) (hn : n ≤ 6) (hm0 : 0 < m) (hm : m ≤ 4)
    (hch : Sl w ho m hc c) (bz : ∀ k, B64 (Z k)) (bc : B64 c) :
    Calls Tryd.prog 4 #[.slice lo m cm, .slice ho m hc] w fun e w' => e = .returned (.bool true) ∧ Below w.heap.size w w' := by
  have A1 := Hid.mkV (vjoin_any n lo ho m cm hc A C Z c w h hz hn hm0 hm hch bz bc)
  have A2 := Hid.mkV (fun W (b : Below w.heap.size w W) => check_ok lo ho m cm hc n A C W (h.keep b) hm0 hm hn)
  have A3 := Hid.mkV (fun W (b : Below w.heap.size w W) => rjoin_any n lo ho m cm hc A C Z c W (h.keep b) (fun k hk => (hz k hk).keep b) hn hm0 hm (hch.keep b) bz bc)
  obtain ⟨g1, hg1⟩ : ∃ gs, gs = anyb (fun p => great (rne (dk (fun k => Z k p) c m) (2 ^ 30))) n := ⟨_, rfl⟩
  obtain ⟨z1, hz1⟩ : ∃ zs : Nat → Int, zs = fun p => clamp (rne (dk (fun k => Z k p) c m) (2 ^ 30)) := ⟨_, rfl⟩
  rw [← hg1, ← hz1] at A1 A3
  clear hg1 hz1 h hz hch bz bc
  go_enter Tryd.func4, Tryd.ntmps4
  go_wp2_with fail
  refine A1.out.mono ?_
  rintro e w1 ⟨o1, c1, rfl, s1, k1⟩
  go_wp2_with fail
  refine (A2.out _ k1).mono ?_
  rintro e w2 ⟨rfl, k2⟩
  have K2 := below_tr k1 k2
  go_wp2_with fail
  refine (A3.out _ K2).mono ?_
  rintro e w3 ⟨o3, c3, rfl, s3, k3⟩
  have t1 := s1.keep (below_tr k2 k3)
  go_wp2_with fail
  refine (nums_yes _ _ _ _ _ _ _ t1 s3).mono ?_
  rintro e w4 ⟨rfl, k4⟩
  go_wp2_with fail
  refine (vsure_any _).mono ?_
  rintro e w5 ⟨rfl, k5⟩
  go_wp2
  go_ret
  exact ⟨rfl, below_tr (below_tr (below_tr K2 k3) k4) k5⟩

/-- The first that is not so. -/
theorem Vc.first {p : Nat → Prop} [DecidablePred p] : ∀ (m : Nat), (∀ k, k < m → p k) ∨ ∃ q, q < m ∧ ¬ p q ∧ ∀ k, k < q → p k
  | 0 => Or.inl fun k hk => by omega
  | m + 1 => by
    rcases Vc.first (p := p) m with h | ⟨q, h1, h2, h3⟩
    · by_cases c : p m
      · exact Or.inl fun k hk => by
          rcases Nat.lt_or_ge k m with d | d
          · exact h k d
          · obtain rfl : k = m := by omega
            exact c
      · exact Or.inr ⟨m, by omega, c, h⟩
    · exact Or.inr ⟨q, by omega, h2, h3⟩

theorem vjoins_walk : FVecJoins.Walk := by
  intro a0 len0 cap0 A L C Z a1 len1 cap1 z1 w h0 h1 hE
  obtain ⟨s0, q0⟩ := isrows h0
  obtain ⟨s1, q1⟩ := isrow2 h1
  have l1 := s1.le
  have l2 := s1.cap
  have l3 := s0.le
  have l4 := s0.cap
  by_cases hm : len0 ≠ len1 ∨ 4 < len0
  · exact vjoins_err a0 a1 len0 len1 cap0 cap1 w hE (fun W _ => vjoin_err1 a0 a1 len0 len1 cap0 cap1 W (by omega) (by omega) hm)
      (fun W _ => (check_bad1 a0 a1 len0 len1 cap0 cap1 W (by omega) (by omega) (by omega)).mono (by rintro e w' ⟨rfl, rfl⟩; exact ⟨rfl, Below.refl _ _⟩))
  · obtain rfl : len0 = len1 := by omega
    by_cases hm0 : len0 = 0
    · subst hm0
      exact vjoins_err a0 a1 0 0 cap0 cap1 w hE (fun W _ => vjoin_err2 a0 a1 0 cap0 cap1 W (by omega) (fun W' _ => alike_nil a0 cap0 W'))
        (fun W _ => (check_bad1 a0 a1 0 0 cap0 cap1 W (by omega) (by omega) (by omega)).mono (by rintro e w' ⟨rfl, rfl⟩; exact ⟨rfl, Below.refl _ _⟩))
    · have hL : ∀ k, k < len0 → L k ≤ 9223372036854775807 := fun k hk => by have := (q0 k hk).1.le; have := (q0 k hk).1.cap; omega
      by_cases h6 : 6 < L 0
      · exact vjoins_err a0 a1 len0 len0 cap0 cap1 w hE (fun W b => vjoin_err2 a0 a1 len0 cap0 cap1 W (by omega) (fun W' b' => alike_no a0 len0 cap0 A L C W' (s0.keep (below_tr b b')) 0 (by omega) hL (Or.inr h6) (fun k hk => by omega)))
          (fun W b => (check_bad2 a0 a1 len0 cap0 cap1 A L C W (s0.keep b) (by omega) (by omega) (hL 0 (by omega)) h6).mono (by rintro e w' ⟨rfl, rfl⟩; exact ⟨rfl, Below.refl _ _⟩))
      · rcases Vc.first (p := fun k => L k = L 0) len0 with hall | ⟨q, hq, hbad, hok⟩
        · have s0' : Sls w a0 len0 cap0 A (fun _ => L 0) C := ⟨s0.le, s0.cap, fun j hj => by rw [← hall j hj]; exact s0.at' j hj⟩
          refine vjoins_ok (L 0) a0 a1 len0 cap0 cap1 A C (fun r k => if r < len0 then (Z r).getD k 0 else 0) _ w s0' (fun k hk => ?_) (by omega) (by omega) (by omega) s1 (fun k p => ?_) q1
          · have h := (q0 k hk).1
            rw [hall k hk] at h
            exact h.congr (fun j _ => by show (Z k).getD j 0 = if k < len0 then (Z k).getD j 0 else 0; rw [if_pos hk])
          · show _ ≤ (if k < len0 then (Z k).getD p 0 else 0) ∧ (if k < len0 then (Z k).getD p 0 else 0) ≤ _
            split
            · rename_i hk
              exact (q0 k hk).2 p
            · omega
        · exact vjoins_err a0 a1 len0 len0 cap0 cap1 w hE (fun W b => vjoin_err2 a0 a1 len0 cap0 cap1 W (by omega) (fun W' b' => alike_no a0 len0 cap0 A L C W' (s0.keep (below_tr b b')) q hq hL (Or.inl hbad) (fun k hk => ⟨hok k hk, by rw [hok k hk]; omega⟩)))
            (fun W b => check_bad3 a0 a1 len0 cap0 cap1 A L C W (s0.keep b) (by omega) hL (by omega) q hq hbad hok)

/-- The law VecJoins, of any input. -/
theorem vecjoins_holds : Rows.VecJoinsCardSaid := FVecJoins.card vjoins_walk

end Go.Proofs.YtopffbidnpimcaaDoor
