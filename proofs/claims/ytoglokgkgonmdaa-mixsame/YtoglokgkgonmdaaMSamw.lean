/-
  MixSame, of whatever comes in. (By py/MSame.py.)
-/
import Derived.Test.YtoglokgkgonmdaaMSame
import Derived.Test.YtoglokgkgonmdaaM35
import Derived.Test.YtoglokgkgonmdaaM1
set_option linter.unusedSimpArgs false
set_option linter.unusedVariables false
namespace Go.Proofs.Ytoglokgkgonmdaa
open Go.RowKit Vc St Mt Cn Mx Pd

namespace Mx
theorem getD_b64m {z : List Int} (h5 : ∀ n ∈ z, (Lit.int .i64 n).wf = true) : B64 (fun k => z.getD k 0) := by
  intro k
  show _ ≤ z.getD k 0 ∧ z.getD k 0 ≤ _
  by_cases hk : k < z.length
  · have e : z.getD k 0 = z[k] := by simp [List.getD, List.getElem?_eq_getElem hk]
    rw [e]
    exact bounds_i64 (h5 _ (List.getElem_mem hk))
  · have e : z.getD k 0 = 0 := by simp [List.getD, List.getElem?_eq_none (Nat.le_of_not_lt hk)]
    rw [e]; omega
theorem isrowM {w : World} {a : Option Addr} {len cap : Nat} {z : List Int} (h : FMixSame.IsRow .i64 w a len cap z) : Sl w a len cap (fun k => z.getD k 0) ∧ B64 (fun k => z.getD k 0) := by
  rcases h with ⟨rfl, rfl, rfl, rfl⟩ | ⟨x, rfl, h1, h2, h3, h4, h5⟩
  · exact ⟨Sl.none _ _, fun k => by simp⟩
  · exact ⟨⟨h1, h2, fun k hk => ⟨x, rfl, h4 k (by omega)⟩⟩, getD_b64m h5⟩
theorem isrowsM {w : World} {a : Option Addr} {len cap : Nat} {A : Nat → Option Addr} {L C : Nat → Nat} {Z : Nat → List Int} (h : FMixSame.IsRows .i64 w a len cap A L C Z) :
    Sls w a len cap A L C ∧ ∀ r, r < len → Sl w (A r) (L r) (C r) (fun k => (Z r).getD k 0) := by
  rcases h with ⟨rfl, rfl, rfl⟩ | ⟨x, rfl, h1, h2, h3⟩
  · exact ⟨⟨Nat.le_refl _, by omega, fun j hj => by omega⟩, fun r hr => by omega⟩
  · refine ⟨⟨h1, h2, fun j hj => ⟨x, rfl, (h3 j (by omega)).1⟩⟩, fun r hr => ?_⟩
    obtain ⟨r1, r2, r3, r4, r5, r6, r7⟩ := h3 r (by omega)
    refine ⟨r2, r3, fun k hk => ?_⟩
    cases e : A r with
    | none => have := r6 e; omega
    | some y => exact ⟨y, rfl, r7 y e k (by omega)⟩
theorem so_b' (l : Nat) (z : Nat → Int) : B64 (soX l z) := fun i => by have := soX_in l z i; omega
theorem so_b2' (m : Nat) (K : Nat → Nat) (Z : Nat → Nat → Int) : B2 (soP m K Z) := fun i j => by have := soP_in m K Z i j; omega
/-- One for sure, of two. -/
def twC : Nat → Int := fun k => if k = 0 then 1073741824 else 0
theorem twC_ch : Ch 2 twC 0 := ⟨by omega, by omega, by omega, by omega, fun k _ => by show (0 : Int) ≤ if k = 0 then 1073741824 else 0; split <;> omega, by decide +kernel⟩
end Mx

theorem msame_walk (P : Mx.MPkg) : FMixSame.Walk := by
  intro a0 len0 cap0 zx a1 len1 cap1 A1 L1 C1 Z1 a2 len2 cap2 z2 w h0 h1 h2
  obtain ⟨s0, b0⟩ := isrowM h0
  obtain ⟨s1, r1⟩ := isrowsM h1
  obtain ⟨s2, b2⟩ := isrowM h2
  have hmay := so_may len0 len1 (fun k => zx.getD k 0) L1 (fun r k => (Z1 r).getD k 0)
  have bX := so_b' len0 (fun k => zx.getD k 0)
  have bP := so_b2' len1 L1 (fun r k => (Z1 r).getD k 0)
  have hx0 := soX_in len0 (fun k => zx.getD k 0) 0
  have hSome : Calls Try.prog 5 #[.slice a0 len0 cap0, .slice a1 len1 cap1, .int .i64 68719476736] w fun e w' => ∃ yo yc ro rc, e = .returned (.agg #[.slice yo 6 yc, .slice ro 6 rc]) ∧ (∀ W, Below w'.heap.size w' W → Calls Try.prog 4 #[.agg #[.slice yo 6 yc, .slice ro 6 rc]] W fun e w' => e = .returned (.agg (svals (soX len0 (fun k => zx.getD k 0)) 6 6 (mz 6 6 (soP len1 L1 (fun r k => (Z1 r).getD k 0)))).toArray) ∧ Below W.heap.size W w') ∧ Below w.heap.size w w' := by
    refine (psome_any a0 a1 len0 cap0 len1 cap1 _ A1 L1 C1 (fun r k => (Z1 r).getD k 0) w s0 s1 r1).mono ?_
    rintro e w' ⟨yo, yc, ro, rc, rfl, sX, gP, k⟩
    exact ⟨yo, yc, ro, rc, rfl, fun W b => pgive_any yo ro yc 6 rc _ 6 6 _ W (sX.keep b) (fun V q => matOf_six gP V (below_tr b q)), k⟩
  obtain ⟨X0, hX0⟩ : ∃ q, q = soX len0 (fun k => zx.getD k 0) := ⟨_, rfl⟩
  obtain ⟨P0, hP0⟩ : ∃ q, q = soP len1 L1 (fun r k => (Z1 r).getD k 0) := ⟨_, rfl⟩
  rw [← hX0] at hmay bX hx0 hSome
  rw [← hP0] at hmay bP hSome
  clear hX0 hP0
  by_cases hc : Ch len2 (fun k => z2.getD k 0) 0
  · have hJm : MayJ len2 len2 (fun k => z2.getD k 0) (fun _ => X0) (fun _ => 6) (fun _ => 6) (fun _ => P0) := ⟨rfl, hc, fun _ _ => ⟨rfl, rfl, hmay⟩⟩
    have hM := rows_may hc
    refine msame_go P a0 a1 a2 len0 cap0 len1 cap1 len2 cap2 w X0 (mz 6 6 P0) ⟨by omega, by omega⟩ hSome (fun W b => dcheck14_any a2 len2 cap2 _ 0 W (s2.keep b) b2 true ⟨fun _ => hc, fun _ => rfl⟩ (by omega) (by omega)) s2.le s2.cap hc.one hc.four _ s2 (fun W lo cm hp hs => ?_) (fun W lo cm ro rm hp hs hr => ?_) (fun W => ?_)
    · refine (P.join W lo a2 len2 cm len2 cap2 (fun _ => X0) _ _ _ (fun _ => P0) _ hp (fun _ _ _ _ => rfl) (fun _ => bX) (fun _ => bP) hs b2).mono ?_
      rintro e w' ⟨k, ⟨h, _⟩ | ⟨_, rfl⟩⟩
      · exact absurd hJm h
      · exact ⟨by rw [same_cells hc hmay (fun _ _ _ _ _ => rfl) (fun _ _ _ _ _ _ _ => rfl), same_jO hc hmay (fun _ _ _ _ => rfl) (fun _ _ _ _ _ _ => rfl)], k⟩
    · have eA : aO len2 (fun k => z2.getD k 0) (fun _ k => z2.getD k 0) (fun _ => X0) (fun _ => P0) = false := anyb_false.2 fun t ht => same_jO (shr_ch hM ht) hmay (fun _ _ _ _ => rfl) (fun _ _ _ _ _ _ => rfl)
      refine (P.all W lo a2 ro len2 cm len2 cap2 len2 rm (fun _ => X0) _ _ _ (fun _ => P0) _ (fun _ => a2) (fun _ => len2) (fun _ => cap2) (fun _ k => z2.getD k 0) hp (fun _ _ _ _ => rfl) (fun _ => bX) (fun _ => bP) hs b2 hr (fun _ _ => hs) (fun _ => b2)).mono ?_
      rintro e w' ⟨vo, vn, vc, oo, on, oc, b, ev, rfl, k, hp', hs', ⟨h, _⟩ | ⟨_, _, rfl, rfl, rfl, rfl⟩⟩
      · exact absurd ⟨hJm, hM⟩ h
      · refine ⟨vo, vc, oo, oc, ?_, hp'.congr (fun t ht => same_cells (shr_ch hM ht) hmay (fun _ _ _ _ _ => rfl) (fun _ _ _ _ _ _ _ => rfl)), hs'.congr (fun j hj => rows_sh hc hj), k⟩
        rw [eA]
    · have kA := below_al (Below.refl _ W) (.cells (svals X0 6 6 (mz 6 6 P0) ++ svals (fun i => if i = 0 then X0 0 + 5242880 else X0 i) 6 6 (mz 6 6 P0)).toArray 29)
      have hp := pst_two W (fun k => if k = 0 then X0 else fun i => if i = 0 then X0 0 + 5242880 else X0 i) (fun _ => 6) (fun _ => 6) (fun _ => mz 6 6 P0)
      have hmay2 : Pr.MayV (fun i => if i = 0 then X0 0 + 5242880 else X0 i) P0 := fun i hi => ⟨by
        show Pr.InV (if i = 0 then X0 0 + 5242880 else X0 i)
        by_cases e : i = 0
        · rw [if_pos e]; unfold Pr.InV; omega
        · rw [if_neg e]; exact (hmay i hi).1, (hmay i hi).2⟩
      have bX2 : ∀ k : Nat, B64 (if k = 0 then X0 else fun i => if i = 0 then X0 0 + 5242880 else X0 i) := fun k => by
        by_cases e : k = 0
        · rw [if_pos e]; exact bX
        · rw [if_neg e]
          intro i
          show _ ≤ (if i = 0 then X0 0 + 5242880 else X0 i) ∧ (if i = 0 then X0 0 + 5242880 else X0 i) ≤ _
          by_cases e2 : i = 0
          · rw [if_pos e2]; omega
          · rw [if_neg e2]; exact bX i
      have hJ2 : MayJ 2 2 twC (fun k => if k = 0 then X0 else fun i => if i = 0 then X0 0 + 5242880 else X0 i) (fun _ => 6) (fun _ => 6) (fun _ => P0) := ⟨rfl, twC_ch, fun k hk => ⟨rfl, rfl, by
        show Pr.MayV (if k = 0 then X0 else fun i => if i = 0 then X0 0 + 5242880 else X0 i) P0
        by_cases e : k = 0
        · rw [if_pos e]; exact hmay
        · rw [if_neg e]; exact hmay2⟩⟩
      have hsl : Sl ((W.alloc (.cells (svals X0 6 6 (mz 6 6 P0) ++ svals (fun i => if i = 0 then X0 0 + 5242880 else X0 i) 6 6 (mz 6 6 P0)).toArray 29)).alloc (.cells #[.int .i64 1073741824, .int .i64 0] 2)) (some ⟨W.heap.size + 1, 0, none⟩) 2 2 twC := Sl.duoQ (a := 1073741824) (b := 0) (by go_simp) (by rw [Addr.add_lit]; go_simp)
      refine (P.join _ _ _ 2 2 2 2 (fun k => if k = 0 then X0 else fun i => if i = 0 then X0 0 + 5242880 else X0 i) (fun _ => 6) (fun _ => 6) (fun _ => mz 6 6 P0) (fun _ => P0) twC (hp.keep (below_al (Below.refl _ _) _)) (fun _ _ _ _ => rfl) bX2 (fun _ => bP) hsl (fun k => by show _ ≤ (if k = 0 then (1073741824 : Int) else 0) ∧ (if k = 0 then (1073741824 : Int) else 0) ≤ _; split <;> omega)).mono ?_
      rintro e w' ⟨k, ⟨h, _⟩ | ⟨_, rfl⟩⟩
      · exact absurd hJ2 h
      · exact ⟨_, by rw [same_cells twC_ch hmay (fun k _ hk i _ => by
          by_cases e : k = 0
          · rw [if_pos e]
          · exact absurd (show twC k = 0 by unfold twC; rw [if_neg e]) hk) (fun _ _ _ _ _ _ _ => rfl)], below_tr (below_al kA _) k⟩
  · exact msame_odd P a0 a1 a2 len0 cap0 len1 cap1 len2 cap2 w X0 (mz 6 6 P0) hSome (fun W b => dcheck14_any a2 len2 cap2 _ 0 W (s2.keep b) b2 false ⟨fun q => (by cases q), fun q => absurd q hc⟩ (by omega) (by omega)) s2.le s2.cap
end Go.Proofs.Ytoglokgkgonmdaa
