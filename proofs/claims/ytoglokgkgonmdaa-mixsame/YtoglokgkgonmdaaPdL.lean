/-
  Layer 12's laws: states, steps and noises that came in.
-/
import Derived.Test.YtoglokgkgonmdaaM19
import Derived.Test.YtoglokgkgonmdaaM8
import Derived.Test.YtoglokgkgonmdaaMtY
import Derived.Test.YtoglokgkgonmdaaLieS
set_option linter.unusedSimpArgs false
set_option linter.unusedVariables false
namespace Go.Proofs.Ytoglokgkgonmdaa
open Go.RowKit Vc St Mt Cm Ld Pd Pr Qn Dt

theorem matOf_six {w : World} {lo : Option Addr} {cm : Nat} {F : Nat → Nat → Int} (h : Grid w lo 6 cm 6 F) (W : World) (b : Below w.heap.size w W) :
    Calls Try.prog 12 #[.slice lo 6 cm] W fun e w' => e = .returned (.agg (mvals 6 6 (mz 6 6 F)).toArray) ∧ Below W.heap.size W w' := by
  refine matOf_by _ _ _ _ W (fun V k => ?_)
  obtain ⟨A', C', h1, h2⟩ := h.keep (below_tr b k)
  exact mof_any 6 6 lo cm A' C' F V (by omega) (by omega) (by omega) (by omega) h1 h2

theorem list_two {cs : List Value} (h : cs.length = 2) : ∃ u v, cs = [u, v] := by
  match cs, h with
  | [u, v], _ => exact ⟨u, v, rfl⟩
theorem fieldsR : (Try.prog.fieldsOf 32).toList.map (fun f => (f.name, f.type, f.offset)) = [("X", 22, 0), ("P", 23, 1)] := by kernel_rfl
theorem structR : Try.prog.underlying 32 = some (.struct (Try.prog.fieldsOf 32)) := by kernel_rfl
/-- A state that came in. -/
theorem state_lies {w : World} {cs : List Value} (h : Lie.L w 32 cs) :
    ∃ (xo : Option Addr) (m xc : Nat) (X : Nat → Int) (po : Option Addr) (n pc : Nat) (A : Nat → Option Addr) (K C : Nat → Nat) (Z : Nat → Nat → Int), cs = [.slice xo m xc, .slice po n pc] ∧ Sl w xo m xc X ∧ B64 X ∧ Sls w po n pc A K C ∧ ∀ r, r < n → Sl w (A r) (K r) (C r) (Z r) ∧ B64 (Z r) := by
  obtain ⟨hlen, hF⟩ := Lie.struct_ structR h
  have hl : cs.length = 2 := by rw [hlen]; kernel_rfl
  obtain ⟨u, v, rfl⟩ := list_two hl
  clear hlen hl h
  obtain ⟨f0, f1, hf, h0, h1⟩ := list2 fieldsR
  injection h0 with n0 h0
  injection h0 with t0 o0
  injection h1 with n1 h1
  injection h1 with t1 o1
  have c0 : Try.prog.cellsOf 22 = 1 := by kernel_rfl
  have c1 : Try.prog.cellsOf 23 = 1 := by kernel_rfl
  have g0 : Lie.L w 22 [u] := by
    have f := hF 0 f0 (by rw [← Array.getElem?_toList, hf]; rfl)
    rw [t0, o0, c0] at f
    exact f
  have g1 : Lie.L w 23 [v] := by
    have f := hF 1 f1 (by rw [← Array.getElem?_toList, hf]; rfl)
    rw [t1, o1, c1] at f
    exact f
  obtain ⟨xo, m, xc, X, e0, sX, bX⟩ := Lie.ints Try.underlying22 Try.underlying2 (by kernel_rfl) g0
  obtain ⟨po, n, pc, A, K, C, Z, e1, sP, qP⟩ := Lie.rows Try.underlying23 Try.underlying22 Try.underlying2 (by kernel_rfl) (by kernel_rfl) g1
  injection e0 with e0 _
  injection e1 with e1 _
  subst e0 e1
  exact ⟨xo, m, xc, X, po, n, pc, A, K, C, Z, rfl, sX, bX, sP, qP⟩

end Go.Proofs.Ytoglokgkgonmdaa
