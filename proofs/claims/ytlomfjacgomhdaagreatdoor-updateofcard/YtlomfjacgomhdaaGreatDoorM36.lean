/-
  An array of integers that came in: its parts.
-/
import Derived.WideKeyArr2
import Derived.OpenShut
set_option linter.unusedSimpArgs false
set_option linter.unusedVariables false
namespace Go.Proofs.YtlomfjacgomhdaaGreatDoor
open Go.ChangeShapes Go.WideShapes

namespace Arr
section
variable {H : Type} {enc : TypeId × Value → H} {P : Program} {W : World} {base : Nat} {sp : Nat → Bool} {held : Bool}

theorem mapM_ints {e : TypeId} {q : IntKind} (he : P.underlying e = some (.int q)) {m c : Nat} {cs : List Value} : ∀ (L : List Nat) (xs : List (DataW H × List MemPlace)),
    L.mapM (fun i => DataW.trod enc P W base sp held m e ((cs.drop (i * c)).take c)) = some xs → ∀ i ∈ L, ∃ z, (cs.drop (i * c)).take c = [.int q z] ∧ (Lit.int q z).wf = true
  | [], xs, h => by intro i hi; cases hi
  | j :: L, xs, h => by
    rw [List.mapM_cons] at h
    simp only [bind, Option.bind_eq_some_iff, pure, Option.some.injEq] at h
    obtain ⟨y, hy, ys, hys, rfl⟩ := h
    intro i hi
    rcases List.mem_cons.1 hi with rfl | hi
    · obtain ⟨a, ea, rfl, wa⟩ := DataW.trod_int he hy
      exact ⟨a, ea, wa⟩
    · exact mapM_ints he L ys hys i hi

/-- The number of a value. -/
def num : Value → Int
  | .int _ z => z
  | _ => 0

theorem open_array {t e : TypeId} {n : Nat} {q : IntKind} (hu : P.underlying t = some (.array n e)) (he : P.underlying e = some (.int q)) (hc : P.cellsOf e = 1) (hn : P.cellsOf t = n) {r : Reach} {b0 : Nat} {v : Value} {d : DataW H} {ps : List MemPlace}
    (hok : Value.okWide P W r b0 t v) (hd : DataW.Trod enc P W base sp held t v d ps) : ∃ zs : List Int, zs.length = n ∧ v = .agg (zs.map (Value.int q)).toArray ∧ ∀ z ∈ zs, (Lit.int q z).wf = true := by
  have h := hok
  simp only [Value.okWide, hu] at h
  obtain ⟨cs, rfl, h2, _⟩ := h
  obtain ⟨fuel, hf⟩ := hd
  cases fuel with
  | zero => simp [DataW.trod] at hf
  | succ m =>
    rw [DataW.trod_step] at hf
    unfold DataW.trodStep at hf
    simp only [hu, Value.cells] at hf
    rw [if_pos (by rw [hn]; simpa [hn] using h2)] at hf
    simp only [Option.map_eq_some_iff] at hf
    obtain ⟨ys, hy, e1⟩ := hf
    have hall := mapM_ints he _ ys hy
    rw [hc] at hall
    have hsz : cs.toList.length = n := by simpa [hn] using h2
    have hat : ∀ i (hi : i < cs.toList.length), ∃ z, cs.toList[i] = .int q z ∧ (Lit.int q z).wf = true := fun i hi => by
      obtain ⟨z, hz, wz⟩ := hall i (by simp; omega)
      rw [Nat.mul_one] at hz
      refine ⟨z, ?_, wz⟩
      have e2 : (cs.toList.drop i).take 1 = [cs.toList[i]] := by
        rw [List.drop_eq_getElem_cons hi]; rfl
      rw [e2] at hz
      exact (List.cons.inj hz).1
    refine ⟨cs.toList.map num, by rw [List.length_map]; exact hsz, ?_, ?_⟩
    · congr 1
      apply Array.ext'
      rw [List.toList_toArray]
      apply List.ext_getElem
      · simp
      · intro i h1 h2
        obtain ⟨z, hz, wz⟩ := hat i h1
        simp only [List.getElem_map]
        rw [hz]
        rfl
    · intro z hz
      obtain ⟨v, hv, rfl⟩ := List.mem_map.1 hz
      obtain ⟨i, hi, rfl⟩ := List.getElem_of_mem hv
      obtain ⟨z, hz, wz⟩ := hat i hi
      rw [hz]
      exact wz
theorem two {zs : List Int} (h : zs.length = 2) : ∃ a b, zs = [a, b] := by
  match zs, h with
  | [a, b], _ => exact ⟨a, b, rfl⟩
theorem three {zs : List Int} (h : zs.length = 3) : ∃ a b c, zs = [a, b, c] := by
  match zs, h with
  | [a, b, c], _ => exact ⟨a, b, c, rfl⟩
theorem four {zs : List Int} (h : zs.length = 4) : ∃ a b c d, zs = [a, b, c, d] := by
  match zs, h with
  | [a, b, c, d], _ => exact ⟨a, b, c, d, rfl⟩
end
end Arr
end Go.Proofs.YtlomfjacgomhdaaGreatDoor

/-
  A struct of integers that came in: its parts.
-/
set_option linter.unusedSimpArgs false
set_option linter.unusedVariables false
namespace Go.Proofs.YtlomfjacgomhdaaGreatDoor
open Go.ChangeShapes Go.WideShapes

namespace Stc
section
variable {H : Type} {enc : TypeId × Value → H} {P : Program} {W : World} {base : Nat} {sp : Nat → Bool} {held : Bool}

theorem open_struct {t : TypeId} {fs : Array Field} (hu : P.underlying t = some (.struct fs)) (ks : List IntKind) (hn : P.cellsOf t = ks.length)
    (hk : (fs.toList.map fun f => (f.offset, P.cellsOf f.type, P.underlying f.type)) = (List.range ks.length).map fun i => (i, 1, some (.int (ks.getD i .i64))))
    {r : Reach} {b0 : Nat} {v : Value} {d : DataW H} {ps : List MemPlace} (hok : Value.okWide P W r b0 t v) (hd : DataW.Trod enc P W base sp held t v d ps) :
    ∃ zs : List Int, zs.length = ks.length ∧ v = .agg (List.zipWith Value.int ks zs).toArray ∧ ∀ i, i < ks.length → (Lit.int (ks.getD i .i64) (zs.getD i 0)).wf = true := by
  obtain ⟨cs, rfl, hsz⟩ := okWide_struct hu hok
  obtain ⟨fuel, hf⟩ := hd
  simp only [Value.cells] at hf
  obtain ⟨xs, n, _, hx, hl, hlen, hF⟩ := DataW.trod_struct hu hf
  have hfs : fs.size = ks.length := by
    have := congrArg List.length hk
    simpa using this
  have hat : ∀ i (hi : i < ks.length), ∃ z, cs.toList[i]? = some (.int (ks.getD i .i64) z) ∧ (Lit.int (ks.getD i .i64) z).wf = true := fun i hi => by
    have h1 := congrArg (fun l => l[i]?) hk
    simp only [List.getElem?_map] at h1
    rw [List.getElem?_range hi] at h1
    simp only [Option.map_some, Option.map_eq_some_iff, Prod.mk.injEq] at h1
    obtain ⟨f, hf1, hf2, hf3, hf4⟩ := h1
    have h2 := hF i f (by simpa using hf1)
    have hxi : i < xs.length := by omega
    rw [List.getElem?_eq_getElem hxi, hf2, hf3] at h2
    obtain ⟨a, ea, _, wa⟩ := DataW.trod_int hf4 h2
    have hci : i < cs.toList.length := by rw [hl, hn]; exact hi
    refine ⟨a, ?_, wa⟩
    have e2 : (cs.toList.drop i).take 1 = [cs.toList[i]] := by
      rw [List.drop_eq_getElem_cons hci]; rfl
    rw [e2] at ea
    rw [List.getElem?_eq_getElem hci, (List.cons.inj ea).1]
  have hcl : cs.toList.length = ks.length := by rw [hl, hn]
  refine ⟨cs.toList.map Arr.num, by simpa using hcl, ?_, ?_⟩
  · congr 1
    apply Array.ext'
    rw [List.toList_toArray]
    apply List.ext_getElem?
    intro i
    rw [List.getElem?_zipWith]
    rcases Nat.lt_or_ge i ks.length with hi | hi
    · obtain ⟨z, hz, wz⟩ := hat i hi
      rw [hz, List.getElem?_map, hz, List.getElem?_eq_getElem hi]
      simp only [Option.map_some, Arr.num, List.getD_eq_getElem?_getD, List.getElem?_eq_getElem hi, Option.getD_some]
    · rw [List.getElem?_eq_none (by omega), List.getElem?_eq_none (l := ks) hi]
  · intro i hi
    obtain ⟨z, hz, wz⟩ := hat i hi
    have e : (cs.toList.map Arr.num).getD i 0 = z := by
      rw [List.getD_eq_getElem?_getD, List.getElem?_map, hz]; rfl
    rw [e]
    exact wz
theorem two {zs : List Int} (h : zs.length = 2) : ∃ a b, zs = [a, b] := by
  match zs, h with
  | [a, b], _ => exact ⟨a, b, rfl⟩
theorem three {zs : List Int} (h : zs.length = 3) : ∃ a b c, zs = [a, b, c] := by
  match zs, h with
  | [a, b, c], _ => exact ⟨a, b, c, rfl⟩
theorem four {zs : List Int} (h : zs.length = 4) : ∃ a b c d, zs = [a, b, c, d] := by
  match zs, h with
  | [a, b, c, d], _ => exact ⟨a, b, c, d, rfl⟩
theorem five {zs : List Int} (h : zs.length = 5) : ∃ a b c d e, zs = [a, b, c, d, e] := by
  match zs, h with
  | [a, b, c, d, e], _ => exact ⟨a, b, c, d, e, rfl⟩
end
end Stc
end Go.Proofs.YtlomfjacgomhdaaGreatDoor
