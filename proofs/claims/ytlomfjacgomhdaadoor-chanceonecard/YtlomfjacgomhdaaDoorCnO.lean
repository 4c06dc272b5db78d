/-
  The law ChanceOne of layer 14, its plain part.
-/
import Derived.Test.YtlomfjacgomhdaaDoorCnP
set_option linter.unusedSimpArgs false
set_option linter.unusedVariables false
namespace Go.Proofs.YtlomfjacgomhdaaDoor
namespace Cn
/-- Chances by weights, at least the floor. -/
def oc (fl : Int) (z : Nat → Int) (n : Nat) : Nat → Int := fun k => sh (1073741824 - fl * n) z n k + fl
section
variable {n : Nat} {z : Nat → Int} {fl : Int} (hm : MayW n z fl) (ht : 0 < tot z n)
include hm ht
theorem oc_ch : Ch n (oc fl z n) fl := by
  have h4 := mul_four hm.lo hm.hi hm.four
  refine ⟨hm.one, hm.four, hm.lo, hm.hi, fun k hk => ?_, ?_⟩
  · have := sh_nn (m := 1073741824 - fl * n) (by omega) (fun i hi => (hm.each i hi).1) ht hk
    show fl ≤ sh (1073741824 - fl * n) z n k + fl; omega
  · show tot (fun k => sh (1073741824 - fl * n) z n k + fl) n = _
    rw [tot_add (sh (1073741824 - fl * n) z n) (fun _ => fl) n, sh_tot ht, tot_const]; omega
theorem oc_mono {i j : Nat} (hi : i < n) (hj : j < n) (h : z j < z i) : oc fl z n j ≤ oc fl z n i := by
  have h4 := mul_four hm.lo hm.hi hm.four
  have := sh_mono (m := 1073741824 - fl * n) (by omega) ht hi hj (by omega) h
  show sh (1073741824 - fl * n) z n j + fl ≤ sh (1073741824 - fl * n) z n i + fl; omega
omit ht hm in
theorem oc_in (hm : MayW n z fl) (ht : 0 < tot z n) {k : Nat} (hk : k < n) : 0 ≤ oc fl z n k ∧ oc fl z n k ≤ 1073741824 := (oc_ch hm ht).nn hk
end
/-- Each becomes itself. -/
def own1 (i j : Nat) : Int := if j = i then 1073741824 else 0
section
variable {n : Nat} {s : Nat → Int} {fl : Int} (h : Ch n s fl)
include h
theorem ch0 : Ch n s 0 := ⟨h.one, h.four, by omega, by omega, fun k hk => Int.le_trans h.lo (h.each k hk), h.sum⟩
theorem same_may : MayX n s n (fun _ => n) own1 := by
  refine ⟨ch0 h, rfl, fun i hi => ⟨rfl, h.one, h.four, by omega, by omega, fun k hk => ?_, ?_⟩⟩
  · show 0 ≤ if k = i then (1073741824 : Int) else 0
    split <;> omega
  · show tot (fun k => if k = i then (1073741824 : Int) else (fun _ => 0) k) n = _
    rw [tot_set 1073741824 hi, tot_const]; omega
theorem same_sh {j : Nat} (hj : j < n) : sh 1073741824 (mxw n s own1) n j = s j := by
  have e : ∀ i, i < n → mxw n s own1 i = s i * 1073741824 := fun i hi => by
    show tot (fun q => s q * own1 q i) n = _
    rw [tot_congr (b := fun k => if k = i then s i * 1073741824 else (fun _ => 0) k) (fun k hk => by
      show s k * (if i = k then (1073741824 : Int) else 0) = if k = i then s i * 1073741824 else 0
      by_cases e : k = i
      · rw [if_pos e, if_pos e.symm, e]
      · rw [if_neg e, if_neg (fun q => e q.symm), Int.mul_zero])]
    rw [tot_set (a := fun _ => 0) _ hi, tot_const]; omega
  refine sh_whole (by rw [mxw_tot (same_may h)]; omega) (fun i hi => ?_) hj
  rw [e i hi, mxw_tot (same_may h)]; omega
theorem rows_may : MayX n s n (fun _ => n) (fun _ => s) := ⟨ch0 h, rfl, fun i hi => ⟨rfl, ch0 h⟩⟩
theorem rows_sh {j : Nat} (hj : j < n) : sh 1073741824 (mxw n s (fun _ => s)) n j = s j := by
  have e : ∀ i, i < n → mxw n s (fun _ => s) i = 1073741824 * s i := fun i hi => by
    show tot (fun q => s q * s i) n = _
    rw [tot_mulr, h.sum]
  refine sh_whole (by rw [mxw_tot (rows_may h)]; omega) (fun i hi => ?_) hj
  rw [e i hi, mxw_tot (rows_may h)]; omega
end
end Cn
end Go.Proofs.YtlomfjacgomhdaaDoor
