/-
  The document's answer of layer 9 (radomeref09): down, Solve, Far, Log.
-/
import Derived.Test.YtdgcnaijndocnaaDoorLdR
import Derived.Test.YtdgcnaijndocnaaDoorLgV
import Derived.Test.YtdgcnaijndocnaaDoorM24
import Derived.Test.YtdgcnaijndocnaaDoorM22
import Derived.Deep.RegionWith
set_option linter.unusedSimpArgs false
set_option linter.unusedVariables false
namespace Go.Proofs.YtdgcnaijndocnaaDoor
open Go.RowKit Vc Mt St Qn Dt Dec Ld

namespace Ld
/-- A piece of one number. -/
theorem run_oneS (x : Addr) (n c i : Nat) (h : i < n) (hc : n ≤ c) : (∀ w : World, (Instr.sliceAt 22 (.slice (some x) n c) (some (.int .i64 (i : Int))) (some (.int .i64 ((i : Int) + 1))) none).run Tryd.prog w = .ok (.slice (some (x.add i)) 1 (c - i)) w) ∧
    ∀ w : World, (Instr.slice 22 (.slice (some x) n c) (some (.int .i64 (i : Int))) (some (.int .i64 ((i : Int) + 1))) none).run Tryd.prog w = .ok (.slice (some (x.add i)) 1 (c - i)) w := by
  have hu : Tryd.prog.underlying 22 = some (.slice (Tryd.prog.elem 22)) := by kernel_rfl
  have he : Tryd.prog.elem 22 = 2 := by kernel_rfl
  have key : ∀ w : World, (Instr.slice 22 (.slice (some x) n c) (some (.int .i64 (i : Int))) (some (.int .i64 ((i : Int) + 1))) none).run Tryd.prog w = .ok (.slice (some (x.add i)) 1 (c - i)) w := fun w => by
    rw [run_slice_lh w 22 _ _ _ hu .i64 .i64 _ _ (by omega) (by omega) (by omega), he, run_size8]
    have e1 : ((i : Int) + 1).toNat = i + 1 := by omega
    simp only [Result.andThen_ok, sliced, Int.toNat_natCast, Nat.mul_one, e1]
    rw [if_neg (by omega), Option.map_some, Nat.add_sub_cancel_left]
  exact ⟨fun w => by rw [run_sliceAt_slice w 22 _ _ _ _ hu]; exact key w, key⟩
theorem sl_one' {w : World} {x : Addr} {a : Int} {c : Nat} (h : w.cell? x = some (.int .i64 a)) (h1 : 1 ≤ c) (h2 : c ≤ 9223372036854775807) : Sl w (some x) 1 c (fun _ => a) :=
  ⟨h1, h2, fun k hk => ⟨x, rfl, by
    match k, hk with
    | 0, _ => exact h⟩⟩
theorem b64_const {a : Int} (h : -4611686018427387903 ≤ a ∧ a ≤ 4611686018427387903) : B64 (fun _ => a) := fun _ => ⟨by show -9223372036854775808 ≤ a; omega, by show a ≤ 9223372036854775807; omega⟩
end Ld

end Go.Proofs.YtdgcnaijndocnaaDoor
