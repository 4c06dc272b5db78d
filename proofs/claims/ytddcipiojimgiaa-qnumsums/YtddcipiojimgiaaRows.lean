/-
  No cell of these rows narrows 'for every input' (looked for: loops, veiled, ifaces, maps, wideKeys, modest, calm, conditions, laid).
  DERIVED. THE GIVEN ROWS OF THIS SEAT. 2 by the template 'for every input the law returns true; each argument reads behind the call as it read before'; 0 by the template 'total and deterministic' (their statements: YtddcipiojimgiaaTotals.lean).
  GIVEN WITH THE SEED: the statements are not yours to turn. If you find one false, say at which input.
  Laid BY PROGRAM, IN A SANDBOX (cutbox-rows.mjs): the forced cells as the released guide's own fill.sh prints them over the translation 174605a8a837107a… (all of the seat's roots in one cut). By AI agents, Wed Nov 11 2026. No macro, syntax, notation, axiom, sorry.
-/
import Derived.Test.YtddcipiojimgiaaChecked
import GoSem.Claim
import GoSem.ClaimJoined
import GoSem.ClaimMapViews
import Derived.JoinedTies
import Derived.KernelRfl
namespace Go.Proofs.Ytddcipiojimgiaa
/- THE CELL 'sum', in the pinned program and in every row, IS THE sha256 OF THE DUMP (.gsa) THAT YtddcipiojimgiaaProg.lean LOADS. Nothing in Lean hashes anything: it is a label: what it is worth is what the hold of that sum in a sandbox is worth. -/
noncomputable def Try.pinned : Pinned := { name := "ytddcipiojimgiaa", sum := "174605a8a837107adbd687113fe3711941c3a9d7a725ffd6dcbda0dc1b939af5", checked := Try.checked }
namespace Rows
def none {H : Type} : Left H := { results := [], args := [] }

/-- 'radomelaw03.QnumSums': WHATEVER THE INPUT: true; the input reads as it did. -/
def qnumSumsSpec : ChangeSpec := { name := "qnumSums", fn := fun _ => fun
  | [d1, d2] => { results := [.lit (.bool true)], args := [d1, d2] }
  | _ => none }
def qnumSumsRow : OpenClaim := { program := "ytddcipiojimgiaa", sum := "174605a8a837107adbd687113fe3711941c3a9d7a725ffd6dcbda0dc1b939af5", func := "radome/radomelaw03.QnumSums", spec := "qnumSums", inPlace := ["math/bits.Add64"], named := ["math/bits.divideError", "math/bits.overflowError"], apart := false }
def QnumSumsSaid : Prop := qnumSumsRow.holds Try.pinned (OpenSpec.ofChange qnumSumsSpec)

/-- ITS FALSE NEIGHBOUR: 'it returns false'. Refute it at one input. -/
def qnumSumsWrong : ChangeSpec := { name := "qnumSums", fn := fun _ => fun
  | [d1, d2] => { results := [.lit (.bool false)], args := [d1, d2] }
  | _ => none }
def QnumSumsWrongFalsely : Prop := qnumSumsRow.holds Try.pinned (OpenSpec.ofChange qnumSumsWrong)

/-- 'radomelaw03.QnumNear': WHATEVER THE INPUT: true; the input reads as it did. -/
def qnumNearSpec : ChangeSpec := { name := "qnumNear", fn := fun _ => fun
  | [d1, d2, d3] => { results := [.lit (.bool true)], args := [d1, d2, d3] }
  | _ => none }
def qnumNearRow : OpenClaim := { program := "ytddcipiojimgiaa", sum := "174605a8a837107adbd687113fe3711941c3a9d7a725ffd6dcbda0dc1b939af5", func := "radome/radomelaw03.QnumNear", spec := "qnumNear", inPlace := ["math/bits.Add64"], named := ["math/bits.divideError", "math/bits.overflowError"], apart := false }
def QnumNearSaid : Prop := qnumNearRow.holds Try.pinned (OpenSpec.ofChange qnumNearSpec)

/-- ITS FALSE NEIGHBOUR: 'it returns false'. Refute it at one input. -/
def qnumNearWrong : ChangeSpec := { name := "qnumNear", fn := fun _ => fun
  | [d1, d2, d3] => { results := [.lit (.bool false)], args := [d1, d2, d3] }
  | _ => none }
def QnumNearWrongFalsely : Prop := qnumNearRow.holds Try.pinned (OpenSpec.ofChange qnumNearWrong)

/- THE SECOND FORM. 'bulk': how many values and letters a reading holds, each counted each time it is reached (what is shared counts as often as it is met; a slice's spare places count too). A statement '..UptoSaid' is the law's where the arguments, and the package variables that the reading takes, are together of bulk at most 1048576: NARROWER than '..Said'. Prove '..Said' where nothing that the law and all that it calls make is longer than what came in: it says more and counts as full. Else prove '..UptoSaid'. A law counts once. -/
mutual
def uptoBulk {H : Type} : DataW H → Nat
  | .lit (.string bytes) => bytes.length + 1
  | .lit _ => 1
  | .nil => 1
  | .ptr d => uptoBulk d + 1
  | .slice elems spare => uptoBulkAll elems + uptoBulkAll spare + 1
  | .agg parts => uptoBulkAll parts + 1
  | .iface _ d => uptoBulk d + 1
  | .map entries => uptoBulkEntries entries + 1
  | .held _ => 1
def uptoBulkAll {H : Type} : List (DataW H) → Nat
  | [] => 0
  | d :: r => uptoBulk d + uptoBulkAll r
def uptoBulkEntries {H : Type} : List (Lit × DataW H) → Nat
  | [] => 0
  | x :: r => uptoBulkEntry x + uptoBulkEntries r
def uptoBulkEntry {H : Type} : Lit × DataW H → Nat
  | (.string bytes, d) => bytes.length + uptoBulk d + 1
  | (_, d) => uptoBulk d + 1
 end
def uptoSmall : (H : Type) → List (DataW H) → Bool := fun _ ds => decide (uptoBulkAll ds ≤ 1048576)
def OpenSpec.upto (s : _root_.Go.ChangeSpec) : _root_.Go.OpenSpec := { _root_.Go.OpenSpec.ofChange s with cond := some uptoSmall }

/-- 'radomelaw03.QnumSums', WHERE WHAT IT READS IS OF BULK AT MOST 1048576: true; the input reads as it did. -/
def qnumSumsUptoRow : OpenClaim := { program := "ytddcipiojimgiaa", sum := "174605a8a837107adbd687113fe3711941c3a9d7a725ffd6dcbda0dc1b939af5", func := "radome/radomelaw03.QnumSums", spec := "qnumSums", inPlace := ["math/bits.Add64"], named := ["math/bits.divideError", "math/bits.overflowError"], apart := false, narrowed := true }
def QnumSumsUptoSaid : Prop := qnumSumsUptoRow.holds Try.pinned (OpenSpec.upto qnumSumsSpec)

/-- 'radomelaw03.QnumNear', WHERE WHAT IT READS IS OF BULK AT MOST 1048576: true; the input reads as it did. -/
def qnumNearUptoRow : OpenClaim := { program := "ytddcipiojimgiaa", sum := "174605a8a837107adbd687113fe3711941c3a9d7a725ffd6dcbda0dc1b939af5", func := "radome/radomelaw03.QnumNear", spec := "qnumNear", inPlace := ["math/bits.Add64"], named := ["math/bits.divideError", "math/bits.overflowError"], apart := false, narrowed := true }
def QnumNearUptoSaid : Prop := qnumNearUptoRow.holds Try.pinned (OpenSpec.upto qnumNearSpec)

end Rows
end Go.Proofs.Ytddcipiojimgiaa
