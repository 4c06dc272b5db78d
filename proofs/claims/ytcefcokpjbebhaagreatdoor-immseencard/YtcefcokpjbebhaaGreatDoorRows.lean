/-
  NARROWER THAN 'FOR EVERY INPUT', by the rows' own cells (each row's printed sentence says how): ImmAhead: laid · ImmSeen: laid · ImmOne: laid.
  DERIVED. THE GIVEN ROWS OF THIS SEAT. 3 by the template 'for every input the law returns true; each argument reads behind the call as it read before'; 0 by the template 'total and deterministic' (their statements: YtcefcokpjbebhaaGreatDoorTotals.lean).
  GIVEN WITH THE SEED: the statements are not yours to turn. If you find one false, say at which input.
  Laid BY PROGRAM, IN A SANDBOX (cutbox-rows.mjs): the forced cells as the released guide's own fill.sh prints them over the translation e0ff12168b54ff1b… (all of the seat's roots in one cut). By AI agents, Wed Nov 11 2026. No macro, syntax, notation, axiom, sorry.
-/
import Derived.Test.YtcefcokpjbebhaaGreatDoorChecked
import GoSem.Claim
import GoSem.ClaimJoined
import GoSem.ClaimMapViews
import Derived.JoinedTies
import Derived.KernelRfl
namespace Go.Proofs.YtcefcokpjbebhaaGreatDoor
/- THE CELL 'sum', in the pinned program and in every row, IS THE sha256 OF THE DUMP (.gsa) THAT YtcefcokpjbebhaaGreatDoorProg.lean LOADS. Nothing in Lean hashes anything: it is a label: what it is worth is what the hold of that sum in a sandbox is worth. -/
noncomputable def Tryz.pinned : Pinned := { name := "ytcefcokpjbebhaagreatdoor", sum := "e0ff12168b54ff1b5962255e9271557ac873076605dfe56293d25e653f6a3c53", checked := Tryz.checked }
namespace Rows
def none {H : Type} : Left H := { results := [], args := [] }

/- WHAT THE LISTED PACKAGE-LEVEL VARIABLES READ AS WHEN THE CALL BEGINS. Each datum BY PROGRAM (the guide's laid-datum.mjs) off the statement by which the dump's own 'gosem.cut.vars' lays the variable. In a bare row this is a premise. The card (YtcefcokpjbebhaaGreatDoorCards.lean) ties it to the program's text. -/
def laid_errors_errorType {H : Type} : DataW H := .iface "internal/reflectlite.rtype" (.agg [.ptr (.lit (.string [101, 114, 114, 111, 114]))])
def laid_radome_trig_angles {H : Type} : DataW H := .agg [.lit (.int .i64 576460752303423488), .lit (.int .i64 340304653033718298), .lit (.int .i64 179807632645220259), .lit (.int .i64 91273161881380487), .lit (.int .i64 45813697873323707), .lit (.int .i64 22929182573009054), .lit (.int .i64 11467389120678282), .lit (.int .i64 5734044481687724), .lit (.int .i64 2867065987018958), .lit (.int .i64 1433538461969102), .lit (.int .i64 716769914547871), .lit (.int .i64 358385042719534), .lit (.int .i64 179192532040472), .lit (.int .i64 89596267355325), .lit (.int .i64 44798133844548), .lit (.int .i64 22399066943135), .lit (.int .i64 11199533474175), .lit (.int .i64 5599766737413), .lit (.int .i64 2799883368747), .lit (.int .i64 1399941684379), .lit (.int .i64 699970842190), .lit (.int .i64 349985421095), .lit (.int .i64 174992710548), .lit (.int .i64 87496355274), .lit (.int .i64 43748177637), .lit (.int .i64 21874088818), .lit (.int .i64 10937044409), .lit (.int .i64 5468522205), .lit (.int .i64 2734261102), .lit (.int .i64 1367130551), .lit (.int .i64 683565276), .lit (.int .i64 341782638), .lit (.int .i64 170891319), .lit (.int .i64 85445659), .lit (.int .i64 42722830), .lit (.int .i64 21361415), .lit (.int .i64 10680707), .lit (.int .i64 5340354), .lit (.int .i64 2670177), .lit (.int .i64 1335088)]

/-- 'radomelaw17.ImmAhead': WHATEVER THE INPUT: true; the input reads as it did. -/
def immAheadSpec : ChangeSpec := { name := "immAhead", fn := fun _ => fun
  | [d1, d2, d3] => { results := [.lit (.bool true)], args := [d1, d2, d3] }
  | _ => none }
def immAheadRow : OpenClaim := { program := "ytcefcokpjbebhaagreatdoor", sum := "e0ff12168b54ff1b5962255e9271557ac873076605dfe56293d25e653f6a3c53", func := "radome/radomelaw17.ImmAhead", spec := "immAhead", inPlace := ["math/bits.Add64", "internal/reflectlite.ValueOf", "(internal/reflectlite.Value).Type", "(internal/reflectlite.Value).IsNil", "internal/reflectlite.TypeOf", "(internal/reflectlite.Value).Elem", "(internal/reflectlite.Value).Set"], unfollowed := true, recurses := true, named := ["math/bits.divideError", "math/bits.overflowError", "radome/trig.angles", "errors.errorType"], apart := false, laid := [("errors.errorType", laid_errors_errorType), ("radome/trig.angles", laid_radome_trig_angles)] }
def ImmAheadSaid : Prop := immAheadRow.holds Tryz.pinned (OpenSpec.ofChange immAheadSpec)

/-- ITS FALSE NEIGHBOUR: 'it returns false'. Refute it at one input. -/
def immAheadWrong : ChangeSpec := { name := "immAhead", fn := fun _ => fun
  | [d1, d2, d3] => { results := [.lit (.bool false)], args := [d1, d2, d3] }
  | _ => none }
def ImmAheadWrongFalsely : Prop := immAheadRow.holds Tryz.pinned (OpenSpec.ofChange immAheadWrong)

/-- 'radomelaw17.ImmSeen': WHATEVER THE INPUT: true; the input reads as it did. -/
def immSeenSpec : ChangeSpec := { name := "immSeen", fn := fun _ => fun
  | [d1, d2, d3] => { results := [.lit (.bool true)], args := [d1, d2, d3] }
  | _ => none }
def immSeenRow : OpenClaim := { program := "ytcefcokpjbebhaagreatdoor", sum := "e0ff12168b54ff1b5962255e9271557ac873076605dfe56293d25e653f6a3c53", func := "radome/radomelaw17.ImmSeen", spec := "immSeen", inPlace := ["math/bits.Add64", "internal/reflectlite.ValueOf", "(internal/reflectlite.Value).Type", "(internal/reflectlite.Value).IsNil", "internal/reflectlite.TypeOf", "(internal/reflectlite.Value).Elem", "(internal/reflectlite.Value).Set"], unfollowed := true, recurses := true, named := ["math/bits.divideError", "math/bits.overflowError", "radome/trig.angles", "errors.errorType"], apart := false, laid := [("errors.errorType", laid_errors_errorType), ("radome/trig.angles", laid_radome_trig_angles)] }
def ImmSeenSaid : Prop := immSeenRow.holds Tryz.pinned (OpenSpec.ofChange immSeenSpec)

/-- ITS FALSE NEIGHBOUR: 'it returns false'. Refute it at one input. -/
def immSeenWrong : ChangeSpec := { name := "immSeen", fn := fun _ => fun
  | [d1, d2, d3] => { results := [.lit (.bool false)], args := [d1, d2, d3] }
  | _ => none }
def ImmSeenWrongFalsely : Prop := immSeenRow.holds Tryz.pinned (OpenSpec.ofChange immSeenWrong)

/-- 'radomelaw17.ImmOne': WHATEVER THE INPUT: true; the input reads as it did. -/
def immOneSpec : ChangeSpec := { name := "immOne", fn := fun _ => fun
  | [d1, d2, d3] => { results := [.lit (.bool true)], args := [d1, d2, d3] }
  | _ => none }
def immOneRow : OpenClaim := { program := "ytcefcokpjbebhaagreatdoor", sum := "e0ff12168b54ff1b5962255e9271557ac873076605dfe56293d25e653f6a3c53", func := "radome/radomelaw17.ImmOne", spec := "immOne", inPlace := ["math/bits.Add64", "internal/reflectlite.ValueOf", "(internal/reflectlite.Value).Type", "(internal/reflectlite.Value).IsNil", "internal/reflectlite.TypeOf", "(internal/reflectlite.Value).Elem", "(internal/reflectlite.Value).Set"], unfollowed := true, recurses := true, named := ["math/bits.divideError", "math/bits.overflowError", "radome/trig.angles", "errors.errorType"], apart := false, laid := [("errors.errorType", laid_errors_errorType), ("radome/trig.angles", laid_radome_trig_angles)] }
def ImmOneSaid : Prop := immOneRow.holds Tryz.pinned (OpenSpec.ofChange immOneSpec)

/-- ITS FALSE NEIGHBOUR: 'it returns false'. Refute it at one input. -/
def immOneWrong : ChangeSpec := { name := "immOne", fn := fun _ => fun
  | [d1, d2, d3] => { results := [.lit (.bool false)], args := [d1, d2, d3] }
  | _ => none }
def ImmOneWrongFalsely : Prop := immOneRow.holds Tryz.pinned (OpenSpec.ofChange immOneWrong)

/- THE SECOND FORM. 'bulk': how many values and letters a reading holds, each counted each time it is reached (what is shared counts as often as it is met; a slice's spare places count too). A statement '..UptoSaid' is the law's where the arguments, and the package variables that the reading takes, are together of bulk at most 1048576: NARROWER than '..Said'. Prove '..Said' where nothing that the law and all that it calls make is longer than what came in: it says more and counts as full. Else prove '..UptoSaid'. A law counts once. -/
mutual
def uptoBulk {H : Type} : DataW H → Nat
  | .lit (.string bytes) => bytes.length + 1
  | .lit _ => 1
  | .nil => 1
  | .ptr d => uptoBulk d + 1
  | .slice elems spare => uptoBulkAll elems + uptoBulkAll spare + 1
  | .agg parts => uptoBulkAll parts + 1
  | .iface _ d => uptoBulk d + 1
  | .map entries => uptoBulkEntries entries + 1
  | .held _ => 1
def uptoBulkAll {H : Type} : List (DataW H) → Nat
  | [] => 0
  | d :: r => uptoBulk d + uptoBulkAll r
def uptoBulkEntries {H : Type} : List (Lit × DataW H) → Nat
  | [] => 0
  | x :: r => uptoBulkEntry x + uptoBulkEntries r
def uptoBulkEntry {H : Type} : Lit × DataW H → Nat
  | (.string bytes, d) => bytes.length + uptoBulk d + 1
  | (_, d) => uptoBulk d + 1
 end
def uptoSmall : (H : Type) → List (DataW H) → Bool := fun _ ds => decide (uptoBulkAll ds ≤ 1048576)
def OpenSpec.upto (s : _root_.Go.ChangeSpec) : _root_.Go.OpenSpec := { _root_.Go.OpenSpec.ofChange s with cond := some uptoSmall }

/-- 'radomelaw17.ImmAhead', WHERE WHAT IT READS IS OF BULK AT MOST 1048576: true; the input reads as it did. -/
def immAheadUptoRow : OpenClaim := { program := "ytcefcokpjbebhaagreatdoor", sum := "e0ff12168b54ff1b5962255e9271557ac873076605dfe56293d25e653f6a3c53", func := "radome/radomelaw17.ImmAhead", spec := "immAhead", inPlace := ["math/bits.Add64", "internal/reflectlite.ValueOf", "(internal/reflectlite.Value).Type", "(internal/reflectlite.Value).IsNil", "internal/reflectlite.TypeOf", "(internal/reflectlite.Value).Elem", "(internal/reflectlite.Value).Set"], unfollowed := true, recurses := true, named := ["math/bits.divideError", "math/bits.overflowError", "radome/trig.angles", "errors.errorType"], apart := false, laid := [("errors.errorType", laid_errors_errorType), ("radome/trig.angles", laid_radome_trig_angles)], narrowed := true }
def ImmAheadUptoSaid : Prop := immAheadUptoRow.holds Tryz.pinned (OpenSpec.upto immAheadSpec)

/-- 'radomelaw17.ImmSeen', WHERE WHAT IT READS IS OF BULK AT MOST 1048576: true; the input reads as it did. -/
def immSeenUptoRow : OpenClaim := { program := "ytcefcokpjbebhaagreatdoor", sum := "e0ff12168b54ff1b5962255e9271557ac873076605dfe56293d25e653f6a3c53", func := "radome/radomelaw17.ImmSeen", spec := "immSeen", inPlace := ["math/bits.Add64", "internal/reflectlite.ValueOf", "(internal/reflectlite.Value).Type", "(internal/reflectlite.Value).IsNil", "internal/reflectlite.TypeOf", "(internal/reflectlite.Value).Elem", "(internal/reflectlite.Value).Set"], unfollowed := true, recurses := true, named := ["math/bits.divideError", "math/bits.overflowError", "radome/trig.angles", "errors.errorType"], apart := false, laid := [("errors.errorType", laid_errors_errorType), ("radome/trig.angles", laid_radome_trig_angles)], narrowed := true }
def ImmSeenUptoSaid : Prop := immSeenUptoRow.holds Tryz.pinned (OpenSpec.upto immSeenSpec)

/-- 'radomelaw17.ImmOne', WHERE WHAT IT READS IS OF BULK AT MOST 1048576: true; the input reads as it did. -/
def immOneUptoRow : OpenClaim := { program := "ytcefcokpjbebhaagreatdoor", sum := "e0ff12168b54ff1b5962255e9271557ac873076605dfe56293d25e653f6a3c53", func := "radome/radomelaw17.ImmOne", spec := "immOne", inPlace := ["math/bits.Add64", "internal/reflectlite.ValueOf", "(internal/reflectlite.Value).Type", "(internal/reflectlite.Value).IsNil", "internal/reflectlite.TypeOf", "(internal/reflectlite.Value).Elem", "(internal/reflectlite.Value).Set"], unfollowed := true, recurses := true, named := ["math/bits.divideError", "math/bits.overflowError", "radome/trig.angles", "errors.errorType"], apart := false, laid := [("errors.errorType", laid_errors_errorType), ("radome/trig.angles", laid_radome_trig_angles)], narrowed := true }
def ImmOneUptoSaid : Prop := immOneUptoRow.holds Tryz.pinned (OpenSpec.upto immOneSpec)

end Rows
end Go.Proofs.YtcefcokpjbebhaaGreatDoor
