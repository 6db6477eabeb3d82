/-
  No cell of these rows narrows 'for every input' (looked for: loops, veiled, ifaces, maps, wideKeys, modest, calm, conditions, laid).
  DERIVED. THE GIVEN ROWS OF THIS SEAT. 3 by the template 'for every input the law returns true; each argument reads behind the call as it read before'; 0 by the template 'total and deterministic' (their statements: YtbjegekfghihkaaTotals.lean).
  GIVEN WITH THE SEED: the statements are not yours to turn. If you find one false, say at which input.
  Laid BY PROGRAM, IN A SANDBOX (cutbox-rows.mjs): the forced cells as the released guide's own fill.sh prints them over the translation 074b5236adfcfec1… (all of the seat's roots in one cut). By AI agents, Wed Nov 11 2026. No macro, syntax, notation, axiom, sorry.
-/
import Derived.Test.YtbjegekfghihkaaChecked
import GoSem.Claim
import GoSem.ClaimJoined
import GoSem.ClaimMapViews
import Derived.JoinedTies
import Derived.KernelRfl
namespace Go.Proofs.Ytbjegekfghihkaa
/- THE CELL 'sum', in the pinned program and in every row, IS THE sha256 OF THE DUMP (.gsa) THAT YtbjegekfghihkaaProg.lean LOADS. Nothing in Lean hashes anything: it is a label: what it is worth is what the hold of that sum in a sandbox is worth. -/
noncomputable def Try.pinned : Pinned := { name := "ytbjegekfghihkaa", sum := "074b5236adfcfec1e91dc11a970ab84004a5f9254774f3fcc13d5abc292ea3a9", checked := Try.checked }
namespace Rows
def none {H : Type} : Left H := { results := [], args := [] }

/-- 'laws.FnExactFlowCalls': WHATEVER THE INPUT: true; the input reads as it did. -/
def fnExactFlowCallsSpec : ChangeSpec := { name := "fnExactFlowCalls", fn := fun _ => fun
  | [d1, d2, d3, d4] => { results := [.lit (.bool true)], args := [d1, d2, d3, d4] }
  | _ => none }
def fnExactFlowCallsRow : OpenClaim := { program := "ytbjegekfghihkaa", sum := "074b5236adfcfec1e91dc11a970ab84004a5f9254774f3fcc13d5abc292ea3a9", func := "loop.example/gauger/laws.FnExactFlowCalls", spec := "fnExactFlowCalls", unfollowed := true, recurses := true, apart := false }
def FnExactFlowCallsSaid : Prop := fnExactFlowCallsRow.holds Try.pinned (OpenSpec.ofChange fnExactFlowCallsSpec)

/-- ITS FALSE NEIGHBOUR: 'it returns false'. Refute it at one input. -/
def fnExactFlowCallsWrong : ChangeSpec := { name := "fnExactFlowCalls", fn := fun _ => fun
  | [d1, d2, d3, d4] => { results := [.lit (.bool false)], args := [d1, d2, d3, d4] }
  | _ => none }
def FnExactFlowCallsWrongFalsely : Prop := fnExactFlowCallsRow.holds Try.pinned (OpenSpec.ofChange fnExactFlowCallsWrong)

/-- 'laws.FnExactRunAsks': WHATEVER THE INPUT: true; the input reads as it did. -/
def fnExactRunAsksSpec : ChangeSpec := { name := "fnExactRunAsks", fn := fun _ => fun
  | [d1, d2] => { results := [.lit (.bool true)], args := [d1, d2] }
  | _ => none }
def fnExactRunAsksRow : OpenClaim := { program := "ytbjegekfghihkaa", sum := "074b5236adfcfec1e91dc11a970ab84004a5f9254774f3fcc13d5abc292ea3a9", func := "loop.example/gauger/laws.FnExactRunAsks", spec := "fnExactRunAsks", unfollowed := true, recurses := true, apart := false }
def FnExactRunAsksSaid : Prop := fnExactRunAsksRow.holds Try.pinned (OpenSpec.ofChange fnExactRunAsksSpec)

/-- ITS FALSE NEIGHBOUR: 'it returns false'. Refute it at one input. -/
def fnExactRunAsksWrong : ChangeSpec := { name := "fnExactRunAsks", fn := fun _ => fun
  | [d1, d2] => { results := [.lit (.bool false)], args := [d1, d2] }
  | _ => none }
def FnExactRunAsksWrongFalsely : Prop := fnExactRunAsksRow.holds Try.pinned (OpenSpec.ofChange fnExactRunAsksWrong)

/-- 'laws.FnExactRunOk': WHATEVER THE INPUT: true; the input reads as it did. -/
def fnExactRunOkSpec : ChangeSpec := { name := "fnExactRunOk", fn := fun _ => fun
  | [d1, d2] => { results := [.lit (.bool true)], args := [d1, d2] }
  | _ => none }
def fnExactRunOkRow : OpenClaim := { program := "ytbjegekfghihkaa", sum := "074b5236adfcfec1e91dc11a970ab84004a5f9254774f3fcc13d5abc292ea3a9", func := "loop.example/gauger/laws.FnExactRunOk", spec := "fnExactRunOk", unfollowed := true, recurses := true, apart := false }
def FnExactRunOkSaid : Prop := fnExactRunOkRow.holds Try.pinned (OpenSpec.ofChange fnExactRunOkSpec)

/-- ITS FALSE NEIGHBOUR: 'it returns false'. Refute it at one input. -/
def fnExactRunOkWrong : ChangeSpec := { name := "fnExactRunOk", fn := fun _ => fun
  | [d1, d2] => { results := [.lit (.bool false)], args := [d1, d2] }
  | _ => none }
def FnExactRunOkWrongFalsely : Prop := fnExactRunOkRow.holds Try.pinned (OpenSpec.ofChange fnExactRunOkWrong)

/- THE SECOND FORM. 'bulk': how many values and letters a reading holds, each counted each time it is reached (what is shared counts as often as it is met; a slice's spare places count too). A statement '..UptoSaid' is the law's where the arguments, and the package variables that the reading takes, are together of bulk at most 1048576: NARROWER than '..Said'. Prove '..Said' where nothing that the law and all that it calls make is longer than what came in: it says more and counts as full. Else prove '..UptoSaid'. A law counts once. -/
mutual
def uptoBulk {H : Type} : DataW H → Nat
  | .lit (.string bytes) => bytes.length + 1
  | .lit _ => 1
  | .nil => 1
  | .ptr d => uptoBulk d + 1
  | .slice elems spare => uptoBulkAll elems + uptoBulkAll spare + 1
  | .agg parts => uptoBulkAll parts + 1
  | .iface _ d => uptoBulk d + 1
  | .map entries => uptoBulkEntries entries + 1
  | .held _ => 1
def uptoBulkAll {H : Type} : List (DataW H) → Nat
  | [] => 0
  | d :: r => uptoBulk d + uptoBulkAll r
def uptoBulkEntries {H : Type} : List (Lit × DataW H) → Nat
  | [] => 0
  | x :: r => uptoBulkEntry x + uptoBulkEntries r
def uptoBulkEntry {H : Type} : Lit × DataW H → Nat
  | (.string bytes, d) => bytes.length + uptoBulk d + 1
  | (_, d) => uptoBulk d + 1
 end
def uptoSmall : (H : Type) → List (DataW H) → Bool := fun _ ds => decide (uptoBulkAll ds ≤ 1048576)
def OpenSpec.upto (s : _root_.Go.ChangeSpec) : _root_.Go.OpenSpec := { _root_.Go.OpenSpec.ofChange s with cond := some uptoSmall }

/-- 'laws.FnExactFlowCalls', WHERE WHAT IT READS IS OF BULK AT MOST 1048576: true; the input reads as it did. -/
def fnExactFlowCallsUptoRow : OpenClaim := { program := "ytbjegekfghihkaa", sum := "074b5236adfcfec1e91dc11a970ab84004a5f9254774f3fcc13d5abc292ea3a9", func := "loop.example/gauger/laws.FnExactFlowCalls", spec := "fnExactFlowCalls", unfollowed := true, recurses := true, apart := false, narrowed := true }
def FnExactFlowCallsUptoSaid : Prop := fnExactFlowCallsUptoRow.holds Try.pinned (OpenSpec.upto fnExactFlowCallsSpec)

/-- 'laws.FnExactRunAsks', WHERE WHAT IT READS IS OF BULK AT MOST 1048576: true; the input reads as it did. -/
def fnExactRunAsksUptoRow : OpenClaim := { program := "ytbjegekfghihkaa", sum := "074b5236adfcfec1e91dc11a970ab84004a5f9254774f3fcc13d5abc292ea3a9", func := "loop.example/gauger/laws.FnExactRunAsks", spec := "fnExactRunAsks", unfollowed := true, recurses := true, apart := false, narrowed := true }
def FnExactRunAsksUptoSaid : Prop := fnExactRunAsksUptoRow.holds Try.pinned (OpenSpec.upto fnExactRunAsksSpec)

/-- 'laws.FnExactRunOk', WHERE WHAT IT READS IS OF BULK AT MOST 1048576: true; the input reads as it did. -/
def fnExactRunOkUptoRow : OpenClaim := { program := "ytbjegekfghihkaa", sum := "074b5236adfcfec1e91dc11a970ab84004a5f9254774f3fcc13d5abc292ea3a9", func := "loop.example/gauger/laws.FnExactRunOk", spec := "fnExactRunOk", unfollowed := true, recurses := true, apart := false, narrowed := true }
def FnExactRunOkUptoSaid : Prop := fnExactRunOkUptoRow.holds Try.pinned (OpenSpec.upto fnExactRunOkSpec)

end Rows
end Go.Proofs.Ytbjegekfghihkaa
