/-
  No cell of these rows narrows 'for every input' (looked for: loops, veiled, ifaces, maps, wideKeys, modest, calm, conditions, laid).
  DERIVED. THE GIVEN ROWS OF THIS SEAT. 4 by the template 'for every input the law returns true; each argument reads behind the call as it read before'; 0 by the template 'total and deterministic' (their statements: YtlkebkajdlgebaaGreatTotals.lean).
  GIVEN WITH THE SEED: the statements are not yours to turn. If you find one false, say at which input.
  Laid BY PROGRAM, IN A SANDBOX (cutbox-rows.mjs): the forced cells as the released guide's own fill.sh prints them over the translation e15e99c49efc60dc… (all of the seat's roots in one cut). By AI agents, Wed Nov 11 2026. No macro, syntax, notation, axiom, sorry.
-/
import Derived.Test.YtlkebkajdlgebaaGreatChecked
import GoSem.Claim
import GoSem.ClaimJoined
import GoSem.ClaimMapViews
import Derived.JoinedTies
import Derived.KernelRfl
namespace Go.Proofs.YtlkebkajdlgebaaGreat
/- THE CELL 'sum', in the pinned program and in every row, IS THE sha256 OF THE DUMP (.gsa) THAT YtlkebkajdlgebaaGreatProg.lean LOADS. Nothing in Lean hashes anything: it is a label: what it is worth is what the hold of that sum in a sandbox is worth. -/
noncomputable def Tryz.pinned : Pinned := { name := "ytlkebkajdlgebaagreat", sum := "e15e99c49efc60dc6be54745bc4769f1c0327a54c6d12c17f8520dfe4893b05b", checked := Tryz.checked }
namespace Rows
def none {H : Type} : Left H := { results := [], args := [] }

/-- 'laws.FnExactSumOk': WHATEVER THE INPUT: true; the input reads as it did. -/
def fnExactSumOkSpec : ChangeSpec := { name := "fnExactSumOk", fn := fun _ => fun
  | [d1, d2] => { results := [.lit (.bool true)], args := [d1, d2] }
  | _ => none }
def fnExactSumOkRow : OpenClaim := { program := "ytlkebkajdlgebaagreat", sum := "e15e99c49efc60dc6be54745bc4769f1c0327a54c6d12c17f8520dfe4893b05b", func := "loop.example/gauger/laws.FnExactSumOk", spec := "fnExactSumOk", unfollowed := true, recurses := true, apart := false }
def FnExactSumOkSaid : Prop := fnExactSumOkRow.holds Tryz.pinned (OpenSpec.ofChange fnExactSumOkSpec)

/-- ITS FALSE NEIGHBOUR: 'it returns false'. Refute it at one input. -/
def fnExactSumOkWrong : ChangeSpec := { name := "fnExactSumOk", fn := fun _ => fun
  | [d1, d2] => { results := [.lit (.bool false)], args := [d1, d2] }
  | _ => none }
def FnExactSumOkWrongFalsely : Prop := fnExactSumOkRow.holds Tryz.pinned (OpenSpec.ofChange fnExactSumOkWrong)

/-- 'laws.FnExactSumsOk': WHATEVER THE INPUT: true; the input reads as it did. -/
def fnExactSumsOkSpec : ChangeSpec := { name := "fnExactSumsOk", fn := fun _ => fun
  | [d1, d2] => { results := [.lit (.bool true)], args := [d1, d2] }
  | _ => none }
def fnExactSumsOkRow : OpenClaim := { program := "ytlkebkajdlgebaagreat", sum := "e15e99c49efc60dc6be54745bc4769f1c0327a54c6d12c17f8520dfe4893b05b", func := "loop.example/gauger/laws.FnExactSumsOk", spec := "fnExactSumsOk", unfollowed := true, recurses := true, apart := false }
def FnExactSumsOkSaid : Prop := fnExactSumsOkRow.holds Tryz.pinned (OpenSpec.ofChange fnExactSumsOkSpec)

/-- ITS FALSE NEIGHBOUR: 'it returns false'. Refute it at one input. -/
def fnExactSumsOkWrong : ChangeSpec := { name := "fnExactSumsOk", fn := fun _ => fun
  | [d1, d2] => { results := [.lit (.bool false)], args := [d1, d2] }
  | _ => none }
def FnExactSumsOkWrongFalsely : Prop := fnExactSumsOkRow.holds Tryz.pinned (OpenSpec.ofChange fnExactSumsOkWrong)

/-- 'laws.FnExactSumOut': WHATEVER THE INPUT: true; the input reads as it did. -/
def fnExactSumOutSpec : ChangeSpec := { name := "fnExactSumOut", fn := fun _ => fun
  | [d1, d2, d3, d4] => { results := [.lit (.bool true)], args := [d1, d2, d3, d4] }
  | _ => none }
def fnExactSumOutRow : OpenClaim := { program := "ytlkebkajdlgebaagreat", sum := "e15e99c49efc60dc6be54745bc4769f1c0327a54c6d12c17f8520dfe4893b05b", func := "loop.example/gauger/laws.FnExactSumOut", spec := "fnExactSumOut", unfollowed := true, recurses := true, apart := false }
def FnExactSumOutSaid : Prop := fnExactSumOutRow.holds Tryz.pinned (OpenSpec.ofChange fnExactSumOutSpec)

/-- ITS FALSE NEIGHBOUR: 'it returns false'. Refute it at one input. -/
def fnExactSumOutWrong : ChangeSpec := { name := "fnExactSumOut", fn := fun _ => fun
  | [d1, d2, d3, d4] => { results := [.lit (.bool false)], args := [d1, d2, d3, d4] }
  | _ => none }
def FnExactSumOutWrongFalsely : Prop := fnExactSumOutRow.holds Tryz.pinned (OpenSpec.ofChange fnExactSumOutWrong)

/-- 'laws.FnExactJobOk': WHATEVER THE INPUT: true; the input reads as it did. -/
def fnExactJobOkSpec : ChangeSpec := { name := "fnExactJobOk", fn := fun _ => fun
  | [d1, d2] => { results := [.lit (.bool true)], args := [d1, d2] }
  | _ => none }
def fnExactJobOkRow : OpenClaim := { program := "ytlkebkajdlgebaagreat", sum := "e15e99c49efc60dc6be54745bc4769f1c0327a54c6d12c17f8520dfe4893b05b", func := "loop.example/gauger/laws.FnExactJobOk", spec := "fnExactJobOk", unfollowed := true, recurses := true, apart := false }
def FnExactJobOkSaid : Prop := fnExactJobOkRow.holds Tryz.pinned (OpenSpec.ofChange fnExactJobOkSpec)

/-- ITS FALSE NEIGHBOUR: 'it returns false'. Refute it at one input. -/
def fnExactJobOkWrong : ChangeSpec := { name := "fnExactJobOk", fn := fun _ => fun
  | [d1, d2] => { results := [.lit (.bool false)], args := [d1, d2] }
  | _ => none }
def FnExactJobOkWrongFalsely : Prop := fnExactJobOkRow.holds Tryz.pinned (OpenSpec.ofChange fnExactJobOkWrong)

/- THE SECOND FORM. 'bulk': how many values and letters a reading holds, each counted each time it is reached (what is shared counts as often as it is met; a slice's spare places count too). A statement '..UptoSaid' is the law's where the arguments, and the package variables that the reading takes, are together of bulk at most 1048576: NARROWER than '..Said'. Prove '..Said' where nothing that the law and all that it calls make is longer than what came in: it says more and counts as full. Else prove '..UptoSaid'. A law counts once. -/
mutual
def uptoBulk {H : Type} : DataW H → Nat
  | .lit (.string bytes) => bytes.length + 1
  | .lit _ => 1
  | .nil => 1
  | .ptr d => uptoBulk d + 1
  | .slice elems spare => uptoBulkAll elems + uptoBulkAll spare + 1
  | .agg parts => uptoBulkAll parts + 1
  | .iface _ d => uptoBulk d + 1
  | .map entries => uptoBulkEntries entries + 1
  | .held _ => 1
def uptoBulkAll {H : Type} : List (DataW H) → Nat
  | [] => 0
  | d :: r => uptoBulk d + uptoBulkAll r
def uptoBulkEntries {H : Type} : List (Lit × DataW H) → Nat
  | [] => 0
  | x :: r => uptoBulkEntry x + uptoBulkEntries r
def uptoBulkEntry {H : Type} : Lit × DataW H → Nat
  | (.string bytes, d) => bytes.length + uptoBulk d + 1
  | (_, d) => uptoBulk d + 1
 end
def uptoSmall : (H : Type) → List (DataW H) → Bool := fun _ ds => decide (uptoBulkAll ds ≤ 1048576)
def OpenSpec.upto (s : _root_.Go.ChangeSpec) : _root_.Go.OpenSpec := { _root_.Go.OpenSpec.ofChange s with cond := some uptoSmall }

/-- 'laws.FnExactSumOk', WHERE WHAT IT READS IS OF BULK AT MOST 1048576: true; the input reads as it did. -/
def fnExactSumOkUptoRow : OpenClaim := { program := "ytlkebkajdlgebaagreat", sum := "e15e99c49efc60dc6be54745bc4769f1c0327a54c6d12c17f8520dfe4893b05b", func := "loop.example/gauger/laws.FnExactSumOk", spec := "fnExactSumOk", unfollowed := true, recurses := true, apart := false, narrowed := true }
def FnExactSumOkUptoSaid : Prop := fnExactSumOkUptoRow.holds Tryz.pinned (OpenSpec.upto fnExactSumOkSpec)

/-- 'laws.FnExactSumsOk', WHERE WHAT IT READS IS OF BULK AT MOST 1048576: true; the input reads as it did. -/
def fnExactSumsOkUptoRow : OpenClaim := { program := "ytlkebkajdlgebaagreat", sum := "e15e99c49efc60dc6be54745bc4769f1c0327a54c6d12c17f8520dfe4893b05b", func := "loop.example/gauger/laws.FnExactSumsOk", spec := "fnExactSumsOk", unfollowed := true, recurses := true, apart := false, narrowed := true }
def FnExactSumsOkUptoSaid : Prop := fnExactSumsOkUptoRow.holds Tryz.pinned (OpenSpec.upto fnExactSumsOkSpec)

/-- 'laws.FnExactSumOut', WHERE WHAT IT READS IS OF BULK AT MOST 1048576: true; the input reads as it did. -/
def fnExactSumOutUptoRow : OpenClaim := { program := "ytlkebkajdlgebaagreat", sum := "e15e99c49efc60dc6be54745bc4769f1c0327a54c6d12c17f8520dfe4893b05b", func := "loop.example/gauger/laws.FnExactSumOut", spec := "fnExactSumOut", unfollowed := true, recurses := true, apart := false, narrowed := true }
def FnExactSumOutUptoSaid : Prop := fnExactSumOutUptoRow.holds Tryz.pinned (OpenSpec.upto fnExactSumOutSpec)

/-- 'laws.FnExactJobOk', WHERE WHAT IT READS IS OF BULK AT MOST 1048576: true; the input reads as it did. -/
def fnExactJobOkUptoRow : OpenClaim := { program := "ytlkebkajdlgebaagreat", sum := "e15e99c49efc60dc6be54745bc4769f1c0327a54c6d12c17f8520dfe4893b05b", func := "loop.example/gauger/laws.FnExactJobOk", spec := "fnExactJobOk", unfollowed := true, recurses := true, apart := false, narrowed := true }
def FnExactJobOkUptoSaid : Prop := fnExactJobOkUptoRow.holds Tryz.pinned (OpenSpec.upto fnExactJobOkSpec)

end Rows
end Go.Proofs.YtlkebkajdlgebaaGreat
