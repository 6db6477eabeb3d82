/-
  No cell of these rows narrows 'for every input' (looked for: loops, veiled, ifaces, maps, wideKeys, modest, calm, conditions, laid).
  DERIVED. THE GIVEN ROWS OF THIS SEAT. 2 by the template 'for every input the law returns true; each argument reads behind the call as it read before'; 0 by the template 'total and deterministic' (their statements: YtlkebkajdlgebaaTotals.lean).
  GIVEN WITH THE SEED: the statements are not yours to turn. If you find one false, say at which input.
  Laid BY PROGRAM, IN A SANDBOX (cutbox-rows.mjs): the forced cells as the released guide's own fill.sh prints them over the translation 57066b5437a9ae1f… (all of the seat's roots in one cut). By AI agents, Wed Nov 11 2026. No macro, syntax, notation, axiom, sorry.
-/
import Derived.Test.YtlkebkajdlgebaaChecked
import GoSem.Claim
import GoSem.ClaimJoined
import GoSem.ClaimMapViews
import Derived.JoinedTies
import Derived.KernelRfl
namespace Go.Proofs.Ytlkebkajdlgebaa
/- THE CELL 'sum', in the pinned program and in every row, IS THE sha256 OF THE DUMP (.gsa) THAT YtlkebkajdlgebaaProg.lean LOADS. Nothing in Lean hashes anything: it is a label: what it is worth is what the hold of that sum in a sandbox is worth. -/
noncomputable def Try.pinned : Pinned := { name := "ytlkebkajdlgebaa", sum := "57066b5437a9ae1f19b7db7311a2b51524a09e2c1240eeadec046f2ea2440616", checked := Try.checked }
namespace Rows
def none {H : Type} : Left H := { results := [], args := [] }

/-- 'laws.FnExactProgCalls': WHATEVER THE INPUT: true; the input reads as it did. -/
def fnExactProgCallsSpec : ChangeSpec := { name := "fnExactProgCalls", fn := fun _ => fun
  | [d1, d2] => { results := [.lit (.bool true)], args := [d1, d2] }
  | _ => none }
def fnExactProgCallsRow : OpenClaim := { program := "ytlkebkajdlgebaa", sum := "57066b5437a9ae1f19b7db7311a2b51524a09e2c1240eeadec046f2ea2440616", func := "loop.example/gauger/laws.FnExactProgCalls", spec := "fnExactProgCalls", unfollowed := true, recurses := true, apart := false }
def FnExactProgCallsSaid : Prop := fnExactProgCallsRow.holds Try.pinned (OpenSpec.ofChange fnExactProgCallsSpec)

/-- ITS FALSE NEIGHBOUR: 'it returns false'. Refute it at one input. -/
def fnExactProgCallsWrong : ChangeSpec := { name := "fnExactProgCalls", fn := fun _ => fun
  | [d1, d2] => { results := [.lit (.bool false)], args := [d1, d2] }
  | _ => none }
def FnExactProgCallsWrongFalsely : Prop := fnExactProgCallsRow.holds Try.pinned (OpenSpec.ofChange fnExactProgCallsWrong)

/-- 'laws.FnProgCalls': WHATEVER THE INPUT: true; the input reads as it did. -/
def fnProgCallsSpec : ChangeSpec := { name := "fnProgCalls", fn := fun _ => fun
  | [d] => { results := [.lit (.bool true)], args := [d] }
  | _ => none }
def fnProgCallsRow : OpenClaim := { program := "ytlkebkajdlgebaa", sum := "57066b5437a9ae1f19b7db7311a2b51524a09e2c1240eeadec046f2ea2440616", func := "loop.example/gauger/laws.FnProgCalls", spec := "fnProgCalls", unfollowed := true, recurses := true, apart := false }
def FnProgCallsSaid : Prop := fnProgCallsRow.holds Try.pinned (OpenSpec.ofChange fnProgCallsSpec)

/-- ITS FALSE NEIGHBOUR: 'it returns false'. Refute it at one input. -/
def fnProgCallsWrong : ChangeSpec := { name := "fnProgCalls", fn := fun _ => fun
  | [d] => { results := [.lit (.bool false)], args := [d] }
  | _ => none }
def FnProgCallsWrongFalsely : Prop := fnProgCallsRow.holds Try.pinned (OpenSpec.ofChange fnProgCallsWrong)

/- THE SECOND FORM. 'bulk': how many values and letters a reading holds, each counted each time it is reached (what is shared counts as often as it is met; a slice's spare places count too). A statement '..UptoSaid' is the law's where the arguments, and the package variables that the reading takes, are together of bulk at most 1048576: NARROWER than '..Said'. Prove '..Said' where nothing that the law and all that it calls make is longer than what came in: it says more and counts as full. Else prove '..UptoSaid'. A law counts once. -/
mutual
def uptoBulk {H : Type} : DataW H → Nat
  | .lit (.string bytes) => bytes.length + 1
  | .lit _ => 1
  | .nil => 1
  | .ptr d => uptoBulk d + 1
  | .slice elems spare => uptoBulkAll elems + uptoBulkAll spare + 1
  | .agg parts => uptoBulkAll parts + 1
  | .iface _ d => uptoBulk d + 1
  | .map entries => uptoBulkEntries entries + 1
  | .held _ => 1
def uptoBulkAll {H : Type} : List (DataW H) → Nat
  | [] => 0
  | d :: r => uptoBulk d + uptoBulkAll r
def uptoBulkEntries {H : Type} : List (Lit × DataW H) → Nat
  | [] => 0
  | x :: r => uptoBulkEntry x + uptoBulkEntries r
def uptoBulkEntry {H : Type} : Lit × DataW H → Nat
  | (.string bytes, d) => bytes.length + uptoBulk d + 1
  | (_, d) => uptoBulk d + 1
 end
def uptoSmall : (H : Type) → List (DataW H) → Bool := fun _ ds => decide (uptoBulkAll ds ≤ 1048576)
def OpenSpec.upto (s : _root_.Go.ChangeSpec) : _root_.Go.OpenSpec := { _root_.Go.OpenSpec.ofChange s with cond := some uptoSmall }

/-- 'laws.FnExactProgCalls', WHERE WHAT IT READS IS OF BULK AT MOST 1048576: true; the input reads as it did. -/
def fnExactProgCallsUptoRow : OpenClaim := { program := "ytlkebkajdlgebaa", sum := "57066b5437a9ae1f19b7db7311a2b51524a09e2c1240eeadec046f2ea2440616", func := "loop.example/gauger/laws.FnExactProgCalls", spec := "fnExactProgCalls", unfollowed := true, recurses := true, apart := false, narrowed := true }
def FnExactProgCallsUptoSaid : Prop := fnExactProgCallsUptoRow.holds Try.pinned (OpenSpec.upto fnExactProgCallsSpec)

/-- 'laws.FnProgCalls', WHERE WHAT IT READS IS OF BULK AT MOST 1048576: true; the input reads as it did. -/
def fnProgCallsUptoRow : OpenClaim := { program := "ytlkebkajdlgebaa", sum := "57066b5437a9ae1f19b7db7311a2b51524a09e2c1240eeadec046f2ea2440616", func := "loop.example/gauger/laws.FnProgCalls", spec := "fnProgCalls", unfollowed := true, recurses := true, apart := false, narrowed := true }
def FnProgCallsUptoSaid : Prop := fnProgCallsUptoRow.holds Try.pinned (OpenSpec.upto fnProgCallsSpec)

end Rows
end Go.Proofs.Ytlkebkajdlgebaa
