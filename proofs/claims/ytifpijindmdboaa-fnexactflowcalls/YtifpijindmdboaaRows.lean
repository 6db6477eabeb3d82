/-
  No cell of these rows narrows 'for every input' (looked for: loops, veiled, ifaces, maps, wideKeys, modest, calm, conditions, laid).
  DERIVED. THE GIVEN ROWS OF THIS SEAT. 6 by the template 'for every input the law returns true; each argument reads behind the call as it read before'; 0 by the template 'total and deterministic' (their statements: YtifpijindmdboaaTotals.lean).
  GIVEN WITH THE SEED: the statements are not yours to turn. If you find one false, say at which input.
  Laid BY PROGRAM, IN A SANDBOX (cutbox-rows.mjs): the forced cells as the released guide's own fill.sh prints them over the translation 8105181603abddab… (all of the seat's roots in one cut). By AI agents, Wed Nov 11 2026. No macro, syntax, notation, axiom, sorry.
-/
import Derived.Test.YtifpijindmdboaaChecked
import GoSem.Claim
import GoSem.ClaimJoined
import GoSem.ClaimMapViews
import Derived.JoinedTies
import Derived.KernelRfl
namespace Go.Proofs.Ytifpijindmdboaa
/- THE CELL 'sum', in the pinned program and in every row, IS THE sha256 OF THE DUMP (.gsa) THAT YtifpijindmdboaaProg.lean LOADS. Nothing in Lean hashes anything: it is a label: what it is worth is what the hold of that sum in a sandbox is worth. -/
noncomputable def Try.pinned : Pinned := { name := "ytifpijindmdboaa", sum := "8105181603abddab81eb6e3a765d3d1930c78b21394660d27e870147c871f16e", checked := Try.checked }
namespace Rows
def none {H : Type} : Left H := { results := [], args := [] }

/-- 'laws.FnExactFlowOut': WHATEVER THE INPUT: true; the input reads as it did. -/
def fnExactFlowOutSpec : ChangeSpec := { name := "fnExactFlowOut", fn := fun _ => fun
  | [d1, d2, d3, d4] => { results := [.lit (.bool true)], args := [d1, d2, d3, d4] }
  | _ => none }
def fnExactFlowOutRow : OpenClaim := { program := "ytifpijindmdboaa", sum := "8105181603abddab81eb6e3a765d3d1930c78b21394660d27e870147c871f16e", func := "loop.example/gauger/laws.FnExactFlowOut", spec := "fnExactFlowOut", unfollowed := true, recurses := true, apart := false }
def FnExactFlowOutSaid : Prop := fnExactFlowOutRow.holds Try.pinned (OpenSpec.ofChange fnExactFlowOutSpec)

/-- ITS FALSE NEIGHBOUR: 'it returns false'. Refute it at one input. -/
def fnExactFlowOutWrong : ChangeSpec := { name := "fnExactFlowOut", fn := fun _ => fun
  | [d1, d2, d3, d4] => { results := [.lit (.bool false)], args := [d1, d2, d3, d4] }
  | _ => none }
def FnExactFlowOutWrongFalsely : Prop := fnExactFlowOutRow.holds Try.pinned (OpenSpec.ofChange fnExactFlowOutWrong)

/-- 'laws.FnExactFlowSites': WHATEVER THE INPUT: true; the input reads as it did. -/
def fnExactFlowSitesSpec : ChangeSpec := { name := "fnExactFlowSites", fn := fun _ => fun
  | [d1, d2, d3, d4] => { results := [.lit (.bool true)], args := [d1, d2, d3, d4] }
  | _ => none }
def fnExactFlowSitesRow : OpenClaim := { program := "ytifpijindmdboaa", sum := "8105181603abddab81eb6e3a765d3d1930c78b21394660d27e870147c871f16e", func := "loop.example/gauger/laws.FnExactFlowSites", spec := "fnExactFlowSites", unfollowed := true, recurses := true, apart := false }
def FnExactFlowSitesSaid : Prop := fnExactFlowSitesRow.holds Try.pinned (OpenSpec.ofChange fnExactFlowSitesSpec)

/-- ITS FALSE NEIGHBOUR: 'it returns false'. Refute it at one input. -/
def fnExactFlowSitesWrong : ChangeSpec := { name := "fnExactFlowSites", fn := fun _ => fun
  | [d1, d2, d3, d4] => { results := [.lit (.bool false)], args := [d1, d2, d3, d4] }
  | _ => none }
def FnExactFlowSitesWrongFalsely : Prop := fnExactFlowSitesRow.holds Try.pinned (OpenSpec.ofChange fnExactFlowSitesWrong)

/-- 'laws.FnExactFlowCalls': WHATEVER THE INPUT: true; the input reads as it did. -/
def fnExactFlowCallsSpec : ChangeSpec := { name := "fnExactFlowCalls", fn := fun _ => fun
  | [d1, d2, d3, d4] => { results := [.lit (.bool true)], args := [d1, d2, d3, d4] }
  | _ => none }
def fnExactFlowCallsRow : OpenClaim := { program := "ytifpijindmdboaa", sum := "8105181603abddab81eb6e3a765d3d1930c78b21394660d27e870147c871f16e", func := "loop.example/gauger/laws.FnExactFlowCalls", spec := "fnExactFlowCalls", unfollowed := true, recurses := true, apart := false }
def FnExactFlowCallsSaid : Prop := fnExactFlowCallsRow.holds Try.pinned (OpenSpec.ofChange fnExactFlowCallsSpec)

/-- ITS FALSE NEIGHBOUR: 'it returns false'. Refute it at one input. -/
def fnExactFlowCallsWrong : ChangeSpec := { name := "fnExactFlowCalls", fn := fun _ => fun
  | [d1, d2, d3, d4] => { results := [.lit (.bool false)], args := [d1, d2, d3, d4] }
  | _ => none }
def FnExactFlowCallsWrongFalsely : Prop := fnExactFlowCallsRow.holds Try.pinned (OpenSpec.ofChange fnExactFlowCallsWrong)

/-- 'laws.FnExactRunNew': WHATEVER THE INPUT: true; the input reads as it did. -/
def fnExactRunNewSpec : ChangeSpec := { name := "fnExactRunNew", fn := fun _ => fun
  | [d] => { results := [.lit (.bool true)], args := [d] }
  | _ => none }
def fnExactRunNewRow : OpenClaim := { program := "ytifpijindmdboaa", sum := "8105181603abddab81eb6e3a765d3d1930c78b21394660d27e870147c871f16e", func := "loop.example/gauger/laws.FnExactRunNew", spec := "fnExactRunNew", unfollowed := true, recurses := true, apart := false }
def FnExactRunNewSaid : Prop := fnExactRunNewRow.holds Try.pinned (OpenSpec.ofChange fnExactRunNewSpec)

/-- ITS FALSE NEIGHBOUR: 'it returns false'. Refute it at one input. -/
def fnExactRunNewWrong : ChangeSpec := { name := "fnExactRunNew", fn := fun _ => fun
  | [d] => { results := [.lit (.bool false)], args := [d] }
  | _ => none }
def FnExactRunNewWrongFalsely : Prop := fnExactRunNewRow.holds Try.pinned (OpenSpec.ofChange fnExactRunNewWrong)

/-- 'laws.FnExactRunAsks': WHATEVER THE INPUT: true; the input reads as it did. -/
def fnExactRunAsksSpec : ChangeSpec := { name := "fnExactRunAsks", fn := fun _ => fun
  | [d1, d2] => { results := [.lit (.bool true)], args := [d1, d2] }
  | _ => none }
def fnExactRunAsksRow : OpenClaim := { program := "ytifpijindmdboaa", sum := "8105181603abddab81eb6e3a765d3d1930c78b21394660d27e870147c871f16e", func := "loop.example/gauger/laws.FnExactRunAsks", spec := "fnExactRunAsks", unfollowed := true, recurses := true, apart := false }
def FnExactRunAsksSaid : Prop := fnExactRunAsksRow.holds Try.pinned (OpenSpec.ofChange fnExactRunAsksSpec)

/-- ITS FALSE NEIGHBOUR: 'it returns false'. Refute it at one input. -/
def fnExactRunAsksWrong : ChangeSpec := { name := "fnExactRunAsks", fn := fun _ => fun
  | [d1, d2] => { results := [.lit (.bool false)], args := [d1, d2] }
  | _ => none }
def FnExactRunAsksWrongFalsely : Prop := fnExactRunAsksRow.holds Try.pinned (OpenSpec.ofChange fnExactRunAsksWrong)

/-- 'laws.FnExactRunOk': WHATEVER THE INPUT: true; the input reads as it did. -/
def fnExactRunOkSpec : ChangeSpec := { name := "fnExactRunOk", fn := fun _ => fun
  | [d1, d2] => { results := [.lit (.bool true)], args := [d1, d2] }
  | _ => none }
def fnExactRunOkRow : OpenClaim := { program := "ytifpijindmdboaa", sum := "8105181603abddab81eb6e3a765d3d1930c78b21394660d27e870147c871f16e", func := "loop.example/gauger/laws.FnExactRunOk", spec := "fnExactRunOk", unfollowed := true, recurses := true, apart := false }
def FnExactRunOkSaid : Prop := fnExactRunOkRow.holds Try.pinned (OpenSpec.ofChange fnExactRunOkSpec)

/-- ITS FALSE NEIGHBOUR: 'it returns false'. Refute it at one input. -/
def fnExactRunOkWrong : ChangeSpec := { name := "fnExactRunOk", fn := fun _ => fun
  | [d1, d2] => { results := [.lit (.bool false)], args := [d1, d2] }
  | _ => none }
def FnExactRunOkWrongFalsely : Prop := fnExactRunOkRow.holds Try.pinned (OpenSpec.ofChange fnExactRunOkWrong)

/- THE SECOND FORM. 'bulk': how many values and letters a reading holds, each counted each time it is reached (what is shared counts as often as it is met; a slice's spare places count too). A statement '..UptoSaid' is the law's where the arguments, and the package variables that the reading takes, are together of bulk at most 1048576: NARROWER than '..Said'. Prove '..Said' where nothing that the law and all that it calls make is longer than what came in: it says more and counts as full. Else prove '..UptoSaid'. A law counts once. -/
mutual
def uptoBulk {H : Type} : DataW H → Nat
  | .lit (.string bytes) => bytes.length + 1
  | .lit _ => 1
  | .nil => 1
  | .ptr d => uptoBulk d + 1
  | .slice elems spare => uptoBulkAll elems + uptoBulkAll spare + 1
  | .agg parts => uptoBulkAll parts + 1
  | .iface _ d => uptoBulk d + 1
  | .map entries => uptoBulkEntries entries + 1
  | .held _ => 1
def uptoBulkAll {H : Type} : List (DataW H) → Nat
  | [] => 0
  | d :: r => uptoBulk d + uptoBulkAll r
def uptoBulkEntries {H : Type} : List (Lit × DataW H) → Nat
  | [] => 0
  | x :: r => uptoBulkEntry x + uptoBulkEntries r
def uptoBulkEntry {H : Type} : Lit × DataW H → Nat
  | (.string bytes, d) => bytes.length + uptoBulk d + 1
  | (_, d) => uptoBulk d + 1
 end
def uptoSmall : (H : Type) → List (DataW H) → Bool := fun _ ds => decide (uptoBulkAll ds ≤ 1048576)
def OpenSpec.upto (s : _root_.Go.ChangeSpec) : _root_.Go.OpenSpec := { _root_.Go.OpenSpec.ofChange s with cond := some uptoSmall }

/-- 'laws.FnExactFlowOut', WHERE WHAT IT READS IS OF BULK AT MOST 1048576: true; the input reads as it did. -/
def fnExactFlowOutUptoRow : OpenClaim := { program := "ytifpijindmdboaa", sum := "8105181603abddab81eb6e3a765d3d1930c78b21394660d27e870147c871f16e", func := "loop.example/gauger/laws.FnExactFlowOut", spec := "fnExactFlowOut", unfollowed := true, recurses := true, apart := false, narrowed := true }
def FnExactFlowOutUptoSaid : Prop := fnExactFlowOutUptoRow.holds Try.pinned (OpenSpec.upto fnExactFlowOutSpec)

/-- 'laws.FnExactFlowSites', WHERE WHAT IT READS IS OF BULK AT MOST 1048576: true; the input reads as it did. -/
def fnExactFlowSitesUptoRow : OpenClaim := { program := "ytifpijindmdboaa", sum := "8105181603abddab81eb6e3a765d3d1930c78b21394660d27e870147c871f16e", func := "loop.example/gauger/laws.FnExactFlowSites", spec := "fnExactFlowSites", unfollowed := true, recurses := true, apart := false, narrowed := true }
def FnExactFlowSitesUptoSaid : Prop := fnExactFlowSitesUptoRow.holds Try.pinned (OpenSpec.upto fnExactFlowSitesSpec)

/-- 'laws.FnExactFlowCalls', WHERE WHAT IT READS IS OF BULK AT MOST 1048576: true; the input reads as it did. -/
def fnExactFlowCallsUptoRow : OpenClaim := { program := "ytifpijindmdboaa", sum := "8105181603abddab81eb6e3a765d3d1930c78b21394660d27e870147c871f16e", func := "loop.example/gauger/laws.FnExactFlowCalls", spec := "fnExactFlowCalls", unfollowed := true, recurses := true, apart := false, narrowed := true }
def FnExactFlowCallsUptoSaid : Prop := fnExactFlowCallsUptoRow.holds Try.pinned (OpenSpec.upto fnExactFlowCallsSpec)

/-- 'laws.FnExactRunNew', WHERE WHAT IT READS IS OF BULK AT MOST 1048576: true; the input reads as it did. -/
def fnExactRunNewUptoRow : OpenClaim := { program := "ytifpijindmdboaa", sum := "8105181603abddab81eb6e3a765d3d1930c78b21394660d27e870147c871f16e", func := "loop.example/gauger/laws.FnExactRunNew", spec := "fnExactRunNew", unfollowed := true, recurses := true, apart := false, narrowed := true }
def FnExactRunNewUptoSaid : Prop := fnExactRunNewUptoRow.holds Try.pinned (OpenSpec.upto fnExactRunNewSpec)

/-- 'laws.FnExactRunAsks', WHERE WHAT IT READS IS OF BULK AT MOST 1048576: true; the input reads as it did. -/
def fnExactRunAsksUptoRow : OpenClaim := { program := "ytifpijindmdboaa", sum := "8105181603abddab81eb6e3a765d3d1930c78b21394660d27e870147c871f16e", func := "loop.example/gauger/laws.FnExactRunAsks", spec := "fnExactRunAsks", unfollowed := true, recurses := true, apart := false, narrowed := true }
def FnExactRunAsksUptoSaid : Prop := fnExactRunAsksUptoRow.holds Try.pinned (OpenSpec.upto fnExactRunAsksSpec)

/-- 'laws.FnExactRunOk', WHERE WHAT IT READS IS OF BULK AT MOST 1048576: true; the input reads as it did. -/
def fnExactRunOkUptoRow : OpenClaim := { program := "ytifpijindmdboaa", sum := "8105181603abddab81eb6e3a765d3d1930c78b21394660d27e870147c871f16e", func := "loop.example/gauger/laws.FnExactRunOk", spec := "fnExactRunOk", unfollowed := true, recurses := true, apart := false, narrowed := true }
def FnExactRunOkUptoSaid : Prop := fnExactRunOkUptoRow.holds Try.pinned (OpenSpec.upto fnExactRunOkSpec)

end Rows
end Go.Proofs.Ytifpijindmdboaa
