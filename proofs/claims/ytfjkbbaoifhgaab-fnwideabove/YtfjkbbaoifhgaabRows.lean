/-
  No cell of these rows narrows 'for every input' (looked for: loops, veiled, ifaces, maps, wideKeys, modest, calm, conditions, laid).
  DERIVED. THE GIVEN ROWS OF THIS SEAT. 8 by the template 'for every input the law returns true; each argument reads behind the call as it read before'; 0 by the template 'total and deterministic' (their statements: YtfjkbbaoifhgaabTotals.lean).
  GIVEN WITH THE SEED: the statements are not yours to turn. If you find one false, say at which input.
  Laid BY PROGRAM, IN A SANDBOX (cutbox-rows.mjs): the forced cells as the released guide's own fill.sh prints them over the translation 4613e866e755ca08… (all of the seat's roots in one cut). By AI agents, Wed Nov 11 2026. No macro, syntax, notation, axiom, sorry.
-/
import Derived.Test.YtfjkbbaoifhgaabChecked
import GoSem.Claim
import GoSem.ClaimJoined
import GoSem.ClaimMapViews
import Derived.JoinedTies
import Derived.KernelRfl
namespace Go.Proofs.Ytfjkbbaoifhgaab
/- THE CELL 'sum', in the pinned program and in every row, IS THE sha256 OF THE DUMP (.gsa) THAT YtfjkbbaoifhgaabProg.lean LOADS. Nothing in Lean hashes anything: it is a label: what it is worth is what the hold of that sum in a sandbox is worth. -/
noncomputable def Try.pinned : Pinned := { name := "ytfjkbbaoifhgaab", sum := "4613e866e755ca086e56fec71a44ff66ff92b5e86db3d76d40a7632bfd763958", checked := Try.checked }
namespace Rows
def none {H : Type} : Left H := { results := [], args := [] }

/-- 'laws.FnSpanOf': WHATEVER THE INPUT: true; the input reads as it did. -/
def fnSpanOfSpec : ChangeSpec := { name := "fnSpanOf", fn := fun _ => fun
  | [d] => { results := [.lit (.bool true)], args := [d] }
  | _ => none }
def fnSpanOfRow : OpenClaim := { program := "ytfjkbbaoifhgaab", sum := "4613e866e755ca086e56fec71a44ff66ff92b5e86db3d76d40a7632bfd763958", func := "loop.example/gauger/laws.FnSpanOf", spec := "fnSpanOf", apart := false }
def FnSpanOfSaid : Prop := fnSpanOfRow.holds Try.pinned (OpenSpec.ofChange fnSpanOfSpec)

/-- ITS FALSE NEIGHBOUR: 'it returns false'. Refute it at one input. -/
def fnSpanOfWrong : ChangeSpec := { name := "fnSpanOf", fn := fun _ => fun
  | [d] => { results := [.lit (.bool false)], args := [d] }
  | _ => none }
def FnSpanOfWrongFalsely : Prop := fnSpanOfRow.holds Try.pinned (OpenSpec.ofChange fnSpanOfWrong)

/-- 'laws.FnSpanIn': WHATEVER THE INPUT: true; the input reads as it did. -/
def fnSpanInSpec : ChangeSpec := { name := "fnSpanIn", fn := fun _ => fun
  | [d] => { results := [.lit (.bool true)], args := [d] }
  | _ => none }
def fnSpanInRow : OpenClaim := { program := "ytfjkbbaoifhgaab", sum := "4613e866e755ca086e56fec71a44ff66ff92b5e86db3d76d40a7632bfd763958", func := "loop.example/gauger/laws.FnSpanIn", spec := "fnSpanIn", apart := false }
def FnSpanInSaid : Prop := fnSpanInRow.holds Try.pinned (OpenSpec.ofChange fnSpanInSpec)

/-- ITS FALSE NEIGHBOUR: 'it returns false'. Refute it at one input. -/
def fnSpanInWrong : ChangeSpec := { name := "fnSpanIn", fn := fun _ => fun
  | [d] => { results := [.lit (.bool false)], args := [d] }
  | _ => none }
def FnSpanInWrongFalsely : Prop := fnSpanInRow.holds Try.pinned (OpenSpec.ofChange fnSpanInWrong)

/-- 'laws.FnSpanJoin': WHATEVER THE INPUT: true; the input reads as it did. -/
def fnSpanJoinSpec : ChangeSpec := { name := "fnSpanJoin", fn := fun _ => fun
  | [d1, d2] => { results := [.lit (.bool true)], args := [d1, d2] }
  | _ => none }
def fnSpanJoinRow : OpenClaim := { program := "ytfjkbbaoifhgaab", sum := "4613e866e755ca086e56fec71a44ff66ff92b5e86db3d76d40a7632bfd763958", func := "loop.example/gauger/laws.FnSpanJoin", spec := "fnSpanJoin", apart := false }
def FnSpanJoinSaid : Prop := fnSpanJoinRow.holds Try.pinned (OpenSpec.ofChange fnSpanJoinSpec)

/-- ITS FALSE NEIGHBOUR: 'it returns false'. Refute it at one input. -/
def fnSpanJoinWrong : ChangeSpec := { name := "fnSpanJoin", fn := fun _ => fun
  | [d1, d2] => { results := [.lit (.bool false)], args := [d1, d2] }
  | _ => none }
def FnSpanJoinWrongFalsely : Prop := fnSpanJoinRow.holds Try.pinned (OpenSpec.ofChange fnSpanJoinWrong)

/-- 'laws.FnSpanMeet': WHATEVER THE INPUT: true; the input reads as it did. -/
def fnSpanMeetSpec : ChangeSpec := { name := "fnSpanMeet", fn := fun _ => fun
  | [d] => { results := [.lit (.bool true)], args := [d] }
  | _ => none }
def fnSpanMeetRow : OpenClaim := { program := "ytfjkbbaoifhgaab", sum := "4613e866e755ca086e56fec71a44ff66ff92b5e86db3d76d40a7632bfd763958", func := "loop.example/gauger/laws.FnSpanMeet", spec := "fnSpanMeet", apart := false }
def FnSpanMeetSaid : Prop := fnSpanMeetRow.holds Try.pinned (OpenSpec.ofChange fnSpanMeetSpec)

/-- ITS FALSE NEIGHBOUR: 'it returns false'. Refute it at one input. -/
def fnSpanMeetWrong : ChangeSpec := { name := "fnSpanMeet", fn := fun _ => fun
  | [d] => { results := [.lit (.bool false)], args := [d] }
  | _ => none }
def FnSpanMeetWrongFalsely : Prop := fnSpanMeetRow.holds Try.pinned (OpenSpec.ofChange fnSpanMeetWrong)

/-- 'laws.FnSpanLattice': WHATEVER THE INPUT: true; the input reads as it did. -/
def fnSpanLatticeSpec : ChangeSpec := { name := "fnSpanLattice", fn := fun _ => fun
  | [d1, d2] => { results := [.lit (.bool true)], args := [d1, d2] }
  | _ => none }
def fnSpanLatticeRow : OpenClaim := { program := "ytfjkbbaoifhgaab", sum := "4613e866e755ca086e56fec71a44ff66ff92b5e86db3d76d40a7632bfd763958", func := "loop.example/gauger/laws.FnSpanLattice", spec := "fnSpanLattice", apart := false }
def FnSpanLatticeSaid : Prop := fnSpanLatticeRow.holds Try.pinned (OpenSpec.ofChange fnSpanLatticeSpec)

/-- ITS FALSE NEIGHBOUR: 'it returns false'. Refute it at one input. -/
def fnSpanLatticeWrong : ChangeSpec := { name := "fnSpanLattice", fn := fun _ => fun
  | [d1, d2] => { results := [.lit (.bool false)], args := [d1, d2] }
  | _ => none }
def FnSpanLatticeWrongFalsely : Prop := fnSpanLatticeRow.holds Try.pinned (OpenSpec.ofChange fnSpanLatticeWrong)

/-- 'laws.FnWideAbove': WHATEVER THE INPUT: true; the input reads as it did. -/
def fnWideAboveSpec : ChangeSpec := { name := "fnWideAbove", fn := fun _ => fun
  | [d] => { results := [.lit (.bool true)], args := [d] }
  | _ => none }
def fnWideAboveRow : OpenClaim := { program := "ytfjkbbaoifhgaab", sum := "4613e866e755ca086e56fec71a44ff66ff92b5e86db3d76d40a7632bfd763958", func := "loop.example/gauger/laws.FnWideAbove", spec := "fnWideAbove", apart := false }
def FnWideAboveSaid : Prop := fnWideAboveRow.holds Try.pinned (OpenSpec.ofChange fnWideAboveSpec)

/-- ITS FALSE NEIGHBOUR: 'it returns false'. Refute it at one input. -/
def fnWideAboveWrong : ChangeSpec := { name := "fnWideAbove", fn := fun _ => fun
  | [d] => { results := [.lit (.bool false)], args := [d] }
  | _ => none }
def FnWideAboveWrongFalsely : Prop := fnWideAboveRow.holds Try.pinned (OpenSpec.ofChange fnWideAboveWrong)

/-- 'laws.FnWideEnds': WHATEVER THE INPUT: true; the input reads as it did. -/
def fnWideEndsSpec : ChangeSpec := { name := "fnWideEnds", fn := fun _ => fun
  | [d] => { results := [.lit (.bool true)], args := [d] }
  | _ => none }
def fnWideEndsRow : OpenClaim := { program := "ytfjkbbaoifhgaab", sum := "4613e866e755ca086e56fec71a44ff66ff92b5e86db3d76d40a7632bfd763958", func := "loop.example/gauger/laws.FnWideEnds", spec := "fnWideEnds", apart := false }
def FnWideEndsSaid : Prop := fnWideEndsRow.holds Try.pinned (OpenSpec.ofChange fnWideEndsSpec)

/-- ITS FALSE NEIGHBOUR: 'it returns false'. Refute it at one input. -/
def fnWideEndsWrong : ChangeSpec := { name := "fnWideEnds", fn := fun _ => fun
  | [d] => { results := [.lit (.bool false)], args := [d] }
  | _ => none }
def FnWideEndsWrongFalsely : Prop := fnWideEndsRow.holds Try.pinned (OpenSpec.ofChange fnWideEndsWrong)

/-- 'laws.FnSpanKinds': WHATEVER THE INPUT: true; the input reads as it did. -/
def fnSpanKindsSpec : ChangeSpec := { name := "fnSpanKinds", fn := fun _ => fun
  | [d] => { results := [.lit (.bool true)], args := [d] }
  | _ => none }
def fnSpanKindsRow : OpenClaim := { program := "ytfjkbbaoifhgaab", sum := "4613e866e755ca086e56fec71a44ff66ff92b5e86db3d76d40a7632bfd763958", func := "loop.example/gauger/laws.FnSpanKinds", spec := "fnSpanKinds", apart := false }
def FnSpanKindsSaid : Prop := fnSpanKindsRow.holds Try.pinned (OpenSpec.ofChange fnSpanKindsSpec)

/-- ITS FALSE NEIGHBOUR: 'it returns false'. Refute it at one input. -/
def fnSpanKindsWrong : ChangeSpec := { name := "fnSpanKinds", fn := fun _ => fun
  | [d] => { results := [.lit (.bool false)], args := [d] }
  | _ => none }
def FnSpanKindsWrongFalsely : Prop := fnSpanKindsRow.holds Try.pinned (OpenSpec.ofChange fnSpanKindsWrong)

/- THE SECOND FORM. 'bulk': how many values and letters a reading holds, each counted each time it is reached (what is shared counts as often as it is met; a slice's spare places count too). A statement '..UptoSaid' is the law's where the arguments, and the package variables that the reading takes, are together of bulk at most 1048576: NARROWER than '..Said'. Prove '..Said' where nothing that the law and all that it calls make is longer than what came in: it says more and counts as full. Else prove '..UptoSaid'. A law counts once. -/
mutual
def uptoBulk {H : Type} : DataW H → Nat
  | .lit (.string bytes) => bytes.length + 1
  | .lit _ => 1
  | .nil => 1
  | .ptr d => uptoBulk d + 1
  | .slice elems spare => uptoBulkAll elems + uptoBulkAll spare + 1
  | .agg parts => uptoBulkAll parts + 1
  | .iface _ d => uptoBulk d + 1
  | .map entries => uptoBulkEntries entries + 1
  | .held _ => 1
def uptoBulkAll {H : Type} : List (DataW H) → Nat
  | [] => 0
  | d :: r => uptoBulk d + uptoBulkAll r
def uptoBulkEntries {H : Type} : List (Lit × DataW H) → Nat
  | [] => 0
  | x :: r => uptoBulkEntry x + uptoBulkEntries r
def uptoBulkEntry {H : Type} : Lit × DataW H → Nat
  | (.string bytes, d) => bytes.length + uptoBulk d + 1
  | (_, d) => uptoBulk d + 1
 end
def uptoSmall : (H : Type) → List (DataW H) → Bool := fun _ ds => decide (uptoBulkAll ds ≤ 1048576)
def OpenSpec.upto (s : _root_.Go.ChangeSpec) : _root_.Go.OpenSpec := { _root_.Go.OpenSpec.ofChange s with cond := some uptoSmall }

/-- 'laws.FnSpanOf', WHERE WHAT IT READS IS OF BULK AT MOST 1048576: true; the input reads as it did. -/
def fnSpanOfUptoRow : OpenClaim := { program := "ytfjkbbaoifhgaab", sum := "4613e866e755ca086e56fec71a44ff66ff92b5e86db3d76d40a7632bfd763958", func := "loop.example/gauger/laws.FnSpanOf", spec := "fnSpanOf", apart := false, narrowed := true }
def FnSpanOfUptoSaid : Prop := fnSpanOfUptoRow.holds Try.pinned (OpenSpec.upto fnSpanOfSpec)

/-- 'laws.FnSpanIn', WHERE WHAT IT READS IS OF BULK AT MOST 1048576: true; the input reads as it did. -/
def fnSpanInUptoRow : OpenClaim := { program := "ytfjkbbaoifhgaab", sum := "4613e866e755ca086e56fec71a44ff66ff92b5e86db3d76d40a7632bfd763958", func := "loop.example/gauger/laws.FnSpanIn", spec := "fnSpanIn", apart := false, narrowed := true }
def FnSpanInUptoSaid : Prop := fnSpanInUptoRow.holds Try.pinned (OpenSpec.upto fnSpanInSpec)

/-- 'laws.FnSpanJoin', WHERE WHAT IT READS IS OF BULK AT MOST 1048576: true; the input reads as it did. -/
def fnSpanJoinUptoRow : OpenClaim := { program := "ytfjkbbaoifhgaab", sum := "4613e866e755ca086e56fec71a44ff66ff92b5e86db3d76d40a7632bfd763958", func := "loop.example/gauger/laws.FnSpanJoin", spec := "fnSpanJoin", apart := false, narrowed := true }
def FnSpanJoinUptoSaid : Prop := fnSpanJoinUptoRow.holds Try.pinned (OpenSpec.upto fnSpanJoinSpec)

/-- 'laws.FnSpanMeet', WHERE WHAT IT READS IS OF BULK AT MOST 1048576: true; the input reads as it did. -/
def fnSpanMeetUptoRow : OpenClaim := { program := "ytfjkbbaoifhgaab", sum := "4613e866e755ca086e56fec71a44ff66ff92b5e86db3d76d40a7632bfd763958", func := "loop.example/gauger/laws.FnSpanMeet", spec := "fnSpanMeet", apart := false, narrowed := true }
def FnSpanMeetUptoSaid : Prop := fnSpanMeetUptoRow.holds Try.pinned (OpenSpec.upto fnSpanMeetSpec)

/-- 'laws.FnSpanLattice', WHERE WHAT IT READS IS OF BULK AT MOST 1048576: true; the input reads as it did. -/
def fnSpanLatticeUptoRow : OpenClaim := { program := "ytfjkbbaoifhgaab", sum := "4613e866e755ca086e56fec71a44ff66ff92b5e86db3d76d40a7632bfd763958", func := "loop.example/gauger/laws.FnSpanLattice", spec := "fnSpanLattice", apart := false, narrowed := true }
def FnSpanLatticeUptoSaid : Prop := fnSpanLatticeUptoRow.holds Try.pinned (OpenSpec.upto fnSpanLatticeSpec)

/-- 'laws.FnWideAbove', WHERE WHAT IT READS IS OF BULK AT MOST 1048576: true; the input reads as it did. -/
def fnWideAboveUptoRow : OpenClaim := { program := "ytfjkbbaoifhgaab", sum := "4613e866e755ca086e56fec71a44ff66ff92b5e86db3d76d40a7632bfd763958", func := "loop.example/gauger/laws.FnWideAbove", spec := "fnWideAbove", apart := false, narrowed := true }
def FnWideAboveUptoSaid : Prop := fnWideAboveUptoRow.holds Try.pinned (OpenSpec.upto fnWideAboveSpec)

/-- 'laws.FnWideEnds', WHERE WHAT IT READS IS OF BULK AT MOST 1048576: true; the input reads as it did. -/
def fnWideEndsUptoRow : OpenClaim := { program := "ytfjkbbaoifhgaab", sum := "4613e866e755ca086e56fec71a44ff66ff92b5e86db3d76d40a7632bfd763958", func := "loop.example/gauger/laws.FnWideEnds", spec := "fnWideEnds", apart := false, narrowed := true }
def FnWideEndsUptoSaid : Prop := fnWideEndsUptoRow.holds Try.pinned (OpenSpec.upto fnWideEndsSpec)

/-- 'laws.FnSpanKinds', WHERE WHAT IT READS IS OF BULK AT MOST 1048576: true; the input reads as it did. -/
def fnSpanKindsUptoRow : OpenClaim := { program := "ytfjkbbaoifhgaab", sum := "4613e866e755ca086e56fec71a44ff66ff92b5e86db3d76d40a7632bfd763958", func := "loop.example/gauger/laws.FnSpanKinds", spec := "fnSpanKinds", apart := false, narrowed := true }
def FnSpanKindsUptoSaid : Prop := fnSpanKindsUptoRow.holds Try.pinned (OpenSpec.upto fnSpanKindsSpec)

end Rows
end Go.Proofs.Ytfjkbbaoifhgaab
