/-
  No cell of these rows narrows 'for every input' (looked for: loops, veiled, ifaces, maps, wideKeys, modest, calm, conditions, laid).
  DERIVED. THE GIVEN ROWS OF THIS SEAT. 8 by the template 'for every input the law returns true; each argument reads behind the call as it read before'; 0 by the template 'total and deterministic' (their statements: YtlnfjjciilieeaaTotals.lean).
  GIVEN WITH THE SEED: the statements are not yours to turn. If you find one false, say at which input.
  Laid BY PROGRAM, IN A SANDBOX (cutbox-rows.mjs): the forced cells as the released guide's own fill.sh prints them over the translation 874cb497e90add43… (all of the seat's roots in one cut). By AI agents, Wed Nov 11 2026. No macro, syntax, notation, axiom, sorry.
-/
import Derived.Test.YtlnfjjciilieeaaChecked
import GoSem.Claim
import GoSem.ClaimJoined
import GoSem.ClaimMapViews
import Derived.JoinedTies
import Derived.KernelRfl
namespace Go.Proofs.Ytlnfjjciilieeaa
/- THE CELL 'sum', in the pinned program and in every row, IS THE sha256 OF THE DUMP (.gsa) THAT YtlnfjjciilieeaaProg.lean LOADS. Nothing in Lean hashes anything: it is a label: what it is worth is what the hold of that sum in a sandbox is worth. -/
noncomputable def Try.pinned : Pinned := { name := "ytlnfjjciilieeaa", sum := "874cb497e90add4336d5476e97509ac2434226a3433fe5565ea1d483abc37182", checked := Try.checked }
namespace Rows
def none {H : Type} : Left H := { results := [], args := [] }

/-- 'laws.FnExactSpanWhen': WHATEVER THE INPUT: true; the input reads as it did. -/
def fnExactSpanWhenSpec : ChangeSpec := { name := "fnExactSpanWhen", fn := fun _ => fun
  | [d1, d2, d3, d4] => { results := [.lit (.bool true)], args := [d1, d2, d3, d4] }
  | _ => none }
def fnExactSpanWhenRow : OpenClaim := { program := "ytlnfjjciilieeaa", sum := "874cb497e90add4336d5476e97509ac2434226a3433fe5565ea1d483abc37182", func := "loop.example/gauger/laws.FnExactSpanWhen", spec := "fnExactSpanWhen", unfollowed := true, recurses := true, apart := false }
def FnExactSpanWhenSaid : Prop := fnExactSpanWhenRow.holds Try.pinned (OpenSpec.ofChange fnExactSpanWhenSpec)

/-- ITS FALSE NEIGHBOUR: 'it returns false'. Refute it at one input. -/
def fnExactSpanWhenWrong : ChangeSpec := { name := "fnExactSpanWhen", fn := fun _ => fun
  | [d1, d2, d3, d4] => { results := [.lit (.bool false)], args := [d1, d2, d3, d4] }
  | _ => none }
def FnExactSpanWhenWrongFalsely : Prop := fnExactSpanWhenRow.holds Try.pinned (OpenSpec.ofChange fnExactSpanWhenWrong)

/-- 'laws.FnSpanLattice': WHATEVER THE INPUT: true; the input reads as it did. -/
def fnSpanLatticeSpec : ChangeSpec := { name := "fnSpanLattice", fn := fun _ => fun
  | [d1, d2] => { results := [.lit (.bool true)], args := [d1, d2] }
  | _ => none }
def fnSpanLatticeRow : OpenClaim := { program := "ytlnfjjciilieeaa", sum := "874cb497e90add4336d5476e97509ac2434226a3433fe5565ea1d483abc37182", func := "loop.example/gauger/laws.FnSpanLattice", spec := "fnSpanLattice", apart := false }
def FnSpanLatticeSaid : Prop := fnSpanLatticeRow.holds Try.pinned (OpenSpec.ofChange fnSpanLatticeSpec)

/-- ITS FALSE NEIGHBOUR: 'it returns false'. Refute it at one input. -/
def fnSpanLatticeWrong : ChangeSpec := { name := "fnSpanLattice", fn := fun _ => fun
  | [d1, d2] => { results := [.lit (.bool false)], args := [d1, d2] }
  | _ => none }
def FnSpanLatticeWrongFalsely : Prop := fnSpanLatticeRow.holds Try.pinned (OpenSpec.ofChange fnSpanLatticeWrong)

/-- 'laws.FnWideEnds': WHATEVER THE INPUT: true; the input reads as it did. -/
def fnWideEndsSpec : ChangeSpec := { name := "fnWideEnds", fn := fun _ => fun
  | [d] => { results := [.lit (.bool true)], args := [d] }
  | _ => none }
def fnWideEndsRow : OpenClaim := { program := "ytlnfjjciilieeaa", sum := "874cb497e90add4336d5476e97509ac2434226a3433fe5565ea1d483abc37182", func := "loop.example/gauger/laws.FnWideEnds", spec := "fnWideEnds", apart := false }
def FnWideEndsSaid : Prop := fnWideEndsRow.holds Try.pinned (OpenSpec.ofChange fnWideEndsSpec)

/-- ITS FALSE NEIGHBOUR: 'it returns false'. Refute it at one input. -/
def fnWideEndsWrong : ChangeSpec := { name := "fnWideEnds", fn := fun _ => fun
  | [d] => { results := [.lit (.bool false)], args := [d] }
  | _ => none }
def FnWideEndsWrongFalsely : Prop := fnWideEndsRow.holds Try.pinned (OpenSpec.ofChange fnWideEndsWrong)

/-- 'laws.FnSpanDo': WHATEVER THE INPUT: true; the input reads as it did. -/
def fnSpanDoSpec : ChangeSpec := { name := "fnSpanDo", fn := fun _ => fun
  | [d] => { results := [.lit (.bool true)], args := [d] }
  | _ => none }
def fnSpanDoRow : OpenClaim := { program := "ytlnfjjciilieeaa", sum := "874cb497e90add4336d5476e97509ac2434226a3433fe5565ea1d483abc37182", func := "loop.example/gauger/laws.FnSpanDo", spec := "fnSpanDo", unfollowed := true, recurses := true, apart := false }
def FnSpanDoSaid : Prop := fnSpanDoRow.holds Try.pinned (OpenSpec.ofChange fnSpanDoSpec)

/-- ITS FALSE NEIGHBOUR: 'it returns false'. Refute it at one input. -/
def fnSpanDoWrong : ChangeSpec := { name := "fnSpanDo", fn := fun _ => fun
  | [d] => { results := [.lit (.bool false)], args := [d] }
  | _ => none }
def FnSpanDoWrongFalsely : Prop := fnSpanDoRow.holds Try.pinned (OpenSpec.ofChange fnSpanDoWrong)

/-- 'laws.FnDoMore': WHATEVER THE INPUT: true; the input reads as it did. -/
def fnDoMoreSpec : ChangeSpec := { name := "fnDoMore", fn := fun _ => fun
  | [d1, d2] => { results := [.lit (.bool true)], args := [d1, d2] }
  | _ => none }
def fnDoMoreRow : OpenClaim := { program := "ytlnfjjciilieeaa", sum := "874cb497e90add4336d5476e97509ac2434226a3433fe5565ea1d483abc37182", func := "loop.example/gauger/laws.FnDoMore", spec := "fnDoMore", unfollowed := true, recurses := true, apart := false }
def FnDoMoreSaid : Prop := fnDoMoreRow.holds Try.pinned (OpenSpec.ofChange fnDoMoreSpec)

/-- ITS FALSE NEIGHBOUR: 'it returns false'. Refute it at one input. -/
def fnDoMoreWrong : ChangeSpec := { name := "fnDoMore", fn := fun _ => fun
  | [d1, d2] => { results := [.lit (.bool false)], args := [d1, d2] }
  | _ => none }
def FnDoMoreWrongFalsely : Prop := fnDoMoreRow.holds Try.pinned (OpenSpec.ofChange fnDoMoreWrong)

/-- 'laws.FnSpanWhen': WHATEVER THE INPUT: true; the input reads as it did. -/
def fnSpanWhenSpec : ChangeSpec := { name := "fnSpanWhen", fn := fun _ => fun
  | [d] => { results := [.lit (.bool true)], args := [d] }
  | _ => none }
def fnSpanWhenRow : OpenClaim := { program := "ytlnfjjciilieeaa", sum := "874cb497e90add4336d5476e97509ac2434226a3433fe5565ea1d483abc37182", func := "loop.example/gauger/laws.FnSpanWhen", spec := "fnSpanWhen", unfollowed := true, recurses := true, apart := false }
def FnSpanWhenSaid : Prop := fnSpanWhenRow.holds Try.pinned (OpenSpec.ofChange fnSpanWhenSpec)

/-- ITS FALSE NEIGHBOUR: 'it returns false'. Refute it at one input. -/
def fnSpanWhenWrong : ChangeSpec := { name := "fnSpanWhen", fn := fun _ => fun
  | [d] => { results := [.lit (.bool false)], args := [d] }
  | _ => none }
def FnSpanWhenWrongFalsely : Prop := fnSpanWhenRow.holds Try.pinned (OpenSpec.ofChange fnSpanWhenWrong)

/-- 'laws.FnWhenMore': WHATEVER THE INPUT: true; the input reads as it did. -/
def fnWhenMoreSpec : ChangeSpec := { name := "fnWhenMore", fn := fun _ => fun
  | [d1, d2] => { results := [.lit (.bool true)], args := [d1, d2] }
  | _ => none }
def fnWhenMoreRow : OpenClaim := { program := "ytlnfjjciilieeaa", sum := "874cb497e90add4336d5476e97509ac2434226a3433fe5565ea1d483abc37182", func := "loop.example/gauger/laws.FnWhenMore", spec := "fnWhenMore", unfollowed := true, recurses := true, apart := false }
def FnWhenMoreSaid : Prop := fnWhenMoreRow.holds Try.pinned (OpenSpec.ofChange fnWhenMoreSpec)

/-- ITS FALSE NEIGHBOUR: 'it returns false'. Refute it at one input. -/
def fnWhenMoreWrong : ChangeSpec := { name := "fnWhenMore", fn := fun _ => fun
  | [d1, d2] => { results := [.lit (.bool false)], args := [d1, d2] }
  | _ => none }
def FnWhenMoreWrongFalsely : Prop := fnWhenMoreRow.holds Try.pinned (OpenSpec.ofChange fnWhenMoreWrong)

/-- 'laws.FnSpanKinds': WHATEVER THE INPUT: true; the input reads as it did. -/
def fnSpanKindsSpec : ChangeSpec := { name := "fnSpanKinds", fn := fun _ => fun
  | [d] => { results := [.lit (.bool true)], args := [d] }
  | _ => none }
def fnSpanKindsRow : OpenClaim := { program := "ytlnfjjciilieeaa", sum := "874cb497e90add4336d5476e97509ac2434226a3433fe5565ea1d483abc37182", func := "loop.example/gauger/laws.FnSpanKinds", spec := "fnSpanKinds", apart := false }
def FnSpanKindsSaid : Prop := fnSpanKindsRow.holds Try.pinned (OpenSpec.ofChange fnSpanKindsSpec)

/-- ITS FALSE NEIGHBOUR: 'it returns false'. Refute it at one input. -/
def fnSpanKindsWrong : ChangeSpec := { name := "fnSpanKinds", fn := fun _ => fun
  | [d] => { results := [.lit (.bool false)], args := [d] }
  | _ => none }
def FnSpanKindsWrongFalsely : Prop := fnSpanKindsRow.holds Try.pinned (OpenSpec.ofChange fnSpanKindsWrong)

/- THE SECOND FORM. 'bulk': how many values and letters a reading holds, each counted each time it is reached (what is shared counts as often as it is met; a slice's spare places count too). A statement '..UptoSaid' is the law's where the arguments, and the package variables that the reading takes, are together of bulk at most 1048576: NARROWER than '..Said'. Prove '..Said' where nothing that the law and all that it calls make is longer than what came in: it says more and counts as full. Else prove '..UptoSaid'. A law counts once. -/
mutual
def uptoBulk {H : Type} : DataW H → Nat
  | .lit (.string bytes) => bytes.length + 1
  | .lit _ => 1
  | .nil => 1
  | .ptr d => uptoBulk d + 1
  | .slice elems spare => uptoBulkAll elems + uptoBulkAll spare + 1
  | .agg parts => uptoBulkAll parts + 1
  | .iface _ d => uptoBulk d + 1
  | .map entries => uptoBulkEntries entries + 1
  | .held _ => 1
def uptoBulkAll {H : Type} : List (DataW H) → Nat
  | [] => 0
  | d :: r => uptoBulk d + uptoBulkAll r
def uptoBulkEntries {H : Type} : List (Lit × DataW H) → Nat
  | [] => 0
  | x :: r => uptoBulkEntry x + uptoBulkEntries r
def uptoBulkEntry {H : Type} : Lit × DataW H → Nat
  | (.string bytes, d) => bytes.length + uptoBulk d + 1
  | (_, d) => uptoBulk d + 1
 end
def uptoSmall : (H : Type) → List (DataW H) → Bool := fun _ ds => decide (uptoBulkAll ds ≤ 1048576)
def OpenSpec.upto (s : _root_.Go.ChangeSpec) : _root_.Go.OpenSpec := { _root_.Go.OpenSpec.ofChange s with cond := some uptoSmall }

/-- 'laws.FnExactSpanWhen', WHERE WHAT IT READS IS OF BULK AT MOST 1048576: true; the input reads as it did. -/
def fnExactSpanWhenUptoRow : OpenClaim := { program := "ytlnfjjciilieeaa", sum := "874cb497e90add4336d5476e97509ac2434226a3433fe5565ea1d483abc37182", func := "loop.example/gauger/laws.FnExactSpanWhen", spec := "fnExactSpanWhen", unfollowed := true, recurses := true, apart := false, narrowed := true }
def FnExactSpanWhenUptoSaid : Prop := fnExactSpanWhenUptoRow.holds Try.pinned (OpenSpec.upto fnExactSpanWhenSpec)

/-- 'laws.FnSpanLattice', WHERE WHAT IT READS IS OF BULK AT MOST 1048576: true; the input reads as it did. -/
def fnSpanLatticeUptoRow : OpenClaim := { program := "ytlnfjjciilieeaa", sum := "874cb497e90add4336d5476e97509ac2434226a3433fe5565ea1d483abc37182", func := "loop.example/gauger/laws.FnSpanLattice", spec := "fnSpanLattice", apart := false, narrowed := true }
def FnSpanLatticeUptoSaid : Prop := fnSpanLatticeUptoRow.holds Try.pinned (OpenSpec.upto fnSpanLatticeSpec)

/-- 'laws.FnWideEnds', WHERE WHAT IT READS IS OF BULK AT MOST 1048576: true; the input reads as it did. -/
def fnWideEndsUptoRow : OpenClaim := { program := "ytlnfjjciilieeaa", sum := "874cb497e90add4336d5476e97509ac2434226a3433fe5565ea1d483abc37182", func := "loop.example/gauger/laws.FnWideEnds", spec := "fnWideEnds", apart := false, narrowed := true }
def FnWideEndsUptoSaid : Prop := fnWideEndsUptoRow.holds Try.pinned (OpenSpec.upto fnWideEndsSpec)

/-- 'laws.FnSpanDo', WHERE WHAT IT READS IS OF BULK AT MOST 1048576: true; the input reads as it did. -/
def fnSpanDoUptoRow : OpenClaim := { program := "ytlnfjjciilieeaa", sum := "874cb497e90add4336d5476e97509ac2434226a3433fe5565ea1d483abc37182", func := "loop.example/gauger/laws.FnSpanDo", spec := "fnSpanDo", unfollowed := true, recurses := true, apart := false, narrowed := true }
def FnSpanDoUptoSaid : Prop := fnSpanDoUptoRow.holds Try.pinned (OpenSpec.upto fnSpanDoSpec)

/-- 'laws.FnDoMore', WHERE WHAT IT READS IS OF BULK AT MOST 1048576: true; the input reads as it did. -/
def fnDoMoreUptoRow : OpenClaim := { program := "ytlnfjjciilieeaa", sum := "874cb497e90add4336d5476e97509ac2434226a3433fe5565ea1d483abc37182", func := "loop.example/gauger/laws.FnDoMore", spec := "fnDoMore", unfollowed := true, recurses := true, apart := false, narrowed := true }
def FnDoMoreUptoSaid : Prop := fnDoMoreUptoRow.holds Try.pinned (OpenSpec.upto fnDoMoreSpec)

/-- 'laws.FnSpanWhen', WHERE WHAT IT READS IS OF BULK AT MOST 1048576: true; the input reads as it did. -/
def fnSpanWhenUptoRow : OpenClaim := { program := "ytlnfjjciilieeaa", sum := "874cb497e90add4336d5476e97509ac2434226a3433fe5565ea1d483abc37182", func := "loop.example/gauger/laws.FnSpanWhen", spec := "fnSpanWhen", unfollowed := true, recurses := true, apart := false, narrowed := true }
def FnSpanWhenUptoSaid : Prop := fnSpanWhenUptoRow.holds Try.pinned (OpenSpec.upto fnSpanWhenSpec)

/-- 'laws.FnWhenMore', WHERE WHAT IT READS IS OF BULK AT MOST 1048576: true; the input reads as it did. -/
def fnWhenMoreUptoRow : OpenClaim := { program := "ytlnfjjciilieeaa", sum := "874cb497e90add4336d5476e97509ac2434226a3433fe5565ea1d483abc37182", func := "loop.example/gauger/laws.FnWhenMore", spec := "fnWhenMore", unfollowed := true, recurses := true, apart := false, narrowed := true }
def FnWhenMoreUptoSaid : Prop := fnWhenMoreUptoRow.holds Try.pinned (OpenSpec.upto fnWhenMoreSpec)

/-- 'laws.FnSpanKinds', WHERE WHAT IT READS IS OF BULK AT MOST 1048576: true; the input reads as it did. -/
def fnSpanKindsUptoRow : OpenClaim := { program := "ytlnfjjciilieeaa", sum := "874cb497e90add4336d5476e97509ac2434226a3433fe5565ea1d483abc37182", func := "loop.example/gauger/laws.FnSpanKinds", spec := "fnSpanKinds", apart := false, narrowed := true }
def FnSpanKindsUptoSaid : Prop := fnSpanKindsUptoRow.holds Try.pinned (OpenSpec.upto fnSpanKindsSpec)

end Rows
end Go.Proofs.Ytlnfjjciilieeaa
