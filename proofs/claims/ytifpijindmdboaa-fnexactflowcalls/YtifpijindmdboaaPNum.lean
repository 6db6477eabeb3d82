/-
  A range over a text, wherever its iterator lies.
-/
import Derived.Test.YtifpijindmdboaaPLet
import Derived.Maps.AppendAt
import Derived.Laws.RangeString
namespace Go.Proofs.Ytifpijindmdboaa
open Go.RowKit
set_option linter.unusedVariables false
set_option linter.unusedSimpArgs false
/-- the world with the iterator at k set on -/
def itSet (y : World) (k : Nat) (s : ByteArray) (pos : Nat) : World := { y with heap := y.heap.setIfInBounds k (.stringIter s pos) }
theorem next_at {P : Program} (y : World) (k : Nat) (s : ByteArray) (pos : Nat) (ty : TypeId) (hk : y.heap[k]? = some (.stringIter s pos)) (h : pos < s.size) (ha : (s[pos]'h).toNat < 128) :
    (Instr.next (.pointer (some ⟨k, 0, none⟩)) true ty).run P y = .ok (.tuple #[.bool true, .int .i64 pos, .int .i32 (s[pos]'h).toNat]) (itSet y k s (pos + 1)) := by
  simp only [Instr.next, getObj, setObj, Sem.run_bind, Sem.run, hk, Result.andThen, h, if_true, decode_ascii s pos h ha]
  simp [goInt, Sem.run, itSet]
theorem next_end_at {P : Program} (y : World) (k : Nat) (s : ByteArray) (pos : Nat) (ty : TypeId) (hk : y.heap[k]? = some (.stringIter s pos)) (h : ¬ pos < s.size) :
    (Instr.next (.pointer (some ⟨k, 0, none⟩)) true ty).run P y = .ok (.tuple #[.bool false]) y := by
  simp [Instr.next, getObj, Sem.run, hk, h]
end Go.Proofs.Ytifpijindmdboaa
