import Derived.Test.YtlkebkajdlgebaaB5
import Derived.Test.YtlkebkajdlgebaaB14
/-
  What an instruction behind its interface is held to be: a call, or none.
-/
namespace Go.Proofs.Ytlkebkajdlgebaa
open Go.RowKit
set_option linter.unusedVariables false
set_option linter.unusedSimpArgs false
theorem tc_set (v : Value) (w : World) : Sem.run Try.prog (Instr.typeAssert (.iface 82 v) 69 72 true) w = .ok (.tuple #[.agg #[.int .i64 0, .int .i64 0, .int .i64 0], .bool false]) w := by kernel_rfl
theorem tc_move (v : Value) (w : World) : Sem.run Try.prog (Instr.typeAssert (.iface 84 v) 69 72 true) w = .ok (.tuple #[.agg #[.int .i64 0, .int .i64 0, .int .i64 0], .bool false]) w := by kernel_rfl
theorem tc_ask (v : Value) (w : World) : Sem.run Try.prog (Instr.typeAssert (.iface 86 v) 69 72 true) w = .ok (.tuple #[.agg #[.int .i64 0, .int .i64 0, .int .i64 0], .bool false]) w := by kernel_rfl
theorem tc_do (v : Value) (w : World) : Sem.run Try.prog (Instr.typeAssert (.iface 88 v) 69 72 true) w = .ok (.tuple #[.agg #[.int .i64 0, .int .i64 0, .int .i64 0], .bool false]) w := by kernel_rfl
theorem tc_go (v : Value) (w : World) : Sem.run Try.prog (Instr.typeAssert (.iface 90 v) 69 72 true) w = .ok (.tuple #[.agg #[.int .i64 0, .int .i64 0, .int .i64 0], .bool false]) w := by kernel_rfl
theorem tc_less (v : Value) (w : World) : Sem.run Try.prog (Instr.typeAssert (.iface 92 v) 69 72 true) w = .ok (.tuple #[.agg #[.int .i64 0, .int .i64 0, .int .i64 0], .bool false]) w := by kernel_rfl
theorem tc_same (v : Value) (w : World) : Sem.run Try.prog (Instr.typeAssert (.iface 93 v) 69 72 true) w = .ok (.tuple #[.agg #[.int .i64 0, .int .i64 0, .int .i64 0], .bool false]) w := by kernel_rfl
theorem tc_back (v : Value) (w : World) : Sem.run Try.prog (Instr.typeAssert (.iface 95 v) 69 72 true) w = .ok (.tuple #[.agg #[.int .i64 0, .int .i64 0, .int .i64 0], .bool false]) w := by kernel_rfl
theorem tc_hold (v : Value) (w : World) : Sem.run Try.prog (Instr.typeAssert (.iface 97 v) 69 72 true) w = .ok (.tuple #[.agg #[.int .i64 0, .int .i64 0, .int .i64 0], .bool false]) w := by kernel_rfl
theorem tc_put (v : Value) (w : World) : Sem.run Try.prog (Instr.typeAssert (.iface 99 v) 69 72 true) w = .ok (.tuple #[.agg #[.int .i64 0, .int .i64 0, .int .i64 0], .bool false]) w := by kernel_rfl
theorem tc_get (v : Value) (w : World) : Sem.run Try.prog (Instr.typeAssert (.iface 101 v) 69 72 true) w = .ok (.tuple #[.agg #[.int .i64 0, .int .i64 0, .int .i64 0], .bool false]) w := by kernel_rfl
theorem tc_call (v : Value) (w : World) : Sem.run Try.prog (Instr.typeAssert (.iface 72 v) 69 72 true) w = .ok (.tuple #[v, .bool true]) w := by kernel_rfl
theorem tc_nil (w : World) : Sem.run Try.prog (Instr.typeAssert .nilIface 69 72 true) w = .ok (.tuple #[.agg #[.int .i64 0, .int .i64 0, .int .i64 0], .bool false]) w := by kernel_rfl
theorem tc_yes (i : I4) (h : i.1 = 8) (w : World) : Sem.run Try.prog (Instr.typeAssert (ifcF i) 69 72 true) w = .ok (.tuple #[.agg #[.int .i64 i.2.1, .int .i64 i.2.2.1, .int .i64 i.2.2.2], .bool true]) w := by
  obtain ⟨K, a, b, c⟩ := i
  obtain rfl : K = 8 := h
  exact tc_call _ w
theorem tc_no (i : I4) (h : i.1 ≠ 8) (w : World) : Sem.run Try.prog (Instr.typeAssert (ifcF i) 69 72 true) w = .ok (.tuple #[.agg #[.int .i64 0, .int .i64 0, .int .i64 0], .bool false]) w := by
  obtain ⟨K, a, b, c⟩ := i
  simp only at h
  rcases kind_cases K with rfl | rfl | rfl | rfl | rfl | rfl | rfl | rfl | rfl | rfl | rfl | rfl | hK
  · exact tc_set _ w
  · exact tc_move _ w
  · exact tc_ask _ w
  · exact tc_do _ w
  · exact tc_go _ w
  · exact tc_less _ w
  · exact tc_same _ w
  · exact absurd rfl h
  · exact tc_back _ w
  · exact tc_hold _ w
  · exact tc_put _ w
  · exact tc_get _ w
  · have e : ifcF (K, a, b, c) = .nilIface := by
      simp only [ifcF]
      rw [if_neg (by omega), if_neg (by omega), if_neg (by omega), if_neg (by omega), if_neg (by omega), if_neg (by omega), if_neg (by omega), if_neg (by omega), if_neg (by omega), if_neg (by omega), if_neg (by omega), if_neg (by omega)]
    rw [e]
    exact tc_nil w

end Go.Proofs.Ytlkebkajdlgebaa

/-
  The contracts of KindSpan, the program's and the model's.
-/
namespace Go.Proofs.Ytlkebkajdlgebaa
open Go.RowKit
set_option linter.unusedVariables false
set_option linter.unusedSimpArgs false

end Go.Proofs.Ytlkebkajdlgebaa
