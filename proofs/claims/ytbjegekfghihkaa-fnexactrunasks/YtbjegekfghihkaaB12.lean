import Derived.Test.YtbjegekfghihkaaB11
/-
  The contract of the program's instructionOf.
-/
namespace Go.Proofs.Ytbjegekfghihkaa
open Go.RowKit
set_option linter.unusedVariables false
set_option linter.unusedSimpArgs false

/-- what an instruction is behind its interface -/
def ifcF (i : I4) : Value :=
  let a := Value.int .i64 i.2.1
  let b := Value.int .i64 i.2.2.1
  let c := Value.int .i64 i.2.2.2
  if i.1 = 1 then .iface 133 (.agg #[a, b]) else if i.1 = 2 then .iface 135 (.agg #[a, b])
  else if i.1 = 3 then .iface 116 (.agg #[a, b]) else if i.1 = 4 then .iface 137 (.agg #[a, b, c])
  else if i.1 = 5 then .iface 139 (.agg #[c]) else if i.1 = 6 then .iface 141 (.agg #[a, b, c])
  else if i.1 = 7 then .iface 142 (.agg #[a, b, c]) else if i.1 = 8 then .iface 109 (.agg #[a, b, c])
  else if i.1 = 9 then .iface 144 (.agg #[a]) else if i.1 = 10 then .iface 146 (.agg #[a])
  else if i.1 = 11 then .iface 148 (.agg #[a, b]) else if i.1 = 12 then .iface 150 (.agg #[a, b]) else .nilIface

theorem kind_cases (K : Int) : K = 1 ∨ K = 2 ∨ K = 3 ∨ K = 4 ∨ K = 5 ∨ K = 6 ∨ K = 7 ∨ K = 8 ∨ K = 9 ∨ K = 10 ∨ K = 11 ∨ K = 12 ∨ (K < 1 ∨ 12 < K) := by omega
set_option maxHeartbeats 2000000 in
theorem instructionOf_any (i : I4) (w : World) :
    Calls Try.prog 65 #[aggI i] w fun e w' => e = .returned (ifcF i) ∧ Below w.heap.size w w' := by
  obtain ⟨K, a, b, c⟩ := i
  unfold aggI
  simp only
  rcases kind_cases K with rfl | rfl | rfl | rfl | rfl | rfl | rfl | rfl | rfl | rfl | rfl | rfl | hK
  iterate 12
    · simp only [ifcF]
      go_enter Try.func65, Try.ntmps65
      go_wp2
      go_ret
      exact ⟨by first | rfl | simp, by go_grown⟩
  · have e1 : (K == 1) = false := by simp; omega
    have e2 : (K == 2) = false := by simp; omega
    have e3 : (K == 3) = false := by simp; omega
    have e4 : (K == 4) = false := by simp; omega
    have e5 : (K == 5) = false := by simp; omega
    have e6 : (K == 6) = false := by simp; omega
    have e7 : (K == 7) = false := by simp; omega
    have e8 : (K == 8) = false := by simp; omega
    have e9 : (K == 9) = false := by simp; omega
    have e10 : (K == 10) = false := by simp; omega
    have e11 : (K == 11) = false := by simp; omega
    have e12 : (K == 12) = false := by simp; omega
    have hr : ifcF (K, a, b, c) = .nilIface := by
      have n1 : ¬ K = 1 := by omega
      have n2 : ¬ K = 2 := by omega
      have n3 : ¬ K = 3 := by omega
      have n4 : ¬ K = 4 := by omega
      have n5 : ¬ K = 5 := by omega
      have n6 : ¬ K = 6 := by omega
      have n7 : ¬ K = 7 := by omega
      have n8 : ¬ K = 8 := by omega
      have n9 : ¬ K = 9 := by omega
      have n10 : ¬ K = 10 := by omega
      have n11 : ¬ K = 11 := by omega
      have n12 : ¬ K = 12 := by omega
      simp only [ifcF, n1, n2, n3, n4, n5, n6, n7, n8, n9, n10, n11, n12, if_false]
    rw [hr]
    clear hr hK
    go_enter Try.func65, Try.ntmps65
    go_wp2
    go_ret
    exact ⟨rfl, by go_grown⟩

end Go.Proofs.Ytbjegekfghihkaa

/-
  The contract of the program's lettersOf: which letters an instruction names, told apart by its type.
-/
namespace Go.Proofs.Ytbjegekfghihkaa
open Go.RowKit
set_option linter.unusedVariables false
set_option linter.unusedSimpArgs false

theorem ta_set_back (v : Value) (w : World) : Sem.run Try.prog (Instr.typeAssert (.iface 133 v) 74 144 true) w = .ok (.tuple #[.agg #[.int .i64 0], .bool false]) w := by kernel_rfl
theorem ta_set_hold (v : Value) (w : World) : Sem.run Try.prog (Instr.typeAssert (.iface 133 v) 74 146 true) w = .ok (.tuple #[.agg #[.int .i64 0], .bool false]) w := by kernel_rfl
theorem ta_set_go (v : Value) (w : World) : Sem.run Try.prog (Instr.typeAssert (.iface 133 v) 74 139 true) w = .ok (.tuple #[.agg #[.int .i64 0], .bool false]) w := by kernel_rfl
theorem ta_set_set (v : Value) (w : World) : Sem.run Try.prog (Instr.typeAssert (.iface 133 v) 74 133 true) w = .ok (.tuple #[v, .bool true]) w := by kernel_rfl
theorem ta_set_move (v : Value) (w : World) : Sem.run Try.prog (Instr.typeAssert (.iface 133 v) 74 135 true) w = .ok (.tuple #[.agg #[.int .i64 0, .int .i64 0], .bool false]) w := by kernel_rfl
theorem ta_set_ask (v : Value) (w : World) : Sem.run Try.prog (Instr.typeAssert (.iface 133 v) 74 116 true) w = .ok (.tuple #[.agg #[.int .i64 0, .int .i64 0], .bool false]) w := by kernel_rfl
theorem ta_set_put (v : Value) (w : World) : Sem.run Try.prog (Instr.typeAssert (.iface 133 v) 74 148 true) w = .ok (.tuple #[.agg #[.int .i64 0, .int .i64 0], .bool false]) w := by kernel_rfl
theorem ta_set_get (v : Value) (w : World) : Sem.run Try.prog (Instr.typeAssert (.iface 133 v) 74 150 true) w = .ok (.tuple #[.agg #[.int .i64 0, .int .i64 0], .bool false]) w := by kernel_rfl
theorem ta_move_back (v : Value) (w : World) : Sem.run Try.prog (Instr.typeAssert (.iface 135 v) 74 144 true) w = .ok (.tuple #[.agg #[.int .i64 0], .bool false]) w := by kernel_rfl
theorem ta_move_hold (v : Value) (w : World) : Sem.run Try.prog (Instr.typeAssert (.iface 135 v) 74 146 true) w = .ok (.tuple #[.agg #[.int .i64 0], .bool false]) w := by kernel_rfl
theorem ta_move_go (v : Value) (w : World) : Sem.run Try.prog (Instr.typeAssert (.iface 135 v) 74 139 true) w = .ok (.tuple #[.agg #[.int .i64 0], .bool false]) w := by kernel_rfl
theorem ta_move_set (v : Value) (w : World) : Sem.run Try.prog (Instr.typeAssert (.iface 135 v) 74 133 true) w = .ok (.tuple #[.agg #[.int .i64 0, .int .i64 0], .bool false]) w := by kernel_rfl
theorem ta_move_move (v : Value) (w : World) : Sem.run Try.prog (Instr.typeAssert (.iface 135 v) 74 135 true) w = .ok (.tuple #[v, .bool true]) w := by kernel_rfl
theorem ta_move_ask (v : Value) (w : World) : Sem.run Try.prog (Instr.typeAssert (.iface 135 v) 74 116 true) w = .ok (.tuple #[.agg #[.int .i64 0, .int .i64 0], .bool false]) w := by kernel_rfl
theorem ta_move_put (v : Value) (w : World) : Sem.run Try.prog (Instr.typeAssert (.iface 135 v) 74 148 true) w = .ok (.tuple #[.agg #[.int .i64 0, .int .i64 0], .bool false]) w := by kernel_rfl
theorem ta_move_get (v : Value) (w : World) : Sem.run Try.prog (Instr.typeAssert (.iface 135 v) 74 150 true) w = .ok (.tuple #[.agg #[.int .i64 0, .int .i64 0], .bool false]) w := by kernel_rfl
theorem ta_ask_back (v : Value) (w : World) : Sem.run Try.prog (Instr.typeAssert (.iface 116 v) 74 144 true) w = .ok (.tuple #[.agg #[.int .i64 0], .bool false]) w := by kernel_rfl
theorem ta_ask_hold (v : Value) (w : World) : Sem.run Try.prog (Instr.typeAssert (.iface 116 v) 74 146 true) w = .ok (.tuple #[.agg #[.int .i64 0], .bool false]) w := by kernel_rfl
theorem ta_ask_go (v : Value) (w : World) : Sem.run Try.prog (Instr.typeAssert (.iface 116 v) 74 139 true) w = .ok (.tuple #[.agg #[.int .i64 0], .bool false]) w := by kernel_rfl
theorem ta_ask_set (v : Value) (w : World) : Sem.run Try.prog (Instr.typeAssert (.iface 116 v) 74 133 true) w = .ok (.tuple #[.agg #[.int .i64 0, .int .i64 0], .bool false]) w := by kernel_rfl
theorem ta_ask_move (v : Value) (w : World) : Sem.run Try.prog (Instr.typeAssert (.iface 116 v) 74 135 true) w = .ok (.tuple #[.agg #[.int .i64 0, .int .i64 0], .bool false]) w := by kernel_rfl
theorem ta_ask_ask (v : Value) (w : World) : Sem.run Try.prog (Instr.typeAssert (.iface 116 v) 74 116 true) w = .ok (.tuple #[v, .bool true]) w := by kernel_rfl
theorem ta_ask_put (v : Value) (w : World) : Sem.run Try.prog (Instr.typeAssert (.iface 116 v) 74 148 true) w = .ok (.tuple #[.agg #[.int .i64 0, .int .i64 0], .bool false]) w := by kernel_rfl
theorem ta_ask_get (v : Value) (w : World) : Sem.run Try.prog (Instr.typeAssert (.iface 116 v) 74 150 true) w = .ok (.tuple #[.agg #[.int .i64 0, .int .i64 0], .bool false]) w := by kernel_rfl
theorem ta_do_back (v : Value) (w : World) : Sem.run Try.prog (Instr.typeAssert (.iface 137 v) 74 144 true) w = .ok (.tuple #[.agg #[.int .i64 0], .bool false]) w := by kernel_rfl
theorem ta_do_hold (v : Value) (w : World) : Sem.run Try.prog (Instr.typeAssert (.iface 137 v) 74 146 true) w = .ok (.tuple #[.agg #[.int .i64 0], .bool false]) w := by kernel_rfl
theorem ta_do_go (v : Value) (w : World) : Sem.run Try.prog (Instr.typeAssert (.iface 137 v) 74 139 true) w = .ok (.tuple #[.agg #[.int .i64 0], .bool false]) w := by kernel_rfl
theorem ta_do_set (v : Value) (w : World) : Sem.run Try.prog (Instr.typeAssert (.iface 137 v) 74 133 true) w = .ok (.tuple #[.agg #[.int .i64 0, .int .i64 0], .bool false]) w := by kernel_rfl
theorem ta_do_move (v : Value) (w : World) : Sem.run Try.prog (Instr.typeAssert (.iface 137 v) 74 135 true) w = .ok (.tuple #[.agg #[.int .i64 0, .int .i64 0], .bool false]) w := by kernel_rfl
theorem ta_do_ask (v : Value) (w : World) : Sem.run Try.prog (Instr.typeAssert (.iface 137 v) 74 116 true) w = .ok (.tuple #[.agg #[.int .i64 0, .int .i64 0], .bool false]) w := by kernel_rfl
theorem ta_do_put (v : Value) (w : World) : Sem.run Try.prog (Instr.typeAssert (.iface 137 v) 74 148 true) w = .ok (.tuple #[.agg #[.int .i64 0, .int .i64 0], .bool false]) w := by kernel_rfl
theorem ta_do_get (v : Value) (w : World) : Sem.run Try.prog (Instr.typeAssert (.iface 137 v) 74 150 true) w = .ok (.tuple #[.agg #[.int .i64 0, .int .i64 0], .bool false]) w := by kernel_rfl
theorem ta_go_back (v : Value) (w : World) : Sem.run Try.prog (Instr.typeAssert (.iface 139 v) 74 144 true) w = .ok (.tuple #[.agg #[.int .i64 0], .bool false]) w := by kernel_rfl
theorem ta_go_hold (v : Value) (w : World) : Sem.run Try.prog (Instr.typeAssert (.iface 139 v) 74 146 true) w = .ok (.tuple #[.agg #[.int .i64 0], .bool false]) w := by kernel_rfl
theorem ta_go_go (v : Value) (w : World) : Sem.run Try.prog (Instr.typeAssert (.iface 139 v) 74 139 true) w = .ok (.tuple #[v, .bool true]) w := by kernel_rfl
theorem ta_go_set (v : Value) (w : World) : Sem.run Try.prog (Instr.typeAssert (.iface 139 v) 74 133 true) w = .ok (.tuple #[.agg #[.int .i64 0, .int .i64 0], .bool false]) w := by kernel_rfl
theorem ta_go_move (v : Value) (w : World) : Sem.run Try.prog (Instr.typeAssert (.iface 139 v) 74 135 true) w = .ok (.tuple #[.agg #[.int .i64 0, .int .i64 0], .bool false]) w := by kernel_rfl
theorem ta_go_ask (v : Value) (w : World) : Sem.run Try.prog (Instr.typeAssert (.iface 139 v) 74 116 true) w = .ok (.tuple #[.agg #[.int .i64 0, .int .i64 0], .bool false]) w := by kernel_rfl
theorem ta_go_put (v : Value) (w : World) : Sem.run Try.prog (Instr.typeAssert (.iface 139 v) 74 148 true) w = .ok (.tuple #[.agg #[.int .i64 0, .int .i64 0], .bool false]) w := by kernel_rfl
theorem ta_go_get (v : Value) (w : World) : Sem.run Try.prog (Instr.typeAssert (.iface 139 v) 74 150 true) w = .ok (.tuple #[.agg #[.int .i64 0, .int .i64 0], .bool false]) w := by kernel_rfl
theorem ta_less_back (v : Value) (w : World) : Sem.run Try.prog (Instr.typeAssert (.iface 141 v) 74 144 true) w = .ok (.tuple #[.agg #[.int .i64 0], .bool false]) w := by kernel_rfl
theorem ta_less_hold (v : Value) (w : World) : Sem.run Try.prog (Instr.typeAssert (.iface 141 v) 74 146 true) w = .ok (.tuple #[.agg #[.int .i64 0], .bool false]) w := by kernel_rfl
theorem ta_less_go (v : Value) (w : World) : Sem.run Try.prog (Instr.typeAssert (.iface 141 v) 74 139 true) w = .ok (.tuple #[.agg #[.int .i64 0], .bool false]) w := by kernel_rfl
theorem ta_less_set (v : Value) (w : World) : Sem.run Try.prog (Instr.typeAssert (.iface 141 v) 74 133 true) w = .ok (.tuple #[.agg #[.int .i64 0, .int .i64 0], .bool false]) w := by kernel_rfl
theorem ta_less_move (v : Value) (w : World) : Sem.run Try.prog (Instr.typeAssert (.iface 141 v) 74 135 true) w = .ok (.tuple #[.agg #[.int .i64 0, .int .i64 0], .bool false]) w := by kernel_rfl
theorem ta_less_ask (v : Value) (w : World) : Sem.run Try.prog (Instr.typeAssert (.iface 141 v) 74 116 true) w = .ok (.tuple #[.agg #[.int .i64 0, .int .i64 0], .bool false]) w := by kernel_rfl
theorem ta_less_put (v : Value) (w : World) : Sem.run Try.prog (Instr.typeAssert (.iface 141 v) 74 148 true) w = .ok (.tuple #[.agg #[.int .i64 0, .int .i64 0], .bool false]) w := by kernel_rfl
theorem ta_less_get (v : Value) (w : World) : Sem.run Try.prog (Instr.typeAssert (.iface 141 v) 74 150 true) w = .ok (.tuple #[.agg #[.int .i64 0, .int .i64 0], .bool false]) w := by kernel_rfl
theorem ta_same_back (v : Value) (w : World) : Sem.run Try.prog (Instr.typeAssert (.iface 142 v) 74 144 true) w = .ok (.tuple #[.agg #[.int .i64 0], .bool false]) w := by kernel_rfl
theorem ta_same_hold (v : Value) (w : World) : Sem.run Try.prog (Instr.typeAssert (.iface 142 v) 74 146 true) w = .ok (.tuple #[.agg #[.int .i64 0], .bool false]) w := by kernel_rfl
theorem ta_same_go (v : Value) (w : World) : Sem.run Try.prog (Instr.typeAssert (.iface 142 v) 74 139 true) w = .ok (.tuple #[.agg #[.int .i64 0], .bool false]) w := by kernel_rfl
theorem ta_same_set (v : Value) (w : World) : Sem.run Try.prog (Instr.typeAssert (.iface 142 v) 74 133 true) w = .ok (.tuple #[.agg #[.int .i64 0, .int .i64 0], .bool false]) w := by kernel_rfl
theorem ta_same_move (v : Value) (w : World) : Sem.run Try.prog (Instr.typeAssert (.iface 142 v) 74 135 true) w = .ok (.tuple #[.agg #[.int .i64 0, .int .i64 0], .bool false]) w := by kernel_rfl
theorem ta_same_ask (v : Value) (w : World) : Sem.run Try.prog (Instr.typeAssert (.iface 142 v) 74 116 true) w = .ok (.tuple #[.agg #[.int .i64 0, .int .i64 0], .bool false]) w := by kernel_rfl
theorem ta_same_put (v : Value) (w : World) : Sem.run Try.prog (Instr.typeAssert (.iface 142 v) 74 148 true) w = .ok (.tuple #[.agg #[.int .i64 0, .int .i64 0], .bool false]) w := by kernel_rfl
theorem ta_same_get (v : Value) (w : World) : Sem.run Try.prog (Instr.typeAssert (.iface 142 v) 74 150 true) w = .ok (.tuple #[.agg #[.int .i64 0, .int .i64 0], .bool false]) w := by kernel_rfl
theorem ta_call_back (v : Value) (w : World) : Sem.run Try.prog (Instr.typeAssert (.iface 109 v) 74 144 true) w = .ok (.tuple #[.agg #[.int .i64 0], .bool false]) w := by kernel_rfl
theorem ta_call_hold (v : Value) (w : World) : Sem.run Try.prog (Instr.typeAssert (.iface 109 v) 74 146 true) w = .ok (.tuple #[.agg #[.int .i64 0], .bool false]) w := by kernel_rfl
theorem ta_call_go (v : Value) (w : World) : Sem.run Try.prog (Instr.typeAssert (.iface 109 v) 74 139 true) w = .ok (.tuple #[.agg #[.int .i64 0], .bool false]) w := by kernel_rfl
theorem ta_call_set (v : Value) (w : World) : Sem.run Try.prog (Instr.typeAssert (.iface 109 v) 74 133 true) w = .ok (.tuple #[.agg #[.int .i64 0, .int .i64 0], .bool false]) w := by kernel_rfl
theorem ta_call_move (v : Value) (w : World) : Sem.run Try.prog (Instr.typeAssert (.iface 109 v) 74 135 true) w = .ok (.tuple #[.agg #[.int .i64 0, .int .i64 0], .bool false]) w := by kernel_rfl
theorem ta_call_ask (v : Value) (w : World) : Sem.run Try.prog (Instr.typeAssert (.iface 109 v) 74 116 true) w = .ok (.tuple #[.agg #[.int .i64 0, .int .i64 0], .bool false]) w := by kernel_rfl
theorem ta_call_put (v : Value) (w : World) : Sem.run Try.prog (Instr.typeAssert (.iface 109 v) 74 148 true) w = .ok (.tuple #[.agg #[.int .i64 0, .int .i64 0], .bool false]) w := by kernel_rfl
theorem ta_call_get (v : Value) (w : World) : Sem.run Try.prog (Instr.typeAssert (.iface 109 v) 74 150 true) w = .ok (.tuple #[.agg #[.int .i64 0, .int .i64 0], .bool false]) w := by kernel_rfl
theorem ta_back_back (v : Value) (w : World) : Sem.run Try.prog (Instr.typeAssert (.iface 144 v) 74 144 true) w = .ok (.tuple #[v, .bool true]) w := by kernel_rfl
theorem ta_back_hold (v : Value) (w : World) : Sem.run Try.prog (Instr.typeAssert (.iface 144 v) 74 146 true) w = .ok (.tuple #[.agg #[.int .i64 0], .bool false]) w := by kernel_rfl
theorem ta_back_go (v : Value) (w : World) : Sem.run Try.prog (Instr.typeAssert (.iface 144 v) 74 139 true) w = .ok (.tuple #[.agg #[.int .i64 0], .bool false]) w := by kernel_rfl
theorem ta_back_set (v : Value) (w : World) : Sem.run Try.prog (Instr.typeAssert (.iface 144 v) 74 133 true) w = .ok (.tuple #[.agg #[.int .i64 0, .int .i64 0], .bool false]) w := by kernel_rfl
theorem ta_back_move (v : Value) (w : World) : Sem.run Try.prog (Instr.typeAssert (.iface 144 v) 74 135 true) w = .ok (.tuple #[.agg #[.int .i64 0, .int .i64 0], .bool false]) w := by kernel_rfl
theorem ta_back_ask (v : Value) (w : World) : Sem.run Try.prog (Instr.typeAssert (.iface 144 v) 74 116 true) w = .ok (.tuple #[.agg #[.int .i64 0, .int .i64 0], .bool false]) w := by kernel_rfl
theorem ta_back_put (v : Value) (w : World) : Sem.run Try.prog (Instr.typeAssert (.iface 144 v) 74 148 true) w = .ok (.tuple #[.agg #[.int .i64 0, .int .i64 0], .bool false]) w := by kernel_rfl
theorem ta_back_get (v : Value) (w : World) : Sem.run Try.prog (Instr.typeAssert (.iface 144 v) 74 150 true) w = .ok (.tuple #[.agg #[.int .i64 0, .int .i64 0], .bool false]) w := by kernel_rfl
theorem ta_hold_back (v : Value) (w : World) : Sem.run Try.prog (Instr.typeAssert (.iface 146 v) 74 144 true) w = .ok (.tuple #[.agg #[.int .i64 0], .bool false]) w := by kernel_rfl
theorem ta_hold_hold (v : Value) (w : World) : Sem.run Try.prog (Instr.typeAssert (.iface 146 v) 74 146 true) w = .ok (.tuple #[v, .bool true]) w := by kernel_rfl
theorem ta_hold_go (v : Value) (w : World) : Sem.run Try.prog (Instr.typeAssert (.iface 146 v) 74 139 true) w = .ok (.tuple #[.agg #[.int .i64 0], .bool false]) w := by kernel_rfl
theorem ta_hold_set (v : Value) (w : World) : Sem.run Try.prog (Instr.typeAssert (.iface 146 v) 74 133 true) w = .ok (.tuple #[.agg #[.int .i64 0, .int .i64 0], .bool false]) w := by kernel_rfl
theorem ta_hold_move (v : Value) (w : World) : Sem.run Try.prog (Instr.typeAssert (.iface 146 v) 74 135 true) w = .ok (.tuple #[.agg #[.int .i64 0, .int .i64 0], .bool false]) w := by kernel_rfl
theorem ta_hold_ask (v : Value) (w : World) : Sem.run Try.prog (Instr.typeAssert (.iface 146 v) 74 116 true) w = .ok (.tuple #[.agg #[.int .i64 0, .int .i64 0], .bool false]) w := by kernel_rfl
theorem ta_hold_put (v : Value) (w : World) : Sem.run Try.prog (Instr.typeAssert (.iface 146 v) 74 148 true) w = .ok (.tuple #[.agg #[.int .i64 0, .int .i64 0], .bool false]) w := by kernel_rfl
theorem ta_hold_get (v : Value) (w : World) : Sem.run Try.prog (Instr.typeAssert (.iface 146 v) 74 150 true) w = .ok (.tuple #[.agg #[.int .i64 0, .int .i64 0], .bool false]) w := by kernel_rfl
theorem ta_put_back (v : Value) (w : World) : Sem.run Try.prog (Instr.typeAssert (.iface 148 v) 74 144 true) w = .ok (.tuple #[.agg #[.int .i64 0], .bool false]) w := by kernel_rfl
theorem ta_put_hold (v : Value) (w : World) : Sem.run Try.prog (Instr.typeAssert (.iface 148 v) 74 146 true) w = .ok (.tuple #[.agg #[.int .i64 0], .bool false]) w := by kernel_rfl
theorem ta_put_go (v : Value) (w : World) : Sem.run Try.prog (Instr.typeAssert (.iface 148 v) 74 139 true) w = .ok (.tuple #[.agg #[.int .i64 0], .bool false]) w := by kernel_rfl
theorem ta_put_set (v : Value) (w : World) : Sem.run Try.prog (Instr.typeAssert (.iface 148 v) 74 133 true) w = .ok (.tuple #[.agg #[.int .i64 0, .int .i64 0], .bool false]) w := by kernel_rfl
theorem ta_put_move (v : Value) (w : World) : Sem.run Try.prog (Instr.typeAssert (.iface 148 v) 74 135 true) w = .ok (.tuple #[.agg #[.int .i64 0, .int .i64 0], .bool false]) w := by kernel_rfl
theorem ta_put_ask (v : Value) (w : World) : Sem.run Try.prog (Instr.typeAssert (.iface 148 v) 74 116 true) w = .ok (.tuple #[.agg #[.int .i64 0, .int .i64 0], .bool false]) w := by kernel_rfl
theorem ta_put_put (v : Value) (w : World) : Sem.run Try.prog (Instr.typeAssert (.iface 148 v) 74 148 true) w = .ok (.tuple #[v, .bool true]) w := by kernel_rfl
theorem ta_put_get (v : Value) (w : World) : Sem.run Try.prog (Instr.typeAssert (.iface 148 v) 74 150 true) w = .ok (.tuple #[.agg #[.int .i64 0, .int .i64 0], .bool false]) w := by kernel_rfl
theorem ta_get_back (v : Value) (w : World) : Sem.run Try.prog (Instr.typeAssert (.iface 150 v) 74 144 true) w = .ok (.tuple #[.agg #[.int .i64 0], .bool false]) w := by kernel_rfl
theorem ta_get_hold (v : Value) (w : World) : Sem.run Try.prog (Instr.typeAssert (.iface 150 v) 74 146 true) w = .ok (.tuple #[.agg #[.int .i64 0], .bool false]) w := by kernel_rfl
theorem ta_get_go (v : Value) (w : World) : Sem.run Try.prog (Instr.typeAssert (.iface 150 v) 74 139 true) w = .ok (.tuple #[.agg #[.int .i64 0], .bool false]) w := by kernel_rfl
theorem ta_get_set (v : Value) (w : World) : Sem.run Try.prog (Instr.typeAssert (.iface 150 v) 74 133 true) w = .ok (.tuple #[.agg #[.int .i64 0, .int .i64 0], .bool false]) w := by kernel_rfl
theorem ta_get_move (v : Value) (w : World) : Sem.run Try.prog (Instr.typeAssert (.iface 150 v) 74 135 true) w = .ok (.tuple #[.agg #[.int .i64 0, .int .i64 0], .bool false]) w := by kernel_rfl
theorem ta_get_ask (v : Value) (w : World) : Sem.run Try.prog (Instr.typeAssert (.iface 150 v) 74 116 true) w = .ok (.tuple #[.agg #[.int .i64 0, .int .i64 0], .bool false]) w := by kernel_rfl
theorem ta_get_put (v : Value) (w : World) : Sem.run Try.prog (Instr.typeAssert (.iface 150 v) 74 148 true) w = .ok (.tuple #[.agg #[.int .i64 0, .int .i64 0], .bool false]) w := by kernel_rfl
theorem ta_get_get (v : Value) (w : World) : Sem.run Try.prog (Instr.typeAssert (.iface 150 v) 74 150 true) w = .ok (.tuple #[v, .bool true]) w := by kernel_rfl
attribute [local go_sem] ta_set_back ta_set_hold ta_set_go ta_set_set ta_set_move ta_set_ask ta_set_put ta_set_get ta_move_back ta_move_hold ta_move_go ta_move_set ta_move_move ta_move_ask ta_move_put ta_move_get ta_ask_back ta_ask_hold ta_ask_go ta_ask_set ta_ask_move ta_ask_ask ta_ask_put ta_ask_get ta_do_back ta_do_hold ta_do_go ta_do_set ta_do_move ta_do_ask ta_do_put ta_do_get ta_go_back ta_go_hold ta_go_go ta_go_set ta_go_move ta_go_ask ta_go_put ta_go_get ta_less_back ta_less_hold ta_less_go ta_less_set ta_less_move ta_less_ask ta_less_put ta_less_get ta_same_back ta_same_hold ta_same_go ta_same_set ta_same_move ta_same_ask ta_same_put ta_same_get ta_call_back ta_call_hold ta_call_go ta_call_set ta_call_move ta_call_ask ta_call_put ta_call_get ta_back_back ta_back_hold ta_back_go ta_back_set ta_back_move ta_back_ask ta_back_put ta_back_get ta_hold_back ta_hold_hold ta_hold_go ta_hold_set ta_hold_move ta_hold_ask ta_hold_put ta_hold_get ta_put_back ta_put_hold ta_put_go ta_put_set ta_put_move ta_put_ask ta_put_put ta_put_get ta_get_back ta_get_hold ta_get_go ta_get_set ta_get_move ta_get_ask ta_get_put ta_get_get

/-- which letters an instruction names -/
def lettersF (K : Int) : ByteArray := if K = 9 ∨ K = 10 then ⟨#[65]⟩ else if K = 5 then ⟨#[67]⟩ else if K = 1 ∨ K = 2 ∨ K = 3 ∨ K = 11 ∨ K = 12 then ⟨#[65, 66]⟩ else ⟨#[65, 66, 67]⟩
set_option maxRecDepth 100000 in
set_option maxHeartbeats 2000000 in
theorem lettersOf_any (i : I4) (w : World) (h1 : 1 ≤ i.1) (h2 : i.1 ≤ 12) :
    Calls Try.prog 96 #[ifcF i] w fun e w' => e = .returned (.string (lettersF i.1)) ∧ w' = w := by
  obtain ⟨K, a, b, c⟩ := i
  simp only at h1 h2 ⊢
  obtain rfl | rfl | rfl | rfl | rfl | rfl | rfl | rfl | rfl | rfl | rfl | rfl : K = 1 ∨ K = 2 ∨ K = 3 ∨ K = 4 ∨ K = 5 ∨ K = 6 ∨ K = 7 ∨ K = 8 ∨ K = 9 ∨ K = 10 ∨ K = 11 ∨ K = 12 := by omega
  all_goals
    clear h1 h2
    simp only [ifcF]
    go_enter Try.func96, Try.ntmps96
    go_wp2
    go_ret
    exact ⟨by first | rfl | simp [lettersF], rfl⟩

end Go.Proofs.Ytbjegekfghihkaa
