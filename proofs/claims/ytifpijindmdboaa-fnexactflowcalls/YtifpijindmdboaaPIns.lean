/-
  The contract of the program's instructionOf.
-/
import Derived.Test.YtifpijindmdboaaPFit
namespace Go.Proofs.Ytifpijindmdboaa
open Go.RowKit
set_option linter.unusedVariables false
set_option linter.unusedSimpArgs false

/-- what an instruction is behind its interface -/
def ifcF (i : I4) : Value :=
  let a := Value.int .i64 i.2.1
  let b := Value.int .i64 i.2.2.1
  let c := Value.int .i64 i.2.2.2
  if i.1 = 1 then .iface 154 (.agg #[a, b]) else if i.1 = 2 then .iface 156 (.agg #[a, b])
  else if i.1 = 3 then .iface 141 (.agg #[a, b]) else if i.1 = 4 then .iface 158 (.agg #[a, b, c])
  else if i.1 = 5 then .iface 160 (.agg #[c]) else if i.1 = 6 then .iface 162 (.agg #[a, b, c])
  else if i.1 = 7 then .iface 163 (.agg #[a, b, c]) else if i.1 = 8 then .iface 131 (.agg #[a, b, c])
  else if i.1 = 9 then .iface 122 (.agg #[a]) else if i.1 = 10 then .iface 165 (.agg #[a])
  else if i.1 = 11 then .iface 167 (.agg #[a, b]) else if i.1 = 12 then .iface 169 (.agg #[a, b]) else .nilIface

theorem kind_cases (K : Int) : K = 1 ∨ K = 2 ∨ K = 3 ∨ K = 4 ∨ K = 5 ∨ K = 6 ∨ K = 7 ∨ K = 8 ∨ K = 9 ∨ K = 10 ∨ K = 11 ∨ K = 12 ∨ (K < 1 ∨ 12 < K) := by omega
set_option maxHeartbeats 2000000 in
theorem instructionOf_any (i : I4) (w : World) :
    Calls Try.prog 87 #[aggI i] w fun e w' => e = .returned (ifcF i) ∧ Below w.heap.size w w' := by
  obtain ⟨K, a, b, c⟩ := i
  unfold aggI
  simp only
  rcases kind_cases K with rfl | rfl | rfl | rfl | rfl | rfl | rfl | rfl | rfl | rfl | rfl | rfl | hK
  iterate 12
    · simp only [ifcF]
      go_enter Try.func87, Try.ntmps87
      go_wp2
      go_ret
      exact ⟨by first | rfl | simp, by go_grown⟩
  · have e1 : (K == 1) = false := by simp; omega
    have e2 : (K == 2) = false := by simp; omega
    have e3 : (K == 3) = false := by simp; omega
    have e4 : (K == 4) = false := by simp; omega
    have e5 : (K == 5) = false := by simp; omega
    have e6 : (K == 6) = false := by simp; omega
    have e7 : (K == 7) = false := by simp; omega
    have e8 : (K == 8) = false := by simp; omega
    have e9 : (K == 9) = false := by simp; omega
    have e10 : (K == 10) = false := by simp; omega
    have e11 : (K == 11) = false := by simp; omega
    have e12 : (K == 12) = false := by simp; omega
    have hr : ifcF (K, a, b, c) = .nilIface := by
      have n1 : ¬ K = 1 := by omega
      have n2 : ¬ K = 2 := by omega
      have n3 : ¬ K = 3 := by omega
      have n4 : ¬ K = 4 := by omega
      have n5 : ¬ K = 5 := by omega
      have n6 : ¬ K = 6 := by omega
      have n7 : ¬ K = 7 := by omega
      have n8 : ¬ K = 8 := by omega
      have n9 : ¬ K = 9 := by omega
      have n10 : ¬ K = 10 := by omega
      have n11 : ¬ K = 11 := by omega
      have n12 : ¬ K = 12 := by omega
      simp only [ifcF, n1, n2, n3, n4, n5, n6, n7, n8, n9, n10, n11, n12, if_false]
    rw [hr]
    clear hr hK
    go_enter Try.func87, Try.ntmps87
    go_wp2
    go_ret
    exact ⟨rfl, by go_grown⟩

end Go.Proofs.Ytifpijindmdboaa
