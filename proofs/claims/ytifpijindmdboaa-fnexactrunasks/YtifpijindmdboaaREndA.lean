/-
  The last frame of a run, and whether a site is its: the contracts of top and isOf.
-/
import Derived.Test.YtifpijindmdboaaRSit
namespace Go.Proofs.Ytifpijindmdboaa
open Go.RowKit
set_option linter.unusedVariables false
set_option linter.unusedSimpArgs false

set_option maxRecDepth 100000 in
set_option maxHeartbeats 2000000 in
theorem top_any (x0 : World) (m g o : Nat) (n cap : Nat) (hb : x0.cell? ⟨m, 0, none⟩ = some (.slice (some ⟨g, o, none⟩) n cap)) (h0 : 0 < n) (h5 : n ≤ 5) (hm : m < x0.heap.size) (hg : g < x0.heap.size) :
    Calls Try.prog 113 #[.pointer (some ⟨m, 0, none⟩)] x0 fun e y => e = .returned (.pointer (some ⟨g, o + (n - 1) * 6, none⟩)) ∧ Below x0.heap.size x0 y := by
  obtain ⟨k, rfl⟩ : ∃ k, n = k + 1 := ⟨n - 1, by omega⟩
  have h1 : ((k + 1 : Nat) : Int) - 1 = k := by omega
  have h2 : (k : Int) < ((k + 1 : Nat) : Int) := by omega
  have h3 : ((k + 1 : Nat) : Int) ≤ 5 := by omega
  rw [show k + 1 - 1 = k by omega]
  go_enter Try.func113, Try.ntmps113
  go_wp2_with fail
  go_quiet (fail)
  go_wp2_with fail
  go_ret
  exact ⟨rfl, belowN _ _⟩

end Go.Proofs.Ytifpijindmdboaa
