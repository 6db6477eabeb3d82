/-
  The laws' own helpers on runs: the same (eqFrame, eqFrameS, eqRun).
-/
import Derived.Test.YtifpijindmdboaaRTo2
import Derived.Test.YtifpijindmdboaaInvQ
namespace Go.Proofs.Ytifpijindmdboaa
open Go.RowKit
set_option linter.unusedVariables false
set_option linter.unusedSimpArgs false

set_option maxRecDepth 100000 in
set_option maxHeartbeats 4000000 in
theorem eqFrame_any (x : World) (f : Fr) (u v u' v' : Value) (hu : IntsW x u f.r) (hv : IntsW x v f.c) (hu' : IntsW x u' f.r) (hv' : IntsW x v' f.c) :
    Calls Try.prog 98 #[aggFr f u v, aggFr f u' v'] x fun e y => e = .returned (.bool true) ∧ Below x.heap.size x y := by
  obtain ⟨n0, n1, n2, n5, R, C⟩ := f
  unfold aggFr
  simp only at hu hv hu' hv' ⊢
  obtain ⟨p, k, rfl⟩ := hu.shape
  obtain ⟨q, l, rfl⟩ := hv.shape
  obtain ⟨p', k', rfl⟩ := hu'.shape
  obtain ⟨q', l', rfl⟩ := hv'.shape
  have HU : Hid (IntsW x (.slice p R.length k) R) := hu
  have HV : Hid (IntsW x (.slice q C.length l) C) := hv
  have HU' : Hid (IntsW x (.slice p' R.length k') R) := hu'
  have HV' : Hid (IntsW x (.slice q' C.length l') C) := hv'
  clear hu hv hu' hv'
  generalize R.length = rn at *
  generalize C.length = cn at *
  go_enter Try.func98, Try.ntmps98
  go_wp2_with fail
  generalize hX : (x.alloc (.cells #[.int .i64 n0, .int .i64 n1, .int .i64 n2, .slice p rn k, .slice q cn l, .int .i64 n5] 98)).alloc (.cells #[.int .i64 n0, .int .i64 n1, .int .i64 n2, .slice p' rn k', .slice q' cn l', .int .i64 n5] 98) = X
  have HB : Hid (Below x.heap.size x X) := by show Below _ _ _; rw [← hX]; exact ((Below.refl _ _).alloc (Nat.le_refl _) _).alloc (by simp) _
  have hl1 : x.heap.size + 1 < X.heap.size := by rw [← hX]; simp
  have k4 : X.cell? ⟨x.heap.size, 4, none⟩ = some (.slice q cn l) := by rw [← hX]; simp [go_sem]
  have k5 : X.cell? ⟨x.heap.size, 5, none⟩ = some (.int .i64 n5) := by rw [← hX]; simp [go_sem]
  have j4 : X.cell? ⟨x.heap.size + 1, 4, none⟩ = some (.slice q' cn l') := by rw [← hX]; simp [go_sem]
  have j5 : X.cell? ⟨x.heap.size + 1, 5, none⟩ = some (.int .i64 n5) := by rw [← hX]; simp [go_sem]
  clear hX
  refine (eqIntS_same X false false _ _ _ _ _ _ _ (HU.out.later HB.out) (HU'.out.later HB.out)).mono ?_
  rintro e y ⟨rfl, hb⟩
  have hl0 : x.heap.size < X.heap.size := by omega
  have HYB : Hid (Below x.heap.size x y) := HB.out.trans (hb.mono HB.out.size)
  have k4' := (hb.cell (p := ⟨x.heap.size, 4, none⟩) hl0).trans k4
  have k5' := (hb.cell (p := ⟨x.heap.size, 5, none⟩) hl0).trans k5
  have j4' := (hb.cell (p := ⟨x.heap.size + 1, 4, none⟩) hl1).trans j4
  have j5' := (hb.cell (p := ⟨x.heap.size + 1, 5, none⟩) hl1).trans j5
  have hy1 : x.heap.size + 1 < y.heap.size := Nat.lt_of_lt_of_le hl1 hb.size
  have hy0 : x.heap.size < y.heap.size := by omega
  clear hb HB k4 k5 j4 j5 hl0 hl1
  go_wp2_with fail
  refine (eqIntS_same y false false _ _ _ _ _ _ _ (HV.out.later HYB.out) (HV'.out.later HYB.out)).mono ?_
  rintro e z ⟨rfl, hb⟩
  have hZB := HYB.out.trans (hb.mono HYB.out.size)
  have k5z := (hb.cell (p := ⟨x.heap.size, 5, none⟩) hy0).trans k5'
  have j5z := (hb.cell (p := ⟨x.heap.size + 1, 5, none⟩) hy1).trans j5'
  clear hb k4' k5' j4' j5' HYB
  go_wp2_with fail
  go_ret
  exact ⟨rfl, hZB⟩

end Go.Proofs.Ytifpijindmdboaa
