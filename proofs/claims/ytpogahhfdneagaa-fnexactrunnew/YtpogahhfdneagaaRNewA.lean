/-
  A run that begins: what it reads as; the frames of begin and l3Frame; the contracts of RunNew, the program's and the model's.
-/
import Derived.Test.YtpogahhfdneagaaFSite
import Derived.Test.YtpogahhfdneagaaSInt
import Derived.Test.YtpogahhfdneagaaPOkI
import Derived.Test.YtpogahhfdneagaaPOkT
namespace Go.Proofs.Ytpogahhfdneagaa
open Go.RowKit
set_option linter.unusedVariables false
set_option linter.unusedSimpArgs false

theorem mk3 (w : World) : Sem.run Try.prog (Instr.makeSlice 96 (.int .i64 3) (.int .i64 3)) w = .ok (.slice (some ⟨w.heap.size, 0, none⟩) 3 3) (w.alloc (.cells #[.int .i64 0, .int .i64 0, .int .i64 0] 3)) := by kernel_rfl
attribute [local go_sem] mk3
set_option maxRecDepth 100000 in
set_option maxHeartbeats 2000000 in
theorem noughts_any (w : World) : Calls Try.prog 96 #[.int .i64 3] w fun e y => e = .returned (.slice (some ⟨w.heap.size, 0, none⟩) 3 3) ∧ y = w.alloc (.cells #[.int .i64 0, .int .i64 0, .int .i64 0] 3) := by
  go_enter Try.func96, Try.ntmps96
  go_wp2_with fail
  go_ret
  exact ⟨rfl, rfl⟩

/-- a frame in block g, its rows in the blocks ga and gb; its ten numbers are those of N -/
structure RB (x : World) (g ga gb ca cb : Nat) (N : Nat → Int) : Prop where
  c0 : x.cell? ⟨g, 0, none⟩ = some (.int .i64 (N 0))
  c1 : x.cell? ⟨g, 1, none⟩ = some (.int .i64 (N 1))
  c2 : x.cell? ⟨g, 2, none⟩ = some (.int .i64 (N 2))
  c3 : x.cell? ⟨g, 3, none⟩ = some (.slice (some ⟨ga, 0, none⟩) 3 ca)
  c4 : x.cell? ⟨g, 4, none⟩ = some (.slice (some ⟨gb, 0, none⟩) 3 cb)
  c5 : x.cell? ⟨g, 5, none⟩ = some (.int .i64 (N 9))
  a0 : x.cell? ⟨ga, 0, none⟩ = some (.int .i64 (N 3))
  a1 : x.cell? ⟨ga, 1, none⟩ = some (.int .i64 (N 4))
  a2 : x.cell? ⟨ga, 2, none⟩ = some (.int .i64 (N 5))
  b0 : x.cell? ⟨gb, 0, none⟩ = some (.int .i64 (N 6))
  b1 : x.cell? ⟨gb, 1, none⟩ = some (.int .i64 (N 7))
  b2 : x.cell? ⟨gb, 2, none⟩ = some (.int .i64 (N 8))
  fg : ∀ k, x.frozen? ⟨g, k, none⟩ = false
  fa : ∀ k, x.frozen? ⟨ga, k, none⟩ = false
  fb : ∀ k, x.frozen? ⟨gb, k, none⟩ = false

/-- what region 1 of begin leaves -/
structure BG (w x : World) (m ga gb : Nat) : Prop where
  hm : w.heap.size < m
  ha : w.heap.size < ga
  hb : w.heap.size < gb
  lm : m < x.heap.size
  la : ga < x.heap.size
  lb : gb < x.heap.size
  nab : ga ≠ gb
  nma : m ≠ ga
  nmb : m ≠ gb
  rb : RB x m ga gb 3 3 (fun _ => 0)
  t0 : x.cell? ⟨w.heap.size, 0, none⟩ = some (.int .i64 0)
  t1 : x.cell? ⟨w.heap.size, 1, none⟩ = some (.int .i64 0)
  t2 : x.cell? ⟨w.heap.size, 2, none⟩ = some (.int .i64 0)
  t3 : x.cell? ⟨w.heap.size, 3, none⟩ = some (.slice none 0 0)
  t4 : x.cell? ⟨w.heap.size, 4, none⟩ = some (.slice none 0 0)
  t5 : x.cell? ⟨w.heap.size, 5, none⟩ = some (.int .i64 0)
  tf : ∀ k, x.frozen? ⟨w.heap.size, k, none⟩ = false
  below : Below w.heap.size w x

/-- a frame that begins: a value, its rows in memory of its own -/
def FrNew (w y : World) (v : Value) : Prop := ∃ ga gb, v = .agg #[.int .i64 0, .int .i64 0, .int .i64 0, .slice (some ⟨ga, 0, none⟩) 3 3, .slice (some ⟨gb, 0, none⟩) 3 3, .int .i64 0] ∧ w.heap.size ≤ ga ∧ w.heap.size ≤ gb ∧ ga < y.heap.size ∧ gb < y.heap.size ∧ ga ≠ gb ∧
  (y.cell? ⟨ga, 0, none⟩ = some (.int .i64 0) ∧ y.cell? ⟨ga, 1, none⟩ = some (.int .i64 0) ∧ y.cell? ⟨ga, 2, none⟩ = some (.int .i64 0)) ∧
  (y.cell? ⟨gb, 0, none⟩ = some (.int .i64 0) ∧ y.cell? ⟨gb, 1, none⟩ = some (.int .i64 0) ∧ y.cell? ⟨gb, 2, none⟩ = some (.int .i64 0)) ∧
  (∀ k, y.frozen? ⟨ga, k, none⟩ = false) ∧ (∀ k, y.frozen? ⟨gb, k, none⟩ = false)

set_option maxRecDepth 100000 in
set_option maxHeartbeats 8000000 in
theorem begin_any (w : World) : Calls Try.prog 64 #[.int .i64 0, .int .i64 0, .int .i64 0] w fun e y => ∃ v, e = .returned v ∧ FrNew w y v ∧ Below w.heap.size w y := by
  go_enter Try.func64, Try.ntmps64
  go_wp2_with fail
  go_cut [6, 7, 10, 11] (fun s6 s7 s10 s11 x => ∃ m ga gb, s6 = .pointer (some ⟨w.heap.size, 0, none⟩) ∧ s7 = .pointer (some ⟨m, 0, none⟩) ∧ s10 = .slice (some ⟨ga, 0, none⟩) 3 3 ∧ s11 = .slice (some ⟨gb, 0, none⟩) 3 3 ∧ Hid (BG w x m ga gb))
  case first =>
    go_region
    all_goals
      go_wp2_with fail
      go_meet
      refine ⟨_, _, _, rfl, rfl, rfl, rfl, ?_⟩
      refine (⟨?_, ?_, ?_, ?_, ?_, ?_, ?_, ?_, ?_, ⟨?_, ?_, ?_, ?_, ?_, ?_, ?_, ?_, ?_, ?_, ?_, ?_, ?_, ?_, ?_⟩, ?_, ?_, ?_, ?_, ?_, ?_, ?_, ?_⟩ : BG _ _ _ _ _)
      all_goals first | omega | (simp [go_sem]; done) | (simp [go_sem]; omega) | (simp; done) | (simp; omega) | go_grown | (intro k; simp [go_sem]; done)
  case rest =>
    rename World => x
    obtain ⟨m, ga, gb, rfl, rfl, rfl, rfl, HG⟩ := hcut
    have G := HG.out
    obtain ⟨hm, ha, hb, lm, la, lb, nab, nma, nmb, ⟨c0, c1, c2, c3, c4, c5, a0, a1, a2, b0, b1, b2, fg, fa, fb⟩, t0, t1, t2, t3, t4, t5, tf, hB⟩ := G
    have fa0 := fa 0
    have tf0 := tf 0
    have tf1 := tf 1
    have tf2 := tf 2
    have tf3 := tf 3
    have tf4 := tf 4
    have tf5 := tf 5
    have hw : w.heap.size < x.heap.size := by omega
    have n1 : ga ≠ w.heap.size := by omega
    have n2 : m ≠ w.heap.size := by omega
    have n3 : gb ≠ w.heap.size := by omega
    have HFA : Hid (∀ k, x.frozen? ⟨ga, k, none⟩ = false) := fa
    have HFB : Hid (∀ k, x.frozen? ⟨gb, k, none⟩ = false) := fb
    clear fg fa fb tf
    go_wp2_with fail
    refine bodyPost_ret (v := .agg #[.int .i64 0, .int .i64 0, .int .i64 0, .slice (some ⟨ga, 0, none⟩) 3 3, .slice (some ⟨gb, 0, none⟩) 3 3, .int .i64 0]) (by simp [results, Try.results64, go_sem, t0, t1, t2, t3, t4, t5, n1, n1.symm]) rfl ⟨_, rfl, ⟨ga, gb, rfl, by omega, by omega, by simpa using la, by simpa using lb, nab, ⟨?_, ?_, ?_⟩, ⟨?_, ?_, ?_⟩, ?_, ?_⟩, ?_⟩
    · simp [go_sem, a0, n1, n1.symm]
    · simp [go_sem, a1, n1, n1.symm]
    · simp [go_sem, a2, n1, n1.symm]
    · simp [go_sem, b0, n3, n3.symm, nab, nab.symm]
    · simp [go_sem, b1, n3, n3.symm, nab, nab.symm]
    · simp [go_sem, b2, n3, n3.symm, nab, nab.symm]
    · intro k; have := HFA.out k; simpa [go_sem] using this
    · intro k; have := HFB.out k; simpa [go_sem] using this
    · exact ((((((hB.setCell (by simp; omega) _).setCell (by simp) _).setCell (by simp) _).setCell (by simp) _).setCell (by simp) _).setCell (by simp) _).setCell (by simp) _

set_option maxRecDepth 100000 in
set_option maxHeartbeats 8000000 in
theorem l3Frame_any (w : World) : Calls Try.prog 62 #[.int .i64 0, .int .i64 0, .int .i64 0] w fun e y => ∃ v, e = .returned v ∧ FrNew w y v ∧ Below w.heap.size w y := by
  go_enter Try.func62, Try.ntmps62
  go_wp2_with (go_at_call 96; refine (noughts_any _).mono ?_; rintro e w9 ⟨rfl, rfl⟩)
  go_returns
  refine ⟨_, rfl, ⟨_, _, rfl, ?_, ?_, ?_, ?_, ?_, ⟨?_, ?_, ?_⟩, ⟨?_, ?_, ?_⟩, ?_, ?_⟩, ?_⟩
  all_goals first | omega | (simp [go_sem]; done) | (simp [go_sem]; omega) | (simp; done) | (simp; omega) | go_grown | (intro k; simp [go_sem]; done)


end Go.Proofs.Ytpogahhfdneagaa
