import Derived.Test.YtbjegekfghihkaaB14
import Derived.Test.YtbjegekfghihkaaB18
/-
  The contracts of KindSpan, the program's and the model's.
-/
namespace Go.Proofs.Ytbjegekfghihkaa
open Go.RowKit
set_option linter.unusedVariables false
set_option linter.unusedSimpArgs false

set_option maxHeartbeats 1000000 in
theorem kind_spec (k : Int) (w : World) : Calls Try.prog 85 #[.int .i64 k] w fun e w' => RetSp (kindF k) e ∧ Below w.heap.size w w' := by
  by_cases h0 : k = 0
  · subst h0
    go_enter Try.func85, Try.ntmps85
    go_wp2_with fail
    refine (l1Of_any _ _ _).mono ?_
    rintro e w1 ⟨hs1, hr1⟩
    obtain ⟨a1, l1, u1, hx1, rfl⟩ := hs1.out
    clear hs1
    have hb1 : Below w.heap.size w w1 := ((Below.refl _ _).alloc (by go_size) _).trans (hr1.mono (by go_size))
    have hz1 : w.heap.size + 1 ≤ w1.heap.size := by have := hr1.size; first | omega | (simp at this; omega)
    have hB1 : Below w.heap.size w w1 := hb1
    have c1x0o0 : w1.cell? ⟨w.heap.size, 0, none⟩ = some (.bool false) := (hr1.cell (p := ⟨w.heap.size, 0, none⟩) (by go_size)).trans (by simp [go_sem])
    have f1x0o0 : w1.frozen? ⟨w.heap.size, 0, none⟩ = false := (hr1.frozen (p := ⟨w.heap.size, 0, none⟩) (by go_size)).trans (by simp [go_sem])
    have c1x0o1 : w1.cell? ⟨w.heap.size, 1, none⟩ = some (.int .i64 0) := (hr1.cell (p := ⟨w.heap.size, 1, none⟩) (by go_size)).trans (by simp [go_sem])
    have f1x0o1 : w1.frozen? ⟨w.heap.size, 1, none⟩ = false := (hr1.frozen (p := ⟨w.heap.size, 1, none⟩) (by go_size)).trans (by simp [go_sem])
    have c1x0o2 : w1.cell? ⟨w.heap.size, 2, none⟩ = some (.int .i64 0) := (hr1.cell (p := ⟨w.heap.size, 2, none⟩) (by go_size)).trans (by simp [go_sem])
    have f1x0o2 : w1.frozen? ⟨w.heap.size, 2, none⟩ = false := (hr1.frozen (p := ⟨w.heap.size, 2, none⟩) (by go_size)).trans (by simp [go_sem])
    have n1x0 : w.heap.size < w1.heap.size := by omega
    clear hr1 hb1
    go_wp2
    refine bodyPost_ret (v := .agg #[.bool a1, .int .i64 l1, .int .i64 u1]) (by simp [results, Try.results85, go_sem, n1x0, c1x0o0, c1x0o1, c1x0o2]) rfl ⟨RetSp.mk ((show kindF 0 = mkF (-16) (-1) from by simp [kindF, mkF]).trans hx1), ?_⟩
    go_grown
  have q0 : (k == 0) = false := by simp [h0]
  by_cases h1 : k = 1
  · subst h1
    go_enter Try.func85, Try.ntmps85
    go_wp2_with fail
    refine (l1Of_any _ _ _).mono ?_
    rintro e w1 ⟨hs1, hr1⟩
    obtain ⟨a1, l1, u1, hx1, rfl⟩ := hs1.out
    clear hs1
    have hb1 : Below w.heap.size w w1 := ((Below.refl _ _).alloc (by go_size) _).trans (hr1.mono (by go_size))
    have hz1 : w.heap.size + 1 ≤ w1.heap.size := by have := hr1.size; first | omega | (simp at this; omega)
    have hB1 : Below w.heap.size w w1 := hb1
    have c1x0o0 : w1.cell? ⟨w.heap.size, 0, none⟩ = some (.bool false) := (hr1.cell (p := ⟨w.heap.size, 0, none⟩) (by go_size)).trans (by simp [go_sem])
    have f1x0o0 : w1.frozen? ⟨w.heap.size, 0, none⟩ = false := (hr1.frozen (p := ⟨w.heap.size, 0, none⟩) (by go_size)).trans (by simp [go_sem])
    have c1x0o1 : w1.cell? ⟨w.heap.size, 1, none⟩ = some (.int .i64 0) := (hr1.cell (p := ⟨w.heap.size, 1, none⟩) (by go_size)).trans (by simp [go_sem])
    have f1x0o1 : w1.frozen? ⟨w.heap.size, 1, none⟩ = false := (hr1.frozen (p := ⟨w.heap.size, 1, none⟩) (by go_size)).trans (by simp [go_sem])
    have c1x0o2 : w1.cell? ⟨w.heap.size, 2, none⟩ = some (.int .i64 0) := (hr1.cell (p := ⟨w.heap.size, 2, none⟩) (by go_size)).trans (by simp [go_sem])
    have f1x0o2 : w1.frozen? ⟨w.heap.size, 2, none⟩ = false := (hr1.frozen (p := ⟨w.heap.size, 2, none⟩) (by go_size)).trans (by simp [go_sem])
    have n1x0 : w.heap.size < w1.heap.size := by omega
    clear hr1 hb1
    go_wp2
    refine bodyPost_ret (v := .agg #[.bool a1, .int .i64 l1, .int .i64 u1]) (by simp [results, Try.results85, go_sem, n1x0, c1x0o0, c1x0o1, c1x0o2]) rfl ⟨RetSp.mk ((show kindF 1 = mkF 0 0 from by simp [kindF, mkF]).trans hx1), ?_⟩
    go_grown
  have q1 : (k == 1) = false := by simp [h1]
  by_cases h2 : k = 2
  · subst h2
    go_enter Try.func85, Try.ntmps85
    go_wp2_with fail
    refine (l1Of_any _ _ _).mono ?_
    rintro e w1 ⟨hs1, hr1⟩
    obtain ⟨a1, l1, u1, hx1, rfl⟩ := hs1.out
    clear hs1
    have hb1 : Below w.heap.size w w1 := ((Below.refl _ _).alloc (by go_size) _).trans (hr1.mono (by go_size))
    have hz1 : w.heap.size + 1 ≤ w1.heap.size := by have := hr1.size; first | omega | (simp at this; omega)
    have hB1 : Below w.heap.size w w1 := hb1
    have c1x0o0 : w1.cell? ⟨w.heap.size, 0, none⟩ = some (.bool false) := (hr1.cell (p := ⟨w.heap.size, 0, none⟩) (by go_size)).trans (by simp [go_sem])
    have f1x0o0 : w1.frozen? ⟨w.heap.size, 0, none⟩ = false := (hr1.frozen (p := ⟨w.heap.size, 0, none⟩) (by go_size)).trans (by simp [go_sem])
    have c1x0o1 : w1.cell? ⟨w.heap.size, 1, none⟩ = some (.int .i64 0) := (hr1.cell (p := ⟨w.heap.size, 1, none⟩) (by go_size)).trans (by simp [go_sem])
    have f1x0o1 : w1.frozen? ⟨w.heap.size, 1, none⟩ = false := (hr1.frozen (p := ⟨w.heap.size, 1, none⟩) (by go_size)).trans (by simp [go_sem])
    have c1x0o2 : w1.cell? ⟨w.heap.size, 2, none⟩ = some (.int .i64 0) := (hr1.cell (p := ⟨w.heap.size, 2, none⟩) (by go_size)).trans (by simp [go_sem])
    have f1x0o2 : w1.frozen? ⟨w.heap.size, 2, none⟩ = false := (hr1.frozen (p := ⟨w.heap.size, 2, none⟩) (by go_size)).trans (by simp [go_sem])
    have n1x0 : w.heap.size < w1.heap.size := by omega
    clear hr1 hb1
    go_wp2
    refine bodyPost_ret (v := .agg #[.bool a1, .int .i64 l1, .int .i64 u1]) (by simp [results, Try.results85, go_sem, n1x0, c1x0o0, c1x0o1, c1x0o2]) rfl ⟨RetSp.mk ((show kindF 2 = mkF 1 15 from by simp [kindF, mkF]).trans hx1), ?_⟩
    go_grown
  have q2 : (k == 2) = false := by simp [h2]
  go_enter Try.func85, Try.ntmps85
  go_wp2
  go_returns
  exact ⟨RetSp.mk (by simp [kindF, h0, h1, h2, noSp]), by go_grown⟩

set_option maxHeartbeats 1000000 in
theorem kind_impl (k : Int) (w : World) : Calls Try.prog 89 #[.int .i64 k] w fun e w' => RetSp (kindF k) e ∧ Below w.heap.size w w' := by
  by_cases h0 : k = 0
  · subst h0
    go_enter Try.func89, Try.ntmps89
    go_wp2
    go_returns
    exact ⟨RetSp.mk (by simp [kindF]), by go_grown⟩
  have q0 : (k == 0) = false := by simp [h0]
  by_cases h1 : k = 1
  · subst h1
    go_enter Try.func89, Try.ntmps89
    go_wp2_with fail
    refine (of_impl _ _).mono ?_
    rintro e w1 ⟨hs1, hr1⟩
    obtain ⟨a1, l1, u1, hx1, rfl⟩ := hs1.out
    clear hs1
    have hb1 : Below w.heap.size w w1 := ((Below.refl _ _).alloc (by go_size) _).trans (hr1.mono (by go_size))
    have hz1 : w.heap.size + 1 ≤ w1.heap.size := by have := hr1.size; first | omega | (simp at this; omega)
    have hB1 : Below w.heap.size w w1 := hb1
    have c1x0o0 : w1.cell? ⟨w.heap.size, 0, none⟩ = some (.bool false) := (hr1.cell (p := ⟨w.heap.size, 0, none⟩) (by go_size)).trans (by simp [go_sem])
    have f1x0o0 : w1.frozen? ⟨w.heap.size, 0, none⟩ = false := (hr1.frozen (p := ⟨w.heap.size, 0, none⟩) (by go_size)).trans (by simp [go_sem])
    have c1x0o1 : w1.cell? ⟨w.heap.size, 1, none⟩ = some (.int .i64 0) := (hr1.cell (p := ⟨w.heap.size, 1, none⟩) (by go_size)).trans (by simp [go_sem])
    have f1x0o1 : w1.frozen? ⟨w.heap.size, 1, none⟩ = false := (hr1.frozen (p := ⟨w.heap.size, 1, none⟩) (by go_size)).trans (by simp [go_sem])
    have c1x0o2 : w1.cell? ⟨w.heap.size, 2, none⟩ = some (.int .i64 0) := (hr1.cell (p := ⟨w.heap.size, 2, none⟩) (by go_size)).trans (by simp [go_sem])
    have f1x0o2 : w1.frozen? ⟨w.heap.size, 2, none⟩ = false := (hr1.frozen (p := ⟨w.heap.size, 2, none⟩) (by go_size)).trans (by simp [go_sem])
    have n1x0 : w.heap.size < w1.heap.size := by omega
    clear hr1 hb1
    go_wp2
    refine bodyPost_ret (v := .agg #[.bool a1, .int .i64 l1, .int .i64 u1]) (by simp [results, Try.results89, go_sem, n1x0, c1x0o0, c1x0o1, c1x0o2]) rfl ⟨RetSp.mk ((show kindF 1 = ofF 0 from by simp [kindF, ofF, isW]).trans hx1), ?_⟩
    go_grown
  have q1 : (k == 1) = false := by simp [h1]
  by_cases h2 : k = 2
  · subst h2
    go_enter Try.func89, Try.ntmps89
    go_wp2
    go_returns
    exact ⟨RetSp.mk (by simp [kindF]), by go_grown⟩
  have q2 : (k == 2) = false := by simp [h2]
  go_enter Try.func89, Try.ntmps89
  go_wp2
  go_returns
  exact ⟨RetSp.mk (by simp [kindF, h0, h1, h2, noSp]), by go_grown⟩

end Go.Proofs.Ytbjegekfghihkaa

/-
  The contract of the program's SpanJoin.
-/
namespace Go.Proofs.Ytbjegekfghihkaa
open Go.RowKit
set_option linter.unusedVariables false
set_option linter.unusedSimpArgs false

theorem okF_bd {l u : Int} (h : okF true l u = true) : -16 ≤ l ∧ l ≤ 15 ∧ -16 ≤ u ∧ u ≤ 15 ∧ l ≤ u := by simpa [okF] using h
theorem okF_no {l u : Int} (h : okF false l u = true) : l = 0 ∧ u = 0 := by simpa [okF] using h
theorem join_none_r (a : Bool) (al ah bl bh : Int) (h1 : okF a al ah = true) (h2 : okF false bl bh = true) : joinF a al ah false bl bh = (a, al, ah) := by
  obtain ⟨rfl, rfl⟩ := okF_no h2
  cases a
  · obtain ⟨rfl, rfl⟩ := okF_no h1
    simp [joinF, h1]
  · simp [joinF, h1, h2]
theorem join_mk {al ah bl bh x y : Int} (h1 : okF true al ah = true) (h2 : okF true bl bh = true) (hx : x = min al bl) (hy : y = max ah bh) : joinF true al ah true bl bh = mkF x y := by
  have e1 := okF_bd h1
  have e2 := okF_bd h2
  subst hx hy
  unfold mkF
  rw [if_neg (by omega)]
  simp [joinF, h1, h2]
theorem join_ends (a : Bool) (al ah bl bh : Int) (h1 : okF a al ah = true) (h2 : okF true bl bh = true) : joinF a al ah true bl bh = if a = true then (true, min al bl, max ah bh) else (true, bl, bh) := by
  cases a <;> simp [joinF, h1, h2]

end Go.Proofs.Ytbjegekfghihkaa
