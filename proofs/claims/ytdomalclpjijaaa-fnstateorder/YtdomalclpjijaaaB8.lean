import Derived.Test.YtdomalclpjijaaaB7
/-
  The contract of the program's SpanJoin.
-/
namespace Go.Proofs.Ytdomalclpjijaaa
open Go.RowKit
set_option linter.unusedVariables false
set_option linter.unusedSimpArgs false

theorem okF_bd {l u : Int} (h : okF true l u = true) : -16 ≤ l ∧ l ≤ 15 ∧ -16 ≤ u ∧ u ≤ 15 ∧ l ≤ u := by simpa [okF] using h
theorem okF_no {l u : Int} (h : okF false l u = true) : l = 0 ∧ u = 0 := by simpa [okF] using h
theorem join_none_r (a : Bool) (al ah bl bh : Int) (h1 : okF a al ah = true) (h2 : okF false bl bh = true) : joinF a al ah false bl bh = (a, al, ah) := by
  obtain ⟨rfl, rfl⟩ := okF_no h2
  cases a
  · obtain ⟨rfl, rfl⟩ := okF_no h1
    simp [joinF, h1]
  · simp [joinF, h1, h2]
theorem join_mk {al ah bl bh x y : Int} (h1 : okF true al ah = true) (h2 : okF true bl bh = true) (hx : x = min al bl) (hy : y = max ah bh) : joinF true al ah true bl bh = mkF x y := by
  have e1 := okF_bd h1
  have e2 := okF_bd h2
  subst hx hy
  unfold mkF
  rw [if_neg (by omega)]
  simp [joinF, h1, h2]
theorem join_ends (a : Bool) (al ah bl bh : Int) (h1 : okF a al ah = true) (h2 : okF true bl bh = true) : joinF a al ah true bl bh = if a = true then (true, min al bl, max ah bh) else (true, bl, bh) := by
  cases a <;> simp [joinF, h1, h2]

set_option maxHeartbeats 1000000 in
theorem join_impl (a : Bool) (al ah : Int) (b : Bool) (bl bh : Int) (w : World) : Calls Try.prog 35 #[.agg #[.bool a, .int .i64 al, .int .i64 ah], .agg #[.bool b, .int .i64 bl, .int .i64 bh]] w fun e w' => RetSp (joinF a al ah b bl bh) e ∧ Below w.heap.size w w' := by
  cases ho1 : okF a al ah
  · go_enter Try.func35, Try.ntmps35
    go_wp2_with fail
    refine (ok_impl _ _ _ _).mono ?_
    rintro e w1 ⟨rfl, hr1⟩
    have hb1 : Below w.heap.size w w1 := ((((Below.refl _ _).alloc (by go_size) _).alloc (by go_size) _).alloc (by go_size) _).trans (hr1.mono (by go_size))
    have hz1 : w.heap.size + 3 ≤ w1.heap.size := by have := hr1.size; first | omega | (simp at this; omega)
    have hB1 : Below w.heap.size w w1 := hb1
    have c1x0o0 : w1.cell? ⟨w.heap.size, 0, none⟩ = some (.bool a) := (hr1.cell (p := ⟨w.heap.size, 0, none⟩) (by go_size)).trans (by simp [go_sem])
    have c1x0o1 : w1.cell? ⟨w.heap.size, 1, none⟩ = some (.int .i64 al) := (hr1.cell (p := ⟨w.heap.size, 1, none⟩) (by go_size)).trans (by simp [go_sem])
    have c1x0o2 : w1.cell? ⟨w.heap.size, 2, none⟩ = some (.int .i64 ah) := (hr1.cell (p := ⟨w.heap.size, 2, none⟩) (by go_size)).trans (by simp [go_sem])
    have c1x1o0 : w1.cell? ⟨w.heap.size + 1, 0, none⟩ = some (.bool b) := (hr1.cell (p := ⟨w.heap.size + 1, 0, none⟩) (by go_size)).trans (by simp [go_sem])
    have c1x1o1 : w1.cell? ⟨w.heap.size + 1, 1, none⟩ = some (.int .i64 bl) := (hr1.cell (p := ⟨w.heap.size + 1, 1, none⟩) (by go_size)).trans (by simp [go_sem])
    have c1x1o2 : w1.cell? ⟨w.heap.size + 1, 2, none⟩ = some (.int .i64 bh) := (hr1.cell (p := ⟨w.heap.size + 1, 2, none⟩) (by go_size)).trans (by simp [go_sem])
    have c1x2o0 : w1.cell? ⟨w.heap.size + 1 + 1, 0, none⟩ = some (.bool false) := (hr1.cell (p := ⟨w.heap.size + 1 + 1, 0, none⟩) (by go_size)).trans (by simp [go_sem])
    have f1x2o0 : w1.frozen? ⟨w.heap.size + 1 + 1, 0, none⟩ = false := (hr1.frozen (p := ⟨w.heap.size + 1 + 1, 0, none⟩) (by go_size)).trans (by simp [go_sem])
    have c1x2o1 : w1.cell? ⟨w.heap.size + 1 + 1, 1, none⟩ = some (.int .i64 0) := (hr1.cell (p := ⟨w.heap.size + 1 + 1, 1, none⟩) (by go_size)).trans (by simp [go_sem])
    have f1x2o1 : w1.frozen? ⟨w.heap.size + 1 + 1, 1, none⟩ = false := (hr1.frozen (p := ⟨w.heap.size + 1 + 1, 1, none⟩) (by go_size)).trans (by simp [go_sem])
    have c1x2o2 : w1.cell? ⟨w.heap.size + 1 + 1, 2, none⟩ = some (.int .i64 0) := (hr1.cell (p := ⟨w.heap.size + 1 + 1, 2, none⟩) (by go_size)).trans (by simp [go_sem])
    have f1x2o2 : w1.frozen? ⟨w.heap.size + 1 + 1, 2, none⟩ = false := (hr1.frozen (p := ⟨w.heap.size + 1 + 1, 2, none⟩) (by go_size)).trans (by simp [go_sem])
    have n1x0 : w.heap.size < w1.heap.size := by omega
    have n1x1 : w.heap.size + 1 < w1.heap.size := by omega
    have n1x2 : w.heap.size + 1 + 1 < w1.heap.size := by omega
    clear hr1 hb1
    simp only [ho1]
    go_wp2
    refine bodyPost_ret (v := .agg #[.bool false, .int .i64 0, .int .i64 0]) (by simp [results, Try.results35, go_sem, n1x0, n1x1, n1x2, c1x0o0, c1x0o1, c1x0o2, c1x1o0, c1x1o1, c1x1o2, c1x2o0, c1x2o1, c1x2o2]) rfl ⟨RetSp.mk (by simp [joinF, ho1, noSp]), ?_⟩
    go_grown
  · cases ho2 : okF b bl bh
    · go_enter Try.func35, Try.ntmps35
      go_wp2_with fail
      refine (ok_impl _ _ _ _).mono ?_
      rintro e w1 ⟨rfl, hr1⟩
      have hb1 : Below w.heap.size w w1 := ((((Below.refl _ _).alloc (by go_size) _).alloc (by go_size) _).alloc (by go_size) _).trans (hr1.mono (by go_size))
      have hz1 : w.heap.size + 3 ≤ w1.heap.size := by have := hr1.size; first | omega | (simp at this; omega)
      have hB1 : Below w.heap.size w w1 := hb1
      have c1x0o0 : w1.cell? ⟨w.heap.size, 0, none⟩ = some (.bool a) := (hr1.cell (p := ⟨w.heap.size, 0, none⟩) (by go_size)).trans (by simp [go_sem])
      have c1x0o1 : w1.cell? ⟨w.heap.size, 1, none⟩ = some (.int .i64 al) := (hr1.cell (p := ⟨w.heap.size, 1, none⟩) (by go_size)).trans (by simp [go_sem])
      have c1x0o2 : w1.cell? ⟨w.heap.size, 2, none⟩ = some (.int .i64 ah) := (hr1.cell (p := ⟨w.heap.size, 2, none⟩) (by go_size)).trans (by simp [go_sem])
      have c1x1o0 : w1.cell? ⟨w.heap.size + 1, 0, none⟩ = some (.bool b) := (hr1.cell (p := ⟨w.heap.size + 1, 0, none⟩) (by go_size)).trans (by simp [go_sem])
      have c1x1o1 : w1.cell? ⟨w.heap.size + 1, 1, none⟩ = some (.int .i64 bl) := (hr1.cell (p := ⟨w.heap.size + 1, 1, none⟩) (by go_size)).trans (by simp [go_sem])
      have c1x1o2 : w1.cell? ⟨w.heap.size + 1, 2, none⟩ = some (.int .i64 bh) := (hr1.cell (p := ⟨w.heap.size + 1, 2, none⟩) (by go_size)).trans (by simp [go_sem])
      have c1x2o0 : w1.cell? ⟨w.heap.size + 1 + 1, 0, none⟩ = some (.bool false) := (hr1.cell (p := ⟨w.heap.size + 1 + 1, 0, none⟩) (by go_size)).trans (by simp [go_sem])
      have f1x2o0 : w1.frozen? ⟨w.heap.size + 1 + 1, 0, none⟩ = false := (hr1.frozen (p := ⟨w.heap.size + 1 + 1, 0, none⟩) (by go_size)).trans (by simp [go_sem])
      have c1x2o1 : w1.cell? ⟨w.heap.size + 1 + 1, 1, none⟩ = some (.int .i64 0) := (hr1.cell (p := ⟨w.heap.size + 1 + 1, 1, none⟩) (by go_size)).trans (by simp [go_sem])
      have f1x2o1 : w1.frozen? ⟨w.heap.size + 1 + 1, 1, none⟩ = false := (hr1.frozen (p := ⟨w.heap.size + 1 + 1, 1, none⟩) (by go_size)).trans (by simp [go_sem])
      have c1x2o2 : w1.cell? ⟨w.heap.size + 1 + 1, 2, none⟩ = some (.int .i64 0) := (hr1.cell (p := ⟨w.heap.size + 1 + 1, 2, none⟩) (by go_size)).trans (by simp [go_sem])
      have f1x2o2 : w1.frozen? ⟨w.heap.size + 1 + 1, 2, none⟩ = false := (hr1.frozen (p := ⟨w.heap.size + 1 + 1, 2, none⟩) (by go_size)).trans (by simp [go_sem])
      have n1x0 : w.heap.size < w1.heap.size := by omega
      have n1x1 : w.heap.size + 1 < w1.heap.size := by omega
      have n1x2 : w.heap.size + 1 + 1 < w1.heap.size := by omega
      clear hr1 hb1
      simp only [ho1]
      go_wp2_with fail
      refine (ok_impl _ _ _ _).mono ?_
      rintro e w2 ⟨rfl, hr2⟩
      have hb2 : Below w1.heap.size w1 w2 := (Below.refl _ _).trans (hr2.mono (by go_size))
      have hz2 : w1.heap.size + 0 ≤ w2.heap.size := by have := hr2.size; first | omega | (simp at this; omega)
      have hB2 : Below w.heap.size w w2 := hB1.trans (hb2.mono (by go_size))
      have c2x0o0 : w2.cell? ⟨w.heap.size, 0, none⟩ = some (.bool a) := (hb2.cell (p := ⟨w.heap.size, 0, none⟩) (by go_size)).trans c1x0o0
      have c2x0o1 : w2.cell? ⟨w.heap.size, 1, none⟩ = some (.int .i64 al) := (hb2.cell (p := ⟨w.heap.size, 1, none⟩) (by go_size)).trans c1x0o1
      have c2x0o2 : w2.cell? ⟨w.heap.size, 2, none⟩ = some (.int .i64 ah) := (hb2.cell (p := ⟨w.heap.size, 2, none⟩) (by go_size)).trans c1x0o2
      have c2x1o0 : w2.cell? ⟨w.heap.size + 1, 0, none⟩ = some (.bool b) := (hb2.cell (p := ⟨w.heap.size + 1, 0, none⟩) (by go_size)).trans c1x1o0
      have c2x1o1 : w2.cell? ⟨w.heap.size + 1, 1, none⟩ = some (.int .i64 bl) := (hb2.cell (p := ⟨w.heap.size + 1, 1, none⟩) (by go_size)).trans c1x1o1
      have c2x1o2 : w2.cell? ⟨w.heap.size + 1, 2, none⟩ = some (.int .i64 bh) := (hb2.cell (p := ⟨w.heap.size + 1, 2, none⟩) (by go_size)).trans c1x1o2
      have c2x2o0 : w2.cell? ⟨w.heap.size + 1 + 1, 0, none⟩ = some (.bool false) := (hb2.cell (p := ⟨w.heap.size + 1 + 1, 0, none⟩) (by go_size)).trans c1x2o0
      have f2x2o0 : w2.frozen? ⟨w.heap.size + 1 + 1, 0, none⟩ = false := (hb2.frozen (p := ⟨w.heap.size + 1 + 1, 0, none⟩) (by go_size)).trans f1x2o0
      have c2x2o1 : w2.cell? ⟨w.heap.size + 1 + 1, 1, none⟩ = some (.int .i64 0) := (hb2.cell (p := ⟨w.heap.size + 1 + 1, 1, none⟩) (by go_size)).trans c1x2o1
      have f2x2o1 : w2.frozen? ⟨w.heap.size + 1 + 1, 1, none⟩ = false := (hb2.frozen (p := ⟨w.heap.size + 1 + 1, 1, none⟩) (by go_size)).trans f1x2o1
      have c2x2o2 : w2.cell? ⟨w.heap.size + 1 + 1, 2, none⟩ = some (.int .i64 0) := (hb2.cell (p := ⟨w.heap.size + 1 + 1, 2, none⟩) (by go_size)).trans c1x2o2
      have f2x2o2 : w2.frozen? ⟨w.heap.size + 1 + 1, 2, none⟩ = false := (hb2.frozen (p := ⟨w.heap.size + 1 + 1, 2, none⟩) (by go_size)).trans f1x2o2
      have n2x0 : w.heap.size < w2.heap.size := by omega
      have n2x1 : w.heap.size + 1 < w2.heap.size := by omega
      have n2x2 : w.heap.size + 1 + 1 < w2.heap.size := by omega
      clear n1x0 n1x1 n1x2 c1x0o0 c1x0o1 c1x0o2 c1x1o0 c1x1o1 c1x1o2 c1x2o0 c1x2o1 c1x2o2 f1x2o0 f1x2o1 f1x2o2
      clear hr2 hb2
      simp only [ho2]
      go_wp2
      refine bodyPost_ret (v := .agg #[.bool false, .int .i64 0, .int .i64 0]) (by simp [results, Try.results35, go_sem, n2x0, n2x1, n2x2, c2x0o0, c2x0o1, c2x0o2, c2x1o0, c2x1o1, c2x1o2, c2x2o0, c2x2o1, c2x2o2]) rfl ⟨RetSp.mk (by simp [joinF, ho1, ho2, noSp]), ?_⟩
      go_grown
    · cases b
      · go_enter Try.func35, Try.ntmps35
        go_wp2_with fail
        refine (ok_impl _ _ _ _).mono ?_
        rintro e w1 ⟨rfl, hr1⟩
        have hb1 : Below w.heap.size w w1 := ((((Below.refl _ _).alloc (by go_size) _).alloc (by go_size) _).alloc (by go_size) _).trans (hr1.mono (by go_size))
        have hz1 : w.heap.size + 3 ≤ w1.heap.size := by have := hr1.size; first | omega | (simp at this; omega)
        have hB1 : Below w.heap.size w w1 := hb1
        have c1x0o0 : w1.cell? ⟨w.heap.size, 0, none⟩ = some (.bool a) := (hr1.cell (p := ⟨w.heap.size, 0, none⟩) (by go_size)).trans (by simp [go_sem])
        have c1x0o1 : w1.cell? ⟨w.heap.size, 1, none⟩ = some (.int .i64 al) := (hr1.cell (p := ⟨w.heap.size, 1, none⟩) (by go_size)).trans (by simp [go_sem])
        have c1x0o2 : w1.cell? ⟨w.heap.size, 2, none⟩ = some (.int .i64 ah) := (hr1.cell (p := ⟨w.heap.size, 2, none⟩) (by go_size)).trans (by simp [go_sem])
        have c1x1o0 : w1.cell? ⟨w.heap.size + 1, 0, none⟩ = some (.bool false) := (hr1.cell (p := ⟨w.heap.size + 1, 0, none⟩) (by go_size)).trans (by simp [go_sem])
        have c1x1o1 : w1.cell? ⟨w.heap.size + 1, 1, none⟩ = some (.int .i64 bl) := (hr1.cell (p := ⟨w.heap.size + 1, 1, none⟩) (by go_size)).trans (by simp [go_sem])
        have c1x1o2 : w1.cell? ⟨w.heap.size + 1, 2, none⟩ = some (.int .i64 bh) := (hr1.cell (p := ⟨w.heap.size + 1, 2, none⟩) (by go_size)).trans (by simp [go_sem])
        have c1x2o0 : w1.cell? ⟨w.heap.size + 1 + 1, 0, none⟩ = some (.bool false) := (hr1.cell (p := ⟨w.heap.size + 1 + 1, 0, none⟩) (by go_size)).trans (by simp [go_sem])
        have f1x2o0 : w1.frozen? ⟨w.heap.size + 1 + 1, 0, none⟩ = false := (hr1.frozen (p := ⟨w.heap.size + 1 + 1, 0, none⟩) (by go_size)).trans (by simp [go_sem])
        have c1x2o1 : w1.cell? ⟨w.heap.size + 1 + 1, 1, none⟩ = some (.int .i64 0) := (hr1.cell (p := ⟨w.heap.size + 1 + 1, 1, none⟩) (by go_size)).trans (by simp [go_sem])
        have f1x2o1 : w1.frozen? ⟨w.heap.size + 1 + 1, 1, none⟩ = false := (hr1.frozen (p := ⟨w.heap.size + 1 + 1, 1, none⟩) (by go_size)).trans (by simp [go_sem])
        have c1x2o2 : w1.cell? ⟨w.heap.size + 1 + 1, 2, none⟩ = some (.int .i64 0) := (hr1.cell (p := ⟨w.heap.size + 1 + 1, 2, none⟩) (by go_size)).trans (by simp [go_sem])
        have f1x2o2 : w1.frozen? ⟨w.heap.size + 1 + 1, 2, none⟩ = false := (hr1.frozen (p := ⟨w.heap.size + 1 + 1, 2, none⟩) (by go_size)).trans (by simp [go_sem])
        have n1x0 : w.heap.size < w1.heap.size := by omega
        have n1x1 : w.heap.size + 1 < w1.heap.size := by omega
        have n1x2 : w.heap.size + 1 + 1 < w1.heap.size := by omega
        clear hr1 hb1
        simp only [ho1]
        go_wp2_with fail
        refine (ok_impl _ _ _ _).mono ?_
        rintro e w2 ⟨rfl, hr2⟩
        have hb2 : Below w1.heap.size w1 w2 := (Below.refl _ _).trans (hr2.mono (by go_size))
        have hz2 : w1.heap.size + 0 ≤ w2.heap.size := by have := hr2.size; first | omega | (simp at this; omega)
        have hB2 : Below w.heap.size w w2 := hB1.trans (hb2.mono (by go_size))
        have c2x0o0 : w2.cell? ⟨w.heap.size, 0, none⟩ = some (.bool a) := (hb2.cell (p := ⟨w.heap.size, 0, none⟩) (by go_size)).trans c1x0o0
        have c2x0o1 : w2.cell? ⟨w.heap.size, 1, none⟩ = some (.int .i64 al) := (hb2.cell (p := ⟨w.heap.size, 1, none⟩) (by go_size)).trans c1x0o1
        have c2x0o2 : w2.cell? ⟨w.heap.size, 2, none⟩ = some (.int .i64 ah) := (hb2.cell (p := ⟨w.heap.size, 2, none⟩) (by go_size)).trans c1x0o2
        have c2x1o0 : w2.cell? ⟨w.heap.size + 1, 0, none⟩ = some (.bool false) := (hb2.cell (p := ⟨w.heap.size + 1, 0, none⟩) (by go_size)).trans c1x1o0
        have c2x1o1 : w2.cell? ⟨w.heap.size + 1, 1, none⟩ = some (.int .i64 bl) := (hb2.cell (p := ⟨w.heap.size + 1, 1, none⟩) (by go_size)).trans c1x1o1
        have c2x1o2 : w2.cell? ⟨w.heap.size + 1, 2, none⟩ = some (.int .i64 bh) := (hb2.cell (p := ⟨w.heap.size + 1, 2, none⟩) (by go_size)).trans c1x1o2
        have c2x2o0 : w2.cell? ⟨w.heap.size + 1 + 1, 0, none⟩ = some (.bool false) := (hb2.cell (p := ⟨w.heap.size + 1 + 1, 0, none⟩) (by go_size)).trans c1x2o0
        have f2x2o0 : w2.frozen? ⟨w.heap.size + 1 + 1, 0, none⟩ = false := (hb2.frozen (p := ⟨w.heap.size + 1 + 1, 0, none⟩) (by go_size)).trans f1x2o0
        have c2x2o1 : w2.cell? ⟨w.heap.size + 1 + 1, 1, none⟩ = some (.int .i64 0) := (hb2.cell (p := ⟨w.heap.size + 1 + 1, 1, none⟩) (by go_size)).trans c1x2o1
        have f2x2o1 : w2.frozen? ⟨w.heap.size + 1 + 1, 1, none⟩ = false := (hb2.frozen (p := ⟨w.heap.size + 1 + 1, 1, none⟩) (by go_size)).trans f1x2o1
        have c2x2o2 : w2.cell? ⟨w.heap.size + 1 + 1, 2, none⟩ = some (.int .i64 0) := (hb2.cell (p := ⟨w.heap.size + 1 + 1, 2, none⟩) (by go_size)).trans c1x2o2
        have f2x2o2 : w2.frozen? ⟨w.heap.size + 1 + 1, 2, none⟩ = false := (hb2.frozen (p := ⟨w.heap.size + 1 + 1, 2, none⟩) (by go_size)).trans f1x2o2
        have n2x0 : w.heap.size < w2.heap.size := by omega
        have n2x1 : w.heap.size + 1 < w2.heap.size := by omega
        have n2x2 : w.heap.size + 1 + 1 < w2.heap.size := by omega
        clear n1x0 n1x1 n1x2 c1x0o0 c1x0o1 c1x0o2 c1x1o0 c1x1o1 c1x1o2 c1x2o0 c1x2o1 c1x2o2 f1x2o0 f1x2o1 f1x2o2
        clear hr2 hb2
        simp only [ho2]
        go_wp2
        refine bodyPost_ret (v := .agg #[.bool a, .int .i64 al, .int .i64 ah]) (by simp [results, Try.results35, go_sem, n2x0, n2x1, n2x2, c2x0o0, c2x0o1, c2x0o2, c2x1o0, c2x1o1, c2x1o2, c2x2o0, c2x2o1, c2x2o2]) rfl ⟨RetSp.mk (join_none_r a al ah bl bh ho1 ho2), ?_⟩
        go_grown
      · have hbd := (okF_bd ho2).2.2.2.2
        go_enter Try.func35, Try.ntmps35
        go_wp2_with fail
        refine (ok_impl _ _ _ _).mono ?_
        rintro e w1 ⟨rfl, hr1⟩
        have hb1 : Below w.heap.size w w1 := ((((Below.refl _ _).alloc (by go_size) _).alloc (by go_size) _).alloc (by go_size) _).trans (hr1.mono (by go_size))
        have hz1 : w.heap.size + 3 ≤ w1.heap.size := by have := hr1.size; first | omega | (simp at this; omega)
        have hB1 : Below w.heap.size w w1 := hb1
        have c1x0o0 : w1.cell? ⟨w.heap.size, 0, none⟩ = some (.bool a) := (hr1.cell (p := ⟨w.heap.size, 0, none⟩) (by go_size)).trans (by simp [go_sem])
        have c1x0o1 : w1.cell? ⟨w.heap.size, 1, none⟩ = some (.int .i64 al) := (hr1.cell (p := ⟨w.heap.size, 1, none⟩) (by go_size)).trans (by simp [go_sem])
        have c1x0o2 : w1.cell? ⟨w.heap.size, 2, none⟩ = some (.int .i64 ah) := (hr1.cell (p := ⟨w.heap.size, 2, none⟩) (by go_size)).trans (by simp [go_sem])
        have c1x1o0 : w1.cell? ⟨w.heap.size + 1, 0, none⟩ = some (.bool true) := (hr1.cell (p := ⟨w.heap.size + 1, 0, none⟩) (by go_size)).trans (by simp [go_sem])
        have c1x1o1 : w1.cell? ⟨w.heap.size + 1, 1, none⟩ = some (.int .i64 bl) := (hr1.cell (p := ⟨w.heap.size + 1, 1, none⟩) (by go_size)).trans (by simp [go_sem])
        have c1x1o2 : w1.cell? ⟨w.heap.size + 1, 2, none⟩ = some (.int .i64 bh) := (hr1.cell (p := ⟨w.heap.size + 1, 2, none⟩) (by go_size)).trans (by simp [go_sem])
        have c1x2o0 : w1.cell? ⟨w.heap.size + 1 + 1, 0, none⟩ = some (.bool false) := (hr1.cell (p := ⟨w.heap.size + 1 + 1, 0, none⟩) (by go_size)).trans (by simp [go_sem])
        have f1x2o0 : w1.frozen? ⟨w.heap.size + 1 + 1, 0, none⟩ = false := (hr1.frozen (p := ⟨w.heap.size + 1 + 1, 0, none⟩) (by go_size)).trans (by simp [go_sem])
        have c1x2o1 : w1.cell? ⟨w.heap.size + 1 + 1, 1, none⟩ = some (.int .i64 0) := (hr1.cell (p := ⟨w.heap.size + 1 + 1, 1, none⟩) (by go_size)).trans (by simp [go_sem])
        have f1x2o1 : w1.frozen? ⟨w.heap.size + 1 + 1, 1, none⟩ = false := (hr1.frozen (p := ⟨w.heap.size + 1 + 1, 1, none⟩) (by go_size)).trans (by simp [go_sem])
        have c1x2o2 : w1.cell? ⟨w.heap.size + 1 + 1, 2, none⟩ = some (.int .i64 0) := (hr1.cell (p := ⟨w.heap.size + 1 + 1, 2, none⟩) (by go_size)).trans (by simp [go_sem])
        have f1x2o2 : w1.frozen? ⟨w.heap.size + 1 + 1, 2, none⟩ = false := (hr1.frozen (p := ⟨w.heap.size + 1 + 1, 2, none⟩) (by go_size)).trans (by simp [go_sem])
        have n1x0 : w.heap.size < w1.heap.size := by omega
        have n1x1 : w.heap.size + 1 < w1.heap.size := by omega
        have n1x2 : w.heap.size + 1 + 1 < w1.heap.size := by omega
        clear hr1 hb1
        simp only [ho1]
        go_wp2_with fail
        refine (ok_impl _ _ _ _).mono ?_
        rintro e w2 ⟨rfl, hr2⟩
        have hb2 : Below w1.heap.size w1 w2 := (Below.refl _ _).trans (hr2.mono (by go_size))
        have hz2 : w1.heap.size + 0 ≤ w2.heap.size := by have := hr2.size; first | omega | (simp at this; omega)
        have hB2 : Below w.heap.size w w2 := hB1.trans (hb2.mono (by go_size))
        have c2x0o0 : w2.cell? ⟨w.heap.size, 0, none⟩ = some (.bool a) := (hb2.cell (p := ⟨w.heap.size, 0, none⟩) (by go_size)).trans c1x0o0
        have c2x0o1 : w2.cell? ⟨w.heap.size, 1, none⟩ = some (.int .i64 al) := (hb2.cell (p := ⟨w.heap.size, 1, none⟩) (by go_size)).trans c1x0o1
        have c2x0o2 : w2.cell? ⟨w.heap.size, 2, none⟩ = some (.int .i64 ah) := (hb2.cell (p := ⟨w.heap.size, 2, none⟩) (by go_size)).trans c1x0o2
        have c2x1o0 : w2.cell? ⟨w.heap.size + 1, 0, none⟩ = some (.bool true) := (hb2.cell (p := ⟨w.heap.size + 1, 0, none⟩) (by go_size)).trans c1x1o0
        have c2x1o1 : w2.cell? ⟨w.heap.size + 1, 1, none⟩ = some (.int .i64 bl) := (hb2.cell (p := ⟨w.heap.size + 1, 1, none⟩) (by go_size)).trans c1x1o1
        have c2x1o2 : w2.cell? ⟨w.heap.size + 1, 2, none⟩ = some (.int .i64 bh) := (hb2.cell (p := ⟨w.heap.size + 1, 2, none⟩) (by go_size)).trans c1x1o2
        have c2x2o0 : w2.cell? ⟨w.heap.size + 1 + 1, 0, none⟩ = some (.bool false) := (hb2.cell (p := ⟨w.heap.size + 1 + 1, 0, none⟩) (by go_size)).trans c1x2o0
        have f2x2o0 : w2.frozen? ⟨w.heap.size + 1 + 1, 0, none⟩ = false := (hb2.frozen (p := ⟨w.heap.size + 1 + 1, 0, none⟩) (by go_size)).trans f1x2o0
        have c2x2o1 : w2.cell? ⟨w.heap.size + 1 + 1, 1, none⟩ = some (.int .i64 0) := (hb2.cell (p := ⟨w.heap.size + 1 + 1, 1, none⟩) (by go_size)).trans c1x2o1
        have f2x2o1 : w2.frozen? ⟨w.heap.size + 1 + 1, 1, none⟩ = false := (hb2.frozen (p := ⟨w.heap.size + 1 + 1, 1, none⟩) (by go_size)).trans f1x2o1
        have c2x2o2 : w2.cell? ⟨w.heap.size + 1 + 1, 2, none⟩ = some (.int .i64 0) := (hb2.cell (p := ⟨w.heap.size + 1 + 1, 2, none⟩) (by go_size)).trans c1x2o2
        have f2x2o2 : w2.frozen? ⟨w.heap.size + 1 + 1, 2, none⟩ = false := (hb2.frozen (p := ⟨w.heap.size + 1 + 1, 2, none⟩) (by go_size)).trans f1x2o2
        have n2x0 : w.heap.size < w2.heap.size := by omega
        have n2x1 : w.heap.size + 1 < w2.heap.size := by omega
        have n2x2 : w.heap.size + 1 + 1 < w2.heap.size := by omega
        clear n1x0 n1x1 n1x2 c1x0o0 c1x0o1 c1x0o2 c1x1o0 c1x1o1 c1x1o2 c1x2o0 c1x2o1 c1x2o2 f1x2o0 f1x2o1 f1x2o2
        clear hr2 hb2
        simp only [ho2]
        go_wp2_with fail
        refine (stretch2 _ _ _ bl bh _ _ hbd (by simp) (by simp) (by simp)).mono ?_
        rintro e w3 ⟨hs3, hr3⟩
        obtain ⟨a3, l3, u3, hx3, rfl⟩ := hs3.out
        clear hs3
        have hb3 : Below w2.heap.size w2 w3 := ((Below.refl _ _).alloc (by go_size) _).trans (hr3.mono (by go_size))
        have hz3 : w2.heap.size + 1 ≤ w3.heap.size := by have := hr3.size; first | omega | (simp at this; omega)
        have hB3 : Below w.heap.size w w3 := hB2.trans (hb3.mono (by go_size))
        have c3x0o0 : w3.cell? ⟨w.heap.size, 0, none⟩ = some (.bool a) := (hb3.cell (p := ⟨w.heap.size, 0, none⟩) (by go_size)).trans c2x0o0
        have c3x0o1 : w3.cell? ⟨w.heap.size, 1, none⟩ = some (.int .i64 al) := (hb3.cell (p := ⟨w.heap.size, 1, none⟩) (by go_size)).trans c2x0o1
        have c3x0o2 : w3.cell? ⟨w.heap.size, 2, none⟩ = some (.int .i64 ah) := (hb3.cell (p := ⟨w.heap.size, 2, none⟩) (by go_size)).trans c2x0o2
        have c3x1o0 : w3.cell? ⟨w.heap.size + 1, 0, none⟩ = some (.bool true) := (hb3.cell (p := ⟨w.heap.size + 1, 0, none⟩) (by go_size)).trans c2x1o0
        have c3x1o1 : w3.cell? ⟨w.heap.size + 1, 1, none⟩ = some (.int .i64 bl) := (hb3.cell (p := ⟨w.heap.size + 1, 1, none⟩) (by go_size)).trans c2x1o1
        have c3x1o2 : w3.cell? ⟨w.heap.size + 1, 2, none⟩ = some (.int .i64 bh) := (hb3.cell (p := ⟨w.heap.size + 1, 2, none⟩) (by go_size)).trans c2x1o2
        have c3x2o0 : w3.cell? ⟨w.heap.size + 1 + 1, 0, none⟩ = some (.bool false) := (hb3.cell (p := ⟨w.heap.size + 1 + 1, 0, none⟩) (by go_size)).trans c2x2o0
        have f3x2o0 : w3.frozen? ⟨w.heap.size + 1 + 1, 0, none⟩ = false := (hb3.frozen (p := ⟨w.heap.size + 1 + 1, 0, none⟩) (by go_size)).trans f2x2o0
        have c3x2o1 : w3.cell? ⟨w.heap.size + 1 + 1, 1, none⟩ = some (.int .i64 0) := (hb3.cell (p := ⟨w.heap.size + 1 + 1, 1, none⟩) (by go_size)).trans c2x2o1
        have f3x2o1 : w3.frozen? ⟨w.heap.size + 1 + 1, 1, none⟩ = false := (hb3.frozen (p := ⟨w.heap.size + 1 + 1, 1, none⟩) (by go_size)).trans f2x2o1
        have c3x2o2 : w3.cell? ⟨w.heap.size + 1 + 1, 2, none⟩ = some (.int .i64 0) := (hb3.cell (p := ⟨w.heap.size + 1 + 1, 2, none⟩) (by go_size)).trans c2x2o2
        have f3x2o2 : w3.frozen? ⟨w.heap.size + 1 + 1, 2, none⟩ = false := (hb3.frozen (p := ⟨w.heap.size + 1 + 1, 2, none⟩) (by go_size)).trans f2x2o2
        have n3x0 : w.heap.size < w3.heap.size := by omega
        have n3x1 : w.heap.size + 1 < w3.heap.size := by omega
        have n3x2 : w.heap.size + 1 + 1 < w3.heap.size := by omega
        clear n2x0 n2x1 n2x2 c2x0o0 c2x0o1 c2x0o2 c2x1o0 c2x1o1 c2x1o2 c2x2o0 c2x2o1 c2x2o2 f2x2o0 f2x2o1 f2x2o2
        clear hr3 hb3
        go_wp2
        refine bodyPost_ret (v := .agg #[.bool a3, .int .i64 l3, .int .i64 u3]) (by simp [results, Try.results35, go_sem, n3x0, n3x1, n3x2, c3x0o0, c3x0o1, c3x0o2, c3x1o0, c3x1o1, c3x1o2, c3x2o0, c3x2o1, c3x2o2]) rfl ⟨RetSp.mk ((join_ends a al ah bl bh ho1 ho2).trans hx3), ?_⟩
        go_grown

end Go.Proofs.Ytdomalclpjijaaa

/-
  Plain facts on joins of spans: no claim by itself.
-/
namespace Go.Proofs.Ytdomalclpjijaaa
set_option linter.unusedVariables false
set_option linter.unusedSimpArgs false

theorem join_all {a b c : Bool} {al ah bl bh cl ch : Int} (h1 : okF a al ah = true) (h2 : okF b bl bh = true) (h : joinF a al ah b bl bh = (c, cl, ch)) :
    okF c cl ch = true ∧ inF a al ah c cl ch = true ∧ inF b bl bh c cl ch = true ∧ joinF b bl bh a al ah = (c, cl, ch) ∧ joinF c cl ch a al ah = (c, cl, ch) := by
  cases a
  · obtain ⟨rfl, rfl⟩ := okF_no h1
    cases b
    · obtain ⟨rfl, rfl⟩ := okF_no h2
      simp [joinF, h1] at h
      obtain ⟨rfl, rfl, rfl⟩ := h
      simp [joinF, inF, h1]
    · simp [joinF, h1, h2] at h
      obtain ⟨rfl, rfl, rfl⟩ := h
      simp [joinF, inF, h1, h2]
  · have e1 := okF_bd h1
    cases b
    · obtain ⟨rfl, rfl⟩ := okF_no h2
      simp [joinF, h1, h2] at h
      obtain ⟨rfl, rfl, rfl⟩ := h
      simp [joinF, inF, h1, h2]
    · have e2 := okF_bd h2
      simp [joinF, h1, h2] at h
      obtain ⟨rfl, rfl, rfl⟩ := h
      have h3 : okF true (min al bl) (max ah bh) = true := okF_t (by omega)
      simp [joinF, inF, h1, h2, h3]
      omega
theorem join_least {a b c d : Bool} {al ah bl bh cl ch dl dh : Int} (h1 : okF a al ah = true) (h2 : okF b bl bh = true) (h : joinF a al ah b bl bh = (c, cl, ch)) (hd1 : inF a al ah d dl dh = true) (hd2 : inF b bl bh d dl dh = true) : inF c cl ch d dl dh = true := by
  have hok := (join_all h1 h2 h).1
  have hd : okF d dl dh = true := by
    simp only [inF, Bool.and_eq_true] at hd1
    exact hd1.1.2
  simp only [inF, h1, h2, hd, hok, Bool.true_and] at hd1 hd2 ⊢
  cases a
  · obtain ⟨rfl, rfl⟩ := okF_no h1
    simp [joinF, h1, h2] at h
    obtain ⟨rfl, rfl, rfl⟩ := h
    exact hd2
  · cases b
    · obtain ⟨rfl, rfl⟩ := okF_no h2
      simp [joinF, h1, h2] at h
      obtain ⟨rfl, rfl, rfl⟩ := h
      exact hd1
    · simp [joinF, h1, h2] at h
      obtain ⟨rfl, rfl, rfl⟩ := h
      simp at hd1 hd2 ⊢
      refine ⟨hd1.1, ?_⟩
      omega
end Go.Proofs.Ytdomalclpjijaaa
