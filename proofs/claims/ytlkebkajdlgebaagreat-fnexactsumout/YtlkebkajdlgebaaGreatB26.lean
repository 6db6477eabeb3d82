import Derived.Test.YtlkebkajdlgebaaGreatB23
import Derived.Test.YtlkebkajdlgebaaGreatB21
/-
  The contract of the model's SpanJoin.
-/
namespace Go.Proofs.YtlkebkajdlgebaaGreat
open Go.RowKit
set_option linter.unusedVariables false
set_option linter.unusedSimpArgs false

set_option maxHeartbeats 1000000 in
theorem join_spec (a : Bool) (al ah : Int) (b : Bool) (bl bh : Int) (w : World) : Calls Tryz.prog 66 #[.agg #[.bool a, .int .i64 al, .int .i64 ah], .agg #[.bool b, .int .i64 bl, .int .i64 bh]] w fun e w' => RetSp (joinF a al ah b bl bh) e ∧ Below w.heap.size w w' := by
  cases ho1 : okF a al ah
  · go_enter Tryz.func66, Tryz.ntmps66
    go_wp2_with fail
    refine (ok_spec _ _ _ _).mono ?_
    rintro e w1 ⟨rfl, hr1⟩
    have hb1 : Below w.heap.size w w1 := ((((Below.refl _ _).alloc (by go_size) _).alloc (by go_size) _).alloc (by go_size) _).trans (hr1.mono (by go_size))
    have hz1 : w.heap.size + 3 ≤ w1.heap.size := by have := hr1.size; first | omega | (simp at this; omega)
    have hB1 : Below w.heap.size w w1 := hb1
    have c1x0o0 : w1.cell? ⟨w.heap.size, 0, none⟩ = some (.bool a) := (hr1.cell (p := ⟨w.heap.size, 0, none⟩) (by go_size)).trans (by simp [go_sem])
    have c1x0o1 : w1.cell? ⟨w.heap.size, 1, none⟩ = some (.int .i64 al) := (hr1.cell (p := ⟨w.heap.size, 1, none⟩) (by go_size)).trans (by simp [go_sem])
    have c1x0o2 : w1.cell? ⟨w.heap.size, 2, none⟩ = some (.int .i64 ah) := (hr1.cell (p := ⟨w.heap.size, 2, none⟩) (by go_size)).trans (by simp [go_sem])
    have c1x1o0 : w1.cell? ⟨w.heap.size + 1, 0, none⟩ = some (.bool b) := (hr1.cell (p := ⟨w.heap.size + 1, 0, none⟩) (by go_size)).trans (by simp [go_sem])
    have c1x1o1 : w1.cell? ⟨w.heap.size + 1, 1, none⟩ = some (.int .i64 bl) := (hr1.cell (p := ⟨w.heap.size + 1, 1, none⟩) (by go_size)).trans (by simp [go_sem])
    have c1x1o2 : w1.cell? ⟨w.heap.size + 1, 2, none⟩ = some (.int .i64 bh) := (hr1.cell (p := ⟨w.heap.size + 1, 2, none⟩) (by go_size)).trans (by simp [go_sem])
    have c1x2o0 : w1.cell? ⟨w.heap.size + 1 + 1, 0, none⟩ = some (.bool false) := (hr1.cell (p := ⟨w.heap.size + 1 + 1, 0, none⟩) (by go_size)).trans (by simp [go_sem])
    have f1x2o0 : w1.frozen? ⟨w.heap.size + 1 + 1, 0, none⟩ = false := (hr1.frozen (p := ⟨w.heap.size + 1 + 1, 0, none⟩) (by go_size)).trans (by simp [go_sem])
    have c1x2o1 : w1.cell? ⟨w.heap.size + 1 + 1, 1, none⟩ = some (.int .i64 0) := (hr1.cell (p := ⟨w.heap.size + 1 + 1, 1, none⟩) (by go_size)).trans (by simp [go_sem])
    have f1x2o1 : w1.frozen? ⟨w.heap.size + 1 + 1, 1, none⟩ = false := (hr1.frozen (p := ⟨w.heap.size + 1 + 1, 1, none⟩) (by go_size)).trans (by simp [go_sem])
    have c1x2o2 : w1.cell? ⟨w.heap.size + 1 + 1, 2, none⟩ = some (.int .i64 0) := (hr1.cell (p := ⟨w.heap.size + 1 + 1, 2, none⟩) (by go_size)).trans (by simp [go_sem])
    have f1x2o2 : w1.frozen? ⟨w.heap.size + 1 + 1, 2, none⟩ = false := (hr1.frozen (p := ⟨w.heap.size + 1 + 1, 2, none⟩) (by go_size)).trans (by simp [go_sem])
    have n1x0 : w.heap.size < w1.heap.size := by omega
    have n1x1 : w.heap.size + 1 < w1.heap.size := by omega
    have n1x2 : w.heap.size + 1 + 1 < w1.heap.size := by omega
    clear hr1 hb1
    simp only [ho1]
    go_wp2
    refine bodyPost_ret (v := .agg #[.bool false, .int .i64 0, .int .i64 0]) (by simp [results, Tryz.results66, go_sem, n1x0, n1x1, n1x2, c1x0o0, c1x0o1, c1x0o2, c1x1o0, c1x1o1, c1x1o2, c1x2o0, c1x2o1, c1x2o2]) rfl ⟨RetSp.mk (by simp [joinF, ho1, noSp]), ?_⟩
    go_grown
  · cases ho2 : okF b bl bh
    · go_enter Tryz.func66, Tryz.ntmps66
      go_wp2_with fail
      refine (ok_spec _ _ _ _).mono ?_
      rintro e w1 ⟨rfl, hr1⟩
      have hb1 : Below w.heap.size w w1 := ((((Below.refl _ _).alloc (by go_size) _).alloc (by go_size) _).alloc (by go_size) _).trans (hr1.mono (by go_size))
      have hz1 : w.heap.size + 3 ≤ w1.heap.size := by have := hr1.size; first | omega | (simp at this; omega)
      have hB1 : Below w.heap.size w w1 := hb1
      have c1x0o0 : w1.cell? ⟨w.heap.size, 0, none⟩ = some (.bool a) := (hr1.cell (p := ⟨w.heap.size, 0, none⟩) (by go_size)).trans (by simp [go_sem])
      have c1x0o1 : w1.cell? ⟨w.heap.size, 1, none⟩ = some (.int .i64 al) := (hr1.cell (p := ⟨w.heap.size, 1, none⟩) (by go_size)).trans (by simp [go_sem])
      have c1x0o2 : w1.cell? ⟨w.heap.size, 2, none⟩ = some (.int .i64 ah) := (hr1.cell (p := ⟨w.heap.size, 2, none⟩) (by go_size)).trans (by simp [go_sem])
      have c1x1o0 : w1.cell? ⟨w.heap.size + 1, 0, none⟩ = some (.bool b) := (hr1.cell (p := ⟨w.heap.size + 1, 0, none⟩) (by go_size)).trans (by simp [go_sem])
      have c1x1o1 : w1.cell? ⟨w.heap.size + 1, 1, none⟩ = some (.int .i64 bl) := (hr1.cell (p := ⟨w.heap.size + 1, 1, none⟩) (by go_size)).trans (by simp [go_sem])
      have c1x1o2 : w1.cell? ⟨w.heap.size + 1, 2, none⟩ = some (.int .i64 bh) := (hr1.cell (p := ⟨w.heap.size + 1, 2, none⟩) (by go_size)).trans (by simp [go_sem])
      have c1x2o0 : w1.cell? ⟨w.heap.size + 1 + 1, 0, none⟩ = some (.bool false) := (hr1.cell (p := ⟨w.heap.size + 1 + 1, 0, none⟩) (by go_size)).trans (by simp [go_sem])
      have f1x2o0 : w1.frozen? ⟨w.heap.size + 1 + 1, 0, none⟩ = false := (hr1.frozen (p := ⟨w.heap.size + 1 + 1, 0, none⟩) (by go_size)).trans (by simp [go_sem])
      have c1x2o1 : w1.cell? ⟨w.heap.size + 1 + 1, 1, none⟩ = some (.int .i64 0) := (hr1.cell (p := ⟨w.heap.size + 1 + 1, 1, none⟩) (by go_size)).trans (by simp [go_sem])
      have f1x2o1 : w1.frozen? ⟨w.heap.size + 1 + 1, 1, none⟩ = false := (hr1.frozen (p := ⟨w.heap.size + 1 + 1, 1, none⟩) (by go_size)).trans (by simp [go_sem])
      have c1x2o2 : w1.cell? ⟨w.heap.size + 1 + 1, 2, none⟩ = some (.int .i64 0) := (hr1.cell (p := ⟨w.heap.size + 1 + 1, 2, none⟩) (by go_size)).trans (by simp [go_sem])
      have f1x2o2 : w1.frozen? ⟨w.heap.size + 1 + 1, 2, none⟩ = false := (hr1.frozen (p := ⟨w.heap.size + 1 + 1, 2, none⟩) (by go_size)).trans (by simp [go_sem])
      have n1x0 : w.heap.size < w1.heap.size := by omega
      have n1x1 : w.heap.size + 1 < w1.heap.size := by omega
      have n1x2 : w.heap.size + 1 + 1 < w1.heap.size := by omega
      clear hr1 hb1
      simp only [ho1]
      go_wp2_with fail
      refine (ok_spec _ _ _ _).mono ?_
      rintro e w2 ⟨rfl, hr2⟩
      have hb2 : Below w1.heap.size w1 w2 := (Below.refl _ _).trans (hr2.mono (by go_size))
      have hz2 : w1.heap.size + 0 ≤ w2.heap.size := by have := hr2.size; first | omega | (simp at this; omega)
      have hB2 : Below w.heap.size w w2 := hB1.trans (hb2.mono (by go_size))
      have c2x0o0 : w2.cell? ⟨w.heap.size, 0, none⟩ = some (.bool a) := (hb2.cell (p := ⟨w.heap.size, 0, none⟩) (by go_size)).trans c1x0o0
      have c2x0o1 : w2.cell? ⟨w.heap.size, 1, none⟩ = some (.int .i64 al) := (hb2.cell (p := ⟨w.heap.size, 1, none⟩) (by go_size)).trans c1x0o1
      have c2x0o2 : w2.cell? ⟨w.heap.size, 2, none⟩ = some (.int .i64 ah) := (hb2.cell (p := ⟨w.heap.size, 2, none⟩) (by go_size)).trans c1x0o2
      have c2x1o0 : w2.cell? ⟨w.heap.size + 1, 0, none⟩ = some (.bool b) := (hb2.cell (p := ⟨w.heap.size + 1, 0, none⟩) (by go_size)).trans c1x1o0
      have c2x1o1 : w2.cell? ⟨w.heap.size + 1, 1, none⟩ = some (.int .i64 bl) := (hb2.cell (p := ⟨w.heap.size + 1, 1, none⟩) (by go_size)).trans c1x1o1
      have c2x1o2 : w2.cell? ⟨w.heap.size + 1, 2, none⟩ = some (.int .i64 bh) := (hb2.cell (p := ⟨w.heap.size + 1, 2, none⟩) (by go_size)).trans c1x1o2
      have c2x2o0 : w2.cell? ⟨w.heap.size + 1 + 1, 0, none⟩ = some (.bool false) := (hb2.cell (p := ⟨w.heap.size + 1 + 1, 0, none⟩) (by go_size)).trans c1x2o0
      have f2x2o0 : w2.frozen? ⟨w.heap.size + 1 + 1, 0, none⟩ = false := (hb2.frozen (p := ⟨w.heap.size + 1 + 1, 0, none⟩) (by go_size)).trans f1x2o0
      have c2x2o1 : w2.cell? ⟨w.heap.size + 1 + 1, 1, none⟩ = some (.int .i64 0) := (hb2.cell (p := ⟨w.heap.size + 1 + 1, 1, none⟩) (by go_size)).trans c1x2o1
      have f2x2o1 : w2.frozen? ⟨w.heap.size + 1 + 1, 1, none⟩ = false := (hb2.frozen (p := ⟨w.heap.size + 1 + 1, 1, none⟩) (by go_size)).trans f1x2o1
      have c2x2o2 : w2.cell? ⟨w.heap.size + 1 + 1, 2, none⟩ = some (.int .i64 0) := (hb2.cell (p := ⟨w.heap.size + 1 + 1, 2, none⟩) (by go_size)).trans c1x2o2
      have f2x2o2 : w2.frozen? ⟨w.heap.size + 1 + 1, 2, none⟩ = false := (hb2.frozen (p := ⟨w.heap.size + 1 + 1, 2, none⟩) (by go_size)).trans f1x2o2
      have n2x0 : w.heap.size < w2.heap.size := by omega
      have n2x1 : w.heap.size + 1 < w2.heap.size := by omega
      have n2x2 : w.heap.size + 1 + 1 < w2.heap.size := by omega
      clear n1x0 n1x1 n1x2 c1x0o0 c1x0o1 c1x0o2 c1x1o0 c1x1o1 c1x1o2 c1x2o0 c1x2o1 c1x2o2 f1x2o0 f1x2o1 f1x2o2
      clear hr2 hb2
      simp only [ho2]
      go_wp2
      refine bodyPost_ret (v := .agg #[.bool false, .int .i64 0, .int .i64 0]) (by simp [results, Tryz.results66, go_sem, n2x0, n2x1, n2x2, c2x0o0, c2x0o1, c2x0o2, c2x1o0, c2x1o1, c2x1o2, c2x2o0, c2x2o1, c2x2o2]) rfl ⟨RetSp.mk (by simp [joinF, ho1, ho2, noSp]), ?_⟩
      go_grown
    · cases a
      · go_enter Tryz.func66, Tryz.ntmps66
        go_wp2_with fail
        refine (ok_spec _ _ _ _).mono ?_
        rintro e w1 ⟨rfl, hr1⟩
        have hb1 : Below w.heap.size w w1 := ((((Below.refl _ _).alloc (by go_size) _).alloc (by go_size) _).alloc (by go_size) _).trans (hr1.mono (by go_size))
        have hz1 : w.heap.size + 3 ≤ w1.heap.size := by have := hr1.size; first | omega | (simp at this; omega)
        have hB1 : Below w.heap.size w w1 := hb1
        have c1x0o0 : w1.cell? ⟨w.heap.size, 0, none⟩ = some (.bool false) := (hr1.cell (p := ⟨w.heap.size, 0, none⟩) (by go_size)).trans (by simp [go_sem])
        have c1x0o1 : w1.cell? ⟨w.heap.size, 1, none⟩ = some (.int .i64 al) := (hr1.cell (p := ⟨w.heap.size, 1, none⟩) (by go_size)).trans (by simp [go_sem])
        have c1x0o2 : w1.cell? ⟨w.heap.size, 2, none⟩ = some (.int .i64 ah) := (hr1.cell (p := ⟨w.heap.size, 2, none⟩) (by go_size)).trans (by simp [go_sem])
        have c1x1o0 : w1.cell? ⟨w.heap.size + 1, 0, none⟩ = some (.bool b) := (hr1.cell (p := ⟨w.heap.size + 1, 0, none⟩) (by go_size)).trans (by simp [go_sem])
        have c1x1o1 : w1.cell? ⟨w.heap.size + 1, 1, none⟩ = some (.int .i64 bl) := (hr1.cell (p := ⟨w.heap.size + 1, 1, none⟩) (by go_size)).trans (by simp [go_sem])
        have c1x1o2 : w1.cell? ⟨w.heap.size + 1, 2, none⟩ = some (.int .i64 bh) := (hr1.cell (p := ⟨w.heap.size + 1, 2, none⟩) (by go_size)).trans (by simp [go_sem])
        have c1x2o0 : w1.cell? ⟨w.heap.size + 1 + 1, 0, none⟩ = some (.bool false) := (hr1.cell (p := ⟨w.heap.size + 1 + 1, 0, none⟩) (by go_size)).trans (by simp [go_sem])
        have f1x2o0 : w1.frozen? ⟨w.heap.size + 1 + 1, 0, none⟩ = false := (hr1.frozen (p := ⟨w.heap.size + 1 + 1, 0, none⟩) (by go_size)).trans (by simp [go_sem])
        have c1x2o1 : w1.cell? ⟨w.heap.size + 1 + 1, 1, none⟩ = some (.int .i64 0) := (hr1.cell (p := ⟨w.heap.size + 1 + 1, 1, none⟩) (by go_size)).trans (by simp [go_sem])
        have f1x2o1 : w1.frozen? ⟨w.heap.size + 1 + 1, 1, none⟩ = false := (hr1.frozen (p := ⟨w.heap.size + 1 + 1, 1, none⟩) (by go_size)).trans (by simp [go_sem])
        have c1x2o2 : w1.cell? ⟨w.heap.size + 1 + 1, 2, none⟩ = some (.int .i64 0) := (hr1.cell (p := ⟨w.heap.size + 1 + 1, 2, none⟩) (by go_size)).trans (by simp [go_sem])
        have f1x2o2 : w1.frozen? ⟨w.heap.size + 1 + 1, 2, none⟩ = false := (hr1.frozen (p := ⟨w.heap.size + 1 + 1, 2, none⟩) (by go_size)).trans (by simp [go_sem])
        have n1x0 : w.heap.size < w1.heap.size := by omega
        have n1x1 : w.heap.size + 1 < w1.heap.size := by omega
        have n1x2 : w.heap.size + 1 + 1 < w1.heap.size := by omega
        clear hr1 hb1
        simp only [ho1]
        go_wp2_with fail
        refine (ok_spec _ _ _ _).mono ?_
        rintro e w2 ⟨rfl, hr2⟩
        have hb2 : Below w1.heap.size w1 w2 := (Below.refl _ _).trans (hr2.mono (by go_size))
        have hz2 : w1.heap.size + 0 ≤ w2.heap.size := by have := hr2.size; first | omega | (simp at this; omega)
        have hB2 : Below w.heap.size w w2 := hB1.trans (hb2.mono (by go_size))
        have c2x0o0 : w2.cell? ⟨w.heap.size, 0, none⟩ = some (.bool false) := (hb2.cell (p := ⟨w.heap.size, 0, none⟩) (by go_size)).trans c1x0o0
        have c2x0o1 : w2.cell? ⟨w.heap.size, 1, none⟩ = some (.int .i64 al) := (hb2.cell (p := ⟨w.heap.size, 1, none⟩) (by go_size)).trans c1x0o1
        have c2x0o2 : w2.cell? ⟨w.heap.size, 2, none⟩ = some (.int .i64 ah) := (hb2.cell (p := ⟨w.heap.size, 2, none⟩) (by go_size)).trans c1x0o2
        have c2x1o0 : w2.cell? ⟨w.heap.size + 1, 0, none⟩ = some (.bool b) := (hb2.cell (p := ⟨w.heap.size + 1, 0, none⟩) (by go_size)).trans c1x1o0
        have c2x1o1 : w2.cell? ⟨w.heap.size + 1, 1, none⟩ = some (.int .i64 bl) := (hb2.cell (p := ⟨w.heap.size + 1, 1, none⟩) (by go_size)).trans c1x1o1
        have c2x1o2 : w2.cell? ⟨w.heap.size + 1, 2, none⟩ = some (.int .i64 bh) := (hb2.cell (p := ⟨w.heap.size + 1, 2, none⟩) (by go_size)).trans c1x1o2
        have c2x2o0 : w2.cell? ⟨w.heap.size + 1 + 1, 0, none⟩ = some (.bool false) := (hb2.cell (p := ⟨w.heap.size + 1 + 1, 0, none⟩) (by go_size)).trans c1x2o0
        have f2x2o0 : w2.frozen? ⟨w.heap.size + 1 + 1, 0, none⟩ = false := (hb2.frozen (p := ⟨w.heap.size + 1 + 1, 0, none⟩) (by go_size)).trans f1x2o0
        have c2x2o1 : w2.cell? ⟨w.heap.size + 1 + 1, 1, none⟩ = some (.int .i64 0) := (hb2.cell (p := ⟨w.heap.size + 1 + 1, 1, none⟩) (by go_size)).trans c1x2o1
        have f2x2o1 : w2.frozen? ⟨w.heap.size + 1 + 1, 1, none⟩ = false := (hb2.frozen (p := ⟨w.heap.size + 1 + 1, 1, none⟩) (by go_size)).trans f1x2o1
        have c2x2o2 : w2.cell? ⟨w.heap.size + 1 + 1, 2, none⟩ = some (.int .i64 0) := (hb2.cell (p := ⟨w.heap.size + 1 + 1, 2, none⟩) (by go_size)).trans c1x2o2
        have f2x2o2 : w2.frozen? ⟨w.heap.size + 1 + 1, 2, none⟩ = false := (hb2.frozen (p := ⟨w.heap.size + 1 + 1, 2, none⟩) (by go_size)).trans f1x2o2
        have n2x0 : w.heap.size < w2.heap.size := by omega
        have n2x1 : w.heap.size + 1 < w2.heap.size := by omega
        have n2x2 : w.heap.size + 1 + 1 < w2.heap.size := by omega
        clear n1x0 n1x1 n1x2 c1x0o0 c1x0o1 c1x0o2 c1x1o0 c1x1o1 c1x1o2 c1x2o0 c1x2o1 c1x2o2 f1x2o0 f1x2o1 f1x2o2
        clear hr2 hb2
        simp only [ho2]
        go_wp2
        refine bodyPost_ret (v := .agg #[.bool b, .int .i64 bl, .int .i64 bh]) (by simp [results, Tryz.results66, go_sem, n2x0, n2x1, n2x2, c2x0o0, c2x0o1, c2x0o2, c2x1o0, c2x1o1, c2x1o2, c2x2o0, c2x2o1, c2x2o2]) rfl ⟨RetSp.mk (by simp [joinF, ho1, ho2]), ?_⟩
        go_grown
      · cases b
        · go_enter Tryz.func66, Tryz.ntmps66
          go_wp2_with fail
          refine (ok_spec _ _ _ _).mono ?_
          rintro e w1 ⟨rfl, hr1⟩
          have hb1 : Below w.heap.size w w1 := ((((Below.refl _ _).alloc (by go_size) _).alloc (by go_size) _).alloc (by go_size) _).trans (hr1.mono (by go_size))
          have hz1 : w.heap.size + 3 ≤ w1.heap.size := by have := hr1.size; first | omega | (simp at this; omega)
          have hB1 : Below w.heap.size w w1 := hb1
          have c1x0o0 : w1.cell? ⟨w.heap.size, 0, none⟩ = some (.bool true) := (hr1.cell (p := ⟨w.heap.size, 0, none⟩) (by go_size)).trans (by simp [go_sem])
          have c1x0o1 : w1.cell? ⟨w.heap.size, 1, none⟩ = some (.int .i64 al) := (hr1.cell (p := ⟨w.heap.size, 1, none⟩) (by go_size)).trans (by simp [go_sem])
          have c1x0o2 : w1.cell? ⟨w.heap.size, 2, none⟩ = some (.int .i64 ah) := (hr1.cell (p := ⟨w.heap.size, 2, none⟩) (by go_size)).trans (by simp [go_sem])
          have c1x1o0 : w1.cell? ⟨w.heap.size + 1, 0, none⟩ = some (.bool false) := (hr1.cell (p := ⟨w.heap.size + 1, 0, none⟩) (by go_size)).trans (by simp [go_sem])
          have c1x1o1 : w1.cell? ⟨w.heap.size + 1, 1, none⟩ = some (.int .i64 bl) := (hr1.cell (p := ⟨w.heap.size + 1, 1, none⟩) (by go_size)).trans (by simp [go_sem])
          have c1x1o2 : w1.cell? ⟨w.heap.size + 1, 2, none⟩ = some (.int .i64 bh) := (hr1.cell (p := ⟨w.heap.size + 1, 2, none⟩) (by go_size)).trans (by simp [go_sem])
          have c1x2o0 : w1.cell? ⟨w.heap.size + 1 + 1, 0, none⟩ = some (.bool false) := (hr1.cell (p := ⟨w.heap.size + 1 + 1, 0, none⟩) (by go_size)).trans (by simp [go_sem])
          have f1x2o0 : w1.frozen? ⟨w.heap.size + 1 + 1, 0, none⟩ = false := (hr1.frozen (p := ⟨w.heap.size + 1 + 1, 0, none⟩) (by go_size)).trans (by simp [go_sem])
          have c1x2o1 : w1.cell? ⟨w.heap.size + 1 + 1, 1, none⟩ = some (.int .i64 0) := (hr1.cell (p := ⟨w.heap.size + 1 + 1, 1, none⟩) (by go_size)).trans (by simp [go_sem])
          have f1x2o1 : w1.frozen? ⟨w.heap.size + 1 + 1, 1, none⟩ = false := (hr1.frozen (p := ⟨w.heap.size + 1 + 1, 1, none⟩) (by go_size)).trans (by simp [go_sem])
          have c1x2o2 : w1.cell? ⟨w.heap.size + 1 + 1, 2, none⟩ = some (.int .i64 0) := (hr1.cell (p := ⟨w.heap.size + 1 + 1, 2, none⟩) (by go_size)).trans (by simp [go_sem])
          have f1x2o2 : w1.frozen? ⟨w.heap.size + 1 + 1, 2, none⟩ = false := (hr1.frozen (p := ⟨w.heap.size + 1 + 1, 2, none⟩) (by go_size)).trans (by simp [go_sem])
          have n1x0 : w.heap.size < w1.heap.size := by omega
          have n1x1 : w.heap.size + 1 < w1.heap.size := by omega
          have n1x2 : w.heap.size + 1 + 1 < w1.heap.size := by omega
          clear hr1 hb1
          simp only [ho1]
          go_wp2_with fail
          refine (ok_spec _ _ _ _).mono ?_
          rintro e w2 ⟨rfl, hr2⟩
          have hb2 : Below w1.heap.size w1 w2 := (Below.refl _ _).trans (hr2.mono (by go_size))
          have hz2 : w1.heap.size + 0 ≤ w2.heap.size := by have := hr2.size; first | omega | (simp at this; omega)
          have hB2 : Below w.heap.size w w2 := hB1.trans (hb2.mono (by go_size))
          have c2x0o0 : w2.cell? ⟨w.heap.size, 0, none⟩ = some (.bool true) := (hb2.cell (p := ⟨w.heap.size, 0, none⟩) (by go_size)).trans c1x0o0
          have c2x0o1 : w2.cell? ⟨w.heap.size, 1, none⟩ = some (.int .i64 al) := (hb2.cell (p := ⟨w.heap.size, 1, none⟩) (by go_size)).trans c1x0o1
          have c2x0o2 : w2.cell? ⟨w.heap.size, 2, none⟩ = some (.int .i64 ah) := (hb2.cell (p := ⟨w.heap.size, 2, none⟩) (by go_size)).trans c1x0o2
          have c2x1o0 : w2.cell? ⟨w.heap.size + 1, 0, none⟩ = some (.bool false) := (hb2.cell (p := ⟨w.heap.size + 1, 0, none⟩) (by go_size)).trans c1x1o0
          have c2x1o1 : w2.cell? ⟨w.heap.size + 1, 1, none⟩ = some (.int .i64 bl) := (hb2.cell (p := ⟨w.heap.size + 1, 1, none⟩) (by go_size)).trans c1x1o1
          have c2x1o2 : w2.cell? ⟨w.heap.size + 1, 2, none⟩ = some (.int .i64 bh) := (hb2.cell (p := ⟨w.heap.size + 1, 2, none⟩) (by go_size)).trans c1x1o2
          have c2x2o0 : w2.cell? ⟨w.heap.size + 1 + 1, 0, none⟩ = some (.bool false) := (hb2.cell (p := ⟨w.heap.size + 1 + 1, 0, none⟩) (by go_size)).trans c1x2o0
          have f2x2o0 : w2.frozen? ⟨w.heap.size + 1 + 1, 0, none⟩ = false := (hb2.frozen (p := ⟨w.heap.size + 1 + 1, 0, none⟩) (by go_size)).trans f1x2o0
          have c2x2o1 : w2.cell? ⟨w.heap.size + 1 + 1, 1, none⟩ = some (.int .i64 0) := (hb2.cell (p := ⟨w.heap.size + 1 + 1, 1, none⟩) (by go_size)).trans c1x2o1
          have f2x2o1 : w2.frozen? ⟨w.heap.size + 1 + 1, 1, none⟩ = false := (hb2.frozen (p := ⟨w.heap.size + 1 + 1, 1, none⟩) (by go_size)).trans f1x2o1
          have c2x2o2 : w2.cell? ⟨w.heap.size + 1 + 1, 2, none⟩ = some (.int .i64 0) := (hb2.cell (p := ⟨w.heap.size + 1 + 1, 2, none⟩) (by go_size)).trans c1x2o2
          have f2x2o2 : w2.frozen? ⟨w.heap.size + 1 + 1, 2, none⟩ = false := (hb2.frozen (p := ⟨w.heap.size + 1 + 1, 2, none⟩) (by go_size)).trans f1x2o2
          have n2x0 : w.heap.size < w2.heap.size := by omega
          have n2x1 : w.heap.size + 1 < w2.heap.size := by omega
          have n2x2 : w.heap.size + 1 + 1 < w2.heap.size := by omega
          clear n1x0 n1x1 n1x2 c1x0o0 c1x0o1 c1x0o2 c1x1o0 c1x1o1 c1x1o2 c1x2o0 c1x2o1 c1x2o2 f1x2o0 f1x2o1 f1x2o2
          clear hr2 hb2
          simp only [ho2]
          go_wp2
          refine bodyPost_ret (v := .agg #[.bool true, .int .i64 al, .int .i64 ah]) (by simp [results, Tryz.results66, go_sem, n2x0, n2x1, n2x2, c2x0o0, c2x0o1, c2x0o2, c2x1o0, c2x1o1, c2x1o2, c2x2o0, c2x2o1, c2x2o2]) rfl ⟨RetSp.mk (by simp [joinF, ho1, ho2]), ?_⟩
          go_grown
        · have hbd1 := (okF_bd ho1).2.2.2.2
          have hbd2 := (okF_bd ho2).2.2.2.2
          go_enter Tryz.func66, Tryz.ntmps66
          go_wp2_with fail
          refine (ok_spec _ _ _ _).mono ?_
          rintro e w1 ⟨rfl, hr1⟩
          have hb1 : Below w.heap.size w w1 := ((((Below.refl _ _).alloc (by go_size) _).alloc (by go_size) _).alloc (by go_size) _).trans (hr1.mono (by go_size))
          have hz1 : w.heap.size + 3 ≤ w1.heap.size := by have := hr1.size; first | omega | (simp at this; omega)
          have hB1 : Below w.heap.size w w1 := hb1
          have c1x0o0 : w1.cell? ⟨w.heap.size, 0, none⟩ = some (.bool true) := (hr1.cell (p := ⟨w.heap.size, 0, none⟩) (by go_size)).trans (by simp [go_sem])
          have c1x0o1 : w1.cell? ⟨w.heap.size, 1, none⟩ = some (.int .i64 al) := (hr1.cell (p := ⟨w.heap.size, 1, none⟩) (by go_size)).trans (by simp [go_sem])
          have c1x0o2 : w1.cell? ⟨w.heap.size, 2, none⟩ = some (.int .i64 ah) := (hr1.cell (p := ⟨w.heap.size, 2, none⟩) (by go_size)).trans (by simp [go_sem])
          have c1x1o0 : w1.cell? ⟨w.heap.size + 1, 0, none⟩ = some (.bool true) := (hr1.cell (p := ⟨w.heap.size + 1, 0, none⟩) (by go_size)).trans (by simp [go_sem])
          have c1x1o1 : w1.cell? ⟨w.heap.size + 1, 1, none⟩ = some (.int .i64 bl) := (hr1.cell (p := ⟨w.heap.size + 1, 1, none⟩) (by go_size)).trans (by simp [go_sem])
          have c1x1o2 : w1.cell? ⟨w.heap.size + 1, 2, none⟩ = some (.int .i64 bh) := (hr1.cell (p := ⟨w.heap.size + 1, 2, none⟩) (by go_size)).trans (by simp [go_sem])
          have c1x2o0 : w1.cell? ⟨w.heap.size + 1 + 1, 0, none⟩ = some (.bool false) := (hr1.cell (p := ⟨w.heap.size + 1 + 1, 0, none⟩) (by go_size)).trans (by simp [go_sem])
          have f1x2o0 : w1.frozen? ⟨w.heap.size + 1 + 1, 0, none⟩ = false := (hr1.frozen (p := ⟨w.heap.size + 1 + 1, 0, none⟩) (by go_size)).trans (by simp [go_sem])
          have c1x2o1 : w1.cell? ⟨w.heap.size + 1 + 1, 1, none⟩ = some (.int .i64 0) := (hr1.cell (p := ⟨w.heap.size + 1 + 1, 1, none⟩) (by go_size)).trans (by simp [go_sem])
          have f1x2o1 : w1.frozen? ⟨w.heap.size + 1 + 1, 1, none⟩ = false := (hr1.frozen (p := ⟨w.heap.size + 1 + 1, 1, none⟩) (by go_size)).trans (by simp [go_sem])
          have c1x2o2 : w1.cell? ⟨w.heap.size + 1 + 1, 2, none⟩ = some (.int .i64 0) := (hr1.cell (p := ⟨w.heap.size + 1 + 1, 2, none⟩) (by go_size)).trans (by simp [go_sem])
          have f1x2o2 : w1.frozen? ⟨w.heap.size + 1 + 1, 2, none⟩ = false := (hr1.frozen (p := ⟨w.heap.size + 1 + 1, 2, none⟩) (by go_size)).trans (by simp [go_sem])
          have n1x0 : w.heap.size < w1.heap.size := by omega
          have n1x1 : w.heap.size + 1 < w1.heap.size := by omega
          have n1x2 : w.heap.size + 1 + 1 < w1.heap.size := by omega
          clear hr1 hb1
          simp only [ho1]
          go_wp2_with fail
          refine (ok_spec _ _ _ _).mono ?_
          rintro e w2 ⟨rfl, hr2⟩
          have hb2 : Below w1.heap.size w1 w2 := (Below.refl _ _).trans (hr2.mono (by go_size))
          have hz2 : w1.heap.size + 0 ≤ w2.heap.size := by have := hr2.size; first | omega | (simp at this; omega)
          have hB2 : Below w.heap.size w w2 := hB1.trans (hb2.mono (by go_size))
          have c2x0o0 : w2.cell? ⟨w.heap.size, 0, none⟩ = some (.bool true) := (hb2.cell (p := ⟨w.heap.size, 0, none⟩) (by go_size)).trans c1x0o0
          have c2x0o1 : w2.cell? ⟨w.heap.size, 1, none⟩ = some (.int .i64 al) := (hb2.cell (p := ⟨w.heap.size, 1, none⟩) (by go_size)).trans c1x0o1
          have c2x0o2 : w2.cell? ⟨w.heap.size, 2, none⟩ = some (.int .i64 ah) := (hb2.cell (p := ⟨w.heap.size, 2, none⟩) (by go_size)).trans c1x0o2
          have c2x1o0 : w2.cell? ⟨w.heap.size + 1, 0, none⟩ = some (.bool true) := (hb2.cell (p := ⟨w.heap.size + 1, 0, none⟩) (by go_size)).trans c1x1o0
          have c2x1o1 : w2.cell? ⟨w.heap.size + 1, 1, none⟩ = some (.int .i64 bl) := (hb2.cell (p := ⟨w.heap.size + 1, 1, none⟩) (by go_size)).trans c1x1o1
          have c2x1o2 : w2.cell? ⟨w.heap.size + 1, 2, none⟩ = some (.int .i64 bh) := (hb2.cell (p := ⟨w.heap.size + 1, 2, none⟩) (by go_size)).trans c1x1o2
          have c2x2o0 : w2.cell? ⟨w.heap.size + 1 + 1, 0, none⟩ = some (.bool false) := (hb2.cell (p := ⟨w.heap.size + 1 + 1, 0, none⟩) (by go_size)).trans c1x2o0
          have f2x2o0 : w2.frozen? ⟨w.heap.size + 1 + 1, 0, none⟩ = false := (hb2.frozen (p := ⟨w.heap.size + 1 + 1, 0, none⟩) (by go_size)).trans f1x2o0
          have c2x2o1 : w2.cell? ⟨w.heap.size + 1 + 1, 1, none⟩ = some (.int .i64 0) := (hb2.cell (p := ⟨w.heap.size + 1 + 1, 1, none⟩) (by go_size)).trans c1x2o1
          have f2x2o1 : w2.frozen? ⟨w.heap.size + 1 + 1, 1, none⟩ = false := (hb2.frozen (p := ⟨w.heap.size + 1 + 1, 1, none⟩) (by go_size)).trans f1x2o1
          have c2x2o2 : w2.cell? ⟨w.heap.size + 1 + 1, 2, none⟩ = some (.int .i64 0) := (hb2.cell (p := ⟨w.heap.size + 1 + 1, 2, none⟩) (by go_size)).trans c1x2o2
          have f2x2o2 : w2.frozen? ⟨w.heap.size + 1 + 1, 2, none⟩ = false := (hb2.frozen (p := ⟨w.heap.size + 1 + 1, 2, none⟩) (by go_size)).trans f1x2o2
          have n2x0 : w.heap.size < w2.heap.size := by omega
          have n2x1 : w.heap.size + 1 < w2.heap.size := by omega
          have n2x2 : w.heap.size + 1 + 1 < w2.heap.size := by omega
          clear n1x0 n1x1 n1x2 c1x0o0 c1x0o1 c1x0o2 c1x1o0 c1x1o1 c1x1o2 c1x2o0 c1x2o1 c1x2o2 f1x2o0 f1x2o1 f1x2o2
          clear hr2 hb2
          simp only [ho2]
          go_wp2_with fail
          all_goals
            refine (l1Of_any _ _ _).mono ?_
            rintro e w3 ⟨hs3, hr3⟩
            obtain ⟨a3, l3, u3, hx3, rfl⟩ := hs3.out
            clear hs3
            have hb3 : Below w2.heap.size w2 w3 := (Below.refl _ _).trans (hr3.mono (by go_size))
            have hz3 : w2.heap.size + 0 ≤ w3.heap.size := by have := hr3.size; first | omega | (simp at this; omega)
            have hB3 : Below w.heap.size w w3 := hB2.trans (hb3.mono (by go_size))
            have c3x0o0 : w3.cell? ⟨w.heap.size, 0, none⟩ = some (.bool true) := (hb3.cell (p := ⟨w.heap.size, 0, none⟩) (by go_size)).trans c2x0o0
            have c3x0o1 : w3.cell? ⟨w.heap.size, 1, none⟩ = some (.int .i64 al) := (hb3.cell (p := ⟨w.heap.size, 1, none⟩) (by go_size)).trans c2x0o1
            have c3x0o2 : w3.cell? ⟨w.heap.size, 2, none⟩ = some (.int .i64 ah) := (hb3.cell (p := ⟨w.heap.size, 2, none⟩) (by go_size)).trans c2x0o2
            have c3x1o0 : w3.cell? ⟨w.heap.size + 1, 0, none⟩ = some (.bool true) := (hb3.cell (p := ⟨w.heap.size + 1, 0, none⟩) (by go_size)).trans c2x1o0
            have c3x1o1 : w3.cell? ⟨w.heap.size + 1, 1, none⟩ = some (.int .i64 bl) := (hb3.cell (p := ⟨w.heap.size + 1, 1, none⟩) (by go_size)).trans c2x1o1
            have c3x1o2 : w3.cell? ⟨w.heap.size + 1, 2, none⟩ = some (.int .i64 bh) := (hb3.cell (p := ⟨w.heap.size + 1, 2, none⟩) (by go_size)).trans c2x1o2
            have c3x2o0 : w3.cell? ⟨w.heap.size + 1 + 1, 0, none⟩ = some (.bool false) := (hb3.cell (p := ⟨w.heap.size + 1 + 1, 0, none⟩) (by go_size)).trans c2x2o0
            have f3x2o0 : w3.frozen? ⟨w.heap.size + 1 + 1, 0, none⟩ = false := (hb3.frozen (p := ⟨w.heap.size + 1 + 1, 0, none⟩) (by go_size)).trans f2x2o0
            have c3x2o1 : w3.cell? ⟨w.heap.size + 1 + 1, 1, none⟩ = some (.int .i64 0) := (hb3.cell (p := ⟨w.heap.size + 1 + 1, 1, none⟩) (by go_size)).trans c2x2o1
            have f3x2o1 : w3.frozen? ⟨w.heap.size + 1 + 1, 1, none⟩ = false := (hb3.frozen (p := ⟨w.heap.size + 1 + 1, 1, none⟩) (by go_size)).trans f2x2o1
            have c3x2o2 : w3.cell? ⟨w.heap.size + 1 + 1, 2, none⟩ = some (.int .i64 0) := (hb3.cell (p := ⟨w.heap.size + 1 + 1, 2, none⟩) (by go_size)).trans c2x2o2
            have f3x2o2 : w3.frozen? ⟨w.heap.size + 1 + 1, 2, none⟩ = false := (hb3.frozen (p := ⟨w.heap.size + 1 + 1, 2, none⟩) (by go_size)).trans f2x2o2
            have n3x0 : w.heap.size < w3.heap.size := by omega
            have n3x1 : w.heap.size + 1 < w3.heap.size := by omega
            have n3x2 : w.heap.size + 1 + 1 < w3.heap.size := by omega
            clear n2x0 n2x1 n2x2 c2x0o0 c2x0o1 c2x0o2 c2x1o0 c2x1o1 c2x1o2 c2x2o0 c2x2o1 c2x2o2 f2x2o0 f2x2o1 f2x2o2
            clear hr3 hb3
            go_wp2
            refine bodyPost_ret (v := .agg #[.bool a3, .int .i64 l3, .int .i64 u3]) (by simp [results, Tryz.results66, go_sem, n3x0, n3x1, n3x2, c3x0o0, c3x0o1, c3x0o2, c3x1o0, c3x1o1, c3x1o2, c3x2o0, c3x2o1, c3x2o2]) rfl ⟨RetSp.mk ((join_mk ho1 ho2 (by omega) (by omega)).trans hx3), ?_⟩
            go_grown

end Go.Proofs.YtlkebkajdlgebaaGreat

/-
  The contracts of the laws' own helpers that copy sums: toSum, toSumS.
-/
namespace Go.Proofs.YtlkebkajdlgebaaGreat
open Go.RowKit
set_option linter.unusedVariables false
set_option linter.unusedSimpArgs false

theorem RowsD.off {x : World} {B : Nat} {v : Value} {R : List Rw} (h : RowsD x B v R) {b q : Nat} {u : Value} (hb : b < B) : RowsD (x.setCell ⟨b, q, none⟩ u) B v R := h.offL (M := [u]) hb
set_option maxRecDepth 100000 in
set_option maxHeartbeats 4000000 in
theorem toSum_new (x : World) (n0 : Int) (s : Value) (R : List Rw) (h : RowsAt x s R) (hsz : rowsSz R) :
    Calls Tryz.prog 11 #[.agg #[.int .i64 n0, s]] x fun e y => ∃ u, e = .returned (.agg #[.int .i64 n0, u]) ∧ RowsD y x.heap.size u R ∧ Below x.heap.size x y := by
  obtain ⟨p, cap, rfl, _⟩ := h.shape
  have HF : Hid (RowsAt x (.slice p R.length cap) R) := h
  have HA : Hid (rowsSz R) := hsz
  clear h hsz
  generalize hL : R.length = n at *
  have HL : Hid (R.length = n) := hL
  clear hL
  go_enter Tryz.func11, Tryz.ntmps11
  go_wp2_with fail
  generalize hX : ((x.alloc (.cells #[.int .i64 n0, .slice p n cap] 25)).alloc (.cells #[.int .i64 0, .slice none 0 0] 33)).alloc (.cells #[.int .i64 n0, .slice none 0 0] 33) = X
  have HB : Hid (Below x.heap.size x X) := by show Below _ _ _; rw [← hX]; exact (((Below.refl _ _).alloc (Nat.le_refl _) _).alloc (by simp) _).alloc (by simp; omega) _
  have hsz : X.heap.size = x.heap.size + 3 := by rw [← hX]; simp
  have K1 : Hid (BxN X (x.heap.size + 1) [.int .i64 0, .slice none 0 0]) := by
    show BxN _ _ _; rw [← hX]
    have := (BxN.new (x.alloc (.cells #[.int .i64 n0, .slice p n cap] 25)) [.int .i64 0, .slice none 0 0] 33).later ((Below.refl _ _).alloc (Nat.le_refl _) (.cells #[.int .i64 n0, .slice none 0 0] 33))
    simpa using this
  have K2 : Hid (BxN X (x.heap.size + 1 + 1) [.int .i64 n0, .slice none 0 0]) := by
    show BxN _ _ _; rw [← hX]
    have := BxN.new ((x.alloc (.cells #[.int .i64 n0, .slice p n cap] 25)).alloc (.cells #[.int .i64 0, .slice none 0 0] 33)) [.int .i64 n0, .slice none 0 0] 33
    simpa using this
  clear hX
  refine (toRowS_new X _ R (HF.out.later HB.out) HA.out).mono ?_
  rintro e y ⟨v1, rfl, h1, hb⟩
  obtain ⟨q1, c1, rfl, _⟩ := h1.rows.shape
  rw [HL.out] at h1 ⊢
  have HB1 : Hid (Below x.heap.size x y) := HB.out.trans (hb.mono HB.out.size)
  have P1 := K1.out.later hb
  have P2 := K2.out.later hb
  have H1 : Hid (RowsD y (x.heap.size + 3) (.slice q1 n c1) R) := h1.lower (by omega)
  have hs1 : x.heap.size + 3 ≤ y.heap.size := by have := hb.size; omega
  clear h1 hb K1 K2 HB hsz
  have r0 := P1.c 0 _ rfl
  have r1 := P1.c 1 _ rfl
  have g0 := P1.fz 0
  have g1 := P1.fz 1
  have b0 := P2.c 0 _ rfl
  have b1 := P2.c 1 _ rfl
  have f1 := P2.fz 1
  have l1 : x.heap.size + 1 < y.heap.size := by omega
  have l2 : x.heap.size + 1 + 1 < y.heap.size := by omega
  clear P1 P2
  go_wp2_with fail
  refine bodyPost_ret (v := .agg #[.int .i64 n0, .slice q1 n c1]) (by simp [results, Tryz.results11, go_sem, l1, l2, b0, b1, r0, r1, g0, g1, f1]) rfl ⟨_, rfl, ?_, ?_⟩
  · refine RowsD.lower (B := x.heap.size + 3) ?_ (by omega)
    repeat (refine RowsD.off ?_ (by omega))
    exact H1.out
  · repeat (refine Below.setCell ?_ (by simp <;> omega) _)
    exact HB1.out

/-- the two cells of a sum whose rows lie in blocks from B on -/
structure SmD (x : World) (B g o : Nat) (s : Sm) : Prop where
  c0 : x.cell? ⟨g, o, none⟩ = some (.int .i64 s.p)
  c1 : ∃ u, x.cell? ⟨g, o + 1, none⟩ = some u ∧ RowsD x B u s.R
theorem SmD.smc {x : World} {B g o : Nat} {s : Sm} (h : SmD x B g o s) : SmC x g o s := by
  obtain ⟨c0, ⟨u1, c1, i1⟩⟩ := h
  exact ⟨c0, ⟨u1, c1, i1.rows⟩⟩
theorem SmD.later {x y : World} {B g o : Nat} {s : Sm} (h : SmD x B g o s) (hb : Below x.heap.size x y) (hg : g < x.heap.size) : SmD y B g o s := by
  obtain ⟨c0, ⟨u1, c1, i1⟩⟩ := h
  exact ⟨(hb.cell (p := ⟨g, _, none⟩) hg).trans c0, ⟨u1, (hb.cell (p := ⟨g, _, none⟩) hg).trans c1, i1.later hb⟩⟩
theorem SmD.off {x : World} {B g o q : Nat} {s : Sm} {M : List Value} (h : SmD x B g o s) (hB : g < B) (ho : o + 2 ≤ q ∨ q + M.length ≤ o) : SmD (setL x g q M) B g o s := by
  obtain ⟨c0, ⟨u1, c1, i1⟩⟩ := h
  exact ⟨(setL_miss _ _ _ _ _ _ (by omega)).trans c0, ⟨u1, (setL_miss _ _ _ _ _ _ (by omega)).trans c1, i1.offL hB⟩⟩
theorem infoSum : (Tryz.prog.info? 33).map (fun i => (i.zero, i.size, i.bytes)) = some (some (.agg #[.int .i64 0, .slice none 0 0]), 2, 32) := by kernel_rfl
set_option maxRecDepth 100000 in
set_option maxHeartbeats 4000000 in
theorem toSumS_any (x : World) (v : Value) (M : List Sm) (h : SmsAt x v M) (hsz : smsSz M) :
    Calls Tryz.prog 17 #[v] x fun e y => ∃ u, e = .returned u ∧ SmsAt y u M ∧ Below x.heap.size x y := by
  obtain ⟨i, hi, hz0, hz1, hz2⟩ : ∃ i, Tryz.prog.info? 33 = some i ∧ i.zero = some (.agg #[.int .i64 0, .slice none 0 0]) ∧ i.size = 2 ∧ i.bytes = 32 := info_parts infoSum
  have HI : Hid (Tryz.prog.info? 33 = some i ∧ i.zero = some (.agg #[.int .i64 0, .slice none 0 0]) ∧ i.size = 2 ∧ i.bytes = 32) := ⟨hi, hz0, hz1, hz2⟩
  clear hi hz0 hz1 hz2
  obtain ⟨p, cap, rfl, hm, hc⟩ := h
  obtain ⟨hn, hall⟩ := hsz
  generalize hL : M.length = n at *
  have HL : Hid (M.length = n) := hL
  have HN : Hid (n ≤ 1048576) := hn
  have HA : Hid (∀ j, j < n → rowsSz (M.getD j sm0).R) := hall
  have hni : (n : Int) ≤ 1048576 := by omega
  have HM : Hid (n ≤ maxLen) := hm
  clear hL hn hm hall
  go_enter Tryz.func17, Tryz.ntmps17
  go_wp2_with (refine wpList_make_full _ rfl _ _ 41 rfl x.heap.size 33 i (.agg #[.int .i64 0, .slice none 0 0]) 2 Tryz.underlying41 HI.out.1 HI.out.2.1 HI.out.2.2.1 .i64 .i64 n n n rfl rfl rfl rfl ?b2 HM.out (Nat.le_refl _) ?_)
  case b2 => rw [HI.out.2.2.2]; have := HN.out; omega
  intro w1 hown0 hgr
  obtain ⟨xs, hown⟩ : ∃ xs, w1.ownsRow x.heap.size 33 2 (.slice (some ⟨x.heap.size, 0, none⟩) n n) n xs := ⟨_, hown0⟩
  clear hown0
  have hg1 : x.heap.size < w1.heap.size := (World.ownsRow.lt hown x.heap.size rfl).2
  have hB1 : Below x.heap.size x w1 := (Below.refl _ _).grown hgr (Nat.le_refl _) (fun k hk => by simp at hk)
  have hcell : ∀ k, k < n * 2 → ∃ v, w1.cell? ⟨x.heap.size, k, none⟩ = some v := by
    intro k hk
    have hl : k < xs.length := by rw [hown.1]; exact hk
    have := World.ownsRow.cells hown rfl k _ (List.getElem?_eq_getElem hl)
    rw [Addr.add_mid, Nat.zero_add] at this
    exact ⟨_, this⟩
  have hfz : ∀ k, w1.frozen? ⟨x.heap.size, k, none⟩ = false := fun k => World.ownsRow.frozenAt hown k
  clear hown hgr
  go_wp2_with fail
  go_loopw [4] (fun t y => ∃ k : Nat, k ≤ n ∧ t = .int .i64 k ∧ Below x.heap.size x y ∧ x.heap.size < y.heap.size ∧ (∀ j, j < n * 2 → ∃ v, y.cell? ⟨x.heap.size, j, none⟩ = some v) ∧ (∀ j, y.frozen? ⟨x.heap.size, j, none⟩ = false) ∧ (∀ j, j < k → SmD y (x.heap.size + 1) x.heap.size (j * 2) (M.getD j sm0))) (fun t _ => n - (intOf t).toNat)
  case atStart => exact ⟨0, by omega, rfl, hB1, hg1, hcell, hfz, fun j hj => by omega⟩
  case round =>
    clear hB1 hg1 hcell hfz
    obtain ⟨k, hk, rfl, hB, hg, hcell, hfz, hdone⟩ := hrel
    by_cases hlt : k < n
    · rcases hc with h0 | ⟨g, o, rfl, hgx, hins⟩
      · omega
      have hki : (k : Int) < (n : Int) := by omega
      obtain ⟨d0, ⟨u1, d1, i1⟩⟩ := (hins k hlt).later hB hgx
      have HC : Hid (∀ j, j < n * 2 → ∃ v, wr.cell? ⟨x.heap.size, j, none⟩ = some v) := hcell
      have HF : Hid (∀ j, wr.frozen? ⟨x.heap.size, j, none⟩ = false) := hfz
      have HD : Hid (∀ j, j < k → SmD wr (x.heap.size + 1) x.heap.size (j * 2) (M.getD j sm0)) := hdone
      have HBB : Hid (Below x.heap.size x wr) := hB
      have HLL : Hid (rowsSz (M.getD k sm0).R) := HA.out k hlt
      have HI1 : Hid (RowsAt wr u1 (M.getD k sm0).R) := i1
      obtain ⟨p1, k1, rfl, _⟩ := i1.shape
      clear hcell hdone hins hfz i1 hB
      generalize hI : M.getD k sm0 = f at *
      have HII : Hid (M.getD k sm0 = f) := hI
      clear hI
      go_wp2_with fail
      refine (toSum_new wr f.p _ f.R HI1.out HLL.out).mono ?_
      rintro e w2 ⟨v3, rfl, q3, hb2⟩
      obtain ⟨p3', k3', rfl, _⟩ := q3.rows.shape
      have H3 : Hid (RowsD w2 (x.heap.size + 1) (.slice p3' f.R.length k3') f.R) := q3.lower (by omega)
      have HB2 : Hid (Below x.heap.size x w2) := HBB.out.trans (hb2.mono HBB.out.size)
      have HC2 : Hid (∀ j, j < n * 2 → ∃ v, w2.cell? ⟨x.heap.size, j, none⟩ = some v) := fun j hj => by
        obtain ⟨v, hv⟩ := HC.out j hj
        exact ⟨v, (hb2.cell (p := ⟨x.heap.size, j, none⟩) hg).trans hv⟩
      have HF2 : Hid (∀ j, w2.frozen? ⟨x.heap.size, j, none⟩ = false) := fun j => (hb2.frozen (p := ⟨x.heap.size, j, none⟩) hg).trans (HF.out j)
      have HD2 : Hid (∀ j, j < k → SmD w2 (x.heap.size + 1) x.heap.size (j * 2) (M.getD j sm0)) := fun j hj => (HD.out j hj).later hb2 hg
      have hg2 : x.heap.size < w2.heap.size := Nat.lt_of_lt_of_le hg hb2.size
      obtain ⟨e0, z0⟩ := HC2.out (k * 2) (by omega)
      obtain ⟨e1, z1⟩ := HC2.out (k * 2 + 1) (by omega)
      have f0 := HF2.out (k * 2)
      have f1 := HF2.out (k * 2 + 1)
      clear d0 d1 q3 hb2 HC HF HD HBB HI1 HLL
      go_wp2_with fail
      go_roundw
      case rel =>
        refine ⟨k + 1, by omega, by go_num, ?_⟩
        generalize hM : [Value.int .i64 f.p, .slice p3' f.R.length k3'] = N
        have hMl : N.length = 2 := by rw [← hM]; rfl
        have hgo : ∀ y, y = setL w2 x.heap.size (k * 2) N → (Below x.heap.size x y ∧ x.heap.size < y.heap.size ∧ (∀ j, j < n * 2 → ∃ v, y.cell? ⟨x.heap.size, j, none⟩ = some v) ∧ (∀ j, y.frozen? ⟨x.heap.size, j, none⟩ = false) ∧ (∀ j, j < k + 1 → SmD y (x.heap.size + 1) x.heap.size (j * 2) (M.getD j sm0))) := by
          intro y hy
          subst hy
          refine ⟨setL_below N HB2.out (Nat.le_refl _), by rw [setL_size]; exact hg2, fun j hj => setL_some _ _ _ _ _ (HC2.out j hj), fun j => (setL_frozen _ _ _ _ _).trans (HF2.out j), fun j hj => ?_⟩
          by_cases hjk : j = k
          · subst hjk
            rw [HII.out]
            have hh := setL_hit w2 x.heap.size (j * 2) N (fun i hi => HC2.out _ (by omega))
            subst hM
            exact ⟨hh 0 _ rfl, ⟨_, hh 1 _ rfl, H3.out.offL (by omega)⟩⟩
          · exact (HD2.out j (by omega)).off (by omega) (by omega)
        exact hgo _ (by rw [← hM]; rfl)
      case measure => simp [intOf]; omega
    · obtain rfl : k = n := by omega
      have hki : ¬ (k : Int) < (k : Int) := by omega
      have HD : Hid (∀ j, j < k → SmD wr (x.heap.size + 1) x.heap.size (j * 2) (M.getD j sm0)) := hdone
      clear hcell hdone hc hfz
      go_wp2_with fail
      go_ret
      exact ⟨_, rfl, ⟨some ⟨x.heap.size, 0, none⟩, k, by rw [HL.out]; rfl, by rw [HL.out]; exact HM.out, .inr ⟨x.heap.size, 0, rfl, hg, fun j hj => by rw [Nat.zero_add]; rw [HL.out] at hj; exact (HD.out j hj).smc⟩⟩, hB⟩

end Go.Proofs.YtlkebkajdlgebaaGreat

/-
  The laws' own helpers on sums: the same (eqRow, eqRowS, eqSum, eqSumS).
-/
namespace Go.Proofs.YtlkebkajdlgebaaGreat
open Go.RowKit
set_option linter.unusedVariables false
set_option linter.unusedSimpArgs false

set_option maxRecDepth 100000 in
set_option maxHeartbeats 4000000 in
theorem eqRow_any (x : World) (b0 : Bool) (n1 n2 : Int) (ns nc : Nat) (S C : Nat → Int) (u v u' v' : Value) (hu : IRowW 3 x u ns S) (hv : IRowW 2 x v nc C) (hu' : IRowW 3 x u' ns S) (hv' : IRowW 2 x v' nc C) :
    Calls Tryz.prog 61 #[.agg #[.bool b0, .int .i64 n1, .int .i64 n2, u, v], .agg #[.bool b0, .int .i64 n1, .int .i64 n2, u', v']] x fun e y => e = .returned (.bool true) ∧ Below x.heap.size x y := by
  obtain ⟨p, k, rfl⟩ := hu.shape
  obtain ⟨q, l, rfl⟩ := hv.shape
  obtain ⟨p', k', rfl⟩ := hu'.shape
  obtain ⟨q', l', rfl⟩ := hv'.shape
  have HU : Hid (IRowW 3 x (.slice p ns k) ns S) := hu
  have HV : Hid (IRowW 2 x (.slice q nc l) nc C) := hv
  have HU' : Hid (IRowW 3 x (.slice p' ns k') ns S) := hu'
  have HV' : Hid (IRowW 2 x (.slice q' nc l') nc C) := hv'
  clear hu hv hu' hv'
  go_enter Tryz.func61, Tryz.ntmps61
  go_wp2_with fail
  generalize hX : (x.alloc (.cells #[.bool b0, .int .i64 n1, .int .i64 n2, .slice p ns k, .slice q nc l] 71)).alloc (.cells #[.bool b0, .int .i64 n1, .int .i64 n2, .slice p' ns k', .slice q' nc l'] 71) = X
  have HB : Hid (Below x.heap.size x X) := by show Below _ _ _; rw [← hX]; exact ((Below.refl _ _).alloc (Nat.le_refl _) _).alloc (by simp) _
  have K0 : Hid (BxN X x.heap.size [.bool b0, .int .i64 n1, .int .i64 n2, .slice p ns k, .slice q nc l]) := by
    show BxN _ _ _; rw [← hX]; exact (BxN.new x [_, _, _, _, _] _).later ((Below.refl _ _).alloc (Nat.le_refl _) _)
  have K1 : Hid (BxN X (x.heap.size + 1) [.bool b0, .int .i64 n1, .int .i64 n2, .slice p' ns k', .slice q' nc l']) := by
    show BxN _ _ _; rw [← hX]
    have := BxN.new (x.alloc (.cells #[.bool b0, .int .i64 n1, .int .i64 n2, .slice p ns k, .slice q nc l] 71)) [.bool b0, .int .i64 n1, .int .i64 n2, .slice p' ns k', .slice q' nc l'] 71
    simpa using this
  clear hX
  refine (eqSpan_same b0 n1 n2 X).mono ?_
  rintro e y ⟨rfl, hb⟩
  have HB1 : Hid (Below x.heap.size x y) := HB.out.trans (hb.mono HB.out.size)
  have J0 := K0.out.laterH hb
  have J1 := K1.out.laterH hb
  clear hb K0 K1 HB
  have a3 := J0.out.c 3 _ rfl
  have b3 := J1.out.c 3 _ rfl
  have l0 := J0.out.lt
  have l1 := J1.out.lt
  go_wp2_with fail
  refine (eqSiteS_any y false false _ _ _ _ _ _ ns S (HU.out.later HB1.out) (HU'.out.later HB1.out)).mono ?_
  rintro e z ⟨rfl, hb⟩
  have HB2 : Hid (Below x.heap.size x z) := HB1.out.trans (hb.mono HB1.out.size)
  have M0 := J0.out.laterH hb
  have M1 := J1.out.laterH hb
  clear hb J0 J1 HB1 a3 b3 l0 l1
  have a4 := M0.out.c 4 _ rfl
  have b4 := M1.out.c 4 _ rfl
  have l0 := M0.out.lt
  have l1 := M1.out.lt
  go_wp2_with fail
  refine (eqCallS_any z false false _ _ _ _ _ _ nc C (HV.out.later HB2.out) (HV'.out.later HB2.out)).mono ?_
  rintro e z2 ⟨rfl, hb⟩
  have hB := HB2.out.trans (hb.mono HB2.out.size)
  clear hb M0 M1 a4 b4
  go_wp2_with fail
  go_ret
  exact ⟨rfl, hB⟩

theorem keepRw {w y : World} {g o g' o' k : Nat} {b0 : Bool} {n1 n2 : Int} {ns nc k1 k2 k3 k4 : Nat} {p1 p2 p3 p4 : Option Addr} (h : (fun z : World => z.cell? ⟨g, o + k * 5, none⟩ = some (.bool b0) ∧ z.cell? ⟨g, o + k * 5 + 1, none⟩ = some (.int .i64 n1) ∧ z.cell? ⟨g, o + k * 5 + 2, none⟩ = some (.int .i64 n2) ∧ z.cell? ⟨g, o + k * 5 + 3, none⟩ = some (.slice p1 ns k1) ∧ z.cell? ⟨g, o + k * 5 + 4, none⟩ = some (.slice p2 nc k2) ∧ z.cell? ⟨g', o' + k * 5, none⟩ = some (.bool b0) ∧ z.cell? ⟨g', o' + k * 5 + 1, none⟩ = some (.int .i64 n1) ∧ z.cell? ⟨g', o' + k * 5 + 2, none⟩ = some (.int .i64 n2) ∧ z.cell? ⟨g', o' + k * 5 + 3, none⟩ = some (.slice p3 ns k3) ∧ z.cell? ⟨g', o' + k * 5 + 4, none⟩ = some (.slice p4 nc k4)) w) (hb : Below w.heap.size w y) (hg : g < w.heap.size) (hg' : g' < w.heap.size) : (fun z : World => z.cell? ⟨g, o + k * 5, none⟩ = some (.bool b0) ∧ z.cell? ⟨g, o + k * 5 + 1, none⟩ = some (.int .i64 n1) ∧ z.cell? ⟨g, o + k * 5 + 2, none⟩ = some (.int .i64 n2) ∧ z.cell? ⟨g, o + k * 5 + 3, none⟩ = some (.slice p1 ns k1) ∧ z.cell? ⟨g, o + k * 5 + 4, none⟩ = some (.slice p2 nc k2) ∧ z.cell? ⟨g', o' + k * 5, none⟩ = some (.bool b0) ∧ z.cell? ⟨g', o' + k * 5 + 1, none⟩ = some (.int .i64 n1) ∧ z.cell? ⟨g', o' + k * 5 + 2, none⟩ = some (.int .i64 n2) ∧ z.cell? ⟨g', o' + k * 5 + 3, none⟩ = some (.slice p3 ns k3) ∧ z.cell? ⟨g', o' + k * 5 + 4, none⟩ = some (.slice p4 nc k4)) y := by
  obtain ⟨d0, d1, d2, d3, d4, e0, e1, e2, e3, e4⟩ := h
  exact ⟨(hb.cell (p := ⟨g, _, none⟩) hg).trans d0, (hb.cell (p := ⟨g, _, none⟩) hg).trans d1, (hb.cell (p := ⟨g, _, none⟩) hg).trans d2, (hb.cell (p := ⟨g, _, none⟩) hg).trans d3, (hb.cell (p := ⟨g, _, none⟩) hg).trans d4, (hb.cell (p := ⟨g', _, none⟩) hg').trans e0, (hb.cell (p := ⟨g', _, none⟩) hg').trans e1, (hb.cell (p := ⟨g', _, none⟩) hg').trans e2, (hb.cell (p := ⟨g', _, none⟩) hg').trans e3, (hb.cell (p := ⟨g', _, none⟩) hg').trans e4⟩
set_option maxRecDepth 100000 in
set_option maxHeartbeats 4000000 in
theorem eqRowS_any (x : World) (v u : Value) (F : List Rw) (h : RowsAt x v F) (h' : RowsAt x u F) :
    Calls Tryz.prog 38 #[v, u] x fun e y => e = .returned (.bool true) ∧ Below x.heap.size x y := by
  obtain ⟨p, cap, rfl, hm, hc⟩ := h
  obtain ⟨p', cap', rfl, _, hc'⟩ := h'
  generalize hL : F.length = n at *
  unfold maxLen at hm
  have hni : (n : Int) ≤ 9223372036854775807 := by omega
  clear hL hm
  go_enter Tryz.func38, Tryz.ntmps38
  go_wp2_with fail
  go_loopw [5] (fun t y => ∃ k : Nat, k ≤ n ∧ t = .int .i64 k ∧ Below x.heap.size x y) (fun t _ => n - (intOf t).toNat)
  case atStart => exact ⟨0, by omega, rfl, Below.refl _ _⟩
  case round =>
    obtain ⟨k, hk, rfl, hB⟩ := hrel
    by_cases hlt : k < n
    · rcases hc with h0 | ⟨g, o, rfl, hgx, hins⟩
      · omega
      rcases hc' with h0 | ⟨g', o', rfl, hgx', hins'⟩
      · omega
      have hki : (k : Int) < (n : Int) := by omega
      obtain ⟨d0, d1, d2, ⟨u3, d3, i3⟩, ⟨u4, d4, i4⟩⟩ := (hins k hlt).later hB hgx
      obtain ⟨e0, e1, e2, ⟨u3', e3, i3'⟩, ⟨u4', e4, i4'⟩⟩ := (hins' k hlt).later hB hgx'
      clear hins hins'
      generalize F.getD k rw0 = f at *
      obtain ⟨⟨b0, n1, n2⟩, ns, S, nc, C⟩ := f
      simp only at d0 d1 d2 d3 d4 e0 e1 e2 e3 e4 i3 i4 i3' i4'
      obtain ⟨p1, k1, rfl⟩ := i3.shape
      obtain ⟨p2, k2, rfl⟩ := i4.shape
      obtain ⟨p3, k3, rfl⟩ := i3'.shape
      obtain ⟨p4, k4, rfl⟩ := i4'.shape
      have I1 : Hid (IRowW 3 wr (.slice p1 ns k1) ns S) := i3
      have I2 : Hid (IRowW 2 wr (.slice p2 nc k2) nc C) := i4
      have I3 : Hid (IRowW 3 wr (.slice p3 ns k3) ns S) := i3'
      have I4 : Hid (IRowW 2 wr (.slice p4 nc k4) nc C) := i4'
      clear i3 i4 i3' i4'
      have hgw : g < wr.heap.size := Nat.lt_of_lt_of_le hgx hB.size
      have hgw' : g' < wr.heap.size := Nat.lt_of_lt_of_le hgx' hB.size
      go_wp2_with fail
      go_region_held3 (fun z => z.cell? ⟨g, o + k * 5, none⟩ = some (.bool b0) ∧ z.cell? ⟨g, o + k * 5 + 1, none⟩ = some (.int .i64 n1) ∧ z.cell? ⟨g, o + k * 5 + 2, none⟩ = some (.int .i64 n2) ∧ z.cell? ⟨g, o + k * 5 + 3, none⟩ = some (.slice p1 ns k1) ∧ z.cell? ⟨g, o + k * 5 + 4, none⟩ = some (.slice p2 nc k2) ∧ z.cell? ⟨g', o' + k * 5, none⟩ = some (.bool b0) ∧ z.cell? ⟨g', o' + k * 5 + 1, none⟩ = some (.int .i64 n1) ∧ z.cell? ⟨g', o' + k * 5 + 2, none⟩ = some (.int .i64 n2) ∧ z.cell? ⟨g', o' + k * 5 + 3, none⟩ = some (.slice p3 ns k3) ∧ z.cell? ⟨g', o' + k * 5 + 4, none⟩ = some (.slice p4 nc k4)) (first | (with_reducible assumption) | exact ⟨d0, d1, d2, d3, d4, e0, e1, e2, e3, e4⟩ | fail) ((go_at_call 61; refine (eqRow_any _ b0 n1 n2 ns nc S C _ _ _ _ (I1.out.later (Below.drew (Below.refl _ _))) (I2.out.later (Below.drew (Below.refl _ _))) (I3.out.later (Below.drew (Below.refl _ _))) (I4.out.later (Below.drew (Below.refl _ _)))).mono ?_; rintro e w2 ⟨rfl, hb2⟩; have hS2 := keepRw (w := wr.drew) (o := o) (o' := o') (k := k) ⟨d0, d1, d2, d3, d4, e0, e1, e2, e3, e4⟩ hb2 hgw hgw'))
      have hB2 : Below x.heap.size x w2 := hB.trans ((Below.drew (Below.refl _ _)).trans (hb2.mono (by simp)) |>.mono hB.size)
      go_wp2_with fail
      go_roundw
      case rel => exact ⟨k + 1, by omega, by go_num, hB2⟩
      case measure => simp [intOf]; omega
    · obtain rfl : k = n := by omega
      have hki : ¬ (k : Int) < (k : Int) := by omega
      go_wp2_with fail
      go_ret
      exact ⟨rfl, hB⟩

set_option maxRecDepth 100000 in
set_option maxHeartbeats 4000000 in
theorem eqSum_any (x : World) (n0 : Int) (R : List Rw) (s s' : Value) (h : RowsAt x s R) (h' : RowsAt x s' R) :
    Calls Tryz.prog 14 #[.agg #[.int .i64 n0, s], .agg #[.int .i64 n0, s']] x fun e y => e = .returned (.bool true) ∧ Below x.heap.size x y := by
  obtain ⟨p, cap, rfl, _⟩ := h.shape
  obtain ⟨p', cap', rfl, _⟩ := h'.shape
  have H1 : Hid (RowsAt x (.slice p R.length cap) R) := h
  have H2 : Hid (RowsAt x (.slice p' R.length cap') R) := h'
  clear h h'
  generalize R.length = n at *
  go_enter Tryz.func14, Tryz.ntmps14
  go_wp2_with fail
  generalize hX : (x.alloc (.cells #[.int .i64 n0, .slice p n cap] 33)).alloc (.cells #[.int .i64 n0, .slice p' n cap'] 33) = X
  have HB : Hid (Below x.heap.size x X) := by show Below _ _ _; rw [← hX]; exact ((Below.refl _ _).alloc (Nat.le_refl _) _).alloc (by simp) _
  clear hX
  refine (eqRowS_any X _ _ R (H1.out.later HB.out) (H2.out.later HB.out)).mono ?_
  rintro e y ⟨rfl, hb⟩
  have hB := HB.out.trans (hb.mono HB.out.size)
  clear hb
  go_wp2_with fail
  go_ret
  exact ⟨rfl, hB⟩

theorem keepSm {w y : World} {g o g' o' k : Nat} {n0 : Int} {rn k1 k3 : Nat} {p1 p3 : Option Addr} (h : (fun z : World => z.cell? ⟨g, o + k * 2, none⟩ = some (.int .i64 n0) ∧ z.cell? ⟨g, o + k * 2 + 1, none⟩ = some (.slice p1 rn k1) ∧ z.cell? ⟨g', o' + k * 2, none⟩ = some (.int .i64 n0) ∧ z.cell? ⟨g', o' + k * 2 + 1, none⟩ = some (.slice p3 rn k3)) w) (hb : Below w.heap.size w y) (hg : g < w.heap.size) (hg' : g' < w.heap.size) : (fun z : World => z.cell? ⟨g, o + k * 2, none⟩ = some (.int .i64 n0) ∧ z.cell? ⟨g, o + k * 2 + 1, none⟩ = some (.slice p1 rn k1) ∧ z.cell? ⟨g', o' + k * 2, none⟩ = some (.int .i64 n0) ∧ z.cell? ⟨g', o' + k * 2 + 1, none⟩ = some (.slice p3 rn k3)) y := by
  obtain ⟨d0, d1, e0, e1⟩ := h
  exact ⟨(hb.cell (p := ⟨g, _, none⟩) hg).trans d0, (hb.cell (p := ⟨g, _, none⟩) hg).trans d1, (hb.cell (p := ⟨g', _, none⟩) hg').trans e0, (hb.cell (p := ⟨g', _, none⟩) hg').trans e1⟩
set_option maxRecDepth 100000 in
set_option maxHeartbeats 4000000 in
theorem eqSumS_any (x : World) (v u : Value) (F : List Sm) (h : SmsAt x v F) (h' : SmsAt x u F) :
    Calls Tryz.prog 19 #[v, u] x fun e y => e = .returned (.bool true) ∧ Below x.heap.size x y := by
  obtain ⟨p, cap, rfl, hm, hc⟩ := h
  obtain ⟨p', cap', rfl, _, hc'⟩ := h'
  generalize hL : F.length = n at *
  unfold maxLen at hm
  have hni : (n : Int) ≤ 9223372036854775807 := by omega
  clear hL hm
  go_enter Tryz.func19, Tryz.ntmps19
  go_wp2_with fail
  go_loopw [5] (fun t y => ∃ k : Nat, k ≤ n ∧ t = .int .i64 k ∧ Below x.heap.size x y) (fun t _ => n - (intOf t).toNat)
  case atStart => exact ⟨0, by omega, rfl, Below.refl _ _⟩
  case round =>
    obtain ⟨k, hk, rfl, hB⟩ := hrel
    by_cases hlt : k < n
    · rcases hc with h0 | ⟨g, o, rfl, hgx, hins⟩
      · omega
      rcases hc' with h0 | ⟨g', o', rfl, hgx', hins'⟩
      · omega
      have hki : (k : Int) < (n : Int) := by omega
      obtain ⟨d0, ⟨u1, d1, i1⟩⟩ := (hins k hlt).later hB hgx
      obtain ⟨e0, ⟨u1', e1, i1'⟩⟩ := (hins' k hlt).later hB hgx'
      clear hins hins'
      generalize F.getD k sm0 = f at *
      obtain ⟨n0, R⟩ := f
      simp only at d0 d1 e0 e1 i1 i1'
      obtain ⟨p1, k1, rfl, _⟩ := i1.shape
      obtain ⟨p3, k3, rfl, _⟩ := i1'.shape
      have I1 : Hid (RowsAt wr (.slice p1 R.length k1) R) := i1
      have I3 : Hid (RowsAt wr (.slice p3 R.length k3) R) := i1'
      clear i1 i1'
      generalize R.length = rn at *
      have hgw : g < wr.heap.size := Nat.lt_of_lt_of_le hgx hB.size
      have hgw' : g' < wr.heap.size := Nat.lt_of_lt_of_le hgx' hB.size
      go_wp2_with fail
      go_region_held3 (fun z => z.cell? ⟨g, o + k * 2, none⟩ = some (.int .i64 n0) ∧ z.cell? ⟨g, o + k * 2 + 1, none⟩ = some (.slice p1 rn k1) ∧ z.cell? ⟨g', o' + k * 2, none⟩ = some (.int .i64 n0) ∧ z.cell? ⟨g', o' + k * 2 + 1, none⟩ = some (.slice p3 rn k3)) (first | (with_reducible assumption) | exact ⟨d0, d1, e0, e1⟩ | fail) ((go_at_call 14; refine (eqSum_any _ n0 R _ _ (I1.out.later (Below.drew (Below.refl _ _))) (I3.out.later (Below.drew (Below.refl _ _)))).mono ?_; rintro e w2 ⟨rfl, hb2⟩; have hS2 := keepSm (w := wr.drew) (o := o) (o' := o') (k := k) ⟨d0, d1, e0, e1⟩ hb2 hgw hgw'))
      have hB2 : Below x.heap.size x w2 := hB.trans ((Below.drew (Below.refl _ _)).trans (hb2.mono (by simp)) |>.mono hB.size)
      go_wp2_with fail
      go_roundw
      case rel => exact ⟨k + 1, by omega, by go_num, hB2⟩
      case measure => simp [intOf]; omega
    · obtain rfl : k = n := by omega
      have hki : ¬ (k : Int) < (k : Int) := by omega
      go_wp2_with fail
      go_ret
      exact ⟨rfl, hB⟩

end Go.Proofs.YtlkebkajdlgebaaGreat
