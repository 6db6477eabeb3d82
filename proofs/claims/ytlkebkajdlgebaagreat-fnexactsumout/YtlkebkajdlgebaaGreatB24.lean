import Derived.Test.YtlkebkajdlgebaaGreatB23
import Derived.Test.YtlkebkajdlgebaaGreatB14
import Derived.Deep.RegionHeld
import Derived.Deep.DeepCutAuto
import Derived.OwnWalk
import Derived.Test.YtlkebkajdlgebaaGreatB2
/-
  The contracts of SpanMeet, the program's and the model's.
-/
namespace Go.Proofs.YtlkebkajdlgebaaGreat
open Go.RowKit
set_option linter.unusedVariables false
set_option linter.unusedSimpArgs false

theorem meet_mk {a b : Bool} {al ah bl bh x y : Int} (h : bothF a al ah b bl bh = true) (hx : x = max al bl) (hy : y = min ah bh) : meetF a al ah b bl bh = mkF x y := by
  subst hx hy
  simp [meetF, h]
theorem meet_no {a b : Bool} {al ah bl bh : Int} (h : bothF a al ah b bl bh = false) : meetF a al ah b bl bh = (false, 0, 0) := by simp [meetF, h, noSp]
theorem mk_yes {x y : Int} (h : x ≤ y) : mkF x y = (true, x, y) := by unfold mkF; rw [if_neg (by omega)]
theorem mk_no {x y : Int} (h : y < x) : mkF x y = (false, 0, 0) := by unfold mkF; rw [if_pos h]; rfl
theorem both_parts (a : Bool) (al ah : Int) (b : Bool) (bl bh : Int) : bothF a al ah b bl bh = ((a && okF a al ah) && (b && okF b bl bh)) := by
  unfold bothF; cases a <;> cases b <;> simp [Bool.and_comm]

set_option maxHeartbeats 1000000 in
theorem meet_impl (a : Bool) (al ah : Int) (b : Bool) (bl bh : Int) (w : World) : Calls Tryz.prog 93 #[.agg #[.bool a, .int .i64 al, .int .i64 ah], .agg #[.bool b, .int .i64 bl, .int .i64 bh]] w fun e w' => RetSp (meetF a al ah b bl bh) e ∧ Below w.heap.size w w' := by
  cases ho : bothF a al ah b bl bh
  · go_enter Tryz.func93, Tryz.ntmps93
    go_wp2_with fail
    refine (both_impl _ _ _ _ _ _ _).mono ?_
    rintro e w1 ⟨rfl, hr1⟩
    have hb1 : Below w.heap.size w w1 := ((((Below.refl _ _).alloc (by go_size) _).alloc (by go_size) _).alloc (by go_size) _).trans (hr1.mono (by go_size))
    have hz1 : w.heap.size + 3 ≤ w1.heap.size := by have := hr1.size; first | omega | (simp at this; omega)
    have hB1 : Below w.heap.size w w1 := hb1
    have c1x0o0 : w1.cell? ⟨w.heap.size, 0, none⟩ = some (.bool a) := (hr1.cell (p := ⟨w.heap.size, 0, none⟩) (by go_size)).trans (by simp [go_sem])
    have c1x0o1 : w1.cell? ⟨w.heap.size, 1, none⟩ = some (.int .i64 al) := (hr1.cell (p := ⟨w.heap.size, 1, none⟩) (by go_size)).trans (by simp [go_sem])
    have c1x0o2 : w1.cell? ⟨w.heap.size, 2, none⟩ = some (.int .i64 ah) := (hr1.cell (p := ⟨w.heap.size, 2, none⟩) (by go_size)).trans (by simp [go_sem])
    have c1x1o0 : w1.cell? ⟨w.heap.size + 1, 0, none⟩ = some (.bool b) := (hr1.cell (p := ⟨w.heap.size + 1, 0, none⟩) (by go_size)).trans (by simp [go_sem])
    have c1x1o1 : w1.cell? ⟨w.heap.size + 1, 1, none⟩ = some (.int .i64 bl) := (hr1.cell (p := ⟨w.heap.size + 1, 1, none⟩) (by go_size)).trans (by simp [go_sem])
    have c1x1o2 : w1.cell? ⟨w.heap.size + 1, 2, none⟩ = some (.int .i64 bh) := (hr1.cell (p := ⟨w.heap.size + 1, 2, none⟩) (by go_size)).trans (by simp [go_sem])
    have c1x2o0 : w1.cell? ⟨w.heap.size + 1 + 1, 0, none⟩ = some (.bool false) := (hr1.cell (p := ⟨w.heap.size + 1 + 1, 0, none⟩) (by go_size)).trans (by simp [go_sem])
    have f1x2o0 : w1.frozen? ⟨w.heap.size + 1 + 1, 0, none⟩ = false := (hr1.frozen (p := ⟨w.heap.size + 1 + 1, 0, none⟩) (by go_size)).trans (by simp [go_sem])
    have c1x2o1 : w1.cell? ⟨w.heap.size + 1 + 1, 1, none⟩ = some (.int .i64 0) := (hr1.cell (p := ⟨w.heap.size + 1 + 1, 1, none⟩) (by go_size)).trans (by simp [go_sem])
    have f1x2o1 : w1.frozen? ⟨w.heap.size + 1 + 1, 1, none⟩ = false := (hr1.frozen (p := ⟨w.heap.size + 1 + 1, 1, none⟩) (by go_size)).trans (by simp [go_sem])
    have c1x2o2 : w1.cell? ⟨w.heap.size + 1 + 1, 2, none⟩ = some (.int .i64 0) := (hr1.cell (p := ⟨w.heap.size + 1 + 1, 2, none⟩) (by go_size)).trans (by simp [go_sem])
    have f1x2o2 : w1.frozen? ⟨w.heap.size + 1 + 1, 2, none⟩ = false := (hr1.frozen (p := ⟨w.heap.size + 1 + 1, 2, none⟩) (by go_size)).trans (by simp [go_sem])
    have n1x0 : w.heap.size < w1.heap.size := by omega
    have n1x1 : w.heap.size + 1 < w1.heap.size := by omega
    have n1x2 : w.heap.size + 1 + 1 < w1.heap.size := by omega
    clear hr1 hb1
    simp only [ho]
    go_wp2
    refine bodyPost_ret (v := .agg #[.bool false, .int .i64 0, .int .i64 0]) (by simp [results, Tryz.results93, go_sem, n1x0, n1x1, n1x2, c1x0o0, c1x0o1, c1x0o2, c1x1o0, c1x1o1, c1x1o2, c1x2o0, c1x2o1, c1x2o2]) rfl ⟨RetSp.mk (meet_no ho), ?_⟩
    go_grown
  · go_enter Tryz.func93, Tryz.ntmps93
    go_wp2_with fail
    refine (both_impl _ _ _ _ _ _ _).mono ?_
    rintro e w1 ⟨rfl, hr1⟩
    have hb1 : Below w.heap.size w w1 := ((((Below.refl _ _).alloc (by go_size) _).alloc (by go_size) _).alloc (by go_size) _).trans (hr1.mono (by go_size))
    have hz1 : w.heap.size + 3 ≤ w1.heap.size := by have := hr1.size; first | omega | (simp at this; omega)
    have hB1 : Below w.heap.size w w1 := hb1
    have c1x0o0 : w1.cell? ⟨w.heap.size, 0, none⟩ = some (.bool a) := (hr1.cell (p := ⟨w.heap.size, 0, none⟩) (by go_size)).trans (by simp [go_sem])
    have c1x0o1 : w1.cell? ⟨w.heap.size, 1, none⟩ = some (.int .i64 al) := (hr1.cell (p := ⟨w.heap.size, 1, none⟩) (by go_size)).trans (by simp [go_sem])
    have c1x0o2 : w1.cell? ⟨w.heap.size, 2, none⟩ = some (.int .i64 ah) := (hr1.cell (p := ⟨w.heap.size, 2, none⟩) (by go_size)).trans (by simp [go_sem])
    have c1x1o0 : w1.cell? ⟨w.heap.size + 1, 0, none⟩ = some (.bool b) := (hr1.cell (p := ⟨w.heap.size + 1, 0, none⟩) (by go_size)).trans (by simp [go_sem])
    have c1x1o1 : w1.cell? ⟨w.heap.size + 1, 1, none⟩ = some (.int .i64 bl) := (hr1.cell (p := ⟨w.heap.size + 1, 1, none⟩) (by go_size)).trans (by simp [go_sem])
    have c1x1o2 : w1.cell? ⟨w.heap.size + 1, 2, none⟩ = some (.int .i64 bh) := (hr1.cell (p := ⟨w.heap.size + 1, 2, none⟩) (by go_size)).trans (by simp [go_sem])
    have c1x2o0 : w1.cell? ⟨w.heap.size + 1 + 1, 0, none⟩ = some (.bool false) := (hr1.cell (p := ⟨w.heap.size + 1 + 1, 0, none⟩) (by go_size)).trans (by simp [go_sem])
    have f1x2o0 : w1.frozen? ⟨w.heap.size + 1 + 1, 0, none⟩ = false := (hr1.frozen (p := ⟨w.heap.size + 1 + 1, 0, none⟩) (by go_size)).trans (by simp [go_sem])
    have c1x2o1 : w1.cell? ⟨w.heap.size + 1 + 1, 1, none⟩ = some (.int .i64 0) := (hr1.cell (p := ⟨w.heap.size + 1 + 1, 1, none⟩) (by go_size)).trans (by simp [go_sem])
    have f1x2o1 : w1.frozen? ⟨w.heap.size + 1 + 1, 1, none⟩ = false := (hr1.frozen (p := ⟨w.heap.size + 1 + 1, 1, none⟩) (by go_size)).trans (by simp [go_sem])
    have c1x2o2 : w1.cell? ⟨w.heap.size + 1 + 1, 2, none⟩ = some (.int .i64 0) := (hr1.cell (p := ⟨w.heap.size + 1 + 1, 2, none⟩) (by go_size)).trans (by simp [go_sem])
    have f1x2o2 : w1.frozen? ⟨w.heap.size + 1 + 1, 2, none⟩ = false := (hr1.frozen (p := ⟨w.heap.size + 1 + 1, 2, none⟩) (by go_size)).trans (by simp [go_sem])
    have n1x0 : w.heap.size < w1.heap.size := by omega
    have n1x1 : w.heap.size + 1 < w1.heap.size := by omega
    have n1x2 : w.heap.size + 1 + 1 < w1.heap.size := by omega
    clear hr1 hb1
    simp only [ho]
    go_wp2
    all_goals
      first
      | (refine bodyPost_ret (v := .agg #[.bool false, .int .i64 0, .int .i64 0]) (by simp [results, Tryz.results93, go_sem, n1x0, n1x1, n1x2, c1x0o0, c1x0o1, c1x0o2, c1x1o0, c1x1o1, c1x1o2, c1x2o0, c1x2o1, c1x2o2]) rfl ⟨RetSp.mk (?_), ?_⟩; exact (meet_mk ho rfl rfl).trans (mk_no (by omega)); go_grown)
      | (refine bodyPost_ret (v := .agg #[.bool true, .int .i64 al, .int .i64 ah]) (by simp [results, Tryz.results93, go_sem, n1x0, n1x1, n1x2, c1x0o0, c1x0o1, c1x0o2, c1x1o0, c1x1o1, c1x1o2, c1x2o0, c1x2o1, c1x2o2]) rfl ⟨RetSp.mk (?_), ?_⟩; exact (meet_mk ho (x := al) (y := ah) (by omega) (by omega)).trans (mk_yes (by omega)); go_grown)
      | (refine bodyPost_ret (v := .agg #[.bool true, .int .i64 al, .int .i64 bh]) (by simp [results, Tryz.results93, go_sem, n1x0, n1x1, n1x2, c1x0o0, c1x0o1, c1x0o2, c1x1o0, c1x1o1, c1x1o2, c1x2o0, c1x2o1, c1x2o2]) rfl ⟨RetSp.mk (?_), ?_⟩; exact (meet_mk ho (x := al) (y := bh) (by omega) (by omega)).trans (mk_yes (by omega)); go_grown)
      | (refine bodyPost_ret (v := .agg #[.bool true, .int .i64 bl, .int .i64 ah]) (by simp [results, Tryz.results93, go_sem, n1x0, n1x1, n1x2, c1x0o0, c1x0o1, c1x0o2, c1x1o0, c1x1o1, c1x1o2, c1x2o0, c1x2o1, c1x2o2]) rfl ⟨RetSp.mk (?_), ?_⟩; exact (meet_mk ho (x := bl) (y := ah) (by omega) (by omega)).trans (mk_yes (by omega)); go_grown)
      | (refine bodyPost_ret (v := .agg #[.bool true, .int .i64 bl, .int .i64 bh]) (by simp [results, Tryz.results93, go_sem, n1x0, n1x1, n1x2, c1x0o0, c1x0o1, c1x0o2, c1x1o0, c1x1o1, c1x1o2, c1x2o0, c1x2o1, c1x2o2]) rfl ⟨RetSp.mk (?_), ?_⟩; exact (meet_mk ho (x := bl) (y := bh) (by omega) (by omega)).trans (mk_yes (by omega)); go_grown)

set_option maxHeartbeats 1000000 in
theorem meet_spec (a : Bool) (al ah : Int) (b : Bool) (bl bh : Int) (w : World) : Calls Tryz.prog 90 #[.agg #[.bool a, .int .i64 al, .int .i64 ah], .agg #[.bool b, .int .i64 bl, .int .i64 bh]] w fun e w' => RetSp (meetF a al ah b bl bh) e ∧ Below w.heap.size w w' := by
  cases ho1 : (a && okF a al ah)
  · go_enter Tryz.func90, Tryz.ntmps90
    go_wp2_with fail
    refine (l1Some_any _ _ _ _).mono ?_
    rintro e w1 ⟨rfl, hr1⟩
    have hb1 : Below w.heap.size w w1 := ((((Below.refl _ _).alloc (by go_size) _).alloc (by go_size) _).alloc (by go_size) _).trans (hr1.mono (by go_size))
    have hz1 : w.heap.size + 3 ≤ w1.heap.size := by have := hr1.size; first | omega | (simp at this; omega)
    have hB1 : Below w.heap.size w w1 := hb1
    have c1x0o0 : w1.cell? ⟨w.heap.size, 0, none⟩ = some (.bool a) := (hr1.cell (p := ⟨w.heap.size, 0, none⟩) (by go_size)).trans (by simp [go_sem])
    have c1x0o1 : w1.cell? ⟨w.heap.size, 1, none⟩ = some (.int .i64 al) := (hr1.cell (p := ⟨w.heap.size, 1, none⟩) (by go_size)).trans (by simp [go_sem])
    have c1x0o2 : w1.cell? ⟨w.heap.size, 2, none⟩ = some (.int .i64 ah) := (hr1.cell (p := ⟨w.heap.size, 2, none⟩) (by go_size)).trans (by simp [go_sem])
    have c1x1o0 : w1.cell? ⟨w.heap.size + 1, 0, none⟩ = some (.bool b) := (hr1.cell (p := ⟨w.heap.size + 1, 0, none⟩) (by go_size)).trans (by simp [go_sem])
    have c1x1o1 : w1.cell? ⟨w.heap.size + 1, 1, none⟩ = some (.int .i64 bl) := (hr1.cell (p := ⟨w.heap.size + 1, 1, none⟩) (by go_size)).trans (by simp [go_sem])
    have c1x1o2 : w1.cell? ⟨w.heap.size + 1, 2, none⟩ = some (.int .i64 bh) := (hr1.cell (p := ⟨w.heap.size + 1, 2, none⟩) (by go_size)).trans (by simp [go_sem])
    have c1x2o0 : w1.cell? ⟨w.heap.size + 1 + 1, 0, none⟩ = some (.bool false) := (hr1.cell (p := ⟨w.heap.size + 1 + 1, 0, none⟩) (by go_size)).trans (by simp [go_sem])
    have f1x2o0 : w1.frozen? ⟨w.heap.size + 1 + 1, 0, none⟩ = false := (hr1.frozen (p := ⟨w.heap.size + 1 + 1, 0, none⟩) (by go_size)).trans (by simp [go_sem])
    have c1x2o1 : w1.cell? ⟨w.heap.size + 1 + 1, 1, none⟩ = some (.int .i64 0) := (hr1.cell (p := ⟨w.heap.size + 1 + 1, 1, none⟩) (by go_size)).trans (by simp [go_sem])
    have f1x2o1 : w1.frozen? ⟨w.heap.size + 1 + 1, 1, none⟩ = false := (hr1.frozen (p := ⟨w.heap.size + 1 + 1, 1, none⟩) (by go_size)).trans (by simp [go_sem])
    have c1x2o2 : w1.cell? ⟨w.heap.size + 1 + 1, 2, none⟩ = some (.int .i64 0) := (hr1.cell (p := ⟨w.heap.size + 1 + 1, 2, none⟩) (by go_size)).trans (by simp [go_sem])
    have f1x2o2 : w1.frozen? ⟨w.heap.size + 1 + 1, 2, none⟩ = false := (hr1.frozen (p := ⟨w.heap.size + 1 + 1, 2, none⟩) (by go_size)).trans (by simp [go_sem])
    have n1x0 : w.heap.size < w1.heap.size := by omega
    have n1x1 : w.heap.size + 1 < w1.heap.size := by omega
    have n1x2 : w.heap.size + 1 + 1 < w1.heap.size := by omega
    clear hr1 hb1
    simp only [ho1]
    go_wp2
    refine bodyPost_ret (v := .agg #[.bool false, .int .i64 0, .int .i64 0]) (by simp [results, Tryz.results90, go_sem, n1x0, n1x1, n1x2, c1x0o0, c1x0o1, c1x0o2, c1x1o0, c1x1o1, c1x1o2, c1x2o0, c1x2o1, c1x2o2]) rfl ⟨RetSp.mk (meet_no (by rw [both_parts, ho1]; rfl)), ?_⟩
    go_grown
  · cases ho2 : (b && okF b bl bh)
    · go_enter Tryz.func90, Tryz.ntmps90
      go_wp2_with fail
      refine (l1Some_any _ _ _ _).mono ?_
      rintro e w1 ⟨rfl, hr1⟩
      have hb1 : Below w.heap.size w w1 := ((((Below.refl _ _).alloc (by go_size) _).alloc (by go_size) _).alloc (by go_size) _).trans (hr1.mono (by go_size))
      have hz1 : w.heap.size + 3 ≤ w1.heap.size := by have := hr1.size; first | omega | (simp at this; omega)
      have hB1 : Below w.heap.size w w1 := hb1
      have c1x0o0 : w1.cell? ⟨w.heap.size, 0, none⟩ = some (.bool a) := (hr1.cell (p := ⟨w.heap.size, 0, none⟩) (by go_size)).trans (by simp [go_sem])
      have c1x0o1 : w1.cell? ⟨w.heap.size, 1, none⟩ = some (.int .i64 al) := (hr1.cell (p := ⟨w.heap.size, 1, none⟩) (by go_size)).trans (by simp [go_sem])
      have c1x0o2 : w1.cell? ⟨w.heap.size, 2, none⟩ = some (.int .i64 ah) := (hr1.cell (p := ⟨w.heap.size, 2, none⟩) (by go_size)).trans (by simp [go_sem])
      have c1x1o0 : w1.cell? ⟨w.heap.size + 1, 0, none⟩ = some (.bool b) := (hr1.cell (p := ⟨w.heap.size + 1, 0, none⟩) (by go_size)).trans (by simp [go_sem])
      have c1x1o1 : w1.cell? ⟨w.heap.size + 1, 1, none⟩ = some (.int .i64 bl) := (hr1.cell (p := ⟨w.heap.size + 1, 1, none⟩) (by go_size)).trans (by simp [go_sem])
      have c1x1o2 : w1.cell? ⟨w.heap.size + 1, 2, none⟩ = some (.int .i64 bh) := (hr1.cell (p := ⟨w.heap.size + 1, 2, none⟩) (by go_size)).trans (by simp [go_sem])
      have c1x2o0 : w1.cell? ⟨w.heap.size + 1 + 1, 0, none⟩ = some (.bool false) := (hr1.cell (p := ⟨w.heap.size + 1 + 1, 0, none⟩) (by go_size)).trans (by simp [go_sem])
      have f1x2o0 : w1.frozen? ⟨w.heap.size + 1 + 1, 0, none⟩ = false := (hr1.frozen (p := ⟨w.heap.size + 1 + 1, 0, none⟩) (by go_size)).trans (by simp [go_sem])
      have c1x2o1 : w1.cell? ⟨w.heap.size + 1 + 1, 1, none⟩ = some (.int .i64 0) := (hr1.cell (p := ⟨w.heap.size + 1 + 1, 1, none⟩) (by go_size)).trans (by simp [go_sem])
      have f1x2o1 : w1.frozen? ⟨w.heap.size + 1 + 1, 1, none⟩ = false := (hr1.frozen (p := ⟨w.heap.size + 1 + 1, 1, none⟩) (by go_size)).trans (by simp [go_sem])
      have c1x2o2 : w1.cell? ⟨w.heap.size + 1 + 1, 2, none⟩ = some (.int .i64 0) := (hr1.cell (p := ⟨w.heap.size + 1 + 1, 2, none⟩) (by go_size)).trans (by simp [go_sem])
      have f1x2o2 : w1.frozen? ⟨w.heap.size + 1 + 1, 2, none⟩ = false := (hr1.frozen (p := ⟨w.heap.size + 1 + 1, 2, none⟩) (by go_size)).trans (by simp [go_sem])
      have n1x0 : w.heap.size < w1.heap.size := by omega
      have n1x1 : w.heap.size + 1 < w1.heap.size := by omega
      have n1x2 : w.heap.size + 1 + 1 < w1.heap.size := by omega
      clear hr1 hb1
      simp only [ho1]
      go_wp2_with fail
      refine (l1Some_any _ _ _ _).mono ?_
      rintro e w2 ⟨rfl, hr2⟩
      have hb2 : Below w1.heap.size w1 w2 := (Below.refl _ _).trans (hr2.mono (by go_size))
      have hz2 : w1.heap.size + 0 ≤ w2.heap.size := by have := hr2.size; first | omega | (simp at this; omega)
      have hB2 : Below w.heap.size w w2 := hB1.trans (hb2.mono (by go_size))
      have c2x0o0 : w2.cell? ⟨w.heap.size, 0, none⟩ = some (.bool a) := (hb2.cell (p := ⟨w.heap.size, 0, none⟩) (by go_size)).trans c1x0o0
      have c2x0o1 : w2.cell? ⟨w.heap.size, 1, none⟩ = some (.int .i64 al) := (hb2.cell (p := ⟨w.heap.size, 1, none⟩) (by go_size)).trans c1x0o1
      have c2x0o2 : w2.cell? ⟨w.heap.size, 2, none⟩ = some (.int .i64 ah) := (hb2.cell (p := ⟨w.heap.size, 2, none⟩) (by go_size)).trans c1x0o2
      have c2x1o0 : w2.cell? ⟨w.heap.size + 1, 0, none⟩ = some (.bool b) := (hb2.cell (p := ⟨w.heap.size + 1, 0, none⟩) (by go_size)).trans c1x1o0
      have c2x1o1 : w2.cell? ⟨w.heap.size + 1, 1, none⟩ = some (.int .i64 bl) := (hb2.cell (p := ⟨w.heap.size + 1, 1, none⟩) (by go_size)).trans c1x1o1
      have c2x1o2 : w2.cell? ⟨w.heap.size + 1, 2, none⟩ = some (.int .i64 bh) := (hb2.cell (p := ⟨w.heap.size + 1, 2, none⟩) (by go_size)).trans c1x1o2
      have c2x2o0 : w2.cell? ⟨w.heap.size + 1 + 1, 0, none⟩ = some (.bool false) := (hb2.cell (p := ⟨w.heap.size + 1 + 1, 0, none⟩) (by go_size)).trans c1x2o0
      have f2x2o0 : w2.frozen? ⟨w.heap.size + 1 + 1, 0, none⟩ = false := (hb2.frozen (p := ⟨w.heap.size + 1 + 1, 0, none⟩) (by go_size)).trans f1x2o0
      have c2x2o1 : w2.cell? ⟨w.heap.size + 1 + 1, 1, none⟩ = some (.int .i64 0) := (hb2.cell (p := ⟨w.heap.size + 1 + 1, 1, none⟩) (by go_size)).trans c1x2o1
      have f2x2o1 : w2.frozen? ⟨w.heap.size + 1 + 1, 1, none⟩ = false := (hb2.frozen (p := ⟨w.heap.size + 1 + 1, 1, none⟩) (by go_size)).trans f1x2o1
      have c2x2o2 : w2.cell? ⟨w.heap.size + 1 + 1, 2, none⟩ = some (.int .i64 0) := (hb2.cell (p := ⟨w.heap.size + 1 + 1, 2, none⟩) (by go_size)).trans c1x2o2
      have f2x2o2 : w2.frozen? ⟨w.heap.size + 1 + 1, 2, none⟩ = false := (hb2.frozen (p := ⟨w.heap.size + 1 + 1, 2, none⟩) (by go_size)).trans f1x2o2
      have n2x0 : w.heap.size < w2.heap.size := by omega
      have n2x1 : w.heap.size + 1 < w2.heap.size := by omega
      have n2x2 : w.heap.size + 1 + 1 < w2.heap.size := by omega
      clear n1x0 n1x1 n1x2 c1x0o0 c1x0o1 c1x0o2 c1x1o0 c1x1o1 c1x1o2 c1x2o0 c1x2o1 c1x2o2 f1x2o0 f1x2o1 f1x2o2
      clear hr2 hb2
      simp only [ho2]
      go_wp2
      refine bodyPost_ret (v := .agg #[.bool false, .int .i64 0, .int .i64 0]) (by simp [results, Tryz.results90, go_sem, n2x0, n2x1, n2x2, c2x0o0, c2x0o1, c2x0o2, c2x1o0, c2x1o1, c2x1o2, c2x2o0, c2x2o1, c2x2o2]) rfl ⟨RetSp.mk (meet_no (by rw [both_parts, ho1, ho2]; rfl)), ?_⟩
      go_grown
    · go_enter Tryz.func90, Tryz.ntmps90
      go_wp2_with fail
      refine (l1Some_any _ _ _ _).mono ?_
      rintro e w1 ⟨rfl, hr1⟩
      have hb1 : Below w.heap.size w w1 := ((((Below.refl _ _).alloc (by go_size) _).alloc (by go_size) _).alloc (by go_size) _).trans (hr1.mono (by go_size))
      have hz1 : w.heap.size + 3 ≤ w1.heap.size := by have := hr1.size; first | omega | (simp at this; omega)
      have hB1 : Below w.heap.size w w1 := hb1
      have c1x0o0 : w1.cell? ⟨w.heap.size, 0, none⟩ = some (.bool a) := (hr1.cell (p := ⟨w.heap.size, 0, none⟩) (by go_size)).trans (by simp [go_sem])
      have c1x0o1 : w1.cell? ⟨w.heap.size, 1, none⟩ = some (.int .i64 al) := (hr1.cell (p := ⟨w.heap.size, 1, none⟩) (by go_size)).trans (by simp [go_sem])
      have c1x0o2 : w1.cell? ⟨w.heap.size, 2, none⟩ = some (.int .i64 ah) := (hr1.cell (p := ⟨w.heap.size, 2, none⟩) (by go_size)).trans (by simp [go_sem])
      have c1x1o0 : w1.cell? ⟨w.heap.size + 1, 0, none⟩ = some (.bool b) := (hr1.cell (p := ⟨w.heap.size + 1, 0, none⟩) (by go_size)).trans (by simp [go_sem])
      have c1x1o1 : w1.cell? ⟨w.heap.size + 1, 1, none⟩ = some (.int .i64 bl) := (hr1.cell (p := ⟨w.heap.size + 1, 1, none⟩) (by go_size)).trans (by simp [go_sem])
      have c1x1o2 : w1.cell? ⟨w.heap.size + 1, 2, none⟩ = some (.int .i64 bh) := (hr1.cell (p := ⟨w.heap.size + 1, 2, none⟩) (by go_size)).trans (by simp [go_sem])
      have c1x2o0 : w1.cell? ⟨w.heap.size + 1 + 1, 0, none⟩ = some (.bool false) := (hr1.cell (p := ⟨w.heap.size + 1 + 1, 0, none⟩) (by go_size)).trans (by simp [go_sem])
      have f1x2o0 : w1.frozen? ⟨w.heap.size + 1 + 1, 0, none⟩ = false := (hr1.frozen (p := ⟨w.heap.size + 1 + 1, 0, none⟩) (by go_size)).trans (by simp [go_sem])
      have c1x2o1 : w1.cell? ⟨w.heap.size + 1 + 1, 1, none⟩ = some (.int .i64 0) := (hr1.cell (p := ⟨w.heap.size + 1 + 1, 1, none⟩) (by go_size)).trans (by simp [go_sem])
      have f1x2o1 : w1.frozen? ⟨w.heap.size + 1 + 1, 1, none⟩ = false := (hr1.frozen (p := ⟨w.heap.size + 1 + 1, 1, none⟩) (by go_size)).trans (by simp [go_sem])
      have c1x2o2 : w1.cell? ⟨w.heap.size + 1 + 1, 2, none⟩ = some (.int .i64 0) := (hr1.cell (p := ⟨w.heap.size + 1 + 1, 2, none⟩) (by go_size)).trans (by simp [go_sem])
      have f1x2o2 : w1.frozen? ⟨w.heap.size + 1 + 1, 2, none⟩ = false := (hr1.frozen (p := ⟨w.heap.size + 1 + 1, 2, none⟩) (by go_size)).trans (by simp [go_sem])
      have n1x0 : w.heap.size < w1.heap.size := by omega
      have n1x1 : w.heap.size + 1 < w1.heap.size := by omega
      have n1x2 : w.heap.size + 1 + 1 < w1.heap.size := by omega
      clear hr1 hb1
      simp only [ho1]
      go_wp2_with fail
      refine (l1Some_any _ _ _ _).mono ?_
      rintro e w2 ⟨rfl, hr2⟩
      have hb2 : Below w1.heap.size w1 w2 := (Below.refl _ _).trans (hr2.mono (by go_size))
      have hz2 : w1.heap.size + 0 ≤ w2.heap.size := by have := hr2.size; first | omega | (simp at this; omega)
      have hB2 : Below w.heap.size w w2 := hB1.trans (hb2.mono (by go_size))
      have c2x0o0 : w2.cell? ⟨w.heap.size, 0, none⟩ = some (.bool a) := (hb2.cell (p := ⟨w.heap.size, 0, none⟩) (by go_size)).trans c1x0o0
      have c2x0o1 : w2.cell? ⟨w.heap.size, 1, none⟩ = some (.int .i64 al) := (hb2.cell (p := ⟨w.heap.size, 1, none⟩) (by go_size)).trans c1x0o1
      have c2x0o2 : w2.cell? ⟨w.heap.size, 2, none⟩ = some (.int .i64 ah) := (hb2.cell (p := ⟨w.heap.size, 2, none⟩) (by go_size)).trans c1x0o2
      have c2x1o0 : w2.cell? ⟨w.heap.size + 1, 0, none⟩ = some (.bool b) := (hb2.cell (p := ⟨w.heap.size + 1, 0, none⟩) (by go_size)).trans c1x1o0
      have c2x1o1 : w2.cell? ⟨w.heap.size + 1, 1, none⟩ = some (.int .i64 bl) := (hb2.cell (p := ⟨w.heap.size + 1, 1, none⟩) (by go_size)).trans c1x1o1
      have c2x1o2 : w2.cell? ⟨w.heap.size + 1, 2, none⟩ = some (.int .i64 bh) := (hb2.cell (p := ⟨w.heap.size + 1, 2, none⟩) (by go_size)).trans c1x1o2
      have c2x2o0 : w2.cell? ⟨w.heap.size + 1 + 1, 0, none⟩ = some (.bool false) := (hb2.cell (p := ⟨w.heap.size + 1 + 1, 0, none⟩) (by go_size)).trans c1x2o0
      have f2x2o0 : w2.frozen? ⟨w.heap.size + 1 + 1, 0, none⟩ = false := (hb2.frozen (p := ⟨w.heap.size + 1 + 1, 0, none⟩) (by go_size)).trans f1x2o0
      have c2x2o1 : w2.cell? ⟨w.heap.size + 1 + 1, 1, none⟩ = some (.int .i64 0) := (hb2.cell (p := ⟨w.heap.size + 1 + 1, 1, none⟩) (by go_size)).trans c1x2o1
      have f2x2o1 : w2.frozen? ⟨w.heap.size + 1 + 1, 1, none⟩ = false := (hb2.frozen (p := ⟨w.heap.size + 1 + 1, 1, none⟩) (by go_size)).trans f1x2o1
      have c2x2o2 : w2.cell? ⟨w.heap.size + 1 + 1, 2, none⟩ = some (.int .i64 0) := (hb2.cell (p := ⟨w.heap.size + 1 + 1, 2, none⟩) (by go_size)).trans c1x2o2
      have f2x2o2 : w2.frozen? ⟨w.heap.size + 1 + 1, 2, none⟩ = false := (hb2.frozen (p := ⟨w.heap.size + 1 + 1, 2, none⟩) (by go_size)).trans f1x2o2
      have n2x0 : w.heap.size < w2.heap.size := by omega
      have n2x1 : w.heap.size + 1 < w2.heap.size := by omega
      have n2x2 : w.heap.size + 1 + 1 < w2.heap.size := by omega
      clear n1x0 n1x1 n1x2 c1x0o0 c1x0o1 c1x0o2 c1x1o0 c1x1o1 c1x1o2 c1x2o0 c1x2o1 c1x2o2 f1x2o0 f1x2o1 f1x2o2
      clear hr2 hb2
      simp only [ho2]
      go_wp2_with fail
      all_goals
        refine (l1Of_any _ _ _).mono ?_
        rintro e w3 ⟨hs3, hr3⟩
        obtain ⟨a3, l3, u3, hx3, rfl⟩ := hs3.out
        clear hs3
        have hb3 : Below w2.heap.size w2 w3 := (Below.refl _ _).trans (hr3.mono (by go_size))
        have hz3 : w2.heap.size + 0 ≤ w3.heap.size := by have := hr3.size; first | omega | (simp at this; omega)
        have hB3 : Below w.heap.size w w3 := hB2.trans (hb3.mono (by go_size))
        have c3x0o0 : w3.cell? ⟨w.heap.size, 0, none⟩ = some (.bool a) := (hb3.cell (p := ⟨w.heap.size, 0, none⟩) (by go_size)).trans c2x0o0
        have c3x0o1 : w3.cell? ⟨w.heap.size, 1, none⟩ = some (.int .i64 al) := (hb3.cell (p := ⟨w.heap.size, 1, none⟩) (by go_size)).trans c2x0o1
        have c3x0o2 : w3.cell? ⟨w.heap.size, 2, none⟩ = some (.int .i64 ah) := (hb3.cell (p := ⟨w.heap.size, 2, none⟩) (by go_size)).trans c2x0o2
        have c3x1o0 : w3.cell? ⟨w.heap.size + 1, 0, none⟩ = some (.bool b) := (hb3.cell (p := ⟨w.heap.size + 1, 0, none⟩) (by go_size)).trans c2x1o0
        have c3x1o1 : w3.cell? ⟨w.heap.size + 1, 1, none⟩ = some (.int .i64 bl) := (hb3.cell (p := ⟨w.heap.size + 1, 1, none⟩) (by go_size)).trans c2x1o1
        have c3x1o2 : w3.cell? ⟨w.heap.size + 1, 2, none⟩ = some (.int .i64 bh) := (hb3.cell (p := ⟨w.heap.size + 1, 2, none⟩) (by go_size)).trans c2x1o2
        have c3x2o0 : w3.cell? ⟨w.heap.size + 1 + 1, 0, none⟩ = some (.bool false) := (hb3.cell (p := ⟨w.heap.size + 1 + 1, 0, none⟩) (by go_size)).trans c2x2o0
        have f3x2o0 : w3.frozen? ⟨w.heap.size + 1 + 1, 0, none⟩ = false := (hb3.frozen (p := ⟨w.heap.size + 1 + 1, 0, none⟩) (by go_size)).trans f2x2o0
        have c3x2o1 : w3.cell? ⟨w.heap.size + 1 + 1, 1, none⟩ = some (.int .i64 0) := (hb3.cell (p := ⟨w.heap.size + 1 + 1, 1, none⟩) (by go_size)).trans c2x2o1
        have f3x2o1 : w3.frozen? ⟨w.heap.size + 1 + 1, 1, none⟩ = false := (hb3.frozen (p := ⟨w.heap.size + 1 + 1, 1, none⟩) (by go_size)).trans f2x2o1
        have c3x2o2 : w3.cell? ⟨w.heap.size + 1 + 1, 2, none⟩ = some (.int .i64 0) := (hb3.cell (p := ⟨w.heap.size + 1 + 1, 2, none⟩) (by go_size)).trans c2x2o2
        have f3x2o2 : w3.frozen? ⟨w.heap.size + 1 + 1, 2, none⟩ = false := (hb3.frozen (p := ⟨w.heap.size + 1 + 1, 2, none⟩) (by go_size)).trans f2x2o2
        have n3x0 : w.heap.size < w3.heap.size := by omega
        have n3x1 : w.heap.size + 1 < w3.heap.size := by omega
        have n3x2 : w.heap.size + 1 + 1 < w3.heap.size := by omega
        clear n2x0 n2x1 n2x2 c2x0o0 c2x0o1 c2x0o2 c2x1o0 c2x1o1 c2x1o2 c2x2o0 c2x2o1 c2x2o2 f2x2o0 f2x2o1 f2x2o2
        clear hr3 hb3
        go_wp2
        refine bodyPost_ret (v := .agg #[.bool a3, .int .i64 l3, .int .i64 u3]) (by simp [results, Tryz.results90, go_sem, n3x0, n3x1, n3x2, c3x0o0, c3x0o1, c3x0o2, c3x1o0, c3x1o1, c3x1o2, c3x2o0, c3x2o1, c3x2o2]) rfl ⟨RetSp.mk ((meet_mk (by rw [both_parts, ho1, ho2]; rfl) (by omega) (by omega)).trans hx3), ?_⟩
        go_grown

end Go.Proofs.YtlkebkajdlgebaaGreat

/-
  What is held of the cells of spans while calls are made in an open order.
-/
namespace Go.Proofs.YtlkebkajdlgebaaGreat
open Go.RowKit
set_option linter.unusedVariables false
set_option linter.unusedSimpArgs false
theorem keepS {w x y : World} {m n : Nat} {a b : Bool} {al ah bl bh : Int}
    (h : Below w.heap.size w x ∧ m < x.heap.size ∧ n < x.heap.size ∧ x.cell? ⟨m, 0, none⟩ = some (.bool a) ∧ x.cell? ⟨m, 1, none⟩ = some (.int .i64 al) ∧ x.cell? ⟨m, 2, none⟩ = some (.int .i64 ah) ∧ x.cell? ⟨n, 0, none⟩ = some (.bool b) ∧ x.cell? ⟨n, 1, none⟩ = some (.int .i64 bl) ∧ x.cell? ⟨n, 2, none⟩ = some (.int .i64 bh))
    (hb : Below x.heap.size x y) :
    Below w.heap.size w y ∧ m < y.heap.size ∧ n < y.heap.size ∧ y.cell? ⟨m, 0, none⟩ = some (.bool a) ∧ y.cell? ⟨m, 1, none⟩ = some (.int .i64 al) ∧ y.cell? ⟨m, 2, none⟩ = some (.int .i64 ah) ∧ y.cell? ⟨n, 0, none⟩ = some (.bool b) ∧ y.cell? ⟨n, 1, none⟩ = some (.int .i64 bl) ∧ y.cell? ⟨n, 2, none⟩ = some (.int .i64 bh) := by
  obtain ⟨h1, h2, h3, c0, c1, c2, d0, d1, d2⟩ := h
  have hz := hb.size
  have hz1 := h1.size
  exact ⟨h1.trans (hb.mono hz1), by omega, by omega, (hb.cell (p := ⟨m, 0, none⟩) h2).trans c0, (hb.cell (p := ⟨m, 1, none⟩) h2).trans c1, (hb.cell (p := ⟨m, 2, none⟩) h2).trans c2, (hb.cell (p := ⟨n, 0, none⟩) h3).trans d0, (hb.cell (p := ⟨n, 1, none⟩) h3).trans d1, (hb.cell (p := ⟨n, 2, none⟩) h3).trans d2⟩

theorem belowTrans {A x y : World} (h : Below A.heap.size A x) (hb : Below x.heap.size x y) : Below A.heap.size A y := h.trans (hb.mono h.size)
theorem below_lt {W w1 : World} (hb : Below W.heap.size W w1) : ∀ b, b < W.heap.size → b < w1.heap.size := fun b h => Nat.lt_of_lt_of_le h hb.size
theorem keepSet {w x : World} {m n q o : Nat} {v : Value} {a b : Bool} {al ah bl bh : Int}
    (h : Below w.heap.size w x ∧ m < x.heap.size ∧ n < x.heap.size ∧ x.cell? ⟨m, 0, none⟩ = some (.bool a) ∧ x.cell? ⟨m, 1, none⟩ = some (.int .i64 al) ∧ x.cell? ⟨m, 2, none⟩ = some (.int .i64 ah) ∧ x.cell? ⟨n, 0, none⟩ = some (.bool b) ∧ x.cell? ⟨n, 1, none⟩ = some (.int .i64 bl) ∧ x.cell? ⟨n, 2, none⟩ = some (.int .i64 bh))
    (hm : m < q) (hn : n < q) (hw : w.heap.size ≤ q) :
    Below w.heap.size w (x.setCell ⟨q, o, none⟩ v) ∧ m < (x.setCell ⟨q, o, none⟩ v).heap.size ∧ n < (x.setCell ⟨q, o, none⟩ v).heap.size ∧ (x.setCell ⟨q, o, none⟩ v).cell? ⟨m, 0, none⟩ = some (.bool a) ∧ (x.setCell ⟨q, o, none⟩ v).cell? ⟨m, 1, none⟩ = some (.int .i64 al) ∧ (x.setCell ⟨q, o, none⟩ v).cell? ⟨m, 2, none⟩ = some (.int .i64 ah) ∧ (x.setCell ⟨q, o, none⟩ v).cell? ⟨n, 0, none⟩ = some (.bool b) ∧ (x.setCell ⟨q, o, none⟩ v).cell? ⟨n, 1, none⟩ = some (.int .i64 bl) ∧ (x.setCell ⟨q, o, none⟩ v).cell? ⟨n, 2, none⟩ = some (.int .i64 bh) := by
  obtain ⟨h1, h2, h3, c0, c1, c2, d0, d1, d2⟩ := h
  have hb : Below q x (x.setCell ⟨q, o, none⟩ v) := (Below.refl q x).setCell (p := ⟨q, o, none⟩) (Nat.le_refl _) _
  have hz := hb.size
  exact ⟨h1.setCell hw _, by omega, by omega, (hb.cell (p := ⟨m, 0, none⟩) hm).trans c0, (hb.cell (p := ⟨m, 1, none⟩) hm).trans c1, (hb.cell (p := ⟨m, 2, none⟩) hm).trans c2, (hb.cell (p := ⟨n, 0, none⟩) hn).trans d0, (hb.cell (p := ⟨n, 1, none⟩) hn).trans d1, (hb.cell (p := ⟨n, 2, none⟩) hn).trans d2⟩


theorem keepT {w x y : World} {k n m : Nat} {a b j1 : Bool} {al ah bl bh j2 j3 : Int} (h : (Below w.heap.size w x ∧ k < x.heap.size ∧ n < x.heap.size ∧ x.cell? ⟨k, 0, none⟩ = some (.bool a) ∧ x.cell? ⟨k, 1, none⟩ = some (.int .i64 al) ∧ x.cell? ⟨k, 2, none⟩ = some (.int .i64 ah) ∧ x.cell? ⟨n, 0, none⟩ = some (.bool b) ∧ x.cell? ⟨n, 1, none⟩ = some (.int .i64 bl) ∧ x.cell? ⟨n, 2, none⟩ = some (.int .i64 bh)) ∧ (m < x.heap.size ∧ n < m ∧ x.cell? ⟨m, 0, none⟩ = some (.bool j1) ∧ x.cell? ⟨m, 1, none⟩ = some (.int .i64 j2) ∧ x.cell? ⟨m, 2, none⟩ = some (.int .i64 j3))) (hb : Below x.heap.size x y) : (Below w.heap.size w y ∧ k < y.heap.size ∧ n < y.heap.size ∧ y.cell? ⟨k, 0, none⟩ = some (.bool a) ∧ y.cell? ⟨k, 1, none⟩ = some (.int .i64 al) ∧ y.cell? ⟨k, 2, none⟩ = some (.int .i64 ah) ∧ y.cell? ⟨n, 0, none⟩ = some (.bool b) ∧ y.cell? ⟨n, 1, none⟩ = some (.int .i64 bl) ∧ y.cell? ⟨n, 2, none⟩ = some (.int .i64 bh)) ∧ (m < y.heap.size ∧ n < m ∧ y.cell? ⟨m, 0, none⟩ = some (.bool j1) ∧ y.cell? ⟨m, 1, none⟩ = some (.int .i64 j2) ∧ y.cell? ⟨m, 2, none⟩ = some (.int .i64 j3)) := by
  obtain ⟨h1, h2, h3, c0, c1, c2⟩ := h
  have hz := hb.size
  exact ⟨keepS h1 hb, by omega, h3, (hb.cell (p := ⟨m, 0, none⟩) h2).trans c0, (hb.cell (p := ⟨m, 1, none⟩) h2).trans c1, (hb.cell (p := ⟨m, 2, none⟩) h2).trans c2⟩
theorem keepTSet {w x : World} {k n m q o : Nat} {v : Value} {a b j1 : Bool} {al ah bl bh j2 j3 : Int} (h : (Below w.heap.size w x ∧ k < x.heap.size ∧ n < x.heap.size ∧ x.cell? ⟨k, 0, none⟩ = some (.bool a) ∧ x.cell? ⟨k, 1, none⟩ = some (.int .i64 al) ∧ x.cell? ⟨k, 2, none⟩ = some (.int .i64 ah) ∧ x.cell? ⟨n, 0, none⟩ = some (.bool b) ∧ x.cell? ⟨n, 1, none⟩ = some (.int .i64 bl) ∧ x.cell? ⟨n, 2, none⟩ = some (.int .i64 bh)) ∧ (m < x.heap.size ∧ n < m ∧ x.cell? ⟨m, 0, none⟩ = some (.bool j1) ∧ x.cell? ⟨m, 1, none⟩ = some (.int .i64 j2) ∧ x.cell? ⟨m, 2, none⟩ = some (.int .i64 j3))) (hm : k < q) (hn : n < q) (hw : w.heap.size ≤ q) (hq : m < q) :
    (Below w.heap.size w (x.setCell ⟨q, o, none⟩ v) ∧ k < (x.setCell ⟨q, o, none⟩ v).heap.size ∧ n < (x.setCell ⟨q, o, none⟩ v).heap.size ∧ (x.setCell ⟨q, o, none⟩ v).cell? ⟨k, 0, none⟩ = some (.bool a) ∧ (x.setCell ⟨q, o, none⟩ v).cell? ⟨k, 1, none⟩ = some (.int .i64 al) ∧ (x.setCell ⟨q, o, none⟩ v).cell? ⟨k, 2, none⟩ = some (.int .i64 ah) ∧ (x.setCell ⟨q, o, none⟩ v).cell? ⟨n, 0, none⟩ = some (.bool b) ∧ (x.setCell ⟨q, o, none⟩ v).cell? ⟨n, 1, none⟩ = some (.int .i64 bl) ∧ (x.setCell ⟨q, o, none⟩ v).cell? ⟨n, 2, none⟩ = some (.int .i64 bh)) ∧ (m < (x.setCell ⟨q, o, none⟩ v).heap.size ∧ n < m ∧ (x.setCell ⟨q, o, none⟩ v).cell? ⟨m, 0, none⟩ = some (.bool j1) ∧ (x.setCell ⟨q, o, none⟩ v).cell? ⟨m, 1, none⟩ = some (.int .i64 j2) ∧ (x.setCell ⟨q, o, none⟩ v).cell? ⟨m, 2, none⟩ = some (.int .i64 j3)) := by
  obtain ⟨h1, h2, h3, c0, c1, c2⟩ := h
  have hb : Below q x (x.setCell ⟨q, o, none⟩ v) := (Below.refl q x).setCell (p := ⟨q, o, none⟩) (Nat.le_refl _) _
  have hz := hb.size
  exact ⟨keepSet h1 hm hn hw, by omega, h3, (hb.cell (p := ⟨m, 0, none⟩) hq).trans c0, (hb.cell (p := ⟨m, 1, none⟩) hq).trans c1, (hb.cell (p := ⟨m, 2, none⟩) hq).trans c2⟩

end Go.Proofs.YtlkebkajdlgebaaGreat

/-
  The contracts of SpanKinds, the program's and the model's: a new row of the kinds of which the span has words.
-/
namespace Go.Proofs.YtlkebkajdlgebaaGreat
open Go.RowKit
set_option linter.unusedVariables false
set_option linter.unusedSimpArgs false

/-- whether a span has words of a kind -/
def kinHas (a : Bool) (l u : Int) (j : Nat) : Bool := (meetF a l u (kindF j).1 (kindF j).2.1 (kindF j).2.2).1
def KL (a : Bool) (l u : Int) : Nat → List Int
  | 0 => []
  | k + 1 => KL a l u k ++ (if kinHas a l u k = true then [(k : Int)] else [])
theorem KL_len (a : Bool) (l u : Int) (k : Nat) : (KL a l u k).length ≤ k := by
  induction k with
  | zero => simp [KL]
  | succ k ih => rw [KL, List.length_append]; split <;> simp <;> omega
/-- the slice value v owns the numbers L, in a block from B on -/
def Owns (x : World) (B : Nat) (v : Value) (L : List Int) : Prop := x.ownsRow B 3 1 v L.length (L.map (Value.int .i64))
theorem Owns.later {x y : World} {B : Nat} {v : Value} {L : List Int} (h : Owns x B v L) (hb : Below x.heap.size x y) : Owns y B v L :=
  World.ownsRow.kept h (row := none) ⟨hb.os, hb.tape, hb.output, hb.size, fun k hk _ => hb.block k hk⟩ (by cases hv : v.ownBlock <;> simp)
theorem Owns.drewN {x : World} {B : Nat} {v : Value} {L : List Int} (h : Owns x B v L) : Owns x.drew B v L := h

theorem keep1 {w x y : World} {m : Nat} {a : Bool} {al ah : Int}
    (h : Below w.heap.size w x ∧ m < x.heap.size ∧ x.cell? ⟨m, 0, none⟩ = some (.bool a) ∧ x.cell? ⟨m, 1, none⟩ = some (.int .i64 al) ∧ x.cell? ⟨m, 2, none⟩ = some (.int .i64 ah))
    (hb : Below x.heap.size x y) :
    Below w.heap.size w y ∧ m < y.heap.size ∧ y.cell? ⟨m, 0, none⟩ = some (.bool a) ∧ y.cell? ⟨m, 1, none⟩ = some (.int .i64 al) ∧ y.cell? ⟨m, 2, none⟩ = some (.int .i64 ah) := by
  obtain ⟨h1, h2, c0, c1, c2⟩ := h
  have hz := hb.size
  have hz1 := h1.size
  exact ⟨h1.trans (hb.mono hz1), by omega, (hb.cell (p := ⟨m, 0, none⟩) h2).trans c0, (hb.cell (p := ⟨m, 1, none⟩) h2).trans c1, (hb.cell (p := ⟨m, 2, none⟩) h2).trans c2⟩
/-- the same where a row of the call's own has turned -/
theorem keep1g {w x y : World} {m : Nat} {a : Bool} {al ah : Int} {v : Value} {L : List Int}
    (h : Below w.heap.size w x ∧ m < x.heap.size ∧ x.cell? ⟨m, 0, none⟩ = some (.bool a) ∧ x.cell? ⟨m, 1, none⟩ = some (.int .i64 al) ∧ x.cell? ⟨m, 2, none⟩ = some (.int .i64 ah))
    (ho : Owns x (m + 1) v L) (hw : w.heap.size ≤ m) (hg : x.grownBy y v.ownBlock) :
    Below w.heap.size w y ∧ m < y.heap.size ∧ y.cell? ⟨m, 0, none⟩ = some (.bool a) ∧ y.cell? ⟨m, 1, none⟩ = some (.int .i64 al) ∧ y.cell? ⟨m, 2, none⟩ = some (.int .i64 ah) := by
  obtain ⟨h1, h2, c0, c1, c2⟩ := h
  have hl := World.ownsRow.lt ho
  have hne : some m ≠ v.ownBlock := fun e => by have := (hl m e.symm).1; omega
  have hz := hg.size
  refine ⟨?_, by omega, hg.cell c0 hne, hg.cell c1 hne, hg.cell c2 hne⟩
  exact h1.grown hg h1.size (fun k hk => by have := (hl k hk).1; omega)

theorem kin_has {a a1 a2 : Bool} {l u l1 u1 l2 u2 : Int} {k : Nat} (h1 : kindF k = (a1, l1, u1)) (h2 : meetF a l u a1 l1 u1 = (a2, l2, u2)) : kinHas a l u k = a2 := by
  unfold kinHas; rw [h1]; simp only; rw [h2]

theorem run_field0 (a : Bool) (l u : Int) (w : World) : Sem.run Tryz.prog (Instr.field 47 (.agg #[.bool a, .int .i64 l, .int .i64 u]) 0) w = .ok (.bool a) w := by kernel_rfl
theorem own_empty (x : World) (B : Nat) (h : B ≤ x.heap.size) : Owns (x.alloc (.cells #[] 3)) B (.slice (some ⟨x.heap.size, 0, none⟩) 0 0) [] := World.ownsRow_lit x #[] 0 h (by unfold maxLen; omega) rfl
theorem own_cell (w : World) (v : Value) : ∀ j u, [v][j]? = some u → (w.alloc (.cells #[v] 3)).cell? ((⟨w.heap.size, 0, none⟩ : Addr).add j) = some u := by
  intro j u hj
  match j, hj with
  | 0, hj => simp at hj; subst hj; simp [Addr.add, go_sem]
theorem KL_yes {a : Bool} {l u : Int} {k : Nat} (h : kinHas a l u k = true) : KL a l u (k + 1) = KL a l u k ++ [(k : Int)] := by rw [KL, if_pos h]
theorem KL_no {a : Bool} {l u : Int} {k : Nat} (h : kinHas a l u k = false) : KL a l u (k + 1) = KL a l u k := by rw [KL, if_neg (by simp [h])]; simp

set_option maxRecDepth 100000 in
set_option maxHeartbeats 2000000 in
theorem kinds_impl (a : Bool) (l u : Int) (w : World) : Calls Tryz.prog 67 #[.agg #[.bool a, .int .i64 l, .int .i64 u]] w fun e y => ∃ v, e = .returned v ∧ Owns y (w.heap.size + 1) v (KL a l u 3) ∧ Below w.heap.size w y := by
  have hfl := run_field0
  obtain ⟨i0, hi, hz0, hz1, hz2⟩ : ∃ i, Tryz.prog.info? 3 = some i ∧ i.zero = some (.int .i64 0) ∧ i.size = 1 ∧ i.bytes = 8 := info_parts (by kernel_rfl)
  have HI : Hid (Tryz.prog.info? 3 = some i0 ∧ i0.zero = some (.int .i64 0) ∧ i0.size = 1 ∧ i0.bytes = 8) := ⟨hi, hz0, hz1, hz2⟩
  clear hi hz0 hz1 hz2
  go_enter Tryz.func67, Tryz.ntmps67
  go_wp2
  go_loopw [3, 4] (fun v i x => ∃ k : Nat, k ≤ 3 ∧ i = .int .i64 k ∧ Owns x (w.heap.size + 1) v (KL a l u k) ∧ (Below w.heap.size w x ∧ w.heap.size < x.heap.size ∧ x.cell? ⟨w.heap.size, 0, none⟩ = some (.bool a) ∧ x.cell? ⟨w.heap.size, 1, none⟩ = some (.int .i64 l) ∧ x.cell? ⟨w.heap.size, 2, none⟩ = some (.int .i64 u))) (fun _ i _ => 3 - (intOf i).toNat)
  case atStart => exact ⟨0, by omega, rfl, World.ownsRow_nil _ _ _ _, by go_grown, by go_size, by simp [go_sem], by simp [go_sem], by simp [go_sem]⟩
  case round =>
    obtain ⟨k, hk, rfl, hown, hS⟩ := hrel
    by_cases hlt : k < 3
    · have hle : (k : Int) ≤ 2 := by omega
      go_wp2_with fail
      go_region_held (fun x => Below w.heap.size w x ∧ w.heap.size < x.heap.size ∧ x.cell? ⟨w.heap.size, 0, none⟩ = some (.bool a) ∧ x.cell? ⟨w.heap.size, 1, none⟩ = some (.int .i64 l) ∧ x.cell? ⟨w.heap.size, 2, none⟩ = some (.int .i64 u))
        (first | assumption | exact keep1 (by assumption) (by assumption) | exact keep1 (by assumption) (Below.drew (Below.refl _ _)))
        (first | (go_at_call 94; refine (kind_impl _ _).mono ?_; rintro e w1 ⟨hs1, hb1⟩; obtain ⟨a1, l1, u1, hx1, rfl⟩ := hs1.out; have hS1 := keep1 (by assumption) hb1) | (go_at_call 93; refine (meet_impl _ _ _ _ _ _ _).mono ?_; rintro e w2 ⟨hs2, hb2⟩; obtain ⟨a2, l2, u2, hx2, rfl⟩ := hs2.out; have hS2 := keep1 (by assumption) hb2))
      have ho2 := Owns.later (Owns.later (x := wr.drew) hown hb1) hb2
      have hkh : Hid (kinHas a l u k = a2) := kin_has hx1 hx2
      have hS2 : Below w.heap.size w w2 ∧ w.heap.size < w2.heap.size ∧ w2.cell? ⟨w.heap.size, 0, none⟩ = some (.bool a) ∧ w2.cell? ⟨w.heap.size, 1, none⟩ = some (.int .i64 l) ∧ w2.cell? ⟨w.heap.size, 2, none⟩ = some (.int .i64 u) := by assumption
      clear hb1 hb2 hS hown hx1 hx2
      cases a2
      · go_wp2
        go_roundw
        case rel => exact ⟨k + 1, by omega, by go_num, by rw [KL_no hkh.out]; exact ho2, hS2⟩
        case measure => simp [intOf]; omega
      · have hlen := KL_len a l u k
        go_wp2_with (at_builtin; refine wpList_append_own _ rfl _ _ 83 rfl (w.heap.size + 1) 3 i0 (.int .i64 0) 1 8 Tryz.underlying83 HI.out.1 HI.out.2.1 HI.out.2.2.1 HI.out.2.2.2 rfl (by decide) _ _ _ rfl (World.ownsRow.alloc ho2 _) ⟨w2.heap.size, 0, none⟩ 1 1 [.int .i64 k] rfl rfl ?c1 ?c2 ?c3 ?c4 ?c5 ?_)
        case c1 => exact own_cell _ _
        case c2 => intro u hu; simp at hu; subst hu; rfl
        case c3 => unfold maxLen; omega
        case c4 => omega
        case c5 => have := hS2.2.1; simp; omega
        · intro v' w3 hown' hgrow _
          have ho3 : Owns w3 (w.heap.size + 1) v' (KL a l u (k + 1)) := by
            rw [KL_yes hkh.out]; unfold Owns; simpa using hown'
          have hS3 := keep1g (keep1 hS2 ((Below.refl _ _).alloc (Nat.le_refl _) _)) (World.ownsRow.alloc ho2 _) (Nat.le_refl _) hgrow
          clear hown' hgrow ho2 hS2
          go_wp2
          go_roundw
          case rel => exact ⟨k + 1, by omega, by go_num, ho3, hS3⟩
          case measure => simp [intOf]; omega
    · obtain rfl : k = 3 := by omega
      go_wp2
      go_ret
      exact ⟨_, rfl, hown, hS.1⟩
theorem meet_some {a b a2 : Bool} {al ah bl bh l2 u2 : Int} (h : meetF a al ah b bl bh = (a2, l2, u2)) : (a2 && okF a2 l2 u2) = a2 := by
  cases a2
  · rfl
  · simp only [Bool.true_and]
    unfold meetF at h
    split at h
    · rename_i hb
      simp only [bothF, Bool.and_eq_true] at hb
      obtain ⟨⟨⟨h1, h2⟩, rfl⟩, rfl⟩ := hb
      have e1 := okF_bd h1
      have e2 := okF_bd h2
      unfold mkF at h
      split at h
      · simp [noSp] at h
      · simp at h
        exact okF_t (by omega)
    · simp [noSp] at h

set_option maxRecDepth 100000 in
set_option maxHeartbeats 2000000 in
theorem kinds_spec (a : Bool) (l u : Int) (w : World) : Calls Tryz.prog 65 #[.agg #[.bool a, .int .i64 l, .int .i64 u]] w fun e y => ∃ v, e = .returned v ∧ Owns y (w.heap.size + 1) v (KL a l u 3) ∧ Below w.heap.size w y := by
  obtain ⟨i0, hi, hz0, hz1, hz2⟩ : ∃ i, Tryz.prog.info? 3 = some i ∧ i.zero = some (.int .i64 0) ∧ i.size = 1 ∧ i.bytes = 8 := info_parts (by kernel_rfl)
  have HI : Hid (Tryz.prog.info? 3 = some i0 ∧ i0.zero = some (.int .i64 0) ∧ i0.size = 1 ∧ i0.bytes = 8) := ⟨hi, hz0, hz1, hz2⟩
  clear hi hz0 hz1 hz2
  go_enter Tryz.func65, Tryz.ntmps65
  go_wp2
  go_loopw [3, 4] (fun v i x => ∃ k : Nat, k ≤ 3 ∧ i = .int .i64 k ∧ Owns x (w.heap.size + 1) v (KL a l u k) ∧ (Below w.heap.size w x ∧ w.heap.size < x.heap.size ∧ x.cell? ⟨w.heap.size, 0, none⟩ = some (.bool a) ∧ x.cell? ⟨w.heap.size, 1, none⟩ = some (.int .i64 l) ∧ x.cell? ⟨w.heap.size, 2, none⟩ = some (.int .i64 u))) (fun _ i _ => 3 - (intOf i).toNat)
  case atStart => exact ⟨0, by omega, rfl, by have := own_empty (w.alloc (.cells #[.bool a, .int .i64 l, .int .i64 u] 47)) (w.heap.size + 1) (by simp); simpa [KL] using this, by go_grown, by go_size, by simp [go_sem], by simp [go_sem], by simp [go_sem]⟩
  case round =>
    obtain ⟨k, hk, rfl, hown, hS⟩ := hrel
    by_cases hlt : k < 3
    · have hle : (k : Int) ≤ 2 := by omega
      go_wp2_with fail
      go_region_held (fun x => Below w.heap.size w x ∧ w.heap.size < x.heap.size ∧ x.cell? ⟨w.heap.size, 0, none⟩ = some (.bool a) ∧ x.cell? ⟨w.heap.size, 1, none⟩ = some (.int .i64 l) ∧ x.cell? ⟨w.heap.size, 2, none⟩ = some (.int .i64 u))
        (first | assumption | exact keep1 (by assumption) (by assumption) | exact keep1 (by assumption) (Below.drew (Below.refl _ _)))
        (first | (go_at_call 91; refine (kind_spec _ _).mono ?_; rintro e w1 ⟨hs1, hb1⟩; obtain ⟨a1, l1, u1, hx1, rfl⟩ := hs1.out; have hS1 := keep1 (by assumption) hb1) | (go_at_call 90; refine (meet_spec _ _ _ _ _ _ _).mono ?_; rintro e w2 ⟨hs2, hb2⟩; obtain ⟨a2, l2, u2, hx2, rfl⟩ := hs2.out; have hS2 := keep1 (by assumption) hb2) | (go_at_call 89; refine (l1Some_any _ _ _ _).mono ?_; rintro e w3 ⟨rfl, hb3⟩; have hS3 := keep1 (by assumption) hb3; rw [meet_some hx2]))
      have ho2 := Owns.later (Owns.later (Owns.later (x := wr.drew) hown hb1) hb2) hb3
      have hkh : Hid (kinHas a l u k = a2) := kin_has hx1 hx2
      have hS2 : Below w.heap.size w w3 ∧ w.heap.size < w3.heap.size ∧ w3.cell? ⟨w.heap.size, 0, none⟩ = some (.bool a) ∧ w3.cell? ⟨w.heap.size, 1, none⟩ = some (.int .i64 l) ∧ w3.cell? ⟨w.heap.size, 2, none⟩ = some (.int .i64 u) := by assumption
      clear hb1 hb2 hb3 hS hown hx1 hx2
      cases a2
      · go_wp2
        go_roundw
        case rel => exact ⟨k + 1, by omega, by go_num, by rw [KL_no hkh.out]; exact ho2, hS2⟩
        case measure => simp [intOf]; omega
      · have hlen := KL_len a l u k
        go_wp2_with (at_builtin; refine wpList_append_own _ rfl _ _ 83 rfl (w.heap.size + 1) 3 i0 (.int .i64 0) 1 8 Tryz.underlying83 HI.out.1 HI.out.2.1 HI.out.2.2.1 HI.out.2.2.2 rfl (by decide) _ _ _ rfl (World.ownsRow.alloc ho2 _) ⟨w3.heap.size, 0, none⟩ 1 1 [.int .i64 k] rfl rfl ?c1 ?c2 ?c3 ?c4 ?c5 ?_)
        case c1 => exact own_cell _ _
        case c2 => intro u hu; simp at hu; subst hu; rfl
        case c3 => unfold maxLen; omega
        case c4 => omega
        case c5 => have := hS2.2.1; simp; omega
        · intro v' w4 hown' hgrow _
          have ho3 : Owns w4 (w.heap.size + 1) v' (KL a l u (k + 1)) := by
            rw [KL_yes hkh.out]; unfold Owns; simpa using hown'
          have hS4 := keep1g (keep1 hS2 ((Below.refl _ _).alloc (Nat.le_refl _) _)) (World.ownsRow.alloc ho2 _) (Nat.le_refl _) hgrow
          clear hown' hgrow ho2 hS2
          go_wp2
          go_roundw
          case rel => exact ⟨k + 1, by omega, by go_num, ho3, hS4⟩
          case measure => simp [intOf]; omega
    · obtain rfl : k = 3 := by omega
      go_wp2
      go_ret
      exact ⟨_, rfl, hown, hS.1⟩
end Go.Proofs.YtlkebkajdlgebaaGreat
