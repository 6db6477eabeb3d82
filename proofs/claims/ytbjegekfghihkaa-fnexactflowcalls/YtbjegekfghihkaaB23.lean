import Derived.Test.YtbjegekfghihkaaB22
import Derived.Test.YtbjegekfghihkaaB18
import Derived.Deep.RegionHeld
import Derived.Deep.DeepCutAuto
/-
  The contracts of SpanMeet, the program's and the model's.
-/
namespace Go.Proofs.Ytbjegekfghihkaa
open Go.RowKit
set_option linter.unusedVariables false
set_option linter.unusedSimpArgs false

theorem meet_mk {a b : Bool} {al ah bl bh x y : Int} (h : bothF a al ah b bl bh = true) (hx : x = max al bl) (hy : y = min ah bh) : meetF a al ah b bl bh = mkF x y := by
  subst hx hy
  simp [meetF, h]
theorem meet_no {a b : Bool} {al ah bl bh : Int} (h : bothF a al ah b bl bh = false) : meetF a al ah b bl bh = (false, 0, 0) := by simp [meetF, h, noSp]
theorem mk_yes {x y : Int} (h : x ≤ y) : mkF x y = (true, x, y) := by unfold mkF; rw [if_neg (by omega)]
theorem mk_no {x y : Int} (h : y < x) : mkF x y = (false, 0, 0) := by unfold mkF; rw [if_pos h]; rfl
theorem both_parts (a : Bool) (al ah : Int) (b : Bool) (bl bh : Int) : bothF a al ah b bl bh = ((a && okF a al ah) && (b && okF b bl bh)) := by
  unfold bothF; cases a <;> cases b <;> simp [Bool.and_comm]

set_option maxHeartbeats 1000000 in
theorem meet_impl (a : Bool) (al ah : Int) (b : Bool) (bl bh : Int) (w : World) : Calls Try.prog 88 #[.agg #[.bool a, .int .i64 al, .int .i64 ah], .agg #[.bool b, .int .i64 bl, .int .i64 bh]] w fun e w' => RetSp (meetF a al ah b bl bh) e ∧ Below w.heap.size w w' := by
  cases ho : bothF a al ah b bl bh
  · go_enter Try.func88, Try.ntmps88
    go_wp2_with fail
    refine (both_impl _ _ _ _ _ _ _).mono ?_
    rintro e w1 ⟨rfl, hr1⟩
    have hb1 : Below w.heap.size w w1 := ((((Below.refl _ _).alloc (by go_size) _).alloc (by go_size) _).alloc (by go_size) _).trans (hr1.mono (by go_size))
    have hz1 : w.heap.size + 3 ≤ w1.heap.size := by have := hr1.size; first | omega | (simp at this; omega)
    have hB1 : Below w.heap.size w w1 := hb1
    have c1x0o0 : w1.cell? ⟨w.heap.size, 0, none⟩ = some (.bool a) := (hr1.cell (p := ⟨w.heap.size, 0, none⟩) (by go_size)).trans (by simp [go_sem])
    have c1x0o1 : w1.cell? ⟨w.heap.size, 1, none⟩ = some (.int .i64 al) := (hr1.cell (p := ⟨w.heap.size, 1, none⟩) (by go_size)).trans (by simp [go_sem])
    have c1x0o2 : w1.cell? ⟨w.heap.size, 2, none⟩ = some (.int .i64 ah) := (hr1.cell (p := ⟨w.heap.size, 2, none⟩) (by go_size)).trans (by simp [go_sem])
    have c1x1o0 : w1.cell? ⟨w.heap.size + 1, 0, none⟩ = some (.bool b) := (hr1.cell (p := ⟨w.heap.size + 1, 0, none⟩) (by go_size)).trans (by simp [go_sem])
    have c1x1o1 : w1.cell? ⟨w.heap.size + 1, 1, none⟩ = some (.int .i64 bl) := (hr1.cell (p := ⟨w.heap.size + 1, 1, none⟩) (by go_size)).trans (by simp [go_sem])
    have c1x1o2 : w1.cell? ⟨w.heap.size + 1, 2, none⟩ = some (.int .i64 bh) := (hr1.cell (p := ⟨w.heap.size + 1, 2, none⟩) (by go_size)).trans (by simp [go_sem])
    have c1x2o0 : w1.cell? ⟨w.heap.size + 1 + 1, 0, none⟩ = some (.bool false) := (hr1.cell (p := ⟨w.heap.size + 1 + 1, 0, none⟩) (by go_size)).trans (by simp [go_sem])
    have f1x2o0 : w1.frozen? ⟨w.heap.size + 1 + 1, 0, none⟩ = false := (hr1.frozen (p := ⟨w.heap.size + 1 + 1, 0, none⟩) (by go_size)).trans (by simp [go_sem])
    have c1x2o1 : w1.cell? ⟨w.heap.size + 1 + 1, 1, none⟩ = some (.int .i64 0) := (hr1.cell (p := ⟨w.heap.size + 1 + 1, 1, none⟩) (by go_size)).trans (by simp [go_sem])
    have f1x2o1 : w1.frozen? ⟨w.heap.size + 1 + 1, 1, none⟩ = false := (hr1.frozen (p := ⟨w.heap.size + 1 + 1, 1, none⟩) (by go_size)).trans (by simp [go_sem])
    have c1x2o2 : w1.cell? ⟨w.heap.size + 1 + 1, 2, none⟩ = some (.int .i64 0) := (hr1.cell (p := ⟨w.heap.size + 1 + 1, 2, none⟩) (by go_size)).trans (by simp [go_sem])
    have f1x2o2 : w1.frozen? ⟨w.heap.size + 1 + 1, 2, none⟩ = false := (hr1.frozen (p := ⟨w.heap.size + 1 + 1, 2, none⟩) (by go_size)).trans (by simp [go_sem])
    have n1x0 : w.heap.size < w1.heap.size := by omega
    have n1x1 : w.heap.size + 1 < w1.heap.size := by omega
    have n1x2 : w.heap.size + 1 + 1 < w1.heap.size := by omega
    clear hr1 hb1
    simp only [ho]
    go_wp2
    refine bodyPost_ret (v := .agg #[.bool false, .int .i64 0, .int .i64 0]) (by simp [results, Try.results88, go_sem, n1x0, n1x1, n1x2, c1x0o0, c1x0o1, c1x0o2, c1x1o0, c1x1o1, c1x1o2, c1x2o0, c1x2o1, c1x2o2]) rfl ⟨RetSp.mk (meet_no ho), ?_⟩
    go_grown
  · go_enter Try.func88, Try.ntmps88
    go_wp2_with fail
    refine (both_impl _ _ _ _ _ _ _).mono ?_
    rintro e w1 ⟨rfl, hr1⟩
    have hb1 : Below w.heap.size w w1 := ((((Below.refl _ _).alloc (by go_size) _).alloc (by go_size) _).alloc (by go_size) _).trans (hr1.mono (by go_size))
    have hz1 : w.heap.size + 3 ≤ w1.heap.size := by have := hr1.size; first | omega | (simp at this; omega)
    have hB1 : Below w.heap.size w w1 := hb1
    have c1x0o0 : w1.cell? ⟨w.heap.size, 0, none⟩ = some (.bool a) := (hr1.cell (p := ⟨w.heap.size, 0, none⟩) (by go_size)).trans (by simp [go_sem])
    have c1x0o1 : w1.cell? ⟨w.heap.size, 1, none⟩ = some (.int .i64 al) := (hr1.cell (p := ⟨w.heap.size, 1, none⟩) (by go_size)).trans (by simp [go_sem])
    have c1x0o2 : w1.cell? ⟨w.heap.size, 2, none⟩ = some (.int .i64 ah) := (hr1.cell (p := ⟨w.heap.size, 2, none⟩) (by go_size)).trans (by simp [go_sem])
    have c1x1o0 : w1.cell? ⟨w.heap.size + 1, 0, none⟩ = some (.bool b) := (hr1.cell (p := ⟨w.heap.size + 1, 0, none⟩) (by go_size)).trans (by simp [go_sem])
    have c1x1o1 : w1.cell? ⟨w.heap.size + 1, 1, none⟩ = some (.int .i64 bl) := (hr1.cell (p := ⟨w.heap.size + 1, 1, none⟩) (by go_size)).trans (by simp [go_sem])
    have c1x1o2 : w1.cell? ⟨w.heap.size + 1, 2, none⟩ = some (.int .i64 bh) := (hr1.cell (p := ⟨w.heap.size + 1, 2, none⟩) (by go_size)).trans (by simp [go_sem])
    have c1x2o0 : w1.cell? ⟨w.heap.size + 1 + 1, 0, none⟩ = some (.bool false) := (hr1.cell (p := ⟨w.heap.size + 1 + 1, 0, none⟩) (by go_size)).trans (by simp [go_sem])
    have f1x2o0 : w1.frozen? ⟨w.heap.size + 1 + 1, 0, none⟩ = false := (hr1.frozen (p := ⟨w.heap.size + 1 + 1, 0, none⟩) (by go_size)).trans (by simp [go_sem])
    have c1x2o1 : w1.cell? ⟨w.heap.size + 1 + 1, 1, none⟩ = some (.int .i64 0) := (hr1.cell (p := ⟨w.heap.size + 1 + 1, 1, none⟩) (by go_size)).trans (by simp [go_sem])
    have f1x2o1 : w1.frozen? ⟨w.heap.size + 1 + 1, 1, none⟩ = false := (hr1.frozen (p := ⟨w.heap.size + 1 + 1, 1, none⟩) (by go_size)).trans (by simp [go_sem])
    have c1x2o2 : w1.cell? ⟨w.heap.size + 1 + 1, 2, none⟩ = some (.int .i64 0) := (hr1.cell (p := ⟨w.heap.size + 1 + 1, 2, none⟩) (by go_size)).trans (by simp [go_sem])
    have f1x2o2 : w1.frozen? ⟨w.heap.size + 1 + 1, 2, none⟩ = false := (hr1.frozen (p := ⟨w.heap.size + 1 + 1, 2, none⟩) (by go_size)).trans (by simp [go_sem])
    have n1x0 : w.heap.size < w1.heap.size := by omega
    have n1x1 : w.heap.size + 1 < w1.heap.size := by omega
    have n1x2 : w.heap.size + 1 + 1 < w1.heap.size := by omega
    clear hr1 hb1
    simp only [ho]
    go_wp2
    all_goals
      first
      | (refine bodyPost_ret (v := .agg #[.bool false, .int .i64 0, .int .i64 0]) (by simp [results, Try.results88, go_sem, n1x0, n1x1, n1x2, c1x0o0, c1x0o1, c1x0o2, c1x1o0, c1x1o1, c1x1o2, c1x2o0, c1x2o1, c1x2o2]) rfl ⟨RetSp.mk (?_), ?_⟩; exact (meet_mk ho rfl rfl).trans (mk_no (by omega)); go_grown)
      | (refine bodyPost_ret (v := .agg #[.bool true, .int .i64 al, .int .i64 ah]) (by simp [results, Try.results88, go_sem, n1x0, n1x1, n1x2, c1x0o0, c1x0o1, c1x0o2, c1x1o0, c1x1o1, c1x1o2, c1x2o0, c1x2o1, c1x2o2]) rfl ⟨RetSp.mk (?_), ?_⟩; exact (meet_mk ho (x := al) (y := ah) (by omega) (by omega)).trans (mk_yes (by omega)); go_grown)
      | (refine bodyPost_ret (v := .agg #[.bool true, .int .i64 al, .int .i64 bh]) (by simp [results, Try.results88, go_sem, n1x0, n1x1, n1x2, c1x0o0, c1x0o1, c1x0o2, c1x1o0, c1x1o1, c1x1o2, c1x2o0, c1x2o1, c1x2o2]) rfl ⟨RetSp.mk (?_), ?_⟩; exact (meet_mk ho (x := al) (y := bh) (by omega) (by omega)).trans (mk_yes (by omega)); go_grown)
      | (refine bodyPost_ret (v := .agg #[.bool true, .int .i64 bl, .int .i64 ah]) (by simp [results, Try.results88, go_sem, n1x0, n1x1, n1x2, c1x0o0, c1x0o1, c1x0o2, c1x1o0, c1x1o1, c1x1o2, c1x2o0, c1x2o1, c1x2o2]) rfl ⟨RetSp.mk (?_), ?_⟩; exact (meet_mk ho (x := bl) (y := ah) (by omega) (by omega)).trans (mk_yes (by omega)); go_grown)
      | (refine bodyPost_ret (v := .agg #[.bool true, .int .i64 bl, .int .i64 bh]) (by simp [results, Try.results88, go_sem, n1x0, n1x1, n1x2, c1x0o0, c1x0o1, c1x0o2, c1x1o0, c1x1o1, c1x1o2, c1x2o0, c1x2o1, c1x2o2]) rfl ⟨RetSp.mk (?_), ?_⟩; exact (meet_mk ho (x := bl) (y := bh) (by omega) (by omega)).trans (mk_yes (by omega)); go_grown)

set_option maxHeartbeats 1000000 in
theorem meet_spec (a : Bool) (al ah : Int) (b : Bool) (bl bh : Int) (w : World) : Calls Try.prog 84 #[.agg #[.bool a, .int .i64 al, .int .i64 ah], .agg #[.bool b, .int .i64 bl, .int .i64 bh]] w fun e w' => RetSp (meetF a al ah b bl bh) e ∧ Below w.heap.size w w' := by
  cases ho1 : (a && okF a al ah)
  · go_enter Try.func84, Try.ntmps84
    go_wp2_with fail
    refine (l1Some_any _ _ _ _).mono ?_
    rintro e w1 ⟨rfl, hr1⟩
    have hb1 : Below w.heap.size w w1 := ((((Below.refl _ _).alloc (by go_size) _).alloc (by go_size) _).alloc (by go_size) _).trans (hr1.mono (by go_size))
    have hz1 : w.heap.size + 3 ≤ w1.heap.size := by have := hr1.size; first | omega | (simp at this; omega)
    have hB1 : Below w.heap.size w w1 := hb1
    have c1x0o0 : w1.cell? ⟨w.heap.size, 0, none⟩ = some (.bool a) := (hr1.cell (p := ⟨w.heap.size, 0, none⟩) (by go_size)).trans (by simp [go_sem])
    have c1x0o1 : w1.cell? ⟨w.heap.size, 1, none⟩ = some (.int .i64 al) := (hr1.cell (p := ⟨w.heap.size, 1, none⟩) (by go_size)).trans (by simp [go_sem])
    have c1x0o2 : w1.cell? ⟨w.heap.size, 2, none⟩ = some (.int .i64 ah) := (hr1.cell (p := ⟨w.heap.size, 2, none⟩) (by go_size)).trans (by simp [go_sem])
    have c1x1o0 : w1.cell? ⟨w.heap.size + 1, 0, none⟩ = some (.bool b) := (hr1.cell (p := ⟨w.heap.size + 1, 0, none⟩) (by go_size)).trans (by simp [go_sem])
    have c1x1o1 : w1.cell? ⟨w.heap.size + 1, 1, none⟩ = some (.int .i64 bl) := (hr1.cell (p := ⟨w.heap.size + 1, 1, none⟩) (by go_size)).trans (by simp [go_sem])
    have c1x1o2 : w1.cell? ⟨w.heap.size + 1, 2, none⟩ = some (.int .i64 bh) := (hr1.cell (p := ⟨w.heap.size + 1, 2, none⟩) (by go_size)).trans (by simp [go_sem])
    have c1x2o0 : w1.cell? ⟨w.heap.size + 1 + 1, 0, none⟩ = some (.bool false) := (hr1.cell (p := ⟨w.heap.size + 1 + 1, 0, none⟩) (by go_size)).trans (by simp [go_sem])
    have f1x2o0 : w1.frozen? ⟨w.heap.size + 1 + 1, 0, none⟩ = false := (hr1.frozen (p := ⟨w.heap.size + 1 + 1, 0, none⟩) (by go_size)).trans (by simp [go_sem])
    have c1x2o1 : w1.cell? ⟨w.heap.size + 1 + 1, 1, none⟩ = some (.int .i64 0) := (hr1.cell (p := ⟨w.heap.size + 1 + 1, 1, none⟩) (by go_size)).trans (by simp [go_sem])
    have f1x2o1 : w1.frozen? ⟨w.heap.size + 1 + 1, 1, none⟩ = false := (hr1.frozen (p := ⟨w.heap.size + 1 + 1, 1, none⟩) (by go_size)).trans (by simp [go_sem])
    have c1x2o2 : w1.cell? ⟨w.heap.size + 1 + 1, 2, none⟩ = some (.int .i64 0) := (hr1.cell (p := ⟨w.heap.size + 1 + 1, 2, none⟩) (by go_size)).trans (by simp [go_sem])
    have f1x2o2 : w1.frozen? ⟨w.heap.size + 1 + 1, 2, none⟩ = false := (hr1.frozen (p := ⟨w.heap.size + 1 + 1, 2, none⟩) (by go_size)).trans (by simp [go_sem])
    have n1x0 : w.heap.size < w1.heap.size := by omega
    have n1x1 : w.heap.size + 1 < w1.heap.size := by omega
    have n1x2 : w.heap.size + 1 + 1 < w1.heap.size := by omega
    clear hr1 hb1
    simp only [ho1]
    go_wp2
    refine bodyPost_ret (v := .agg #[.bool false, .int .i64 0, .int .i64 0]) (by simp [results, Try.results84, go_sem, n1x0, n1x1, n1x2, c1x0o0, c1x0o1, c1x0o2, c1x1o0, c1x1o1, c1x1o2, c1x2o0, c1x2o1, c1x2o2]) rfl ⟨RetSp.mk (meet_no (by rw [both_parts, ho1]; rfl)), ?_⟩
    go_grown
  · cases ho2 : (b && okF b bl bh)
    · go_enter Try.func84, Try.ntmps84
      go_wp2_with fail
      refine (l1Some_any _ _ _ _).mono ?_
      rintro e w1 ⟨rfl, hr1⟩
      have hb1 : Below w.heap.size w w1 := ((((Below.refl _ _).alloc (by go_size) _).alloc (by go_size) _).alloc (by go_size) _).trans (hr1.mono (by go_size))
      have hz1 : w.heap.size + 3 ≤ w1.heap.size := by have := hr1.size; first | omega | (simp at this; omega)
      have hB1 : Below w.heap.size w w1 := hb1
      have c1x0o0 : w1.cell? ⟨w.heap.size, 0, none⟩ = some (.bool a) := (hr1.cell (p := ⟨w.heap.size, 0, none⟩) (by go_size)).trans (by simp [go_sem])
      have c1x0o1 : w1.cell? ⟨w.heap.size, 1, none⟩ = some (.int .i64 al) := (hr1.cell (p := ⟨w.heap.size, 1, none⟩) (by go_size)).trans (by simp [go_sem])
      have c1x0o2 : w1.cell? ⟨w.heap.size, 2, none⟩ = some (.int .i64 ah) := (hr1.cell (p := ⟨w.heap.size, 2, none⟩) (by go_size)).trans (by simp [go_sem])
      have c1x1o0 : w1.cell? ⟨w.heap.size + 1, 0, none⟩ = some (.bool b) := (hr1.cell (p := ⟨w.heap.size + 1, 0, none⟩) (by go_size)).trans (by simp [go_sem])
      have c1x1o1 : w1.cell? ⟨w.heap.size + 1, 1, none⟩ = some (.int .i64 bl) := (hr1.cell (p := ⟨w.heap.size + 1, 1, none⟩) (by go_size)).trans (by simp [go_sem])
      have c1x1o2 : w1.cell? ⟨w.heap.size + 1, 2, none⟩ = some (.int .i64 bh) := (hr1.cell (p := ⟨w.heap.size + 1, 2, none⟩) (by go_size)).trans (by simp [go_sem])
      have c1x2o0 : w1.cell? ⟨w.heap.size + 1 + 1, 0, none⟩ = some (.bool false) := (hr1.cell (p := ⟨w.heap.size + 1 + 1, 0, none⟩) (by go_size)).trans (by simp [go_sem])
      have f1x2o0 : w1.frozen? ⟨w.heap.size + 1 + 1, 0, none⟩ = false := (hr1.frozen (p := ⟨w.heap.size + 1 + 1, 0, none⟩) (by go_size)).trans (by simp [go_sem])
      have c1x2o1 : w1.cell? ⟨w.heap.size + 1 + 1, 1, none⟩ = some (.int .i64 0) := (hr1.cell (p := ⟨w.heap.size + 1 + 1, 1, none⟩) (by go_size)).trans (by simp [go_sem])
      have f1x2o1 : w1.frozen? ⟨w.heap.size + 1 + 1, 1, none⟩ = false := (hr1.frozen (p := ⟨w.heap.size + 1 + 1, 1, none⟩) (by go_size)).trans (by simp [go_sem])
      have c1x2o2 : w1.cell? ⟨w.heap.size + 1 + 1, 2, none⟩ = some (.int .i64 0) := (hr1.cell (p := ⟨w.heap.size + 1 + 1, 2, none⟩) (by go_size)).trans (by simp [go_sem])
      have f1x2o2 : w1.frozen? ⟨w.heap.size + 1 + 1, 2, none⟩ = false := (hr1.frozen (p := ⟨w.heap.size + 1 + 1, 2, none⟩) (by go_size)).trans (by simp [go_sem])
      have n1x0 : w.heap.size < w1.heap.size := by omega
      have n1x1 : w.heap.size + 1 < w1.heap.size := by omega
      have n1x2 : w.heap.size + 1 + 1 < w1.heap.size := by omega
      clear hr1 hb1
      simp only [ho1]
      go_wp2_with fail
      refine (l1Some_any _ _ _ _).mono ?_
      rintro e w2 ⟨rfl, hr2⟩
      have hb2 : Below w1.heap.size w1 w2 := (Below.refl _ _).trans (hr2.mono (by go_size))
      have hz2 : w1.heap.size + 0 ≤ w2.heap.size := by have := hr2.size; first | omega | (simp at this; omega)
      have hB2 : Below w.heap.size w w2 := hB1.trans (hb2.mono (by go_size))
      have c2x0o0 : w2.cell? ⟨w.heap.size, 0, none⟩ = some (.bool a) := (hb2.cell (p := ⟨w.heap.size, 0, none⟩) (by go_size)).trans c1x0o0
      have c2x0o1 : w2.cell? ⟨w.heap.size, 1, none⟩ = some (.int .i64 al) := (hb2.cell (p := ⟨w.heap.size, 1, none⟩) (by go_size)).trans c1x0o1
      have c2x0o2 : w2.cell? ⟨w.heap.size, 2, none⟩ = some (.int .i64 ah) := (hb2.cell (p := ⟨w.heap.size, 2, none⟩) (by go_size)).trans c1x0o2
      have c2x1o0 : w2.cell? ⟨w.heap.size + 1, 0, none⟩ = some (.bool b) := (hb2.cell (p := ⟨w.heap.size + 1, 0, none⟩) (by go_size)).trans c1x1o0
      have c2x1o1 : w2.cell? ⟨w.heap.size + 1, 1, none⟩ = some (.int .i64 bl) := (hb2.cell (p := ⟨w.heap.size + 1, 1, none⟩) (by go_size)).trans c1x1o1
      have c2x1o2 : w2.cell? ⟨w.heap.size + 1, 2, none⟩ = some (.int .i64 bh) := (hb2.cell (p := ⟨w.heap.size + 1, 2, none⟩) (by go_size)).trans c1x1o2
      have c2x2o0 : w2.cell? ⟨w.heap.size + 1 + 1, 0, none⟩ = some (.bool false) := (hb2.cell (p := ⟨w.heap.size + 1 + 1, 0, none⟩) (by go_size)).trans c1x2o0
      have f2x2o0 : w2.frozen? ⟨w.heap.size + 1 + 1, 0, none⟩ = false := (hb2.frozen (p := ⟨w.heap.size + 1 + 1, 0, none⟩) (by go_size)).trans f1x2o0
      have c2x2o1 : w2.cell? ⟨w.heap.size + 1 + 1, 1, none⟩ = some (.int .i64 0) := (hb2.cell (p := ⟨w.heap.size + 1 + 1, 1, none⟩) (by go_size)).trans c1x2o1
      have f2x2o1 : w2.frozen? ⟨w.heap.size + 1 + 1, 1, none⟩ = false := (hb2.frozen (p := ⟨w.heap.size + 1 + 1, 1, none⟩) (by go_size)).trans f1x2o1
      have c2x2o2 : w2.cell? ⟨w.heap.size + 1 + 1, 2, none⟩ = some (.int .i64 0) := (hb2.cell (p := ⟨w.heap.size + 1 + 1, 2, none⟩) (by go_size)).trans c1x2o2
      have f2x2o2 : w2.frozen? ⟨w.heap.size + 1 + 1, 2, none⟩ = false := (hb2.frozen (p := ⟨w.heap.size + 1 + 1, 2, none⟩) (by go_size)).trans f1x2o2
      have n2x0 : w.heap.size < w2.heap.size := by omega
      have n2x1 : w.heap.size + 1 < w2.heap.size := by omega
      have n2x2 : w.heap.size + 1 + 1 < w2.heap.size := by omega
      clear n1x0 n1x1 n1x2 c1x0o0 c1x0o1 c1x0o2 c1x1o0 c1x1o1 c1x1o2 c1x2o0 c1x2o1 c1x2o2 f1x2o0 f1x2o1 f1x2o2
      clear hr2 hb2
      simp only [ho2]
      go_wp2
      refine bodyPost_ret (v := .agg #[.bool false, .int .i64 0, .int .i64 0]) (by simp [results, Try.results84, go_sem, n2x0, n2x1, n2x2, c2x0o0, c2x0o1, c2x0o2, c2x1o0, c2x1o1, c2x1o2, c2x2o0, c2x2o1, c2x2o2]) rfl ⟨RetSp.mk (meet_no (by rw [both_parts, ho1, ho2]; rfl)), ?_⟩
      go_grown
    · go_enter Try.func84, Try.ntmps84
      go_wp2_with fail
      refine (l1Some_any _ _ _ _).mono ?_
      rintro e w1 ⟨rfl, hr1⟩
      have hb1 : Below w.heap.size w w1 := ((((Below.refl _ _).alloc (by go_size) _).alloc (by go_size) _).alloc (by go_size) _).trans (hr1.mono (by go_size))
      have hz1 : w.heap.size + 3 ≤ w1.heap.size := by have := hr1.size; first | omega | (simp at this; omega)
      have hB1 : Below w.heap.size w w1 := hb1
      have c1x0o0 : w1.cell? ⟨w.heap.size, 0, none⟩ = some (.bool a) := (hr1.cell (p := ⟨w.heap.size, 0, none⟩) (by go_size)).trans (by simp [go_sem])
      have c1x0o1 : w1.cell? ⟨w.heap.size, 1, none⟩ = some (.int .i64 al) := (hr1.cell (p := ⟨w.heap.size, 1, none⟩) (by go_size)).trans (by simp [go_sem])
      have c1x0o2 : w1.cell? ⟨w.heap.size, 2, none⟩ = some (.int .i64 ah) := (hr1.cell (p := ⟨w.heap.size, 2, none⟩) (by go_size)).trans (by simp [go_sem])
      have c1x1o0 : w1.cell? ⟨w.heap.size + 1, 0, none⟩ = some (.bool b) := (hr1.cell (p := ⟨w.heap.size + 1, 0, none⟩) (by go_size)).trans (by simp [go_sem])
      have c1x1o1 : w1.cell? ⟨w.heap.size + 1, 1, none⟩ = some (.int .i64 bl) := (hr1.cell (p := ⟨w.heap.size + 1, 1, none⟩) (by go_size)).trans (by simp [go_sem])
      have c1x1o2 : w1.cell? ⟨w.heap.size + 1, 2, none⟩ = some (.int .i64 bh) := (hr1.cell (p := ⟨w.heap.size + 1, 2, none⟩) (by go_size)).trans (by simp [go_sem])
      have c1x2o0 : w1.cell? ⟨w.heap.size + 1 + 1, 0, none⟩ = some (.bool false) := (hr1.cell (p := ⟨w.heap.size + 1 + 1, 0, none⟩) (by go_size)).trans (by simp [go_sem])
      have f1x2o0 : w1.frozen? ⟨w.heap.size + 1 + 1, 0, none⟩ = false := (hr1.frozen (p := ⟨w.heap.size + 1 + 1, 0, none⟩) (by go_size)).trans (by simp [go_sem])
      have c1x2o1 : w1.cell? ⟨w.heap.size + 1 + 1, 1, none⟩ = some (.int .i64 0) := (hr1.cell (p := ⟨w.heap.size + 1 + 1, 1, none⟩) (by go_size)).trans (by simp [go_sem])
      have f1x2o1 : w1.frozen? ⟨w.heap.size + 1 + 1, 1, none⟩ = false := (hr1.frozen (p := ⟨w.heap.size + 1 + 1, 1, none⟩) (by go_size)).trans (by simp [go_sem])
      have c1x2o2 : w1.cell? ⟨w.heap.size + 1 + 1, 2, none⟩ = some (.int .i64 0) := (hr1.cell (p := ⟨w.heap.size + 1 + 1, 2, none⟩) (by go_size)).trans (by simp [go_sem])
      have f1x2o2 : w1.frozen? ⟨w.heap.size + 1 + 1, 2, none⟩ = false := (hr1.frozen (p := ⟨w.heap.size + 1 + 1, 2, none⟩) (by go_size)).trans (by simp [go_sem])
      have n1x0 : w.heap.size < w1.heap.size := by omega
      have n1x1 : w.heap.size + 1 < w1.heap.size := by omega
      have n1x2 : w.heap.size + 1 + 1 < w1.heap.size := by omega
      clear hr1 hb1
      simp only [ho1]
      go_wp2_with fail
      refine (l1Some_any _ _ _ _).mono ?_
      rintro e w2 ⟨rfl, hr2⟩
      have hb2 : Below w1.heap.size w1 w2 := (Below.refl _ _).trans (hr2.mono (by go_size))
      have hz2 : w1.heap.size + 0 ≤ w2.heap.size := by have := hr2.size; first | omega | (simp at this; omega)
      have hB2 : Below w.heap.size w w2 := hB1.trans (hb2.mono (by go_size))
      have c2x0o0 : w2.cell? ⟨w.heap.size, 0, none⟩ = some (.bool a) := (hb2.cell (p := ⟨w.heap.size, 0, none⟩) (by go_size)).trans c1x0o0
      have c2x0o1 : w2.cell? ⟨w.heap.size, 1, none⟩ = some (.int .i64 al) := (hb2.cell (p := ⟨w.heap.size, 1, none⟩) (by go_size)).trans c1x0o1
      have c2x0o2 : w2.cell? ⟨w.heap.size, 2, none⟩ = some (.int .i64 ah) := (hb2.cell (p := ⟨w.heap.size, 2, none⟩) (by go_size)).trans c1x0o2
      have c2x1o0 : w2.cell? ⟨w.heap.size + 1, 0, none⟩ = some (.bool b) := (hb2.cell (p := ⟨w.heap.size + 1, 0, none⟩) (by go_size)).trans c1x1o0
      have c2x1o1 : w2.cell? ⟨w.heap.size + 1, 1, none⟩ = some (.int .i64 bl) := (hb2.cell (p := ⟨w.heap.size + 1, 1, none⟩) (by go_size)).trans c1x1o1
      have c2x1o2 : w2.cell? ⟨w.heap.size + 1, 2, none⟩ = some (.int .i64 bh) := (hb2.cell (p := ⟨w.heap.size + 1, 2, none⟩) (by go_size)).trans c1x1o2
      have c2x2o0 : w2.cell? ⟨w.heap.size + 1 + 1, 0, none⟩ = some (.bool false) := (hb2.cell (p := ⟨w.heap.size + 1 + 1, 0, none⟩) (by go_size)).trans c1x2o0
      have f2x2o0 : w2.frozen? ⟨w.heap.size + 1 + 1, 0, none⟩ = false := (hb2.frozen (p := ⟨w.heap.size + 1 + 1, 0, none⟩) (by go_size)).trans f1x2o0
      have c2x2o1 : w2.cell? ⟨w.heap.size + 1 + 1, 1, none⟩ = some (.int .i64 0) := (hb2.cell (p := ⟨w.heap.size + 1 + 1, 1, none⟩) (by go_size)).trans c1x2o1
      have f2x2o1 : w2.frozen? ⟨w.heap.size + 1 + 1, 1, none⟩ = false := (hb2.frozen (p := ⟨w.heap.size + 1 + 1, 1, none⟩) (by go_size)).trans f1x2o1
      have c2x2o2 : w2.cell? ⟨w.heap.size + 1 + 1, 2, none⟩ = some (.int .i64 0) := (hb2.cell (p := ⟨w.heap.size + 1 + 1, 2, none⟩) (by go_size)).trans c1x2o2
      have f2x2o2 : w2.frozen? ⟨w.heap.size + 1 + 1, 2, none⟩ = false := (hb2.frozen (p := ⟨w.heap.size + 1 + 1, 2, none⟩) (by go_size)).trans f1x2o2
      have n2x0 : w.heap.size < w2.heap.size := by omega
      have n2x1 : w.heap.size + 1 < w2.heap.size := by omega
      have n2x2 : w.heap.size + 1 + 1 < w2.heap.size := by omega
      clear n1x0 n1x1 n1x2 c1x0o0 c1x0o1 c1x0o2 c1x1o0 c1x1o1 c1x1o2 c1x2o0 c1x2o1 c1x2o2 f1x2o0 f1x2o1 f1x2o2
      clear hr2 hb2
      simp only [ho2]
      go_wp2_with fail
      all_goals
        refine (l1Of_any _ _ _).mono ?_
        rintro e w3 ⟨hs3, hr3⟩
        obtain ⟨a3, l3, u3, hx3, rfl⟩ := hs3.out
        clear hs3
        have hb3 : Below w2.heap.size w2 w3 := (Below.refl _ _).trans (hr3.mono (by go_size))
        have hz3 : w2.heap.size + 0 ≤ w3.heap.size := by have := hr3.size; first | omega | (simp at this; omega)
        have hB3 : Below w.heap.size w w3 := hB2.trans (hb3.mono (by go_size))
        have c3x0o0 : w3.cell? ⟨w.heap.size, 0, none⟩ = some (.bool a) := (hb3.cell (p := ⟨w.heap.size, 0, none⟩) (by go_size)).trans c2x0o0
        have c3x0o1 : w3.cell? ⟨w.heap.size, 1, none⟩ = some (.int .i64 al) := (hb3.cell (p := ⟨w.heap.size, 1, none⟩) (by go_size)).trans c2x0o1
        have c3x0o2 : w3.cell? ⟨w.heap.size, 2, none⟩ = some (.int .i64 ah) := (hb3.cell (p := ⟨w.heap.size, 2, none⟩) (by go_size)).trans c2x0o2
        have c3x1o0 : w3.cell? ⟨w.heap.size + 1, 0, none⟩ = some (.bool b) := (hb3.cell (p := ⟨w.heap.size + 1, 0, none⟩) (by go_size)).trans c2x1o0
        have c3x1o1 : w3.cell? ⟨w.heap.size + 1, 1, none⟩ = some (.int .i64 bl) := (hb3.cell (p := ⟨w.heap.size + 1, 1, none⟩) (by go_size)).trans c2x1o1
        have c3x1o2 : w3.cell? ⟨w.heap.size + 1, 2, none⟩ = some (.int .i64 bh) := (hb3.cell (p := ⟨w.heap.size + 1, 2, none⟩) (by go_size)).trans c2x1o2
        have c3x2o0 : w3.cell? ⟨w.heap.size + 1 + 1, 0, none⟩ = some (.bool false) := (hb3.cell (p := ⟨w.heap.size + 1 + 1, 0, none⟩) (by go_size)).trans c2x2o0
        have f3x2o0 : w3.frozen? ⟨w.heap.size + 1 + 1, 0, none⟩ = false := (hb3.frozen (p := ⟨w.heap.size + 1 + 1, 0, none⟩) (by go_size)).trans f2x2o0
        have c3x2o1 : w3.cell? ⟨w.heap.size + 1 + 1, 1, none⟩ = some (.int .i64 0) := (hb3.cell (p := ⟨w.heap.size + 1 + 1, 1, none⟩) (by go_size)).trans c2x2o1
        have f3x2o1 : w3.frozen? ⟨w.heap.size + 1 + 1, 1, none⟩ = false := (hb3.frozen (p := ⟨w.heap.size + 1 + 1, 1, none⟩) (by go_size)).trans f2x2o1
        have c3x2o2 : w3.cell? ⟨w.heap.size + 1 + 1, 2, none⟩ = some (.int .i64 0) := (hb3.cell (p := ⟨w.heap.size + 1 + 1, 2, none⟩) (by go_size)).trans c2x2o2
        have f3x2o2 : w3.frozen? ⟨w.heap.size + 1 + 1, 2, none⟩ = false := (hb3.frozen (p := ⟨w.heap.size + 1 + 1, 2, none⟩) (by go_size)).trans f2x2o2
        have n3x0 : w.heap.size < w3.heap.size := by omega
        have n3x1 : w.heap.size + 1 < w3.heap.size := by omega
        have n3x2 : w.heap.size + 1 + 1 < w3.heap.size := by omega
        clear n2x0 n2x1 n2x2 c2x0o0 c2x0o1 c2x0o2 c2x1o0 c2x1o1 c2x1o2 c2x2o0 c2x2o1 c2x2o2 f2x2o0 f2x2o1 f2x2o2
        clear hr3 hb3
        go_wp2
        refine bodyPost_ret (v := .agg #[.bool a3, .int .i64 l3, .int .i64 u3]) (by simp [results, Try.results84, go_sem, n3x0, n3x1, n3x2, c3x0o0, c3x0o1, c3x0o2, c3x1o0, c3x1o1, c3x1o2, c3x2o0, c3x2o1, c3x2o2]) rfl ⟨RetSp.mk ((meet_mk (by rw [both_parts, ho1, ho2]; rfl) (by omega) (by omega)).trans hx3), ?_⟩
        go_grown

end Go.Proofs.Ytbjegekfghihkaa

/-
  What is held of the cells of spans while calls are made in an open order.
-/
namespace Go.Proofs.Ytbjegekfghihkaa
open Go.RowKit
set_option linter.unusedVariables false
set_option linter.unusedSimpArgs false
theorem keepS {w x y : World} {m n : Nat} {a b : Bool} {al ah bl bh : Int}
    (h : Below w.heap.size w x ∧ m < x.heap.size ∧ n < x.heap.size ∧ x.cell? ⟨m, 0, none⟩ = some (.bool a) ∧ x.cell? ⟨m, 1, none⟩ = some (.int .i64 al) ∧ x.cell? ⟨m, 2, none⟩ = some (.int .i64 ah) ∧ x.cell? ⟨n, 0, none⟩ = some (.bool b) ∧ x.cell? ⟨n, 1, none⟩ = some (.int .i64 bl) ∧ x.cell? ⟨n, 2, none⟩ = some (.int .i64 bh))
    (hb : Below x.heap.size x y) :
    Below w.heap.size w y ∧ m < y.heap.size ∧ n < y.heap.size ∧ y.cell? ⟨m, 0, none⟩ = some (.bool a) ∧ y.cell? ⟨m, 1, none⟩ = some (.int .i64 al) ∧ y.cell? ⟨m, 2, none⟩ = some (.int .i64 ah) ∧ y.cell? ⟨n, 0, none⟩ = some (.bool b) ∧ y.cell? ⟨n, 1, none⟩ = some (.int .i64 bl) ∧ y.cell? ⟨n, 2, none⟩ = some (.int .i64 bh) := by
  obtain ⟨h1, h2, h3, c0, c1, c2, d0, d1, d2⟩ := h
  have hz := hb.size
  have hz1 := h1.size
  exact ⟨h1.trans (hb.mono hz1), by omega, by omega, (hb.cell (p := ⟨m, 0, none⟩) h2).trans c0, (hb.cell (p := ⟨m, 1, none⟩) h2).trans c1, (hb.cell (p := ⟨m, 2, none⟩) h2).trans c2, (hb.cell (p := ⟨n, 0, none⟩) h3).trans d0, (hb.cell (p := ⟨n, 1, none⟩) h3).trans d1, (hb.cell (p := ⟨n, 2, none⟩) h3).trans d2⟩

theorem belowTrans {A x y : World} (h : Below A.heap.size A x) (hb : Below x.heap.size x y) : Below A.heap.size A y := h.trans (hb.mono h.size)
theorem below_lt {W w1 : World} (hb : Below W.heap.size W w1) : ∀ b, b < W.heap.size → b < w1.heap.size := fun b h => Nat.lt_of_lt_of_le h hb.size
theorem keepSet {w x : World} {m n q o : Nat} {v : Value} {a b : Bool} {al ah bl bh : Int}
    (h : Below w.heap.size w x ∧ m < x.heap.size ∧ n < x.heap.size ∧ x.cell? ⟨m, 0, none⟩ = some (.bool a) ∧ x.cell? ⟨m, 1, none⟩ = some (.int .i64 al) ∧ x.cell? ⟨m, 2, none⟩ = some (.int .i64 ah) ∧ x.cell? ⟨n, 0, none⟩ = some (.bool b) ∧ x.cell? ⟨n, 1, none⟩ = some (.int .i64 bl) ∧ x.cell? ⟨n, 2, none⟩ = some (.int .i64 bh))
    (hm : m < q) (hn : n < q) (hw : w.heap.size ≤ q) :
    Below w.heap.size w (x.setCell ⟨q, o, none⟩ v) ∧ m < (x.setCell ⟨q, o, none⟩ v).heap.size ∧ n < (x.setCell ⟨q, o, none⟩ v).heap.size ∧ (x.setCell ⟨q, o, none⟩ v).cell? ⟨m, 0, none⟩ = some (.bool a) ∧ (x.setCell ⟨q, o, none⟩ v).cell? ⟨m, 1, none⟩ = some (.int .i64 al) ∧ (x.setCell ⟨q, o, none⟩ v).cell? ⟨m, 2, none⟩ = some (.int .i64 ah) ∧ (x.setCell ⟨q, o, none⟩ v).cell? ⟨n, 0, none⟩ = some (.bool b) ∧ (x.setCell ⟨q, o, none⟩ v).cell? ⟨n, 1, none⟩ = some (.int .i64 bl) ∧ (x.setCell ⟨q, o, none⟩ v).cell? ⟨n, 2, none⟩ = some (.int .i64 bh) := by
  obtain ⟨h1, h2, h3, c0, c1, c2, d0, d1, d2⟩ := h
  have hb : Below q x (x.setCell ⟨q, o, none⟩ v) := (Below.refl q x).setCell (p := ⟨q, o, none⟩) (Nat.le_refl _) _
  have hz := hb.size
  exact ⟨h1.setCell hw _, by omega, by omega, (hb.cell (p := ⟨m, 0, none⟩) hm).trans c0, (hb.cell (p := ⟨m, 1, none⟩) hm).trans c1, (hb.cell (p := ⟨m, 2, none⟩) hm).trans c2, (hb.cell (p := ⟨n, 0, none⟩) hn).trans d0, (hb.cell (p := ⟨n, 1, none⟩) hn).trans d1, (hb.cell (p := ⟨n, 2, none⟩) hn).trans d2⟩


theorem keepT {w x y : World} {k n m : Nat} {a b j1 : Bool} {al ah bl bh j2 j3 : Int} (h : (Below w.heap.size w x ∧ k < x.heap.size ∧ n < x.heap.size ∧ x.cell? ⟨k, 0, none⟩ = some (.bool a) ∧ x.cell? ⟨k, 1, none⟩ = some (.int .i64 al) ∧ x.cell? ⟨k, 2, none⟩ = some (.int .i64 ah) ∧ x.cell? ⟨n, 0, none⟩ = some (.bool b) ∧ x.cell? ⟨n, 1, none⟩ = some (.int .i64 bl) ∧ x.cell? ⟨n, 2, none⟩ = some (.int .i64 bh)) ∧ (m < x.heap.size ∧ n < m ∧ x.cell? ⟨m, 0, none⟩ = some (.bool j1) ∧ x.cell? ⟨m, 1, none⟩ = some (.int .i64 j2) ∧ x.cell? ⟨m, 2, none⟩ = some (.int .i64 j3))) (hb : Below x.heap.size x y) : (Below w.heap.size w y ∧ k < y.heap.size ∧ n < y.heap.size ∧ y.cell? ⟨k, 0, none⟩ = some (.bool a) ∧ y.cell? ⟨k, 1, none⟩ = some (.int .i64 al) ∧ y.cell? ⟨k, 2, none⟩ = some (.int .i64 ah) ∧ y.cell? ⟨n, 0, none⟩ = some (.bool b) ∧ y.cell? ⟨n, 1, none⟩ = some (.int .i64 bl) ∧ y.cell? ⟨n, 2, none⟩ = some (.int .i64 bh)) ∧ (m < y.heap.size ∧ n < m ∧ y.cell? ⟨m, 0, none⟩ = some (.bool j1) ∧ y.cell? ⟨m, 1, none⟩ = some (.int .i64 j2) ∧ y.cell? ⟨m, 2, none⟩ = some (.int .i64 j3)) := by
  obtain ⟨h1, h2, h3, c0, c1, c2⟩ := h
  have hz := hb.size
  exact ⟨keepS h1 hb, by omega, h3, (hb.cell (p := ⟨m, 0, none⟩) h2).trans c0, (hb.cell (p := ⟨m, 1, none⟩) h2).trans c1, (hb.cell (p := ⟨m, 2, none⟩) h2).trans c2⟩
theorem keepTSet {w x : World} {k n m q o : Nat} {v : Value} {a b j1 : Bool} {al ah bl bh j2 j3 : Int} (h : (Below w.heap.size w x ∧ k < x.heap.size ∧ n < x.heap.size ∧ x.cell? ⟨k, 0, none⟩ = some (.bool a) ∧ x.cell? ⟨k, 1, none⟩ = some (.int .i64 al) ∧ x.cell? ⟨k, 2, none⟩ = some (.int .i64 ah) ∧ x.cell? ⟨n, 0, none⟩ = some (.bool b) ∧ x.cell? ⟨n, 1, none⟩ = some (.int .i64 bl) ∧ x.cell? ⟨n, 2, none⟩ = some (.int .i64 bh)) ∧ (m < x.heap.size ∧ n < m ∧ x.cell? ⟨m, 0, none⟩ = some (.bool j1) ∧ x.cell? ⟨m, 1, none⟩ = some (.int .i64 j2) ∧ x.cell? ⟨m, 2, none⟩ = some (.int .i64 j3))) (hm : k < q) (hn : n < q) (hw : w.heap.size ≤ q) (hq : m < q) :
    (Below w.heap.size w (x.setCell ⟨q, o, none⟩ v) ∧ k < (x.setCell ⟨q, o, none⟩ v).heap.size ∧ n < (x.setCell ⟨q, o, none⟩ v).heap.size ∧ (x.setCell ⟨q, o, none⟩ v).cell? ⟨k, 0, none⟩ = some (.bool a) ∧ (x.setCell ⟨q, o, none⟩ v).cell? ⟨k, 1, none⟩ = some (.int .i64 al) ∧ (x.setCell ⟨q, o, none⟩ v).cell? ⟨k, 2, none⟩ = some (.int .i64 ah) ∧ (x.setCell ⟨q, o, none⟩ v).cell? ⟨n, 0, none⟩ = some (.bool b) ∧ (x.setCell ⟨q, o, none⟩ v).cell? ⟨n, 1, none⟩ = some (.int .i64 bl) ∧ (x.setCell ⟨q, o, none⟩ v).cell? ⟨n, 2, none⟩ = some (.int .i64 bh)) ∧ (m < (x.setCell ⟨q, o, none⟩ v).heap.size ∧ n < m ∧ (x.setCell ⟨q, o, none⟩ v).cell? ⟨m, 0, none⟩ = some (.bool j1) ∧ (x.setCell ⟨q, o, none⟩ v).cell? ⟨m, 1, none⟩ = some (.int .i64 j2) ∧ (x.setCell ⟨q, o, none⟩ v).cell? ⟨m, 2, none⟩ = some (.int .i64 j3)) := by
  obtain ⟨h1, h2, h3, c0, c1, c2⟩ := h
  have hb : Below q x (x.setCell ⟨q, o, none⟩ v) := (Below.refl q x).setCell (p := ⟨q, o, none⟩) (Nat.le_refl _) _
  have hz := hb.size
  exact ⟨keepSet h1 hm hn hw, by omega, h3, (hb.cell (p := ⟨m, 0, none⟩) hq).trans c0, (hb.cell (p := ⟨m, 1, none⟩) hq).trans c1, (hb.cell (p := ⟨m, 2, none⟩) hq).trans c2⟩

end Go.Proofs.Ytbjegekfghihkaa
