import Derived.Test.YtdomalclpjijaaaB13
import Derived.Test.YtdomalclpjijaaaB7
import Derived.Test.YtdomalclpjijaaaB6
/-
  The contracts of SpanWide, the program's and the model's.
-/
namespace Go.Proofs.Ytdomalclpjijaaa
open Go.RowKit
set_option linter.unusedVariables false
set_option linter.unusedSimpArgs false

theorem down_spec (n : Int) (w : World) : Calls Try.prog 73 #[.int .i64 n] w fun e w' => e = .returned (.int .i64 (downF n)) ∧ w' = w := by
  go_enter Try.func73, Try.ntmps73
  go_wp2
  all_goals
    go_ret
    exact ⟨ret_int (by unfold downF; repeat' split
                       all_goals omega), rfl⟩

theorem up_spec (n : Int) (w : World) : Calls Try.prog 74 #[.int .i64 n] w fun e w' => e = .returned (.int .i64 (upF n)) ∧ w' = w := by
  go_enter Try.func74, Try.ntmps74
  go_wp2
  all_goals
    go_ret
    exact ⟨ret_int (by unfold upF; repeat' split
                       all_goals omega), rfl⟩

theorem down_impl (n : Int) (w : World) : Calls Try.prog 60 #[.int .i64 n] w fun e w' => e = .returned (.int .i64 (downF n)) ∧ w' = w := by
  go_enter Try.func60, Try.ntmps60
  go_wp2
  all_goals
    go_ret
    exact ⟨ret_int (by unfold downF; repeat' split
                       all_goals omega), rfl⟩

theorem up_impl (n : Int) (w : World) : Calls Try.prog 61 #[.int .i64 n] w fun e w' => e = .returned (.int .i64 (upF n)) ∧ w' = w := by
  go_enter Try.func61, Try.ntmps61
  go_wp2
  all_goals
    go_ret
    exact ⟨ret_int (by unfold upF; repeat' split
                       all_goals omega), rfl⟩

theorem wide_eq {a b a1 : Bool} {al ah bl bh l1 u1 : Int} (ho : bothF a al ah b bl bh = true) (hx : joinF a al ah b bl bh = (a1, l1, u1)) :
    wideF a al ah b bl bh = (a1, (if l1 < al then downF l1 else l1), (if ah < u1 then upF u1 else u1)) := by
  have h := ho
  simp only [bothF, Bool.and_eq_true] at h
  obtain ⟨⟨⟨h1, h2⟩, rfl⟩, rfl⟩ := h
  simp [joinF, h1, h2] at hx
  obtain ⟨rfl, rfl, rfl⟩ := hx
  simp [wideF, ho]
theorem wide_no {a b a1 : Bool} {al ah bl bh l1 u1 : Int} (ho : bothF a al ah b bl bh = false) (hx : joinF a al ah b bl bh = (a1, l1, u1)) : wideF a al ah b bl bh = (a1, l1, u1) := by simp [wideF, ho, hx]

set_option maxHeartbeats 2000000 in
theorem wide_impl (a : Bool) (al ah : Int) (b : Bool) (bl bh : Int) (w : World) : Calls Try.prog 40 #[.agg #[.bool a, .int .i64 al, .int .i64 ah], .agg #[.bool b, .int .i64 bl, .int .i64 bh]] w fun e w' => RetSp (wideF a al ah b bl bh) e ∧ Below w.heap.size w w' := by
  cases ho : bothF a al ah b bl bh
  · go_enter Try.func40, Try.ntmps40
    go_wp2_with fail
    refine (join_impl _ _ _ _ _ _ _).mono ?_
    rintro e w1 ⟨hs1, hr1⟩
    obtain ⟨a1, l1, u1, hx1, rfl⟩ := hs1.out
    clear hs1
    have hb1 : Below w.heap.size w w1 := ((((Below.refl _ _).alloc (by go_size) _).alloc (by go_size) _).alloc (by go_size) _).trans (hr1.mono (by go_size))
    have hz1 : w.heap.size + 3 ≤ w1.heap.size := by have := hr1.size; first | omega | (simp at this; omega)
    have hB1 : Below w.heap.size w w1 := hb1
    have c1x0o0 : w1.cell? ⟨w.heap.size, 0, none⟩ = some (.bool a) := (hr1.cell (p := ⟨w.heap.size, 0, none⟩) (by go_size)).trans (by simp [go_sem])
    have c1x0o1 : w1.cell? ⟨w.heap.size, 1, none⟩ = some (.int .i64 al) := (hr1.cell (p := ⟨w.heap.size, 1, none⟩) (by go_size)).trans (by simp [go_sem])
    have c1x0o2 : w1.cell? ⟨w.heap.size, 2, none⟩ = some (.int .i64 ah) := (hr1.cell (p := ⟨w.heap.size, 2, none⟩) (by go_size)).trans (by simp [go_sem])
    have c1x1o0 : w1.cell? ⟨w.heap.size + 1, 0, none⟩ = some (.bool b) := (hr1.cell (p := ⟨w.heap.size + 1, 0, none⟩) (by go_size)).trans (by simp [go_sem])
    have c1x1o1 : w1.cell? ⟨w.heap.size + 1, 1, none⟩ = some (.int .i64 bl) := (hr1.cell (p := ⟨w.heap.size + 1, 1, none⟩) (by go_size)).trans (by simp [go_sem])
    have c1x1o2 : w1.cell? ⟨w.heap.size + 1, 2, none⟩ = some (.int .i64 bh) := (hr1.cell (p := ⟨w.heap.size + 1, 2, none⟩) (by go_size)).trans (by simp [go_sem])
    have c1x2o0 : w1.cell? ⟨w.heap.size + 1 + 1, 0, none⟩ = some (.bool false) := (hr1.cell (p := ⟨w.heap.size + 1 + 1, 0, none⟩) (by go_size)).trans (by simp [go_sem])
    have f1x2o0 : w1.frozen? ⟨w.heap.size + 1 + 1, 0, none⟩ = false := (hr1.frozen (p := ⟨w.heap.size + 1 + 1, 0, none⟩) (by go_size)).trans (by simp [go_sem])
    have c1x2o1 : w1.cell? ⟨w.heap.size + 1 + 1, 1, none⟩ = some (.int .i64 0) := (hr1.cell (p := ⟨w.heap.size + 1 + 1, 1, none⟩) (by go_size)).trans (by simp [go_sem])
    have f1x2o1 : w1.frozen? ⟨w.heap.size + 1 + 1, 1, none⟩ = false := (hr1.frozen (p := ⟨w.heap.size + 1 + 1, 1, none⟩) (by go_size)).trans (by simp [go_sem])
    have c1x2o2 : w1.cell? ⟨w.heap.size + 1 + 1, 2, none⟩ = some (.int .i64 0) := (hr1.cell (p := ⟨w.heap.size + 1 + 1, 2, none⟩) (by go_size)).trans (by simp [go_sem])
    have f1x2o2 : w1.frozen? ⟨w.heap.size + 1 + 1, 2, none⟩ = false := (hr1.frozen (p := ⟨w.heap.size + 1 + 1, 2, none⟩) (by go_size)).trans (by simp [go_sem])
    have n1x0 : w.heap.size < w1.heap.size := by omega
    have n1x1 : w.heap.size + 1 < w1.heap.size := by omega
    have n1x2 : w.heap.size + 1 + 1 < w1.heap.size := by omega
    clear hr1 hb1
    go_wp2_with fail
    refine (both_impl _ _ _ _ _ _ _).mono ?_
    rintro e w2 ⟨rfl, hr2⟩
    have hb2 : Below w1.heap.size w1 w2 := ((Below.refl _ _).alloc (by go_size) _).trans (hr2.mono (by go_size))
    have hz2 : w1.heap.size + 1 ≤ w2.heap.size := by have := hr2.size; first | omega | (simp at this; omega)
    have hB2 : Below w.heap.size w w2 := hB1.trans (hb2.mono (by go_size))
    have c2x0o0 : w2.cell? ⟨w.heap.size, 0, none⟩ = some (.bool a) := (hb2.cell (p := ⟨w.heap.size, 0, none⟩) (by go_size)).trans c1x0o0
    have c2x0o1 : w2.cell? ⟨w.heap.size, 1, none⟩ = some (.int .i64 al) := (hb2.cell (p := ⟨w.heap.size, 1, none⟩) (by go_size)).trans c1x0o1
    have c2x0o2 : w2.cell? ⟨w.heap.size, 2, none⟩ = some (.int .i64 ah) := (hb2.cell (p := ⟨w.heap.size, 2, none⟩) (by go_size)).trans c1x0o2
    have c2x1o0 : w2.cell? ⟨w.heap.size + 1, 0, none⟩ = some (.bool b) := (hb2.cell (p := ⟨w.heap.size + 1, 0, none⟩) (by go_size)).trans c1x1o0
    have c2x1o1 : w2.cell? ⟨w.heap.size + 1, 1, none⟩ = some (.int .i64 bl) := (hb2.cell (p := ⟨w.heap.size + 1, 1, none⟩) (by go_size)).trans c1x1o1
    have c2x1o2 : w2.cell? ⟨w.heap.size + 1, 2, none⟩ = some (.int .i64 bh) := (hb2.cell (p := ⟨w.heap.size + 1, 2, none⟩) (by go_size)).trans c1x1o2
    have c2x2o0 : w2.cell? ⟨w.heap.size + 1 + 1, 0, none⟩ = some (.bool false) := (hb2.cell (p := ⟨w.heap.size + 1 + 1, 0, none⟩) (by go_size)).trans c1x2o0
    have f2x2o0 : w2.frozen? ⟨w.heap.size + 1 + 1, 0, none⟩ = false := (hb2.frozen (p := ⟨w.heap.size + 1 + 1, 0, none⟩) (by go_size)).trans f1x2o0
    have c2x2o1 : w2.cell? ⟨w.heap.size + 1 + 1, 1, none⟩ = some (.int .i64 0) := (hb2.cell (p := ⟨w.heap.size + 1 + 1, 1, none⟩) (by go_size)).trans c1x2o1
    have f2x2o1 : w2.frozen? ⟨w.heap.size + 1 + 1, 1, none⟩ = false := (hb2.frozen (p := ⟨w.heap.size + 1 + 1, 1, none⟩) (by go_size)).trans f1x2o1
    have c2x2o2 : w2.cell? ⟨w.heap.size + 1 + 1, 2, none⟩ = some (.int .i64 0) := (hb2.cell (p := ⟨w.heap.size + 1 + 1, 2, none⟩) (by go_size)).trans c1x2o2
    have f2x2o2 : w2.frozen? ⟨w.heap.size + 1 + 1, 2, none⟩ = false := (hb2.frozen (p := ⟨w.heap.size + 1 + 1, 2, none⟩) (by go_size)).trans f1x2o2
    have c2x3o0 : w2.cell? ⟨w1.heap.size, 0, none⟩ = some (.bool a1) := (hr2.cell (p := ⟨w1.heap.size, 0, none⟩) (by go_size)).trans (by simp [go_sem])
    have f2x3o0 : w2.frozen? ⟨w1.heap.size, 0, none⟩ = false := (hr2.frozen (p := ⟨w1.heap.size, 0, none⟩) (by go_size)).trans (by simp [go_sem])
    have c2x3o1 : w2.cell? ⟨w1.heap.size, 1, none⟩ = some (.int .i64 l1) := (hr2.cell (p := ⟨w1.heap.size, 1, none⟩) (by go_size)).trans (by simp [go_sem])
    have f2x3o1 : w2.frozen? ⟨w1.heap.size, 1, none⟩ = false := (hr2.frozen (p := ⟨w1.heap.size, 1, none⟩) (by go_size)).trans (by simp [go_sem])
    have c2x3o2 : w2.cell? ⟨w1.heap.size, 2, none⟩ = some (.int .i64 u1) := (hr2.cell (p := ⟨w1.heap.size, 2, none⟩) (by go_size)).trans (by simp [go_sem])
    have f2x3o2 : w2.frozen? ⟨w1.heap.size, 2, none⟩ = false := (hr2.frozen (p := ⟨w1.heap.size, 2, none⟩) (by go_size)).trans (by simp [go_sem])
    have n2x0 : w.heap.size < w2.heap.size := by omega
    have n2x1 : w.heap.size + 1 < w2.heap.size := by omega
    have n2x2 : w.heap.size + 1 + 1 < w2.heap.size := by omega
    have n2x3 : w1.heap.size < w2.heap.size := by omega
    clear n1x0 n1x1 n1x2 c1x0o0 c1x0o1 c1x0o2 c1x1o0 c1x1o1 c1x1o2 c1x2o0 c1x2o1 c1x2o2 f1x2o0 f1x2o1 f1x2o2
    clear hr2 hb2
    simp only [ho]
    go_wp2
    refine bodyPost_ret (v := .agg #[.bool a1, .int .i64 l1, .int .i64 u1]) (by simp [results, Try.results40, go_sem, n2x0, n2x1, n2x2, n2x3, c2x0o0, c2x0o1, c2x0o2, c2x1o0, c2x1o1, c2x1o2, c2x2o0, c2x2o1, c2x2o2, c2x3o0, c2x3o1, c2x3o2]) rfl ⟨RetSp.mk (wide_no ho hx1), ?_⟩
    go_grown
  · go_enter Try.func40, Try.ntmps40
    go_wp2_with fail
    refine (join_impl _ _ _ _ _ _ _).mono ?_
    rintro e w1 ⟨hs1, hr1⟩
    obtain ⟨a1, l1, u1, hx1, rfl⟩ := hs1.out
    clear hs1
    have hb1 : Below w.heap.size w w1 := ((((Below.refl _ _).alloc (by go_size) _).alloc (by go_size) _).alloc (by go_size) _).trans (hr1.mono (by go_size))
    have hz1 : w.heap.size + 3 ≤ w1.heap.size := by have := hr1.size; first | omega | (simp at this; omega)
    have hB1 : Below w.heap.size w w1 := hb1
    have c1x0o0 : w1.cell? ⟨w.heap.size, 0, none⟩ = some (.bool a) := (hr1.cell (p := ⟨w.heap.size, 0, none⟩) (by go_size)).trans (by simp [go_sem])
    have c1x0o1 : w1.cell? ⟨w.heap.size, 1, none⟩ = some (.int .i64 al) := (hr1.cell (p := ⟨w.heap.size, 1, none⟩) (by go_size)).trans (by simp [go_sem])
    have c1x0o2 : w1.cell? ⟨w.heap.size, 2, none⟩ = some (.int .i64 ah) := (hr1.cell (p := ⟨w.heap.size, 2, none⟩) (by go_size)).trans (by simp [go_sem])
    have c1x1o0 : w1.cell? ⟨w.heap.size + 1, 0, none⟩ = some (.bool b) := (hr1.cell (p := ⟨w.heap.size + 1, 0, none⟩) (by go_size)).trans (by simp [go_sem])
    have c1x1o1 : w1.cell? ⟨w.heap.size + 1, 1, none⟩ = some (.int .i64 bl) := (hr1.cell (p := ⟨w.heap.size + 1, 1, none⟩) (by go_size)).trans (by simp [go_sem])
    have c1x1o2 : w1.cell? ⟨w.heap.size + 1, 2, none⟩ = some (.int .i64 bh) := (hr1.cell (p := ⟨w.heap.size + 1, 2, none⟩) (by go_size)).trans (by simp [go_sem])
    have c1x2o0 : w1.cell? ⟨w.heap.size + 1 + 1, 0, none⟩ = some (.bool false) := (hr1.cell (p := ⟨w.heap.size + 1 + 1, 0, none⟩) (by go_size)).trans (by simp [go_sem])
    have f1x2o0 : w1.frozen? ⟨w.heap.size + 1 + 1, 0, none⟩ = false := (hr1.frozen (p := ⟨w.heap.size + 1 + 1, 0, none⟩) (by go_size)).trans (by simp [go_sem])
    have c1x2o1 : w1.cell? ⟨w.heap.size + 1 + 1, 1, none⟩ = some (.int .i64 0) := (hr1.cell (p := ⟨w.heap.size + 1 + 1, 1, none⟩) (by go_size)).trans (by simp [go_sem])
    have f1x2o1 : w1.frozen? ⟨w.heap.size + 1 + 1, 1, none⟩ = false := (hr1.frozen (p := ⟨w.heap.size + 1 + 1, 1, none⟩) (by go_size)).trans (by simp [go_sem])
    have c1x2o2 : w1.cell? ⟨w.heap.size + 1 + 1, 2, none⟩ = some (.int .i64 0) := (hr1.cell (p := ⟨w.heap.size + 1 + 1, 2, none⟩) (by go_size)).trans (by simp [go_sem])
    have f1x2o2 : w1.frozen? ⟨w.heap.size + 1 + 1, 2, none⟩ = false := (hr1.frozen (p := ⟨w.heap.size + 1 + 1, 2, none⟩) (by go_size)).trans (by simp [go_sem])
    have n1x0 : w.heap.size < w1.heap.size := by omega
    have n1x1 : w.heap.size + 1 < w1.heap.size := by omega
    have n1x2 : w.heap.size + 1 + 1 < w1.heap.size := by omega
    clear hr1 hb1
    go_wp2_with fail
    refine (both_impl _ _ _ _ _ _ _).mono ?_
    rintro e w2 ⟨rfl, hr2⟩
    have hb2 : Below w1.heap.size w1 w2 := ((Below.refl _ _).alloc (by go_size) _).trans (hr2.mono (by go_size))
    have hz2 : w1.heap.size + 1 ≤ w2.heap.size := by have := hr2.size; first | omega | (simp at this; omega)
    have hB2 : Below w.heap.size w w2 := hB1.trans (hb2.mono (by go_size))
    have c2x0o0 : w2.cell? ⟨w.heap.size, 0, none⟩ = some (.bool a) := (hb2.cell (p := ⟨w.heap.size, 0, none⟩) (by go_size)).trans c1x0o0
    have c2x0o1 : w2.cell? ⟨w.heap.size, 1, none⟩ = some (.int .i64 al) := (hb2.cell (p := ⟨w.heap.size, 1, none⟩) (by go_size)).trans c1x0o1
    have c2x0o2 : w2.cell? ⟨w.heap.size, 2, none⟩ = some (.int .i64 ah) := (hb2.cell (p := ⟨w.heap.size, 2, none⟩) (by go_size)).trans c1x0o2
    have c2x1o0 : w2.cell? ⟨w.heap.size + 1, 0, none⟩ = some (.bool b) := (hb2.cell (p := ⟨w.heap.size + 1, 0, none⟩) (by go_size)).trans c1x1o0
    have c2x1o1 : w2.cell? ⟨w.heap.size + 1, 1, none⟩ = some (.int .i64 bl) := (hb2.cell (p := ⟨w.heap.size + 1, 1, none⟩) (by go_size)).trans c1x1o1
    have c2x1o2 : w2.cell? ⟨w.heap.size + 1, 2, none⟩ = some (.int .i64 bh) := (hb2.cell (p := ⟨w.heap.size + 1, 2, none⟩) (by go_size)).trans c1x1o2
    have c2x2o0 : w2.cell? ⟨w.heap.size + 1 + 1, 0, none⟩ = some (.bool false) := (hb2.cell (p := ⟨w.heap.size + 1 + 1, 0, none⟩) (by go_size)).trans c1x2o0
    have f2x2o0 : w2.frozen? ⟨w.heap.size + 1 + 1, 0, none⟩ = false := (hb2.frozen (p := ⟨w.heap.size + 1 + 1, 0, none⟩) (by go_size)).trans f1x2o0
    have c2x2o1 : w2.cell? ⟨w.heap.size + 1 + 1, 1, none⟩ = some (.int .i64 0) := (hb2.cell (p := ⟨w.heap.size + 1 + 1, 1, none⟩) (by go_size)).trans c1x2o1
    have f2x2o1 : w2.frozen? ⟨w.heap.size + 1 + 1, 1, none⟩ = false := (hb2.frozen (p := ⟨w.heap.size + 1 + 1, 1, none⟩) (by go_size)).trans f1x2o1
    have c2x2o2 : w2.cell? ⟨w.heap.size + 1 + 1, 2, none⟩ = some (.int .i64 0) := (hb2.cell (p := ⟨w.heap.size + 1 + 1, 2, none⟩) (by go_size)).trans c1x2o2
    have f2x2o2 : w2.frozen? ⟨w.heap.size + 1 + 1, 2, none⟩ = false := (hb2.frozen (p := ⟨w.heap.size + 1 + 1, 2, none⟩) (by go_size)).trans f1x2o2
    have c2x3o0 : w2.cell? ⟨w1.heap.size, 0, none⟩ = some (.bool a1) := (hr2.cell (p := ⟨w1.heap.size, 0, none⟩) (by go_size)).trans (by simp [go_sem])
    have f2x3o0 : w2.frozen? ⟨w1.heap.size, 0, none⟩ = false := (hr2.frozen (p := ⟨w1.heap.size, 0, none⟩) (by go_size)).trans (by simp [go_sem])
    have c2x3o1 : w2.cell? ⟨w1.heap.size, 1, none⟩ = some (.int .i64 l1) := (hr2.cell (p := ⟨w1.heap.size, 1, none⟩) (by go_size)).trans (by simp [go_sem])
    have f2x3o1 : w2.frozen? ⟨w1.heap.size, 1, none⟩ = false := (hr2.frozen (p := ⟨w1.heap.size, 1, none⟩) (by go_size)).trans (by simp [go_sem])
    have c2x3o2 : w2.cell? ⟨w1.heap.size, 2, none⟩ = some (.int .i64 u1) := (hr2.cell (p := ⟨w1.heap.size, 2, none⟩) (by go_size)).trans (by simp [go_sem])
    have f2x3o2 : w2.frozen? ⟨w1.heap.size, 2, none⟩ = false := (hr2.frozen (p := ⟨w1.heap.size, 2, none⟩) (by go_size)).trans (by simp [go_sem])
    have n2x0 : w.heap.size < w2.heap.size := by omega
    have n2x1 : w.heap.size + 1 < w2.heap.size := by omega
    have n2x2 : w.heap.size + 1 + 1 < w2.heap.size := by omega
    have n2x3 : w1.heap.size < w2.heap.size := by omega
    clear n1x0 n1x1 n1x2 c1x0o0 c1x0o1 c1x0o2 c1x1o0 c1x1o1 c1x1o2 c1x2o0 c1x2o1 c1x2o2 f1x2o0 f1x2o1 f1x2o2
    clear hr2 hb2
    simp only [ho]
    by_cases g1 : l1 < al
    · by_cases g2 : ah < u1
      · go_wp2_with (first | (go_at_call 60; refine (down_impl _ _).mono ?_; rintro e w' ⟨rfl, rfl⟩) | (go_at_call 61; refine (up_impl _ _).mono ?_; rintro e w' ⟨rfl, rfl⟩))
        refine bodyPost_ret (v := .agg #[.bool a1, .int .i64 (downF l1), .int .i64 (upF u1)]) (by simp [results, Try.results40, go_sem, n2x0, n2x1, n2x2, n2x3, c2x0o0, c2x0o1, c2x0o2, c2x1o0, c2x1o1, c2x1o2, c2x2o0, c2x2o1, c2x2o2, c2x3o0, c2x3o1, c2x3o2]) rfl ⟨RetSp.mk (by rw [wide_eq ho hx1, if_pos g1, if_pos g2]), ?_⟩
        go_grown
      · go_wp2_with (first | (go_at_call 60; refine (down_impl _ _).mono ?_; rintro e w' ⟨rfl, rfl⟩) | (go_at_call 61; refine (up_impl _ _).mono ?_; rintro e w' ⟨rfl, rfl⟩))
        refine bodyPost_ret (v := .agg #[.bool a1, .int .i64 (downF l1), .int .i64 u1]) (by simp [results, Try.results40, go_sem, n2x0, n2x1, n2x2, n2x3, c2x0o0, c2x0o1, c2x0o2, c2x1o0, c2x1o1, c2x1o2, c2x2o0, c2x2o1, c2x2o2, c2x3o0, c2x3o1, c2x3o2]) rfl ⟨RetSp.mk (by rw [wide_eq ho hx1, if_pos (by omega), if_neg (by omega)]), ?_⟩
        go_grown
    · by_cases g2 : ah < u1
      · go_wp2_with (first | (go_at_call 60; refine (down_impl _ _).mono ?_; rintro e w' ⟨rfl, rfl⟩) | (go_at_call 61; refine (up_impl _ _).mono ?_; rintro e w' ⟨rfl, rfl⟩))
        refine bodyPost_ret (v := .agg #[.bool a1, .int .i64 l1, .int .i64 (upF u1)]) (by simp [results, Try.results40, go_sem, n2x0, n2x1, n2x2, n2x3, c2x0o0, c2x0o1, c2x0o2, c2x1o0, c2x1o1, c2x1o2, c2x2o0, c2x2o1, c2x2o2, c2x3o0, c2x3o1, c2x3o2]) rfl ⟨RetSp.mk (by rw [wide_eq ho hx1, if_neg (by omega), if_pos (by omega)]), ?_⟩
        go_grown
      · go_wp2_with (first | (go_at_call 60; refine (down_impl _ _).mono ?_; rintro e w' ⟨rfl, rfl⟩) | (go_at_call 61; refine (up_impl _ _).mono ?_; rintro e w' ⟨rfl, rfl⟩))
        refine bodyPost_ret (v := .agg #[.bool a1, .int .i64 l1, .int .i64 u1]) (by simp [results, Try.results40, go_sem, n2x0, n2x1, n2x2, n2x3, c2x0o0, c2x0o1, c2x0o2, c2x1o0, c2x1o1, c2x1o2, c2x2o0, c2x2o1, c2x2o2, c2x3o0, c2x3o1, c2x3o2]) rfl ⟨RetSp.mk (by rw [wide_eq ho hx1, if_neg (by omega), if_neg (by omega)]), ?_⟩
        go_grown

set_option maxHeartbeats 2000000 in
theorem wide_spec (a : Bool) (al ah : Int) (b : Bool) (bl bh : Int) (w : World) : Calls Try.prog 67 #[.agg #[.bool a, .int .i64 al, .int .i64 ah], .agg #[.bool b, .int .i64 bl, .int .i64 bh]] w fun e w' => RetSp (wideF a al ah b bl bh) e ∧ Below w.heap.size w w' := by
  cases ho1 : (a && okF a al ah)
  · go_enter Try.func67, Try.ntmps67
    go_wp2_with fail
    refine (join_spec _ _ _ _ _ _ _).mono ?_
    rintro e w1 ⟨hs1, hr1⟩
    obtain ⟨a1, l1, u1, hx1, rfl⟩ := hs1.out
    clear hs1
    have hb1 : Below w.heap.size w w1 := ((((Below.refl _ _).alloc (by go_size) _).alloc (by go_size) _).alloc (by go_size) _).trans (hr1.mono (by go_size))
    have hz1 : w.heap.size + 3 ≤ w1.heap.size := by have := hr1.size; first | omega | (simp at this; omega)
    have hB1 : Below w.heap.size w w1 := hb1
    have c1x0o0 : w1.cell? ⟨w.heap.size, 0, none⟩ = some (.bool a) := (hr1.cell (p := ⟨w.heap.size, 0, none⟩) (by go_size)).trans (by simp [go_sem])
    have c1x0o1 : w1.cell? ⟨w.heap.size, 1, none⟩ = some (.int .i64 al) := (hr1.cell (p := ⟨w.heap.size, 1, none⟩) (by go_size)).trans (by simp [go_sem])
    have c1x0o2 : w1.cell? ⟨w.heap.size, 2, none⟩ = some (.int .i64 ah) := (hr1.cell (p := ⟨w.heap.size, 2, none⟩) (by go_size)).trans (by simp [go_sem])
    have c1x1o0 : w1.cell? ⟨w.heap.size + 1, 0, none⟩ = some (.bool b) := (hr1.cell (p := ⟨w.heap.size + 1, 0, none⟩) (by go_size)).trans (by simp [go_sem])
    have c1x1o1 : w1.cell? ⟨w.heap.size + 1, 1, none⟩ = some (.int .i64 bl) := (hr1.cell (p := ⟨w.heap.size + 1, 1, none⟩) (by go_size)).trans (by simp [go_sem])
    have c1x1o2 : w1.cell? ⟨w.heap.size + 1, 2, none⟩ = some (.int .i64 bh) := (hr1.cell (p := ⟨w.heap.size + 1, 2, none⟩) (by go_size)).trans (by simp [go_sem])
    have c1x2o0 : w1.cell? ⟨w.heap.size + 1 + 1, 0, none⟩ = some (.bool false) := (hr1.cell (p := ⟨w.heap.size + 1 + 1, 0, none⟩) (by go_size)).trans (by simp [go_sem])
    have f1x2o0 : w1.frozen? ⟨w.heap.size + 1 + 1, 0, none⟩ = false := (hr1.frozen (p := ⟨w.heap.size + 1 + 1, 0, none⟩) (by go_size)).trans (by simp [go_sem])
    have c1x2o1 : w1.cell? ⟨w.heap.size + 1 + 1, 1, none⟩ = some (.int .i64 0) := (hr1.cell (p := ⟨w.heap.size + 1 + 1, 1, none⟩) (by go_size)).trans (by simp [go_sem])
    have f1x2o1 : w1.frozen? ⟨w.heap.size + 1 + 1, 1, none⟩ = false := (hr1.frozen (p := ⟨w.heap.size + 1 + 1, 1, none⟩) (by go_size)).trans (by simp [go_sem])
    have c1x2o2 : w1.cell? ⟨w.heap.size + 1 + 1, 2, none⟩ = some (.int .i64 0) := (hr1.cell (p := ⟨w.heap.size + 1 + 1, 2, none⟩) (by go_size)).trans (by simp [go_sem])
    have f1x2o2 : w1.frozen? ⟨w.heap.size + 1 + 1, 2, none⟩ = false := (hr1.frozen (p := ⟨w.heap.size + 1 + 1, 2, none⟩) (by go_size)).trans (by simp [go_sem])
    have n1x0 : w.heap.size < w1.heap.size := by omega
    have n1x1 : w.heap.size + 1 < w1.heap.size := by omega
    have n1x2 : w.heap.size + 1 + 1 < w1.heap.size := by omega
    clear hr1 hb1
    go_wp2_with fail
    refine (l1Some_any _ _ _ _).mono ?_
    rintro e w2 ⟨rfl, hr2⟩
    have hb2 : Below w1.heap.size w1 w2 := ((Below.refl _ _).alloc (by go_size) _).trans (hr2.mono (by go_size))
    have hz2 : w1.heap.size + 1 ≤ w2.heap.size := by have := hr2.size; first | omega | (simp at this; omega)
    have hB2 : Below w.heap.size w w2 := hB1.trans (hb2.mono (by go_size))
    have c2x0o0 : w2.cell? ⟨w.heap.size, 0, none⟩ = some (.bool a) := (hb2.cell (p := ⟨w.heap.size, 0, none⟩) (by go_size)).trans c1x0o0
    have c2x0o1 : w2.cell? ⟨w.heap.size, 1, none⟩ = some (.int .i64 al) := (hb2.cell (p := ⟨w.heap.size, 1, none⟩) (by go_size)).trans c1x0o1
    have c2x0o2 : w2.cell? ⟨w.heap.size, 2, none⟩ = some (.int .i64 ah) := (hb2.cell (p := ⟨w.heap.size, 2, none⟩) (by go_size)).trans c1x0o2
    have c2x1o0 : w2.cell? ⟨w.heap.size + 1, 0, none⟩ = some (.bool b) := (hb2.cell (p := ⟨w.heap.size + 1, 0, none⟩) (by go_size)).trans c1x1o0
    have c2x1o1 : w2.cell? ⟨w.heap.size + 1, 1, none⟩ = some (.int .i64 bl) := (hb2.cell (p := ⟨w.heap.size + 1, 1, none⟩) (by go_size)).trans c1x1o1
    have c2x1o2 : w2.cell? ⟨w.heap.size + 1, 2, none⟩ = some (.int .i64 bh) := (hb2.cell (p := ⟨w.heap.size + 1, 2, none⟩) (by go_size)).trans c1x1o2
    have c2x2o0 : w2.cell? ⟨w.heap.size + 1 + 1, 0, none⟩ = some (.bool false) := (hb2.cell (p := ⟨w.heap.size + 1 + 1, 0, none⟩) (by go_size)).trans c1x2o0
    have f2x2o0 : w2.frozen? ⟨w.heap.size + 1 + 1, 0, none⟩ = false := (hb2.frozen (p := ⟨w.heap.size + 1 + 1, 0, none⟩) (by go_size)).trans f1x2o0
    have c2x2o1 : w2.cell? ⟨w.heap.size + 1 + 1, 1, none⟩ = some (.int .i64 0) := (hb2.cell (p := ⟨w.heap.size + 1 + 1, 1, none⟩) (by go_size)).trans c1x2o1
    have f2x2o1 : w2.frozen? ⟨w.heap.size + 1 + 1, 1, none⟩ = false := (hb2.frozen (p := ⟨w.heap.size + 1 + 1, 1, none⟩) (by go_size)).trans f1x2o1
    have c2x2o2 : w2.cell? ⟨w.heap.size + 1 + 1, 2, none⟩ = some (.int .i64 0) := (hb2.cell (p := ⟨w.heap.size + 1 + 1, 2, none⟩) (by go_size)).trans c1x2o2
    have f2x2o2 : w2.frozen? ⟨w.heap.size + 1 + 1, 2, none⟩ = false := (hb2.frozen (p := ⟨w.heap.size + 1 + 1, 2, none⟩) (by go_size)).trans f1x2o2
    have c2x3o0 : w2.cell? ⟨w1.heap.size, 0, none⟩ = some (.bool a1) := (hr2.cell (p := ⟨w1.heap.size, 0, none⟩) (by go_size)).trans (by simp [go_sem])
    have f2x3o0 : w2.frozen? ⟨w1.heap.size, 0, none⟩ = false := (hr2.frozen (p := ⟨w1.heap.size, 0, none⟩) (by go_size)).trans (by simp [go_sem])
    have c2x3o1 : w2.cell? ⟨w1.heap.size, 1, none⟩ = some (.int .i64 l1) := (hr2.cell (p := ⟨w1.heap.size, 1, none⟩) (by go_size)).trans (by simp [go_sem])
    have f2x3o1 : w2.frozen? ⟨w1.heap.size, 1, none⟩ = false := (hr2.frozen (p := ⟨w1.heap.size, 1, none⟩) (by go_size)).trans (by simp [go_sem])
    have c2x3o2 : w2.cell? ⟨w1.heap.size, 2, none⟩ = some (.int .i64 u1) := (hr2.cell (p := ⟨w1.heap.size, 2, none⟩) (by go_size)).trans (by simp [go_sem])
    have f2x3o2 : w2.frozen? ⟨w1.heap.size, 2, none⟩ = false := (hr2.frozen (p := ⟨w1.heap.size, 2, none⟩) (by go_size)).trans (by simp [go_sem])
    have n2x0 : w.heap.size < w2.heap.size := by omega
    have n2x1 : w.heap.size + 1 < w2.heap.size := by omega
    have n2x2 : w.heap.size + 1 + 1 < w2.heap.size := by omega
    have n2x3 : w1.heap.size < w2.heap.size := by omega
    clear n1x0 n1x1 n1x2 c1x0o0 c1x0o1 c1x0o2 c1x1o0 c1x1o1 c1x1o2 c1x2o0 c1x2o1 c1x2o2 f1x2o0 f1x2o1 f1x2o2
    clear hr2 hb2
    simp only [ho1]
    go_wp2
    refine bodyPost_ret (v := .agg #[.bool a1, .int .i64 l1, .int .i64 u1]) (by simp [results, Try.results67, go_sem, n2x0, n2x1, n2x2, n2x3, c2x0o0, c2x0o1, c2x0o2, c2x1o0, c2x1o1, c2x1o2, c2x2o0, c2x2o1, c2x2o2, c2x3o0, c2x3o1, c2x3o2]) rfl ⟨RetSp.mk (wide_no (by rw [both_parts, ho1]; rfl) hx1), ?_⟩
    go_grown
  · cases ho2 : (b && okF b bl bh)
    · go_enter Try.func67, Try.ntmps67
      go_wp2_with fail
      refine (join_spec _ _ _ _ _ _ _).mono ?_
      rintro e w1 ⟨hs1, hr1⟩
      obtain ⟨a1, l1, u1, hx1, rfl⟩ := hs1.out
      clear hs1
      have hb1 : Below w.heap.size w w1 := ((((Below.refl _ _).alloc (by go_size) _).alloc (by go_size) _).alloc (by go_size) _).trans (hr1.mono (by go_size))
      have hz1 : w.heap.size + 3 ≤ w1.heap.size := by have := hr1.size; first | omega | (simp at this; omega)
      have hB1 : Below w.heap.size w w1 := hb1
      have c1x0o0 : w1.cell? ⟨w.heap.size, 0, none⟩ = some (.bool a) := (hr1.cell (p := ⟨w.heap.size, 0, none⟩) (by go_size)).trans (by simp [go_sem])
      have c1x0o1 : w1.cell? ⟨w.heap.size, 1, none⟩ = some (.int .i64 al) := (hr1.cell (p := ⟨w.heap.size, 1, none⟩) (by go_size)).trans (by simp [go_sem])
      have c1x0o2 : w1.cell? ⟨w.heap.size, 2, none⟩ = some (.int .i64 ah) := (hr1.cell (p := ⟨w.heap.size, 2, none⟩) (by go_size)).trans (by simp [go_sem])
      have c1x1o0 : w1.cell? ⟨w.heap.size + 1, 0, none⟩ = some (.bool b) := (hr1.cell (p := ⟨w.heap.size + 1, 0, none⟩) (by go_size)).trans (by simp [go_sem])
      have c1x1o1 : w1.cell? ⟨w.heap.size + 1, 1, none⟩ = some (.int .i64 bl) := (hr1.cell (p := ⟨w.heap.size + 1, 1, none⟩) (by go_size)).trans (by simp [go_sem])
      have c1x1o2 : w1.cell? ⟨w.heap.size + 1, 2, none⟩ = some (.int .i64 bh) := (hr1.cell (p := ⟨w.heap.size + 1, 2, none⟩) (by go_size)).trans (by simp [go_sem])
      have c1x2o0 : w1.cell? ⟨w.heap.size + 1 + 1, 0, none⟩ = some (.bool false) := (hr1.cell (p := ⟨w.heap.size + 1 + 1, 0, none⟩) (by go_size)).trans (by simp [go_sem])
      have f1x2o0 : w1.frozen? ⟨w.heap.size + 1 + 1, 0, none⟩ = false := (hr1.frozen (p := ⟨w.heap.size + 1 + 1, 0, none⟩) (by go_size)).trans (by simp [go_sem])
      have c1x2o1 : w1.cell? ⟨w.heap.size + 1 + 1, 1, none⟩ = some (.int .i64 0) := (hr1.cell (p := ⟨w.heap.size + 1 + 1, 1, none⟩) (by go_size)).trans (by simp [go_sem])
      have f1x2o1 : w1.frozen? ⟨w.heap.size + 1 + 1, 1, none⟩ = false := (hr1.frozen (p := ⟨w.heap.size + 1 + 1, 1, none⟩) (by go_size)).trans (by simp [go_sem])
      have c1x2o2 : w1.cell? ⟨w.heap.size + 1 + 1, 2, none⟩ = some (.int .i64 0) := (hr1.cell (p := ⟨w.heap.size + 1 + 1, 2, none⟩) (by go_size)).trans (by simp [go_sem])
      have f1x2o2 : w1.frozen? ⟨w.heap.size + 1 + 1, 2, none⟩ = false := (hr1.frozen (p := ⟨w.heap.size + 1 + 1, 2, none⟩) (by go_size)).trans (by simp [go_sem])
      have n1x0 : w.heap.size < w1.heap.size := by omega
      have n1x1 : w.heap.size + 1 < w1.heap.size := by omega
      have n1x2 : w.heap.size + 1 + 1 < w1.heap.size := by omega
      clear hr1 hb1
      go_wp2_with fail
      refine (l1Some_any _ _ _ _).mono ?_
      rintro e w2 ⟨rfl, hr2⟩
      have hb2 : Below w1.heap.size w1 w2 := ((Below.refl _ _).alloc (by go_size) _).trans (hr2.mono (by go_size))
      have hz2 : w1.heap.size + 1 ≤ w2.heap.size := by have := hr2.size; first | omega | (simp at this; omega)
      have hB2 : Below w.heap.size w w2 := hB1.trans (hb2.mono (by go_size))
      have c2x0o0 : w2.cell? ⟨w.heap.size, 0, none⟩ = some (.bool a) := (hb2.cell (p := ⟨w.heap.size, 0, none⟩) (by go_size)).trans c1x0o0
      have c2x0o1 : w2.cell? ⟨w.heap.size, 1, none⟩ = some (.int .i64 al) := (hb2.cell (p := ⟨w.heap.size, 1, none⟩) (by go_size)).trans c1x0o1
      have c2x0o2 : w2.cell? ⟨w.heap.size, 2, none⟩ = some (.int .i64 ah) := (hb2.cell (p := ⟨w.heap.size, 2, none⟩) (by go_size)).trans c1x0o2
      have c2x1o0 : w2.cell? ⟨w.heap.size + 1, 0, none⟩ = some (.bool b) := (hb2.cell (p := ⟨w.heap.size + 1, 0, none⟩) (by go_size)).trans c1x1o0
      have c2x1o1 : w2.cell? ⟨w.heap.size + 1, 1, none⟩ = some (.int .i64 bl) := (hb2.cell (p := ⟨w.heap.size + 1, 1, none⟩) (by go_size)).trans c1x1o1
      have c2x1o2 : w2.cell? ⟨w.heap.size + 1, 2, none⟩ = some (.int .i64 bh) := (hb2.cell (p := ⟨w.heap.size + 1, 2, none⟩) (by go_size)).trans c1x1o2
      have c2x2o0 : w2.cell? ⟨w.heap.size + 1 + 1, 0, none⟩ = some (.bool false) := (hb2.cell (p := ⟨w.heap.size + 1 + 1, 0, none⟩) (by go_size)).trans c1x2o0
      have f2x2o0 : w2.frozen? ⟨w.heap.size + 1 + 1, 0, none⟩ = false := (hb2.frozen (p := ⟨w.heap.size + 1 + 1, 0, none⟩) (by go_size)).trans f1x2o0
      have c2x2o1 : w2.cell? ⟨w.heap.size + 1 + 1, 1, none⟩ = some (.int .i64 0) := (hb2.cell (p := ⟨w.heap.size + 1 + 1, 1, none⟩) (by go_size)).trans c1x2o1
      have f2x2o1 : w2.frozen? ⟨w.heap.size + 1 + 1, 1, none⟩ = false := (hb2.frozen (p := ⟨w.heap.size + 1 + 1, 1, none⟩) (by go_size)).trans f1x2o1
      have c2x2o2 : w2.cell? ⟨w.heap.size + 1 + 1, 2, none⟩ = some (.int .i64 0) := (hb2.cell (p := ⟨w.heap.size + 1 + 1, 2, none⟩) (by go_size)).trans c1x2o2
      have f2x2o2 : w2.frozen? ⟨w.heap.size + 1 + 1, 2, none⟩ = false := (hb2.frozen (p := ⟨w.heap.size + 1 + 1, 2, none⟩) (by go_size)).trans f1x2o2
      have c2x3o0 : w2.cell? ⟨w1.heap.size, 0, none⟩ = some (.bool a1) := (hr2.cell (p := ⟨w1.heap.size, 0, none⟩) (by go_size)).trans (by simp [go_sem])
      have f2x3o0 : w2.frozen? ⟨w1.heap.size, 0, none⟩ = false := (hr2.frozen (p := ⟨w1.heap.size, 0, none⟩) (by go_size)).trans (by simp [go_sem])
      have c2x3o1 : w2.cell? ⟨w1.heap.size, 1, none⟩ = some (.int .i64 l1) := (hr2.cell (p := ⟨w1.heap.size, 1, none⟩) (by go_size)).trans (by simp [go_sem])
      have f2x3o1 : w2.frozen? ⟨w1.heap.size, 1, none⟩ = false := (hr2.frozen (p := ⟨w1.heap.size, 1, none⟩) (by go_size)).trans (by simp [go_sem])
      have c2x3o2 : w2.cell? ⟨w1.heap.size, 2, none⟩ = some (.int .i64 u1) := (hr2.cell (p := ⟨w1.heap.size, 2, none⟩) (by go_size)).trans (by simp [go_sem])
      have f2x3o2 : w2.frozen? ⟨w1.heap.size, 2, none⟩ = false := (hr2.frozen (p := ⟨w1.heap.size, 2, none⟩) (by go_size)).trans (by simp [go_sem])
      have n2x0 : w.heap.size < w2.heap.size := by omega
      have n2x1 : w.heap.size + 1 < w2.heap.size := by omega
      have n2x2 : w.heap.size + 1 + 1 < w2.heap.size := by omega
      have n2x3 : w1.heap.size < w2.heap.size := by omega
      clear n1x0 n1x1 n1x2 c1x0o0 c1x0o1 c1x0o2 c1x1o0 c1x1o1 c1x1o2 c1x2o0 c1x2o1 c1x2o2 f1x2o0 f1x2o1 f1x2o2
      clear hr2 hb2
      simp only [ho1]
      go_wp2_with fail
      refine (l1Some_any _ _ _ _).mono ?_
      rintro e w3 ⟨rfl, hr3⟩
      have hb3 : Below w2.heap.size w2 w3 := (Below.refl _ _).trans (hr3.mono (by go_size))
      have hz3 : w2.heap.size + 0 ≤ w3.heap.size := by have := hr3.size; first | omega | (simp at this; omega)
      have hB3 : Below w.heap.size w w3 := hB2.trans (hb3.mono (by go_size))
      have c3x0o0 : w3.cell? ⟨w.heap.size, 0, none⟩ = some (.bool a) := (hb3.cell (p := ⟨w.heap.size, 0, none⟩) (by go_size)).trans c2x0o0
      have c3x0o1 : w3.cell? ⟨w.heap.size, 1, none⟩ = some (.int .i64 al) := (hb3.cell (p := ⟨w.heap.size, 1, none⟩) (by go_size)).trans c2x0o1
      have c3x0o2 : w3.cell? ⟨w.heap.size, 2, none⟩ = some (.int .i64 ah) := (hb3.cell (p := ⟨w.heap.size, 2, none⟩) (by go_size)).trans c2x0o2
      have c3x1o0 : w3.cell? ⟨w.heap.size + 1, 0, none⟩ = some (.bool b) := (hb3.cell (p := ⟨w.heap.size + 1, 0, none⟩) (by go_size)).trans c2x1o0
      have c3x1o1 : w3.cell? ⟨w.heap.size + 1, 1, none⟩ = some (.int .i64 bl) := (hb3.cell (p := ⟨w.heap.size + 1, 1, none⟩) (by go_size)).trans c2x1o1
      have c3x1o2 : w3.cell? ⟨w.heap.size + 1, 2, none⟩ = some (.int .i64 bh) := (hb3.cell (p := ⟨w.heap.size + 1, 2, none⟩) (by go_size)).trans c2x1o2
      have c3x2o0 : w3.cell? ⟨w.heap.size + 1 + 1, 0, none⟩ = some (.bool false) := (hb3.cell (p := ⟨w.heap.size + 1 + 1, 0, none⟩) (by go_size)).trans c2x2o0
      have f3x2o0 : w3.frozen? ⟨w.heap.size + 1 + 1, 0, none⟩ = false := (hb3.frozen (p := ⟨w.heap.size + 1 + 1, 0, none⟩) (by go_size)).trans f2x2o0
      have c3x2o1 : w3.cell? ⟨w.heap.size + 1 + 1, 1, none⟩ = some (.int .i64 0) := (hb3.cell (p := ⟨w.heap.size + 1 + 1, 1, none⟩) (by go_size)).trans c2x2o1
      have f3x2o1 : w3.frozen? ⟨w.heap.size + 1 + 1, 1, none⟩ = false := (hb3.frozen (p := ⟨w.heap.size + 1 + 1, 1, none⟩) (by go_size)).trans f2x2o1
      have c3x2o2 : w3.cell? ⟨w.heap.size + 1 + 1, 2, none⟩ = some (.int .i64 0) := (hb3.cell (p := ⟨w.heap.size + 1 + 1, 2, none⟩) (by go_size)).trans c2x2o2
      have f3x2o2 : w3.frozen? ⟨w.heap.size + 1 + 1, 2, none⟩ = false := (hb3.frozen (p := ⟨w.heap.size + 1 + 1, 2, none⟩) (by go_size)).trans f2x2o2
      have c3x3o0 : w3.cell? ⟨w1.heap.size, 0, none⟩ = some (.bool a1) := (hb3.cell (p := ⟨w1.heap.size, 0, none⟩) (by go_size)).trans c2x3o0
      have f3x3o0 : w3.frozen? ⟨w1.heap.size, 0, none⟩ = false := (hb3.frozen (p := ⟨w1.heap.size, 0, none⟩) (by go_size)).trans f2x3o0
      have c3x3o1 : w3.cell? ⟨w1.heap.size, 1, none⟩ = some (.int .i64 l1) := (hb3.cell (p := ⟨w1.heap.size, 1, none⟩) (by go_size)).trans c2x3o1
      have f3x3o1 : w3.frozen? ⟨w1.heap.size, 1, none⟩ = false := (hb3.frozen (p := ⟨w1.heap.size, 1, none⟩) (by go_size)).trans f2x3o1
      have c3x3o2 : w3.cell? ⟨w1.heap.size, 2, none⟩ = some (.int .i64 u1) := (hb3.cell (p := ⟨w1.heap.size, 2, none⟩) (by go_size)).trans c2x3o2
      have f3x3o2 : w3.frozen? ⟨w1.heap.size, 2, none⟩ = false := (hb3.frozen (p := ⟨w1.heap.size, 2, none⟩) (by go_size)).trans f2x3o2
      have n3x0 : w.heap.size < w3.heap.size := by omega
      have n3x1 : w.heap.size + 1 < w3.heap.size := by omega
      have n3x2 : w.heap.size + 1 + 1 < w3.heap.size := by omega
      have n3x3 : w1.heap.size < w3.heap.size := by omega
      clear n2x0 n2x1 n2x2 n2x3 c2x0o0 c2x0o1 c2x0o2 c2x1o0 c2x1o1 c2x1o2 c2x2o0 c2x2o1 c2x2o2 c2x3o0 c2x3o1 c2x3o2 f2x2o0 f2x2o1 f2x2o2 f2x3o0 f2x3o1 f2x3o2
      clear hr3 hb3
      simp only [ho2]
      go_wp2
      refine bodyPost_ret (v := .agg #[.bool a1, .int .i64 l1, .int .i64 u1]) (by simp [results, Try.results67, go_sem, n3x0, n3x1, n3x2, n3x3, c3x0o0, c3x0o1, c3x0o2, c3x1o0, c3x1o1, c3x1o2, c3x2o0, c3x2o1, c3x2o2, c3x3o0, c3x3o1, c3x3o2]) rfl ⟨RetSp.mk (wide_no (by rw [both_parts, ho1, ho2]; rfl) hx1), ?_⟩
      go_grown
    · go_enter Try.func67, Try.ntmps67
      go_wp2_with fail
      refine (join_spec _ _ _ _ _ _ _).mono ?_
      rintro e w1 ⟨hs1, hr1⟩
      obtain ⟨a1, l1, u1, hx1, rfl⟩ := hs1.out
      clear hs1
      have hb1 : Below w.heap.size w w1 := ((((Below.refl _ _).alloc (by go_size) _).alloc (by go_size) _).alloc (by go_size) _).trans (hr1.mono (by go_size))
      have hz1 : w.heap.size + 3 ≤ w1.heap.size := by have := hr1.size; first | omega | (simp at this; omega)
      have hB1 : Below w.heap.size w w1 := hb1
      have c1x0o0 : w1.cell? ⟨w.heap.size, 0, none⟩ = some (.bool a) := (hr1.cell (p := ⟨w.heap.size, 0, none⟩) (by go_size)).trans (by simp [go_sem])
      have c1x0o1 : w1.cell? ⟨w.heap.size, 1, none⟩ = some (.int .i64 al) := (hr1.cell (p := ⟨w.heap.size, 1, none⟩) (by go_size)).trans (by simp [go_sem])
      have c1x0o2 : w1.cell? ⟨w.heap.size, 2, none⟩ = some (.int .i64 ah) := (hr1.cell (p := ⟨w.heap.size, 2, none⟩) (by go_size)).trans (by simp [go_sem])
      have c1x1o0 : w1.cell? ⟨w.heap.size + 1, 0, none⟩ = some (.bool b) := (hr1.cell (p := ⟨w.heap.size + 1, 0, none⟩) (by go_size)).trans (by simp [go_sem])
      have c1x1o1 : w1.cell? ⟨w.heap.size + 1, 1, none⟩ = some (.int .i64 bl) := (hr1.cell (p := ⟨w.heap.size + 1, 1, none⟩) (by go_size)).trans (by simp [go_sem])
      have c1x1o2 : w1.cell? ⟨w.heap.size + 1, 2, none⟩ = some (.int .i64 bh) := (hr1.cell (p := ⟨w.heap.size + 1, 2, none⟩) (by go_size)).trans (by simp [go_sem])
      have c1x2o0 : w1.cell? ⟨w.heap.size + 1 + 1, 0, none⟩ = some (.bool false) := (hr1.cell (p := ⟨w.heap.size + 1 + 1, 0, none⟩) (by go_size)).trans (by simp [go_sem])
      have f1x2o0 : w1.frozen? ⟨w.heap.size + 1 + 1, 0, none⟩ = false := (hr1.frozen (p := ⟨w.heap.size + 1 + 1, 0, none⟩) (by go_size)).trans (by simp [go_sem])
      have c1x2o1 : w1.cell? ⟨w.heap.size + 1 + 1, 1, none⟩ = some (.int .i64 0) := (hr1.cell (p := ⟨w.heap.size + 1 + 1, 1, none⟩) (by go_size)).trans (by simp [go_sem])
      have f1x2o1 : w1.frozen? ⟨w.heap.size + 1 + 1, 1, none⟩ = false := (hr1.frozen (p := ⟨w.heap.size + 1 + 1, 1, none⟩) (by go_size)).trans (by simp [go_sem])
      have c1x2o2 : w1.cell? ⟨w.heap.size + 1 + 1, 2, none⟩ = some (.int .i64 0) := (hr1.cell (p := ⟨w.heap.size + 1 + 1, 2, none⟩) (by go_size)).trans (by simp [go_sem])
      have f1x2o2 : w1.frozen? ⟨w.heap.size + 1 + 1, 2, none⟩ = false := (hr1.frozen (p := ⟨w.heap.size + 1 + 1, 2, none⟩) (by go_size)).trans (by simp [go_sem])
      have n1x0 : w.heap.size < w1.heap.size := by omega
      have n1x1 : w.heap.size + 1 < w1.heap.size := by omega
      have n1x2 : w.heap.size + 1 + 1 < w1.heap.size := by omega
      clear hr1 hb1
      go_wp2_with fail
      refine (l1Some_any _ _ _ _).mono ?_
      rintro e w2 ⟨rfl, hr2⟩
      have hb2 : Below w1.heap.size w1 w2 := ((Below.refl _ _).alloc (by go_size) _).trans (hr2.mono (by go_size))
      have hz2 : w1.heap.size + 1 ≤ w2.heap.size := by have := hr2.size; first | omega | (simp at this; omega)
      have hB2 : Below w.heap.size w w2 := hB1.trans (hb2.mono (by go_size))
      have c2x0o0 : w2.cell? ⟨w.heap.size, 0, none⟩ = some (.bool a) := (hb2.cell (p := ⟨w.heap.size, 0, none⟩) (by go_size)).trans c1x0o0
      have c2x0o1 : w2.cell? ⟨w.heap.size, 1, none⟩ = some (.int .i64 al) := (hb2.cell (p := ⟨w.heap.size, 1, none⟩) (by go_size)).trans c1x0o1
      have c2x0o2 : w2.cell? ⟨w.heap.size, 2, none⟩ = some (.int .i64 ah) := (hb2.cell (p := ⟨w.heap.size, 2, none⟩) (by go_size)).trans c1x0o2
      have c2x1o0 : w2.cell? ⟨w.heap.size + 1, 0, none⟩ = some (.bool b) := (hb2.cell (p := ⟨w.heap.size + 1, 0, none⟩) (by go_size)).trans c1x1o0
      have c2x1o1 : w2.cell? ⟨w.heap.size + 1, 1, none⟩ = some (.int .i64 bl) := (hb2.cell (p := ⟨w.heap.size + 1, 1, none⟩) (by go_size)).trans c1x1o1
      have c2x1o2 : w2.cell? ⟨w.heap.size + 1, 2, none⟩ = some (.int .i64 bh) := (hb2.cell (p := ⟨w.heap.size + 1, 2, none⟩) (by go_size)).trans c1x1o2
      have c2x2o0 : w2.cell? ⟨w.heap.size + 1 + 1, 0, none⟩ = some (.bool false) := (hb2.cell (p := ⟨w.heap.size + 1 + 1, 0, none⟩) (by go_size)).trans c1x2o0
      have f2x2o0 : w2.frozen? ⟨w.heap.size + 1 + 1, 0, none⟩ = false := (hb2.frozen (p := ⟨w.heap.size + 1 + 1, 0, none⟩) (by go_size)).trans f1x2o0
      have c2x2o1 : w2.cell? ⟨w.heap.size + 1 + 1, 1, none⟩ = some (.int .i64 0) := (hb2.cell (p := ⟨w.heap.size + 1 + 1, 1, none⟩) (by go_size)).trans c1x2o1
      have f2x2o1 : w2.frozen? ⟨w.heap.size + 1 + 1, 1, none⟩ = false := (hb2.frozen (p := ⟨w.heap.size + 1 + 1, 1, none⟩) (by go_size)).trans f1x2o1
      have c2x2o2 : w2.cell? ⟨w.heap.size + 1 + 1, 2, none⟩ = some (.int .i64 0) := (hb2.cell (p := ⟨w.heap.size + 1 + 1, 2, none⟩) (by go_size)).trans c1x2o2
      have f2x2o2 : w2.frozen? ⟨w.heap.size + 1 + 1, 2, none⟩ = false := (hb2.frozen (p := ⟨w.heap.size + 1 + 1, 2, none⟩) (by go_size)).trans f1x2o2
      have c2x3o0 : w2.cell? ⟨w1.heap.size, 0, none⟩ = some (.bool a1) := (hr2.cell (p := ⟨w1.heap.size, 0, none⟩) (by go_size)).trans (by simp [go_sem])
      have f2x3o0 : w2.frozen? ⟨w1.heap.size, 0, none⟩ = false := (hr2.frozen (p := ⟨w1.heap.size, 0, none⟩) (by go_size)).trans (by simp [go_sem])
      have c2x3o1 : w2.cell? ⟨w1.heap.size, 1, none⟩ = some (.int .i64 l1) := (hr2.cell (p := ⟨w1.heap.size, 1, none⟩) (by go_size)).trans (by simp [go_sem])
      have f2x3o1 : w2.frozen? ⟨w1.heap.size, 1, none⟩ = false := (hr2.frozen (p := ⟨w1.heap.size, 1, none⟩) (by go_size)).trans (by simp [go_sem])
      have c2x3o2 : w2.cell? ⟨w1.heap.size, 2, none⟩ = some (.int .i64 u1) := (hr2.cell (p := ⟨w1.heap.size, 2, none⟩) (by go_size)).trans (by simp [go_sem])
      have f2x3o2 : w2.frozen? ⟨w1.heap.size, 2, none⟩ = false := (hr2.frozen (p := ⟨w1.heap.size, 2, none⟩) (by go_size)).trans (by simp [go_sem])
      have n2x0 : w.heap.size < w2.heap.size := by omega
      have n2x1 : w.heap.size + 1 < w2.heap.size := by omega
      have n2x2 : w.heap.size + 1 + 1 < w2.heap.size := by omega
      have n2x3 : w1.heap.size < w2.heap.size := by omega
      clear n1x0 n1x1 n1x2 c1x0o0 c1x0o1 c1x0o2 c1x1o0 c1x1o1 c1x1o2 c1x2o0 c1x2o1 c1x2o2 f1x2o0 f1x2o1 f1x2o2
      clear hr2 hb2
      simp only [ho1]
      go_wp2_with fail
      refine (l1Some_any _ _ _ _).mono ?_
      rintro e w3 ⟨rfl, hr3⟩
      have hb3 : Below w2.heap.size w2 w3 := (Below.refl _ _).trans (hr3.mono (by go_size))
      have hz3 : w2.heap.size + 0 ≤ w3.heap.size := by have := hr3.size; first | omega | (simp at this; omega)
      have hB3 : Below w.heap.size w w3 := hB2.trans (hb3.mono (by go_size))
      have c3x0o0 : w3.cell? ⟨w.heap.size, 0, none⟩ = some (.bool a) := (hb3.cell (p := ⟨w.heap.size, 0, none⟩) (by go_size)).trans c2x0o0
      have c3x0o1 : w3.cell? ⟨w.heap.size, 1, none⟩ = some (.int .i64 al) := (hb3.cell (p := ⟨w.heap.size, 1, none⟩) (by go_size)).trans c2x0o1
      have c3x0o2 : w3.cell? ⟨w.heap.size, 2, none⟩ = some (.int .i64 ah) := (hb3.cell (p := ⟨w.heap.size, 2, none⟩) (by go_size)).trans c2x0o2
      have c3x1o0 : w3.cell? ⟨w.heap.size + 1, 0, none⟩ = some (.bool b) := (hb3.cell (p := ⟨w.heap.size + 1, 0, none⟩) (by go_size)).trans c2x1o0
      have c3x1o1 : w3.cell? ⟨w.heap.size + 1, 1, none⟩ = some (.int .i64 bl) := (hb3.cell (p := ⟨w.heap.size + 1, 1, none⟩) (by go_size)).trans c2x1o1
      have c3x1o2 : w3.cell? ⟨w.heap.size + 1, 2, none⟩ = some (.int .i64 bh) := (hb3.cell (p := ⟨w.heap.size + 1, 2, none⟩) (by go_size)).trans c2x1o2
      have c3x2o0 : w3.cell? ⟨w.heap.size + 1 + 1, 0, none⟩ = some (.bool false) := (hb3.cell (p := ⟨w.heap.size + 1 + 1, 0, none⟩) (by go_size)).trans c2x2o0
      have f3x2o0 : w3.frozen? ⟨w.heap.size + 1 + 1, 0, none⟩ = false := (hb3.frozen (p := ⟨w.heap.size + 1 + 1, 0, none⟩) (by go_size)).trans f2x2o0
      have c3x2o1 : w3.cell? ⟨w.heap.size + 1 + 1, 1, none⟩ = some (.int .i64 0) := (hb3.cell (p := ⟨w.heap.size + 1 + 1, 1, none⟩) (by go_size)).trans c2x2o1
      have f3x2o1 : w3.frozen? ⟨w.heap.size + 1 + 1, 1, none⟩ = false := (hb3.frozen (p := ⟨w.heap.size + 1 + 1, 1, none⟩) (by go_size)).trans f2x2o1
      have c3x2o2 : w3.cell? ⟨w.heap.size + 1 + 1, 2, none⟩ = some (.int .i64 0) := (hb3.cell (p := ⟨w.heap.size + 1 + 1, 2, none⟩) (by go_size)).trans c2x2o2
      have f3x2o2 : w3.frozen? ⟨w.heap.size + 1 + 1, 2, none⟩ = false := (hb3.frozen (p := ⟨w.heap.size + 1 + 1, 2, none⟩) (by go_size)).trans f2x2o2
      have c3x3o0 : w3.cell? ⟨w1.heap.size, 0, none⟩ = some (.bool a1) := (hb3.cell (p := ⟨w1.heap.size, 0, none⟩) (by go_size)).trans c2x3o0
      have f3x3o0 : w3.frozen? ⟨w1.heap.size, 0, none⟩ = false := (hb3.frozen (p := ⟨w1.heap.size, 0, none⟩) (by go_size)).trans f2x3o0
      have c3x3o1 : w3.cell? ⟨w1.heap.size, 1, none⟩ = some (.int .i64 l1) := (hb3.cell (p := ⟨w1.heap.size, 1, none⟩) (by go_size)).trans c2x3o1
      have f3x3o1 : w3.frozen? ⟨w1.heap.size, 1, none⟩ = false := (hb3.frozen (p := ⟨w1.heap.size, 1, none⟩) (by go_size)).trans f2x3o1
      have c3x3o2 : w3.cell? ⟨w1.heap.size, 2, none⟩ = some (.int .i64 u1) := (hb3.cell (p := ⟨w1.heap.size, 2, none⟩) (by go_size)).trans c2x3o2
      have f3x3o2 : w3.frozen? ⟨w1.heap.size, 2, none⟩ = false := (hb3.frozen (p := ⟨w1.heap.size, 2, none⟩) (by go_size)).trans f2x3o2
      have n3x0 : w.heap.size < w3.heap.size := by omega
      have n3x1 : w.heap.size + 1 < w3.heap.size := by omega
      have n3x2 : w.heap.size + 1 + 1 < w3.heap.size := by omega
      have n3x3 : w1.heap.size < w3.heap.size := by omega
      clear n2x0 n2x1 n2x2 n2x3 c2x0o0 c2x0o1 c2x0o2 c2x1o0 c2x1o1 c2x1o2 c2x2o0 c2x2o1 c2x2o2 c2x3o0 c2x3o1 c2x3o2 f2x2o0 f2x2o1 f2x2o2 f2x3o0 f2x3o1 f2x3o2
      clear hr3 hb3
      simp only [ho2]
      by_cases g1 : l1 < al
      · by_cases g2 : ah < u1
        · go_wp2_with (first | (go_at_call 73; refine (down_spec _ _).mono ?_; rintro e w' ⟨rfl, rfl⟩) | (go_at_call 74; refine (up_spec _ _).mono ?_; rintro e w' ⟨rfl, rfl⟩))
          refine bodyPost_ret (v := .agg #[.bool a1, .int .i64 (downF l1), .int .i64 (upF u1)]) (by simp [results, Try.results67, go_sem, n3x0, n3x1, n3x2, n3x3, c3x0o0, c3x0o1, c3x0o2, c3x1o0, c3x1o1, c3x1o2, c3x2o0, c3x2o1, c3x2o2, c3x3o0, c3x3o1, c3x3o2]) rfl ⟨RetSp.mk (by rw [wide_eq (by rw [both_parts, ho1, ho2]; rfl) hx1, if_pos g1, if_pos g2]), ?_⟩
          go_grown
        · go_wp2_with (first | (go_at_call 73; refine (down_spec _ _).mono ?_; rintro e w' ⟨rfl, rfl⟩) | (go_at_call 74; refine (up_spec _ _).mono ?_; rintro e w' ⟨rfl, rfl⟩))
          refine bodyPost_ret (v := .agg #[.bool a1, .int .i64 (downF l1), .int .i64 u1]) (by simp [results, Try.results67, go_sem, n3x0, n3x1, n3x2, n3x3, c3x0o0, c3x0o1, c3x0o2, c3x1o0, c3x1o1, c3x1o2, c3x2o0, c3x2o1, c3x2o2, c3x3o0, c3x3o1, c3x3o2]) rfl ⟨RetSp.mk (by rw [wide_eq (by rw [both_parts, ho1, ho2]; rfl) hx1, if_pos (by omega), if_neg (by omega)]), ?_⟩
          go_grown
      · by_cases g2 : ah < u1
        · go_wp2_with (first | (go_at_call 73; refine (down_spec _ _).mono ?_; rintro e w' ⟨rfl, rfl⟩) | (go_at_call 74; refine (up_spec _ _).mono ?_; rintro e w' ⟨rfl, rfl⟩))
          refine bodyPost_ret (v := .agg #[.bool a1, .int .i64 l1, .int .i64 (upF u1)]) (by simp [results, Try.results67, go_sem, n3x0, n3x1, n3x2, n3x3, c3x0o0, c3x0o1, c3x0o2, c3x1o0, c3x1o1, c3x1o2, c3x2o0, c3x2o1, c3x2o2, c3x3o0, c3x3o1, c3x3o2]) rfl ⟨RetSp.mk (by rw [wide_eq (by rw [both_parts, ho1, ho2]; rfl) hx1, if_neg (by omega), if_pos (by omega)]), ?_⟩
          go_grown
        · go_wp2_with (first | (go_at_call 73; refine (down_spec _ _).mono ?_; rintro e w' ⟨rfl, rfl⟩) | (go_at_call 74; refine (up_spec _ _).mono ?_; rintro e w' ⟨rfl, rfl⟩))
          refine bodyPost_ret (v := .agg #[.bool a1, .int .i64 l1, .int .i64 u1]) (by simp [results, Try.results67, go_sem, n3x0, n3x1, n3x2, n3x3, c3x0o0, c3x0o1, c3x0o2, c3x1o0, c3x1o1, c3x1o2, c3x2o0, c3x2o1, c3x2o2, c3x3o0, c3x3o1, c3x3o2]) rfl ⟨RetSp.mk (by rw [wide_eq (by rw [both_parts, ho1, ho2]; rfl) hx1, if_neg (by omega), if_neg (by omega)]), ?_⟩
          go_grown

end Go.Proofs.Ytdomalclpjijaaa

/-
  Plain facts on widened spans: no claim by itself.
-/
namespace Go.Proofs.Ytdomalclpjijaaa
set_option linter.unusedVariables false
set_option linter.unusedSimpArgs false

theorem wide_all {a b c : Bool} {al ah bl bh cl ch : Int} (h1 : okF a al ah = true) (h2 : okF b bl bh = true) (h : wideF a al ah b bl bh = (c, cl, ch)) :
    okF c cl ch = true ∧ (∀ (d : Bool) (dl dh : Int), joinF a al ah b bl bh = (d, dl, dh) → inF d dl dh c cl ch = true) ∧ (inF b bl bh a al ah = decide (c = a ∧ cl = al ∧ ch = ah)) := by
  cases a
  · obtain ⟨rfl, rfl⟩ := okF_no h1
    have hw : wideF false 0 0 b bl bh = joinF false 0 0 b bl bh := by simp [wideF, bothF]
    rw [hw] at h
    have hall := join_all h1 h2 h
    refine ⟨hall.1, fun d dl dh hd => ?_, ?_⟩
    · rw [h] at hd
      simp at hd
      obtain ⟨rfl, rfl, rfl⟩ := hd
      simp [inF, hall.1]
    · cases b
      · obtain ⟨rfl, rfl⟩ := okF_no h2
        simp [joinF, h1] at h
        obtain ⟨rfl, rfl, rfl⟩ := h
        simp [inF, h1]
      · simp [joinF, h1, h2] at h
        obtain ⟨rfl, rfl, rfl⟩ := h
        simp [inF, h1, h2]
  · have e1 := okF_bd h1
    cases b
    · obtain ⟨rfl, rfl⟩ := okF_no h2
      have hw : wideF true al ah false 0 0 = joinF true al ah false 0 0 := by simp [wideF, bothF]
      rw [hw] at h
      have hall := join_all h1 h2 h
      refine ⟨hall.1, fun d dl dh hd => ?_, ?_⟩
      · rw [h] at hd
        simp at hd
        obtain ⟨rfl, rfl, rfl⟩ := hd
        simp [inF, hall.1]
      · simp [joinF, h1, h2] at h
        obtain ⟨rfl, rfl, rfl⟩ := h
        simp [inF, h1, h2]
    · have e2 := okF_bd h2
      have hb : bothF true al ah true bl bh = true := by simp [bothF, h1, h2]
      simp only [wideF, hb, if_true, Prod.mk.injEq] at h
      obtain ⟨rfl, hl, hu⟩ := h
      have k1 : -16 ≤ cl ∧ cl ≤ min al bl ∧ (cl = al ↔ al ≤ bl) := by
        rw [← hl]; unfold downF; repeat' split
        all_goals omega
      have k2 : ch ≤ 15 ∧ max ah bh ≤ ch ∧ (ch = ah ↔ bh ≤ ah) := by
        rw [← hu]; unfold upF; repeat' split
        all_goals omega
      have ho : okF true cl ch = true := okF_t (by omega)
      refine ⟨ho, fun d dl dh hd => ?_, ?_⟩
      · simp [joinF, h1, h2] at hd
        obtain ⟨rfl, rfl, rfl⟩ := hd
        have h3 : okF true (min al bl) (max ah bh) = true := okF_t (by omega)
        simp [inF, h3, ho]
        omega
      · rw [Bool.eq_iff_iff]
        simp [inF, h1, h2]
        omega
end Go.Proofs.Ytdomalclpjijaaa

/-
  Plain mathematics of widening: each change takes a step of at most seven; calls of SpanWide, SpanOf and NumWrap whose answer has a name.
-/
namespace Go.Proofs.Ytdomalclpjijaaa
open Go.RowKit
set_option linter.unusedVariables false
set_option linter.unusedSimpArgs false

def potL (l : Int) : Int := if 0 < l then 3 else if -4 < l then 2 else if -16 < l then 1 else 0
def potH (u : Int) : Int := if u < 0 then 3 else if u < 4 then 2 else if u < 15 then 1 else 0
def pot (a : Bool) (l u : Int) : Int := if a = true then potL l + potH u else 7
theorem potL_bd (l : Int) : 0 ≤ potL l ∧ potL l ≤ 3 := by unfold potL; repeat' split
                                                          all_goals omega
theorem potH_bd (l : Int) : 0 ≤ potH l ∧ potH l ≤ 3 := by unfold potH; repeat' split
                                                          all_goals omega
theorem pot_bd (a : Bool) (l u : Int) : 0 ≤ pot a l u ∧ pot a l u ≤ 7 := by
  have h1 := potL_bd l; have h2 := potH_bd u
  unfold pot; split <;> omega
theorem potL_down {l m : Int} (h : m < l) (hm : -16 ≤ m) : potL (downF m) + 1 ≤ potL l := by
  unfold potL downF
  by_cases h0 : 0 ≤ m
  · simp [h0]; repeat' split
    all_goals omega
  · by_cases h1 : -4 ≤ m
    · simp [h0, h1]; repeat' split
      all_goals omega
    · simp [h0, h1]; repeat' split
      all_goals omega
theorem potH_up {u m : Int} (h : u < m) (hm : m ≤ 15) : potH (upF m) + 1 ≤ potH u := by
  unfold potH upF
  by_cases h0 : m ≤ 0
  · simp [h0]; repeat' split
    all_goals omega
  · by_cases h1 : m ≤ 4
    · simp [h0, h1]; repeat' split
      all_goals omega
    · simp [h0, h1]; repeat' split
      all_goals omega

theorem wide_pot {a c : Bool} {al ah bl bh cl ch : Int} (h1 : okF a al ah = true) (h2 : okF true bl bh = true) (h : wideF a al ah true bl bh = (c, cl, ch)) :
    okF c cl ch = true ∧ c = true ∧ ((a = true ∧ cl = al ∧ ch = ah) ∨ pot c cl ch + 1 ≤ pot a al ah) := by
  have hok := (wide_all h1 h2 h).1
  cases a
  · obtain ⟨rfl, rfl⟩ := okF_no h1
    simp [wideF, bothF, joinF, h1, h2] at h
    obtain ⟨rfl, rfl, rfl⟩ := h
    have p1 := potL_bd bl; have p2 := potH_bd bh
    refine ⟨hok, rfl, .inr ?_⟩
    simp [pot]; omega
  · have e1 := okF_bd h1
    have e2 := okF_bd h2
    simp [wideF, bothF, h1, h2] at h
    obtain ⟨rfl, hl, hh⟩ := h
    refine ⟨hok, rfl, ?_⟩
    by_cases k1 : bl < al
    · have m1 : min al bl = bl := by omega
      rw [if_pos (by omega), m1] at hl
      have q1 := potL_down k1 (by omega)
      by_cases k2 : ah < bh
      · have m2 : max ah bh = bh := by omega
        rw [if_pos (by omega), m2] at hh
        have q2 := potH_up k2 (by omega)
        right; subst hl hh; simp [pot]; omega
      · rw [if_neg (by omega)] at hh
        have : ch = ah := by omega
        right; subst hl this; simp [pot]; omega
    · rw [if_neg (by omega)] at hl
      have e3 : cl = al := by omega
      by_cases k2 : ah < bh
      · have m2 : max ah bh = bh := by omega
        rw [if_pos (by omega), m2] at hh
        have q2 := potH_up k2 (by omega)
        right; subst hh e3; simp [pot]; omega
      · rw [if_neg (by omega)] at hh
        left; exact ⟨rfl, e3, by omega⟩

theorem wide_at {a b p : Bool} {al ah bl bh pl ph : Int} (h : wideF a al ah b bl bh = (p, pl, ph)) (w : World) : Calls Try.prog 40 #[.agg #[.bool a, .int .i64 al, .int .i64 ah], .agg #[.bool b, .int .i64 bl, .int .i64 bh]] w fun e w' => e = .returned (.agg #[.bool p, .int .i64 pl, .int .i64 ph]) ∧ Below w.heap.size w w' :=
  (wide_impl a al ah b bl bh w).mono fun e w' ⟨h1, h2⟩ => ⟨by rw [h] at h1; exact h1, h2⟩
theorem wideT_at {a b p : Bool} {al ah bl bh pl ph : Int} (h : wideF a al ah b bl bh = (p, pl, ph)) (w : World) : Calls Try.prog 67 #[.agg #[.bool a, .int .i64 al, .int .i64 ah], .agg #[.bool b, .int .i64 bl, .int .i64 bh]] w fun e w' => e = .returned (.agg #[.bool p, .int .i64 pl, .int .i64 ph]) ∧ Below w.heap.size w w' :=
  (wide_spec a al ah b bl bh w).mono fun e w' ⟨h1, h2⟩ => ⟨by rw [h] at h1; exact h1, h2⟩
theorem wrap_word (n : Int) : isW (wrapF n) = true := by have := wrapF_bd n; simp [isW]; omega
theorem ok_word {n : Int} (h : isW n = true) : okF true n n = true := by simp [isW] at h; simp [okF]; omega
end Go.Proofs.Ytdomalclpjijaaa
