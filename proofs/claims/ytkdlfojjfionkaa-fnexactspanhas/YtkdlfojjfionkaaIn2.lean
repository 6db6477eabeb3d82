/-
  The walks of the laws FnExactSpanIn, FnExactSpanHas and FnExactSpanOf.
-/
import Derived.Test.YtkdlfojjfionkaaIn
import Derived.Deep.RegionHeld
import Derived.Deep.DeepCutAuto
namespace Go.Proofs.Ytkdlfojjfionkaa
open Go.RowKit
set_option linter.unusedVariables false
set_option linter.unusedSimpArgs false

theorem keepS {w x y : World} {m n : Nat} {a b : Bool} {al ah bl bh : Int}
    (h : Below w.heap.size w x ∧ m < x.heap.size ∧ n < x.heap.size ∧ x.cell? ⟨m, 0, none⟩ = some (.bool a) ∧ x.cell? ⟨m, 1, none⟩ = some (.int .i64 al) ∧ x.cell? ⟨m, 2, none⟩ = some (.int .i64 ah) ∧ x.cell? ⟨n, 0, none⟩ = some (.bool b) ∧ x.cell? ⟨n, 1, none⟩ = some (.int .i64 bl) ∧ x.cell? ⟨n, 2, none⟩ = some (.int .i64 bh))
    (hb : Below x.heap.size x y) :
    Below w.heap.size w y ∧ m < y.heap.size ∧ n < y.heap.size ∧ y.cell? ⟨m, 0, none⟩ = some (.bool a) ∧ y.cell? ⟨m, 1, none⟩ = some (.int .i64 al) ∧ y.cell? ⟨m, 2, none⟩ = some (.int .i64 ah) ∧ y.cell? ⟨n, 0, none⟩ = some (.bool b) ∧ y.cell? ⟨n, 1, none⟩ = some (.int .i64 bl) ∧ y.cell? ⟨n, 2, none⟩ = some (.int .i64 bh) := by
  obtain ⟨h1, h2, h3, c0, c1, c2, d0, d1, d2⟩ := h
  have hz := hb.size
  have hz1 := h1.size
  exact ⟨h1.trans (hb.mono hz1), by omega, by omega, (hb.cell (p := ⟨m, 0, none⟩) h2).trans c0, (hb.cell (p := ⟨m, 1, none⟩) h2).trans c1, (hb.cell (p := ⟨m, 2, none⟩) h2).trans c2, (hb.cell (p := ⟨n, 0, none⟩) h3).trans d0, (hb.cell (p := ⟨n, 1, none⟩) h3).trans d1, (hb.cell (p := ⟨n, 2, none⟩) h3).trans d2⟩

set_option maxHeartbeats 1000000 in
theorem exactSpanIn_walk (a : Bool) (al ah : Int) (b : Bool) (bl bh : Int) (w : World) (wl : (Lit.int .i64 al).wf = true) (wu : (Lit.int .i64 ah).wf = true) (wl' : (Lit.int .i64 bl).wf = true) (wu' : (Lit.int .i64 bh).wf = true) :
    Calls Try.prog 8 #[.agg #[.bool a, .int .i64 al, .int .i64 ah], .agg #[.bool b, .int .i64 bl, .int .i64 bh]] w fun e w' => e = .returned (.bool true) ∧ Below w.heap.size w w' := by
  clear wl wu wl' wu'
  go_enter Try.func8, Try.ntmps8
  go_wp2_with fail
  go_region_held (fun x => Below w.heap.size w x ∧ w.heap.size < x.heap.size ∧ w.heap.size + 1 < x.heap.size ∧ x.cell? ⟨w.heap.size, 0, none⟩ = some (.bool a) ∧ x.cell? ⟨w.heap.size, 1, none⟩ = some (.int .i64 al) ∧ x.cell? ⟨w.heap.size, 2, none⟩ = some (.int .i64 ah) ∧ x.cell? ⟨w.heap.size + 1, 0, none⟩ = some (.bool b) ∧ x.cell? ⟨w.heap.size + 1, 1, none⟩ = some (.int .i64 bl) ∧ x.cell? ⟨w.heap.size + 1, 2, none⟩ = some (.int .i64 bh)) (first | exact keepS (by assumption) (by assumption) | exact ⟨by go_grown, by go_size, by go_size, by simp [go_sem], by simp [go_sem], by simp [go_sem], by simp [go_sem], by simp [go_sem], by simp [go_sem]⟩)
    (first | (go_at_call 20; refine (toSpan_any _ _ _ _).mono ?_; rintro e w' ⟨rfl, hb⟩) | (go_at_call 27; refine (in_spec _ _ _ _ _ _ _).mono ?_; rintro e w' ⟨rfl, hb⟩))
  go_wp2_with fail
  go_region_held (fun x => Below w.heap.size w x ∧ w.heap.size < x.heap.size ∧ w.heap.size + 1 < x.heap.size ∧ x.cell? ⟨w.heap.size, 0, none⟩ = some (.bool a) ∧ x.cell? ⟨w.heap.size, 1, none⟩ = some (.int .i64 al) ∧ x.cell? ⟨w.heap.size, 2, none⟩ = some (.int .i64 ah) ∧ x.cell? ⟨w.heap.size + 1, 0, none⟩ = some (.bool b) ∧ x.cell? ⟨w.heap.size + 1, 1, none⟩ = some (.int .i64 bl) ∧ x.cell? ⟨w.heap.size + 1, 2, none⟩ = some (.int .i64 bh)) (first | exact keepS (by assumption) (by assumption) | exact keepS (by assumption) (Below.drew (Below.refl _ _)) | exact ⟨by go_grown, by go_size, by go_size, by simp [go_sem], by simp [go_sem], by simp [go_sem], by simp [go_sem], by simp [go_sem], by simp [go_sem]⟩)
    (first | (go_at_call 20; refine (toSpan_any _ _ _ _).mono ?_; rintro e w' ⟨rfl, hb⟩) | (go_at_call 28; refine (in_impl _ _ _ _ _ _ _).mono ?_; rintro e w' ⟨rfl, hb⟩))
  go_wp2
  go_ret
  rename_i hH
  exact ⟨rfl, hH.1⟩
end Go.Proofs.Ytkdlfojjfionkaa
