/-
  The walk of the law FnExactSpanWide.
-/
import Derived.Test.YtkdlfojjfionkaaReg
import Derived.Test.YtkdlfojjfionkaaWide
namespace Go.Proofs.Ytkdlfojjfionkaa
open Go.RowKit
set_option linter.unusedVariables false
set_option linter.unusedSimpArgs false

set_option maxHeartbeats 4000000 in
theorem exactSpanWide_walk (a : Bool) (al ah : Int) (b : Bool) (bl bh : Int) (w : World) (wl : (Lit.int .i64 al).wf = true) (wu : (Lit.int .i64 ah).wf = true) (wl' : (Lit.int .i64 bl).wf = true) (wu' : (Lit.int .i64 bh).wf = true) :
    Calls Try.prog 11 #[.agg #[.bool a, .int .i64 al, .int .i64 ah], .agg #[.bool b, .int .i64 bl, .int .i64 bh]] w fun e w' => e = .returned (.bool true) ∧ Below w.heap.size w w' := by
  clear wl wu wl' wu'
  obtain ⟨j1, j2, j3, Js, Ji⟩ : ∃ j1 j2 j3, Hid (∀ x : World, Calls Try.prog 33 #[.agg #[.bool a, .int .i64 al, .int .i64 ah], .agg #[.bool b, .int .i64 bl, .int .i64 bh]] x fun e w' => e = .returned (.agg #[.bool j1, .int .i64 j2, .int .i64 j3]) ∧ Below x.heap.size x w') ∧ Hid (∀ x : World, Calls Try.prog 34 #[.agg #[.bool a, .int .i64 al, .int .i64 ah], .agg #[.bool b, .int .i64 bl, .int .i64 bh]] x fun e w' => e = .returned (.agg #[.bool j1, .int .i64 j2, .int .i64 j3]) ∧ Below x.heap.size x w') :=
    ⟨(wideF a al ah b bl bh).1, (wideF a al ah b bl bh).2.1, (wideF a al ah b bl bh).2.2, fun x => wide_spec a al ah b bl bh x, fun x => wide_impl a al ah b bl bh x⟩
  go_enter Try.func11, Try.ntmps11
  go_upto_region 1 with fail
  go_cut [5] (fun s5 x => ∃ m : Nat, s5 = .pointer (some ⟨m, 0, none⟩) ∧ (Below w.heap.size w x ∧ w.heap.size < x.heap.size ∧ w.heap.size + 1 < x.heap.size ∧ x.cell? ⟨w.heap.size, 0, none⟩ = some (.bool a) ∧ x.cell? ⟨w.heap.size, 1, none⟩ = some (.int .i64 al) ∧ x.cell? ⟨w.heap.size, 2, none⟩ = some (.int .i64 ah) ∧ x.cell? ⟨w.heap.size + 1, 0, none⟩ = some (.bool b) ∧ x.cell? ⟨w.heap.size + 1, 1, none⟩ = some (.int .i64 bl) ∧ x.cell? ⟨w.heap.size + 1, 2, none⟩ = some (.int .i64 bh)) ∧ m < x.heap.size ∧ w.heap.size + 1 < m ∧ x.cell? ⟨m, 0, none⟩ = some (.bool j1) ∧ x.cell? ⟨m, 1, none⟩ = some (.int .i64 j2) ∧ x.cell? ⟨m, 2, none⟩ = some (.int .i64 j3))
  case first =>
    go_region_held (fun x => Below w.heap.size w x ∧ w.heap.size < x.heap.size ∧ w.heap.size + 1 < x.heap.size ∧ x.cell? ⟨w.heap.size, 0, none⟩ = some (.bool a) ∧ x.cell? ⟨w.heap.size, 1, none⟩ = some (.int .i64 al) ∧ x.cell? ⟨w.heap.size, 2, none⟩ = some (.int .i64 ah) ∧ x.cell? ⟨w.heap.size + 1, 0, none⟩ = some (.bool b) ∧ x.cell? ⟨w.heap.size + 1, 1, none⟩ = some (.int .i64 bl) ∧ x.cell? ⟨w.heap.size + 1, 2, none⟩ = some (.int .i64 bh)) (first | assumption | exact keepS (by assumption) (by assumption) | exact keepS (by assumption) (Below.alloc (Below.refl _ _) (Nat.le_refl _) _) | exact keepS (by assumption) (Below.drew (Below.refl _ _)) | (refine keepSet (keepSet (keepSet (by assumption) ?_ ?_ ?_) ?_ ?_ ?_) ?_ ?_ ?_ <;> omega) | exact ⟨by go_grown, by go_size, by go_size, by simp [go_sem], by simp [go_sem], by simp [go_sem], by simp [go_sem], by simp [go_sem], by simp [go_sem]⟩) (first | (go_at_call 20; refine (toSpan_any _ _ _ _).mono ?_; rintro e w' ⟨rfl, hb⟩; have hS := keepS (by assumption) hb; obtain ⟨hc, hf⟩ := bcell hb; have hl := below_lt hb; try (have hb2 := belowTrans (by assumption) hb; obtain ⟨hcb, hfb⟩ := bcell hb2; have hlb := below_lt hb2)) | (go_at_call 33; refine (Js.out _).mono ?_; rintro e w' ⟨rfl, hb⟩; have hS := keepS (by assumption) hb; obtain ⟨hc, hf⟩ := bcell hb; have hl := below_lt hb; try (have hb2 := belowTrans (by assumption) hb; obtain ⟨hcb, hfb⟩ := bcell hb2; have hlb := below_lt hb2)))
    all_goals
      go_wp2_with fail
      go_meet
      refine ⟨_, rfl, by assumption, ?_, ?_, ?_, ?_, ?_⟩
      · first | go_size | (simp [*, go_sem]; done)
      · omega
      all_goals go_simp
  case rest =>
  obtain ⟨m, rfl, hS0, hM0⟩ := hcut
  have hT0 := And.intro hS0 hM0
  clear hS0 hM0
  go_wp2_with fail
  go_region_held (fun x => (Below w.heap.size w x ∧ w.heap.size < x.heap.size ∧ w.heap.size + 1 < x.heap.size ∧ x.cell? ⟨w.heap.size, 0, none⟩ = some (.bool a) ∧ x.cell? ⟨w.heap.size, 1, none⟩ = some (.int .i64 al) ∧ x.cell? ⟨w.heap.size, 2, none⟩ = some (.int .i64 ah) ∧ x.cell? ⟨w.heap.size + 1, 0, none⟩ = some (.bool b) ∧ x.cell? ⟨w.heap.size + 1, 1, none⟩ = some (.int .i64 bl) ∧ x.cell? ⟨w.heap.size + 1, 2, none⟩ = some (.int .i64 bh)) ∧ (m < x.heap.size ∧ w.heap.size + 1 < m ∧ x.cell? ⟨m, 0, none⟩ = some (.bool j1) ∧ x.cell? ⟨m, 1, none⟩ = some (.int .i64 j2) ∧ x.cell? ⟨m, 2, none⟩ = some (.int .i64 j3))) (first | assumption | exact keepT (by assumption) (by assumption) | exact keepT (by assumption) (Below.alloc (Below.refl _ _) (Nat.le_refl _) _) | exact keepT (by assumption) (Below.drew (Below.refl _ _)) | exact keepT (by assumption) (Below.drew (Below.alloc (Below.refl _ _) (Nat.le_refl _) _)) | (refine keepTSet (keepTSet (keepTSet (by assumption) ?_ ?_ ?_ ?_) ?_ ?_ ?_ ?_) ?_ ?_ ?_ ?_ <;> omega)) (first | (go_at_call 20; refine (toSpan_any _ _ _ _).mono ?_; rintro e w' ⟨rfl, hb⟩; have hS := keepT (by assumption) hb; obtain ⟨hc, hf⟩ := bcell hb; have hl := below_lt hb; try (have hb2 := belowTrans (by assumption) hb; obtain ⟨hcb, hfb⟩ := bcell hb2; have hlb := below_lt hb2)) | (go_at_call 34; refine (Ji.out _).mono ?_; rintro e w' ⟨rfl, hb⟩; have hS := keepT (by assumption) hb; obtain ⟨hc, hf⟩ := bcell hb; have hl := below_lt hb; try (have hb2 := belowTrans (by assumption) hb; obtain ⟨hcb, hfb⟩ := bcell hb2; have hlb := below_lt hb2)))
  all_goals
    go_wp2_with (go_at_call 24; refine (eqSpan_same _ _ _ _).mono ?_; rintro e w' ⟨rfl, hb⟩; have hfin := (keepT (by assumption) hb).1.1)
    go_ret
    exact ⟨rfl, by assumption⟩

end Go.Proofs.Ytkdlfojjfionkaa
