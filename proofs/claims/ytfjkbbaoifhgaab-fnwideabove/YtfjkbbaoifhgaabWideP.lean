/-
  The walk of the law FnWideAbove.
-/
import Derived.Test.YtfjkbbaoifhgaabOfP
import Derived.Test.YtfjkbbaoifhgaabWideM
import Derived.Test.YtfjkbbaoifhgaabReg
namespace Go.Proofs.Ytfjkbbaoifhgaab
open Go.RowKit
set_option linter.unusedVariables false
set_option linter.unusedSimpArgs false

set_option maxRecDepth 100000 in
set_option maxHeartbeats 8000000 in
theorem wideAbove_walk (a : Option Addr) (len cap : Nat) (zs : List Int) (w : World) (h : IsRow w a len cap zs) :
    Calls Try.prog 8 #[.slice a len cap] w fun e w' => e = .returned (.bool true) ∧ Below w.heap.size w w' := by
  have hm := row_len h
  unfold maxLen at hm
  by_cases hl : (1048576 : Int) < (len : Int)
  · clear h
    go_enter Try.func8, Try.ntmps8
    go_wp2
    go_ret
    exact ⟨rfl, by go_grown⟩
  · go_enter Try.func8, Try.ntmps8
    go_wp2_with fail
    refine (drawSpanWide_any a len cap zs _ h).mono ?_
    rintro e x hg
    obtain ⟨p, pl, pu, q, ql, qu, rfl, _, _, _, _, _, _, _, _, hb⟩ := hg.it
    have hS0 : Below w.heap.size w ((x.alloc (.cells #[.bool p, .int .i64 pl, .int .i64 pu] 25)).alloc (.cells #[.bool q, .int .i64 ql, .int .i64 qu] 25)) ∧ (x.heap.size < ((x.alloc (.cells #[.bool p, .int .i64 pl, .int .i64 pu] 25)).alloc (.cells #[.bool q, .int .i64 ql, .int .i64 qu] 25)).heap.size ∧ ((x.alloc (.cells #[.bool p, .int .i64 pl, .int .i64 pu] 25)).alloc (.cells #[.bool q, .int .i64 ql, .int .i64 qu] 25)).cell? ⟨x.heap.size, 0, none⟩ = some (.bool p) ∧ ((x.alloc (.cells #[.bool p, .int .i64 pl, .int .i64 pu] 25)).alloc (.cells #[.bool q, .int .i64 ql, .int .i64 qu] 25)).cell? ⟨x.heap.size, 1, none⟩ = some (.int .i64 pl) ∧ ((x.alloc (.cells #[.bool p, .int .i64 pl, .int .i64 pu] 25)).alloc (.cells #[.bool q, .int .i64 ql, .int .i64 qu] 25)).cell? ⟨x.heap.size, 2, none⟩ = some (.int .i64 pu)) ∧ (x.heap.size + 1 < ((x.alloc (.cells #[.bool p, .int .i64 pl, .int .i64 pu] 25)).alloc (.cells #[.bool q, .int .i64 ql, .int .i64 qu] 25)).heap.size ∧ ((x.alloc (.cells #[.bool p, .int .i64 pl, .int .i64 pu] 25)).alloc (.cells #[.bool q, .int .i64 ql, .int .i64 qu] 25)).cell? ⟨x.heap.size + 1, 0, none⟩ = some (.bool q) ∧ ((x.alloc (.cells #[.bool p, .int .i64 pl, .int .i64 pu] 25)).alloc (.cells #[.bool q, .int .i64 ql, .int .i64 qu] 25)).cell? ⟨x.heap.size + 1, 1, none⟩ = some (.int .i64 ql) ∧ ((x.alloc (.cells #[.bool p, .int .i64 pl, .int .i64 pu] 25)).alloc (.cells #[.bool q, .int .i64 ql, .int .i64 qu] 25)).cell? ⟨x.heap.size + 1, 2, none⟩ = some (.int .i64 qu)) :=
      ⟨(hb.trans ((belowAlloc _ _).mono hb.size)).trans ((belowAlloc _ _).mono (by have := hb.size; simp; omega)), keepBox (newBox x _ p pl pu) (belowAlloc _ _), by simp⟩
    clear hg hb h
    go_wp2_with fail
    refine (wide_impl _ _ _ _ _ _ _).mono ?_
    rintro e z ⟨hs1, hb1⟩
    obtain ⟨j, jl, ju, hxJ, rfl⟩ := hs1.out
    have hS3 := keepN2 hS0 hb1
    have hS4 : Below w.heap.size w (z.alloc (.cells #[.bool j, .int .i64 jl, .int .i64 ju] 25)) ∧ (x.heap.size < (z.alloc (.cells #[.bool j, .int .i64 jl, .int .i64 ju] 25)).heap.size ∧ (z.alloc (.cells #[.bool j, .int .i64 jl, .int .i64 ju] 25)).cell? ⟨x.heap.size, 0, none⟩ = some (.bool p) ∧ (z.alloc (.cells #[.bool j, .int .i64 jl, .int .i64 ju] 25)).cell? ⟨x.heap.size, 1, none⟩ = some (.int .i64 pl) ∧ (z.alloc (.cells #[.bool j, .int .i64 jl, .int .i64 ju] 25)).cell? ⟨x.heap.size, 2, none⟩ = some (.int .i64 pu)) ∧ (x.heap.size + 1 < (z.alloc (.cells #[.bool j, .int .i64 jl, .int .i64 ju] 25)).heap.size ∧ (z.alloc (.cells #[.bool j, .int .i64 jl, .int .i64 ju] 25)).cell? ⟨x.heap.size + 1, 0, none⟩ = some (.bool q) ∧ (z.alloc (.cells #[.bool j, .int .i64 jl, .int .i64 ju] 25)).cell? ⟨x.heap.size + 1, 1, none⟩ = some (.int .i64 ql) ∧ (z.alloc (.cells #[.bool j, .int .i64 jl, .int .i64 ju] 25)).cell? ⟨x.heap.size + 1, 2, none⟩ = some (.int .i64 qu)) ∧ (z.heap.size < (z.alloc (.cells #[.bool j, .int .i64 jl, .int .i64 ju] 25)).heap.size ∧ (z.alloc (.cells #[.bool j, .int .i64 jl, .int .i64 ju] 25)).cell? ⟨z.heap.size, 0, none⟩ = some (.bool j) ∧ (z.alloc (.cells #[.bool j, .int .i64 jl, .int .i64 ju] 25)).cell? ⟨z.heap.size, 1, none⟩ = some (.int .i64 jl) ∧ (z.alloc (.cells #[.bool j, .int .i64 jl, .int .i64 ju] 25)).cell? ⟨z.heap.size, 2, none⟩ = some (.int .i64 ju)) := by
      obtain ⟨k0, k1, k2⟩ := keepN2 hS3 (belowAlloc z (.cells #[.bool j, .int .i64 jl, .int .i64 ju] 25))
      exact ⟨k0, k1, k2, newBox z _ j jl ju⟩
    have hSd := keepN3 hS4 (belowDrew _)
    clear hs1 hb1 hS0 hS3
    by_cases hok : okF p pl pu = true ∧ okF q ql qu = true
    case neg =>
      go_upto_region 5 with fail
      go_cut [31] (fun s50 v => s50 = .bool true ∧ (Below w.heap.size w v ∧ (x.heap.size < v.heap.size ∧ v.cell? ⟨x.heap.size, 0, none⟩ = some (.bool p) ∧ v.cell? ⟨x.heap.size, 1, none⟩ = some (.int .i64 pl) ∧ v.cell? ⟨x.heap.size, 2, none⟩ = some (.int .i64 pu)) ∧ (x.heap.size + 1 < v.heap.size ∧ v.cell? ⟨x.heap.size + 1, 0, none⟩ = some (.bool q) ∧ v.cell? ⟨x.heap.size + 1, 1, none⟩ = some (.int .i64 ql) ∧ v.cell? ⟨x.heap.size + 1, 2, none⟩ = some (.int .i64 qu)) ∧ (z.heap.size < v.heap.size ∧ v.cell? ⟨z.heap.size, 0, none⟩ = some (.bool j) ∧ v.cell? ⟨z.heap.size, 1, none⟩ = some (.int .i64 jl) ∧ v.cell? ⟨z.heap.size, 2, none⟩ = some (.int .i64 ju))))
      case first =>
        cases ho1 : okF p pl pu
        · first | go_region_with (first | (go_at_call 28; refine (wide_spec _ _ _ _ _ _ _).mono ?_; rintro e v1 ⟨hs2, hb2⟩; obtain ⟨a2, l2, u2, hx2, rfl⟩ := hs2.out; obtain ⟨rfl, rfl, rfl⟩ := spSame hxJ hx2; clear hs2; have hSn := keepN3 (by assumption) hb2) | (go_at_call 19; refine (ok_spec _ _ _ _).mono ?_; rintro e v2 ⟨rfl, hb3⟩; (first | rw [ho1]); have hSn := keepN3 (by assumption) hb3)) | fail
          all_goals (go_wp2_with fail; go_meet; exact ⟨rfl, hSn⟩)
        cases ho2 : okF q ql qu
        · first | go_region_with (first | (go_at_call 28; refine (wide_spec _ _ _ _ _ _ _).mono ?_; rintro e v1 ⟨hs2, hb2⟩; obtain ⟨a2, l2, u2, hx2, rfl⟩ := hs2.out; obtain ⟨rfl, rfl, rfl⟩ := spSame hxJ hx2; clear hs2; have hSn := keepN3 (by assumption) hb2) | (go_at_call 19; refine (ok_spec _ _ _ _).mono ?_; rintro e v2 ⟨rfl, hb3⟩; (first | rw [ho1] | rw [ho2]); have hSn := keepN3 (by assumption) hb3)) | fail
          all_goals (go_wp2_with fail; go_meet; exact ⟨rfl, hSn⟩)
        exact absurd ⟨ho1, ho2⟩ hok
      case rest =>
        obtain ⟨rfl, hS5⟩ := hcut
        clear hS4 hSd hok
        go_wp2_with fail
        go_region_held (fun v => Below w.heap.size w v ∧ (x.heap.size < v.heap.size ∧ v.cell? ⟨x.heap.size, 0, none⟩ = some (.bool p) ∧ v.cell? ⟨x.heap.size, 1, none⟩ = some (.int .i64 pl) ∧ v.cell? ⟨x.heap.size, 2, none⟩ = some (.int .i64 pu)) ∧ (x.heap.size + 1 < v.heap.size ∧ v.cell? ⟨x.heap.size + 1, 0, none⟩ = some (.bool q) ∧ v.cell? ⟨x.heap.size + 1, 1, none⟩ = some (.int .i64 ql) ∧ v.cell? ⟨x.heap.size + 1, 2, none⟩ = some (.int .i64 qu)) ∧ (z.heap.size < v.heap.size ∧ v.cell? ⟨z.heap.size, 0, none⟩ = some (.bool j) ∧ v.cell? ⟨z.heap.size, 1, none⟩ = some (.int .i64 jl) ∧ v.cell? ⟨z.heap.size, 2, none⟩ = some (.int .i64 ju))) (first | assumption | exact keepN3 (by assumption) (by assumption) | exact keepN3 (by assumption) (belowDrew _)) (first | (go_at_call 28; refine (wide_spec _ _ _ _ _ _ _).mono ?_; rintro e v1 ⟨hs2, hb2⟩; obtain ⟨a2, l2, u2, hx2, rfl⟩ := hs2.out; obtain ⟨rfl, rfl, rfl⟩ := spSame hxJ hx2; clear hs2; have hSn := keepN3 (by assumption) hb2))
        go_wp2
        go_ret
        exact ⟨rfl, hSn.1⟩
    obtain ⟨ho1, ho2⟩ := hok
    obtain ⟨hOk, hj', hB⟩ := wide_all ho1 ho2 hxJ.out
    have hj : Hid (∀ (d : Bool) (dl dh : Int), joinF p pl pu q ql qu = (d, dl, dh) → inF d dl dh j jl ju = true) := hj'
    clear hj'
    go_wp2_with fail
    go_region_held (fun v => Below w.heap.size w v ∧ (x.heap.size < v.heap.size ∧ v.cell? ⟨x.heap.size, 0, none⟩ = some (.bool p) ∧ v.cell? ⟨x.heap.size, 1, none⟩ = some (.int .i64 pl) ∧ v.cell? ⟨x.heap.size, 2, none⟩ = some (.int .i64 pu)) ∧ (x.heap.size + 1 < v.heap.size ∧ v.cell? ⟨x.heap.size + 1, 0, none⟩ = some (.bool q) ∧ v.cell? ⟨x.heap.size + 1, 1, none⟩ = some (.int .i64 ql) ∧ v.cell? ⟨x.heap.size + 1, 2, none⟩ = some (.int .i64 qu)) ∧ (z.heap.size < v.heap.size ∧ v.cell? ⟨z.heap.size, 0, none⟩ = some (.bool j) ∧ v.cell? ⟨z.heap.size, 1, none⟩ = some (.int .i64 jl) ∧ v.cell? ⟨z.heap.size, 2, none⟩ = some (.int .i64 ju))) (first | assumption | exact keepN3 (by assumption) (by assumption) | exact keepN3 (by assumption) (belowDrew _)) (first | (go_at_call 28; refine (wide_spec _ _ _ _ _ _ _).mono ?_; rintro e v1 ⟨hs2, hb2⟩; obtain ⟨a2, l2, u2, hx2, rfl⟩ := hs2.out; obtain ⟨rfl, rfl, rfl⟩ := spSame hxJ hx2; clear hs2; have hSn := keepN3 (by assumption) hb2) | (go_at_call 19; refine (ok_spec _ _ _ _).mono ?_; rintro e v2 ⟨rfl, hb3⟩; (first | rw [ho1] | rw [ho2]); have hSn := keepN3 (by assumption) hb3))
    clear ho1 ho2 hS4 hSd
    go_wp2_with fail
    go_region_held (fun v => Below w.heap.size w v ∧ (x.heap.size < v.heap.size ∧ v.cell? ⟨x.heap.size, 0, none⟩ = some (.bool p) ∧ v.cell? ⟨x.heap.size, 1, none⟩ = some (.int .i64 pl) ∧ v.cell? ⟨x.heap.size, 2, none⟩ = some (.int .i64 pu)) ∧ (x.heap.size + 1 < v.heap.size ∧ v.cell? ⟨x.heap.size + 1, 0, none⟩ = some (.bool q) ∧ v.cell? ⟨x.heap.size + 1, 1, none⟩ = some (.int .i64 ql) ∧ v.cell? ⟨x.heap.size + 1, 2, none⟩ = some (.int .i64 qu)) ∧ (z.heap.size < v.heap.size ∧ v.cell? ⟨z.heap.size, 0, none⟩ = some (.bool j) ∧ v.cell? ⟨z.heap.size, 1, none⟩ = some (.int .i64 jl) ∧ v.cell? ⟨z.heap.size, 2, none⟩ = some (.int .i64 ju))) (first | assumption | exact keepN3 (by assumption) (by assumption) | exact keepN3 (by assumption) (belowDrew _)) (first | (go_at_call 21; refine (join_impl _ _ _ _ _ _ _).mono ?_; rintro e v4 ⟨hs4, hb4⟩; obtain ⟨d, dl, dh, hx4, rfl⟩ := hs4.out; have hIn := hj.out d dl dh hx4; clear hs4; have hSn := keepN3 (by assumption) hb4) | (go_at_call 17; refine (in_impl _ _ _ _ _ _ _).mono ?_; rintro e v3 ⟨rfl, hb3⟩; rw [hIn]; have hSn := keepN3 (by assumption) hb3) | (go_at_call 15; refine (ok_impl _ _ _ _).mono ?_; rintro e v5 ⟨rfl, hb5⟩; rw [hOk]; have hSn := keepN3 (by assumption) hb5))
    by_cases he : p = j ∧ pl = jl ∧ pu = ju
    · obtain ⟨rfl, rfl, rfl⟩ := he
      rw [show decide (p = p ∧ pl = pl ∧ pu = pu) = true by simp] at hB
      clear hxJ hj
      go_wp2_with fail
      go_region_held (fun v => Below w.heap.size w v ∧ (x.heap.size < v.heap.size ∧ v.cell? ⟨x.heap.size, 0, none⟩ = some (.bool p) ∧ v.cell? ⟨x.heap.size, 1, none⟩ = some (.int .i64 pl) ∧ v.cell? ⟨x.heap.size, 2, none⟩ = some (.int .i64 pu)) ∧ (x.heap.size + 1 < v.heap.size ∧ v.cell? ⟨x.heap.size + 1, 0, none⟩ = some (.bool q) ∧ v.cell? ⟨x.heap.size + 1, 1, none⟩ = some (.int .i64 ql) ∧ v.cell? ⟨x.heap.size + 1, 2, none⟩ = some (.int .i64 qu)) ∧ (z.heap.size < v.heap.size ∧ v.cell? ⟨z.heap.size, 0, none⟩ = some (.bool p) ∧ v.cell? ⟨z.heap.size, 1, none⟩ = some (.int .i64 pl) ∧ v.cell? ⟨z.heap.size, 2, none⟩ = some (.int .i64 pu))) (first | assumption | exact keepN3 (by assumption) (by assumption) | exact keepN3 (by assumption) (belowDrew _)) (first | (go_at_call 17; refine (in_impl _ _ _ _ _ _ _).mono ?_; rintro e v6 ⟨rfl, hb6⟩; rw [hB]; have hSn := keepN3 (by assumption) hb6))
      go_wp2
      go_ret
      exact ⟨rfl, hSn.1⟩
    · rw [show decide (j = p ∧ jl = pl ∧ ju = pu) = false from decide_eq_false (fun hh => he ⟨hh.1.symm, hh.2.1.symm, hh.2.2.symm⟩)] at hB
      clear hxJ hj
      by_cases e1 : p = j
      · subst e1
        by_cases e2 : pl = jl
        · subst e2
          have e3 : (ju == pu) = false := by
            rw [beq_eq_false_iff_ne]; exact fun hh => he ⟨rfl, rfl, hh.symm⟩
          clear he
          go_wp2_with fail
          go_region_held (fun v => Below w.heap.size w v ∧ (x.heap.size < v.heap.size ∧ v.cell? ⟨x.heap.size, 0, none⟩ = some (.bool p) ∧ v.cell? ⟨x.heap.size, 1, none⟩ = some (.int .i64 pl) ∧ v.cell? ⟨x.heap.size, 2, none⟩ = some (.int .i64 pu)) ∧ (x.heap.size + 1 < v.heap.size ∧ v.cell? ⟨x.heap.size + 1, 0, none⟩ = some (.bool q) ∧ v.cell? ⟨x.heap.size + 1, 1, none⟩ = some (.int .i64 ql) ∧ v.cell? ⟨x.heap.size + 1, 2, none⟩ = some (.int .i64 qu)) ∧ (z.heap.size < v.heap.size ∧ v.cell? ⟨z.heap.size, 0, none⟩ = some (.bool p) ∧ v.cell? ⟨z.heap.size, 1, none⟩ = some (.int .i64 pl) ∧ v.cell? ⟨z.heap.size, 2, none⟩ = some (.int .i64 ju))) (first | assumption | exact keepN3 (by assumption) (by assumption) | exact keepN3 (by assumption) (belowDrew _)) (first | (go_at_call 17; refine (in_impl _ _ _ _ _ _ _).mono ?_; rintro e v6 ⟨rfl, hb6⟩; rw [hB]; have hSn := keepN3 (by assumption) hb6))
          go_wp2
          go_ret
          exact ⟨rfl, hSn.1⟩
        · have e3 : (jl == pl) = false := by
            rw [beq_eq_false_iff_ne]; exact fun hh => e2 hh.symm
          clear he e2
          go_wp2_with fail
          go_region_held (fun v => Below w.heap.size w v ∧ (x.heap.size < v.heap.size ∧ v.cell? ⟨x.heap.size, 0, none⟩ = some (.bool p) ∧ v.cell? ⟨x.heap.size, 1, none⟩ = some (.int .i64 pl) ∧ v.cell? ⟨x.heap.size, 2, none⟩ = some (.int .i64 pu)) ∧ (x.heap.size + 1 < v.heap.size ∧ v.cell? ⟨x.heap.size + 1, 0, none⟩ = some (.bool q) ∧ v.cell? ⟨x.heap.size + 1, 1, none⟩ = some (.int .i64 ql) ∧ v.cell? ⟨x.heap.size + 1, 2, none⟩ = some (.int .i64 qu)) ∧ (z.heap.size < v.heap.size ∧ v.cell? ⟨z.heap.size, 0, none⟩ = some (.bool p) ∧ v.cell? ⟨z.heap.size, 1, none⟩ = some (.int .i64 jl) ∧ v.cell? ⟨z.heap.size, 2, none⟩ = some (.int .i64 ju))) (first | assumption | exact keepN3 (by assumption) (by assumption) | exact keepN3 (by assumption) (belowDrew _)) (first | (go_at_call 17; refine (in_impl _ _ _ _ _ _ _).mono ?_; rintro e v6 ⟨rfl, hb6⟩; rw [hB]; have hSn := keepN3 (by assumption) hb6))
          go_wp2
          go_ret
          exact ⟨rfl, hSn.1⟩
      · have e3 : (j == p) = false := by
          rw [beq_eq_false_iff_ne]; exact fun hh => e1 hh.symm
        clear he e1
        go_wp2_with fail
        go_region_held (fun v => Below w.heap.size w v ∧ (x.heap.size < v.heap.size ∧ v.cell? ⟨x.heap.size, 0, none⟩ = some (.bool p) ∧ v.cell? ⟨x.heap.size, 1, none⟩ = some (.int .i64 pl) ∧ v.cell? ⟨x.heap.size, 2, none⟩ = some (.int .i64 pu)) ∧ (x.heap.size + 1 < v.heap.size ∧ v.cell? ⟨x.heap.size + 1, 0, none⟩ = some (.bool q) ∧ v.cell? ⟨x.heap.size + 1, 1, none⟩ = some (.int .i64 ql) ∧ v.cell? ⟨x.heap.size + 1, 2, none⟩ = some (.int .i64 qu)) ∧ (z.heap.size < v.heap.size ∧ v.cell? ⟨z.heap.size, 0, none⟩ = some (.bool j) ∧ v.cell? ⟨z.heap.size, 1, none⟩ = some (.int .i64 jl) ∧ v.cell? ⟨z.heap.size, 2, none⟩ = some (.int .i64 ju))) (first | assumption | exact keepN3 (by assumption) (by assumption) | exact keepN3 (by assumption) (belowDrew _)) (first | (go_at_call 17; refine (in_impl _ _ _ _ _ _ _).mono ?_; rintro e v6 ⟨rfl, hb6⟩; rw [hB]; have hSn := keepN3 (by assumption) hb6))
        go_wp2
        go_ret
        exact ⟨rfl, hSn.1⟩

end Go.Proofs.Ytfjkbbaoifhgaab
