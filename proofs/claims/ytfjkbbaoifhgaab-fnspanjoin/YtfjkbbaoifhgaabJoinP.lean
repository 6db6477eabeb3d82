/-
  The walk of the law FnSpanJoin.
-/
import Derived.Test.YtfjkbbaoifhgaabOfP
import Derived.Test.YtfjkbbaoifhgaabJoinS
import Derived.Test.YtfjkbbaoifhgaabJoinM
import Derived.Test.YtfjkbbaoifhgaabReg
namespace Go.Proofs.Ytfjkbbaoifhgaab
open Go.RowKit
set_option linter.unusedVariables false
set_option linter.unusedSimpArgs false

set_option maxRecDepth 100000 in
set_option maxHeartbeats 8000000 in
theorem spanJoin_walk (a : Option Addr) (len cap : Nat) (zs : List Int) (a' : Option Addr) (len' cap' : Nat) (zs' : List Int) (w : World) (h : IsRow w a len cap zs) (h' : IsRow w a' len' cap' zs') :
    Calls Try.prog 5 #[.slice a len cap, .slice a' len' cap'] w fun e w' => e = .returned (.bool true) ∧ Below w.heap.size w w' := by
  have hm := row_len h
  have hm' := row_len h'
  unfold maxLen at hm hm'
  by_cases hl : (1048576 : Int) < (len : Int)
  · clear h h'
    go_enter Try.func5, Try.ntmps5
    go_wp2
    go_ret
    exact ⟨rfl, by go_grown⟩
  by_cases hl' : (1048576 : Int) < (len' : Int)
  · clear h h'
    go_enter Try.func5, Try.ntmps5
    go_wp2
    go_ret
    exact ⟨rfl, by go_grown⟩
  go_enter Try.func5, Try.ntmps5
  go_wp2_with fail
  refine (drawSpanJoin_any a len cap zs _ h).mono ?_
  rintro e x hg
  obtain ⟨p, pl, pu, q, ql, qu, rfl, _, _, _, _, _, _, _, _, hb⟩ := hg.it
  have h'x := IsRow.later h' hb
  have hS0 : Below w.heap.size w ((x.alloc (.cells #[.bool p, .int .i64 pl, .int .i64 pu] 25)).alloc (.cells #[.bool q, .int .i64 ql, .int .i64 qu] 25)) ∧ (x.heap.size < ((x.alloc (.cells #[.bool p, .int .i64 pl, .int .i64 pu] 25)).alloc (.cells #[.bool q, .int .i64 ql, .int .i64 qu] 25)).heap.size ∧ ((x.alloc (.cells #[.bool p, .int .i64 pl, .int .i64 pu] 25)).alloc (.cells #[.bool q, .int .i64 ql, .int .i64 qu] 25)).cell? ⟨x.heap.size, 0, none⟩ = some (.bool p) ∧ ((x.alloc (.cells #[.bool p, .int .i64 pl, .int .i64 pu] 25)).alloc (.cells #[.bool q, .int .i64 ql, .int .i64 qu] 25)).cell? ⟨x.heap.size, 1, none⟩ = some (.int .i64 pl) ∧ ((x.alloc (.cells #[.bool p, .int .i64 pl, .int .i64 pu] 25)).alloc (.cells #[.bool q, .int .i64 ql, .int .i64 qu] 25)).cell? ⟨x.heap.size, 2, none⟩ = some (.int .i64 pu)) ∧ (x.heap.size + 1 < ((x.alloc (.cells #[.bool p, .int .i64 pl, .int .i64 pu] 25)).alloc (.cells #[.bool q, .int .i64 ql, .int .i64 qu] 25)).heap.size ∧ ((x.alloc (.cells #[.bool p, .int .i64 pl, .int .i64 pu] 25)).alloc (.cells #[.bool q, .int .i64 ql, .int .i64 qu] 25)).cell? ⟨x.heap.size + 1, 0, none⟩ = some (.bool q) ∧ ((x.alloc (.cells #[.bool p, .int .i64 pl, .int .i64 pu] 25)).alloc (.cells #[.bool q, .int .i64 ql, .int .i64 qu] 25)).cell? ⟨x.heap.size + 1, 1, none⟩ = some (.int .i64 ql) ∧ ((x.alloc (.cells #[.bool p, .int .i64 pl, .int .i64 pu] 25)).alloc (.cells #[.bool q, .int .i64 ql, .int .i64 qu] 25)).cell? ⟨x.heap.size + 1, 2, none⟩ = some (.int .i64 qu)) :=
    ⟨(hb.trans ((belowAlloc _ _).mono hb.size)).trans ((belowAlloc _ _).mono (by have := hb.size; simp; omega)), keepBox (newBox x _ p pl pu) (belowAlloc _ _), by simp⟩
  have h'y := IsRow.later (IsRow.later h'x (belowAlloc x (.cells #[.bool p, .int .i64 pl, .int .i64 pu] 25))) (belowAlloc _ (.cells #[.bool q, .int .i64 ql, .int .i64 qu] 25))
  clear hg hb h h' h'x
  go_wp2_with fail
  refine (drawSpanJoin_any a' len' cap' zs' _ h'y).mono ?_
  rintro e y hg
  obtain ⟨s, sl, su, t, tl, tu, rfl, _, _, _, _, _, _, _, _, hb⟩ := hg.it
  have hS1 := keepN2 hS0 hb
  have hS2 : Below w.heap.size w ((y.alloc (.cells #[.bool s, .int .i64 sl, .int .i64 su] 25)).alloc (.cells #[.bool t, .int .i64 tl, .int .i64 tu] 25)) ∧ (x.heap.size < ((y.alloc (.cells #[.bool s, .int .i64 sl, .int .i64 su] 25)).alloc (.cells #[.bool t, .int .i64 tl, .int .i64 tu] 25)).heap.size ∧ ((y.alloc (.cells #[.bool s, .int .i64 sl, .int .i64 su] 25)).alloc (.cells #[.bool t, .int .i64 tl, .int .i64 tu] 25)).cell? ⟨x.heap.size, 0, none⟩ = some (.bool p) ∧ ((y.alloc (.cells #[.bool s, .int .i64 sl, .int .i64 su] 25)).alloc (.cells #[.bool t, .int .i64 tl, .int .i64 tu] 25)).cell? ⟨x.heap.size, 1, none⟩ = some (.int .i64 pl) ∧ ((y.alloc (.cells #[.bool s, .int .i64 sl, .int .i64 su] 25)).alloc (.cells #[.bool t, .int .i64 tl, .int .i64 tu] 25)).cell? ⟨x.heap.size, 2, none⟩ = some (.int .i64 pu)) ∧ (x.heap.size + 1 < ((y.alloc (.cells #[.bool s, .int .i64 sl, .int .i64 su] 25)).alloc (.cells #[.bool t, .int .i64 tl, .int .i64 tu] 25)).heap.size ∧ ((y.alloc (.cells #[.bool s, .int .i64 sl, .int .i64 su] 25)).alloc (.cells #[.bool t, .int .i64 tl, .int .i64 tu] 25)).cell? ⟨x.heap.size + 1, 0, none⟩ = some (.bool q) ∧ ((y.alloc (.cells #[.bool s, .int .i64 sl, .int .i64 su] 25)).alloc (.cells #[.bool t, .int .i64 tl, .int .i64 tu] 25)).cell? ⟨x.heap.size + 1, 1, none⟩ = some (.int .i64 ql) ∧ ((y.alloc (.cells #[.bool s, .int .i64 sl, .int .i64 su] 25)).alloc (.cells #[.bool t, .int .i64 tl, .int .i64 tu] 25)).cell? ⟨x.heap.size + 1, 2, none⟩ = some (.int .i64 qu)) ∧ (y.heap.size < ((y.alloc (.cells #[.bool s, .int .i64 sl, .int .i64 su] 25)).alloc (.cells #[.bool t, .int .i64 tl, .int .i64 tu] 25)).heap.size ∧ ((y.alloc (.cells #[.bool s, .int .i64 sl, .int .i64 su] 25)).alloc (.cells #[.bool t, .int .i64 tl, .int .i64 tu] 25)).cell? ⟨y.heap.size, 0, none⟩ = some (.bool s) ∧ ((y.alloc (.cells #[.bool s, .int .i64 sl, .int .i64 su] 25)).alloc (.cells #[.bool t, .int .i64 tl, .int .i64 tu] 25)).cell? ⟨y.heap.size, 1, none⟩ = some (.int .i64 sl) ∧ ((y.alloc (.cells #[.bool s, .int .i64 sl, .int .i64 su] 25)).alloc (.cells #[.bool t, .int .i64 tl, .int .i64 tu] 25)).cell? ⟨y.heap.size, 2, none⟩ = some (.int .i64 su)) := by
    obtain ⟨k0, k1, k2⟩ := keepN2 hS1 (belowAlloc y (.cells #[.bool s, .int .i64 sl, .int .i64 su] 25))
    exact keepN3 ⟨k0, k1, k2, newBox y _ s sl su⟩ (belowAlloc _ _)
  clear hg hb hS0 hS1 h'y
  go_wp2_with fail
  refine (join_impl _ _ _ _ _ _ _).mono ?_
  rintro e z ⟨hs1, hb1⟩
  obtain ⟨j, jl, ju, hxJ, rfl⟩ := hs1.out
  have hS3 := keepN3 hS2 hb1
  have hS4 : Below w.heap.size w (z.alloc (.cells #[.bool j, .int .i64 jl, .int .i64 ju] 25)) ∧ (x.heap.size < (z.alloc (.cells #[.bool j, .int .i64 jl, .int .i64 ju] 25)).heap.size ∧ (z.alloc (.cells #[.bool j, .int .i64 jl, .int .i64 ju] 25)).cell? ⟨x.heap.size, 0, none⟩ = some (.bool p) ∧ (z.alloc (.cells #[.bool j, .int .i64 jl, .int .i64 ju] 25)).cell? ⟨x.heap.size, 1, none⟩ = some (.int .i64 pl) ∧ (z.alloc (.cells #[.bool j, .int .i64 jl, .int .i64 ju] 25)).cell? ⟨x.heap.size, 2, none⟩ = some (.int .i64 pu)) ∧ (x.heap.size + 1 < (z.alloc (.cells #[.bool j, .int .i64 jl, .int .i64 ju] 25)).heap.size ∧ (z.alloc (.cells #[.bool j, .int .i64 jl, .int .i64 ju] 25)).cell? ⟨x.heap.size + 1, 0, none⟩ = some (.bool q) ∧ (z.alloc (.cells #[.bool j, .int .i64 jl, .int .i64 ju] 25)).cell? ⟨x.heap.size + 1, 1, none⟩ = some (.int .i64 ql) ∧ (z.alloc (.cells #[.bool j, .int .i64 jl, .int .i64 ju] 25)).cell? ⟨x.heap.size + 1, 2, none⟩ = some (.int .i64 qu)) ∧ (y.heap.size < (z.alloc (.cells #[.bool j, .int .i64 jl, .int .i64 ju] 25)).heap.size ∧ (z.alloc (.cells #[.bool j, .int .i64 jl, .int .i64 ju] 25)).cell? ⟨y.heap.size, 0, none⟩ = some (.bool s) ∧ (z.alloc (.cells #[.bool j, .int .i64 jl, .int .i64 ju] 25)).cell? ⟨y.heap.size, 1, none⟩ = some (.int .i64 sl) ∧ (z.alloc (.cells #[.bool j, .int .i64 jl, .int .i64 ju] 25)).cell? ⟨y.heap.size, 2, none⟩ = some (.int .i64 su)) ∧ (z.heap.size < (z.alloc (.cells #[.bool j, .int .i64 jl, .int .i64 ju] 25)).heap.size ∧ (z.alloc (.cells #[.bool j, .int .i64 jl, .int .i64 ju] 25)).cell? ⟨z.heap.size, 0, none⟩ = some (.bool j) ∧ (z.alloc (.cells #[.bool j, .int .i64 jl, .int .i64 ju] 25)).cell? ⟨z.heap.size, 1, none⟩ = some (.int .i64 jl) ∧ (z.alloc (.cells #[.bool j, .int .i64 jl, .int .i64 ju] 25)).cell? ⟨z.heap.size, 2, none⟩ = some (.int .i64 ju)) := by
    obtain ⟨k0, k1, k2, k3⟩ := keepN3 hS3 (belowAlloc z (.cells #[.bool j, .int .i64 jl, .int .i64 ju] 25))
    exact ⟨k0, k1, k2, k3, newBox z _ j jl ju⟩
  have hSd := keepN4 hS4 (belowDrew _)
  clear hs1 hb1 hS2 hS3
  by_cases hok : okF p pl pu = true ∧ okF q ql qu = true ∧ okF s sl su = true
  case neg =>
    go_upto_region 6 with fail
    go_cut [50] (fun s50 v => s50 = .bool true ∧ (Below w.heap.size w v ∧ (x.heap.size < v.heap.size ∧ v.cell? ⟨x.heap.size, 0, none⟩ = some (.bool p) ∧ v.cell? ⟨x.heap.size, 1, none⟩ = some (.int .i64 pl) ∧ v.cell? ⟨x.heap.size, 2, none⟩ = some (.int .i64 pu)) ∧ (x.heap.size + 1 < v.heap.size ∧ v.cell? ⟨x.heap.size + 1, 0, none⟩ = some (.bool q) ∧ v.cell? ⟨x.heap.size + 1, 1, none⟩ = some (.int .i64 ql) ∧ v.cell? ⟨x.heap.size + 1, 2, none⟩ = some (.int .i64 qu)) ∧ (y.heap.size < v.heap.size ∧ v.cell? ⟨y.heap.size, 0, none⟩ = some (.bool s) ∧ v.cell? ⟨y.heap.size, 1, none⟩ = some (.int .i64 sl) ∧ v.cell? ⟨y.heap.size, 2, none⟩ = some (.int .i64 su)) ∧ (z.heap.size < v.heap.size ∧ v.cell? ⟨z.heap.size, 0, none⟩ = some (.bool j) ∧ v.cell? ⟨z.heap.size, 1, none⟩ = some (.int .i64 jl) ∧ v.cell? ⟨z.heap.size, 2, none⟩ = some (.int .i64 ju))))
    case first =>
      cases ho1 : okF p pl pu
      · first | go_region_with (first | (go_at_call 22; refine (join_spec _ _ _ _ _ _ _).mono ?_; rintro e v1 ⟨hs2, hb2⟩; obtain ⟨a2, l2, u2, hx2, rfl⟩ := hs2.out; obtain ⟨rfl, rfl, rfl⟩ := spSame hxJ hx2; clear hs2; have hSn := keepN4 (by assumption) hb2) | (go_at_call 19; refine (ok_spec _ _ _ _).mono ?_; rintro e v2 ⟨rfl, hb3⟩; (first | rw [ho1]); have hSn := keepN4 (by assumption) hb3)) | fail
        all_goals (go_wp2_with fail; go_meet; exact ⟨rfl, hSn⟩)
      cases ho2 : okF q ql qu
      · first | go_region_with (first | (go_at_call 22; refine (join_spec _ _ _ _ _ _ _).mono ?_; rintro e v1 ⟨hs2, hb2⟩; obtain ⟨a2, l2, u2, hx2, rfl⟩ := hs2.out; obtain ⟨rfl, rfl, rfl⟩ := spSame hxJ hx2; clear hs2; have hSn := keepN4 (by assumption) hb2) | (go_at_call 19; refine (ok_spec _ _ _ _).mono ?_; rintro e v2 ⟨rfl, hb3⟩; (first | rw [ho1] | rw [ho2]); have hSn := keepN4 (by assumption) hb3)) | fail
        all_goals (go_wp2_with fail; go_meet; exact ⟨rfl, hSn⟩)
      cases ho3 : okF s sl su
      · first | go_region_with (first | (go_at_call 22; refine (join_spec _ _ _ _ _ _ _).mono ?_; rintro e v1 ⟨hs2, hb2⟩; obtain ⟨a2, l2, u2, hx2, rfl⟩ := hs2.out; obtain ⟨rfl, rfl, rfl⟩ := spSame hxJ hx2; clear hs2; have hSn := keepN4 (by assumption) hb2) | (go_at_call 19; refine (ok_spec _ _ _ _).mono ?_; rintro e v2 ⟨rfl, hb3⟩; (first | rw [ho1] | rw [ho2] | rw [ho3]); have hSn := keepN4 (by assumption) hb3)) | fail
        all_goals (go_wp2_with fail; go_meet; exact ⟨rfl, hSn⟩)
      exact absurd ⟨ho1, ho2, ho3⟩ hok
    case rest =>
      obtain ⟨rfl, hS5⟩ := hcut
      clear hS4 hSd hok
      go_wp2_with fail
      go_region_held (fun v => Below w.heap.size w v ∧ (x.heap.size < v.heap.size ∧ v.cell? ⟨x.heap.size, 0, none⟩ = some (.bool p) ∧ v.cell? ⟨x.heap.size, 1, none⟩ = some (.int .i64 pl) ∧ v.cell? ⟨x.heap.size, 2, none⟩ = some (.int .i64 pu)) ∧ (x.heap.size + 1 < v.heap.size ∧ v.cell? ⟨x.heap.size + 1, 0, none⟩ = some (.bool q) ∧ v.cell? ⟨x.heap.size + 1, 1, none⟩ = some (.int .i64 ql) ∧ v.cell? ⟨x.heap.size + 1, 2, none⟩ = some (.int .i64 qu)) ∧ (y.heap.size < v.heap.size ∧ v.cell? ⟨y.heap.size, 0, none⟩ = some (.bool s) ∧ v.cell? ⟨y.heap.size, 1, none⟩ = some (.int .i64 sl) ∧ v.cell? ⟨y.heap.size, 2, none⟩ = some (.int .i64 su)) ∧ (z.heap.size < v.heap.size ∧ v.cell? ⟨z.heap.size, 0, none⟩ = some (.bool j) ∧ v.cell? ⟨z.heap.size, 1, none⟩ = some (.int .i64 jl) ∧ v.cell? ⟨z.heap.size, 2, none⟩ = some (.int .i64 ju))) (first | assumption | exact keepN4 (by assumption) (by assumption) | exact keepN4 (by assumption) (belowDrew _)) (first | (go_at_call 22; refine (join_spec _ _ _ _ _ _ _).mono ?_; rintro e v1 ⟨hs2, hb2⟩; obtain ⟨a2, l2, u2, hx2, rfl⟩ := hs2.out; obtain ⟨rfl, rfl, rfl⟩ := spSame hxJ hx2; clear hs2; have hSn := keepN4 (by assumption) hb2))
      go_wp2
      go_ret
      exact ⟨rfl, hSn.1⟩
  obtain ⟨ho1, ho2, ho3⟩ := hok
  have hall := join_all ho1 ho2 hxJ.out
  have hle : Hid (∀ (d : Bool) (dl dh : Int), inF p pl pu d dl dh = true → inF q ql qu d dl dh = true → inF j jl ju d dl dh = true) := fun d dl dh h1 h2 => join_least ho1 ho2 hxJ.out h1 h2
  obtain ⟨_, hI1, hI2, hJc', hJx'⟩ := hall
  have hJc : Hid (joinF q ql qu p pl pu = (j, jl, ju)) := hJc'
  have hJx : Hid (joinF j jl ju p pl pu = (j, jl, ju)) := hJx'
  clear hJc' hJx'
  go_wp2_with fail
  go_region_held (fun v => Below w.heap.size w v ∧ (x.heap.size < v.heap.size ∧ v.cell? ⟨x.heap.size, 0, none⟩ = some (.bool p) ∧ v.cell? ⟨x.heap.size, 1, none⟩ = some (.int .i64 pl) ∧ v.cell? ⟨x.heap.size, 2, none⟩ = some (.int .i64 pu)) ∧ (x.heap.size + 1 < v.heap.size ∧ v.cell? ⟨x.heap.size + 1, 0, none⟩ = some (.bool q) ∧ v.cell? ⟨x.heap.size + 1, 1, none⟩ = some (.int .i64 ql) ∧ v.cell? ⟨x.heap.size + 1, 2, none⟩ = some (.int .i64 qu)) ∧ (y.heap.size < v.heap.size ∧ v.cell? ⟨y.heap.size, 0, none⟩ = some (.bool s) ∧ v.cell? ⟨y.heap.size, 1, none⟩ = some (.int .i64 sl) ∧ v.cell? ⟨y.heap.size, 2, none⟩ = some (.int .i64 su)) ∧ (z.heap.size < v.heap.size ∧ v.cell? ⟨z.heap.size, 0, none⟩ = some (.bool j) ∧ v.cell? ⟨z.heap.size, 1, none⟩ = some (.int .i64 jl) ∧ v.cell? ⟨z.heap.size, 2, none⟩ = some (.int .i64 ju))) (first | assumption | exact keepN4 (by assumption) (by assumption) | exact keepN4 (by assumption) (belowDrew _)) (first | (go_at_call 22; refine (join_spec _ _ _ _ _ _ _).mono ?_; rintro e v1 ⟨hs2, hb2⟩; obtain ⟨a2, l2, u2, hx2, rfl⟩ := hs2.out; obtain ⟨rfl, rfl, rfl⟩ := spSame hxJ hx2; clear hs2; have hSn := keepN4 (by assumption) hb2) | (go_at_call 19; refine (ok_spec _ _ _ _).mono ?_; rintro e v2 ⟨rfl, hb3⟩; (first | rw [ho1] | rw [ho2] | rw [ho3]); have hSn := keepN4 (by assumption) hb3))
  clear ho1 ho2 ho3
  go_wp2_with fail
  go_region_held (fun v => Below w.heap.size w v ∧ (x.heap.size < v.heap.size ∧ v.cell? ⟨x.heap.size, 0, none⟩ = some (.bool p) ∧ v.cell? ⟨x.heap.size, 1, none⟩ = some (.int .i64 pl) ∧ v.cell? ⟨x.heap.size, 2, none⟩ = some (.int .i64 pu)) ∧ (x.heap.size + 1 < v.heap.size ∧ v.cell? ⟨x.heap.size + 1, 0, none⟩ = some (.bool q) ∧ v.cell? ⟨x.heap.size + 1, 1, none⟩ = some (.int .i64 ql) ∧ v.cell? ⟨x.heap.size + 1, 2, none⟩ = some (.int .i64 qu)) ∧ (y.heap.size < v.heap.size ∧ v.cell? ⟨y.heap.size, 0, none⟩ = some (.bool s) ∧ v.cell? ⟨y.heap.size, 1, none⟩ = some (.int .i64 sl) ∧ v.cell? ⟨y.heap.size, 2, none⟩ = some (.int .i64 su)) ∧ (z.heap.size < v.heap.size ∧ v.cell? ⟨z.heap.size, 0, none⟩ = some (.bool j) ∧ v.cell? ⟨z.heap.size, 1, none⟩ = some (.int .i64 jl) ∧ v.cell? ⟨z.heap.size, 2, none⟩ = some (.int .i64 ju))) (first | assumption | exact keepN4 (by assumption) (by assumption) | exact keepN4 (by assumption) (belowDrew _)) (first | (go_at_call 17; refine (in_impl _ _ _ _ _ _ _).mono ?_; rintro e v2 ⟨rfl, hb3⟩; (first | rw [hI1] | rw [hI2]); have hSn := keepN4 (by assumption) hb3) | (go_at_call 21; refine (join_impl _ _ _ _ _ _ _).mono ?_; rintro e v1 ⟨hs2, hb2⟩; obtain ⟨a2, l2, u2, hx2, rfl⟩ := hs2.out; (first | (obtain ⟨rfl, rfl, rfl⟩ := spSame hJc hx2) | (obtain ⟨rfl, rfl, rfl⟩ := spSame hJx hx2)); clear hs2; have hSn := keepN4 (by assumption) hb2))
  go_wp2_with fail
  refine (in_impl _ _ _ _ _ _ _).mono ?_
  rintro e v3 ⟨rfl, hb3⟩
  have hS5 := keepN4 (by assumption) hb3
  cases hc1 : inF p pl pu s sl su
  · go_wp2
    go_ret
    exact ⟨rfl, hS5.1⟩
  · go_wp2_with fail
    refine (in_impl _ _ _ _ _ _ _).mono ?_
    rintro e v4 ⟨rfl, hb4⟩
    have hS6 := keepN4 hS5 hb4
    cases hc2 : inF q ql qu s sl su
    · go_wp2
      go_ret
      exact ⟨rfl, hS6.1⟩
    · have hc3 := hle.out s sl su hc1 hc2
      go_wp2_with fail
      refine (in_impl _ _ _ _ _ _ _).mono ?_
      rintro e v5 ⟨rfl, hb5⟩
      have hS7 := keepN4 hS6 hb5
      rw [hc3]
      go_wp2
      go_ret
      exact ⟨rfl, hS7.1⟩

end Go.Proofs.Ytfjkbbaoifhgaab
