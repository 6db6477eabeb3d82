/-
  The walk of the law FnSpanMeet.
-/
import Derived.Test.YtfjkbbaoifhgaabOfP
import Derived.Test.YtfjkbbaoifhgaabMeet
namespace Go.Proofs.Ytfjkbbaoifhgaab
open Go.RowKit
set_option linter.unusedVariables false
set_option linter.unusedSimpArgs false

theorem hasF_iff {a : Bool} {l u n : Int} : hasF a l u n = true ↔ a = true ∧ okF a l u = true ∧ l ≤ n ∧ n ≤ u := by
  simp [hasF, and_assoc]
theorem meet_has {a b c : Bool} {al ah bl bh cl ch n : Int} (h : meetF a al ah b bl bh = (c, cl, ch)) : hasF c cl ch n = (hasF a al ah n && hasF b bl bh n) := by
  rw [Bool.eq_iff_iff, Bool.and_eq_true, hasF_iff, hasF_iff, hasF_iff]
  unfold meetF at h
  split at h
  · rename_i hb
    simp only [bothF, Bool.and_eq_true] at hb
    obtain ⟨⟨⟨h1, h2⟩, rfl⟩, rfl⟩ := hb
    have e1 := okF_bd h1
    have e2 := okF_bd h2
    unfold mkF at h
    split at h
    · simp [noSp] at h
      obtain ⟨rfl, rfl, rfl⟩ := h
      simp
      omega
    · simp at h
      obtain ⟨rfl, rfl, rfl⟩ := h
      have ho : okF true (max al bl) (min ah bh) = true := okF_t (by omega)
      simp [ho, h1, h2]
      omega
  · rename_i hb
    simp [noSp] at h
    obtain ⟨rfl, rfl, rfl⟩ := h
    simp only [bothF, Bool.and_eq_true] at hb
    constructor
    · intro hh; simp at hh
    · intro hh; exact absurd ⟨⟨⟨hh.1.2.1, hh.2.2.1⟩, hh.1.1⟩, hh.2.1⟩ hb
theorem meet_ok {a b c : Bool} {al ah bl bh cl ch : Int} (h : meetF a al ah b bl bh = (c, cl, ch)) : okF c cl ch = true := by
  unfold meetF at h
  split at h
  · rename_i hb
    simp only [bothF, Bool.and_eq_true] at hb
    obtain ⟨⟨⟨h1, h2⟩, rfl⟩, rfl⟩ := hb
    have e1 := okF_bd h1
    have e2 := okF_bd h2
    unfold mkF at h
    split at h
    · simp [noSp] at h
      obtain ⟨rfl, rfl, rfl⟩ := h
      rfl
    · simp at h
      obtain ⟨rfl, rfl, rfl⟩ := h
      exact okF_t (by omega)
  · simp [noSp] at h
    obtain ⟨rfl, rfl, rfl⟩ := h
    rfl

set_option maxRecDepth 100000 in
set_option maxHeartbeats 4000000 in
theorem spanMeet_walk (a : Option Addr) (len cap : Nat) (zs : List Int) (w : World) (h : IsRow w a len cap zs) :
    Calls Try.prog 6 #[.slice a len cap] w fun e w' => e = .returned (.bool true) ∧ Below w.heap.size w w' := by
  have hm := row_len h
  unfold maxLen at hm
  by_cases hl : (1048576 : Int) < (len : Int)
  · clear h
    go_enter Try.func6, Try.ntmps6
    go_wp2
    go_ret
    exact ⟨rfl, by go_grown⟩
  · go_enter Try.func6, Try.ntmps6
    go_wp2_with fail
    refine (drawSpanMeet_any a len cap zs _ h).mono ?_
    rintro e x hg
    obtain ⟨p, pl, pu, q, ql, qu, rfl, _, _, _, _, _, _, _, _, hb⟩ := hg.it
    have hS0 : Below w.heap.size w ((x.alloc (.cells #[.bool p, .int .i64 pl, .int .i64 pu] 25)).alloc (.cells #[.bool q, .int .i64 ql, .int .i64 qu] 25)) ∧ (x.heap.size < ((x.alloc (.cells #[.bool p, .int .i64 pl, .int .i64 pu] 25)).alloc (.cells #[.bool q, .int .i64 ql, .int .i64 qu] 25)).heap.size ∧ ((x.alloc (.cells #[.bool p, .int .i64 pl, .int .i64 pu] 25)).alloc (.cells #[.bool q, .int .i64 ql, .int .i64 qu] 25)).cell? ⟨x.heap.size, 0, none⟩ = some (.bool p) ∧ ((x.alloc (.cells #[.bool p, .int .i64 pl, .int .i64 pu] 25)).alloc (.cells #[.bool q, .int .i64 ql, .int .i64 qu] 25)).cell? ⟨x.heap.size, 1, none⟩ = some (.int .i64 pl) ∧ ((x.alloc (.cells #[.bool p, .int .i64 pl, .int .i64 pu] 25)).alloc (.cells #[.bool q, .int .i64 ql, .int .i64 qu] 25)).cell? ⟨x.heap.size, 2, none⟩ = some (.int .i64 pu)) ∧ (x.heap.size + 1 < ((x.alloc (.cells #[.bool p, .int .i64 pl, .int .i64 pu] 25)).alloc (.cells #[.bool q, .int .i64 ql, .int .i64 qu] 25)).heap.size ∧ ((x.alloc (.cells #[.bool p, .int .i64 pl, .int .i64 pu] 25)).alloc (.cells #[.bool q, .int .i64 ql, .int .i64 qu] 25)).cell? ⟨x.heap.size + 1, 0, none⟩ = some (.bool q) ∧ ((x.alloc (.cells #[.bool p, .int .i64 pl, .int .i64 pu] 25)).alloc (.cells #[.bool q, .int .i64 ql, .int .i64 qu] 25)).cell? ⟨x.heap.size + 1, 1, none⟩ = some (.int .i64 ql) ∧ ((x.alloc (.cells #[.bool p, .int .i64 pl, .int .i64 pu] 25)).alloc (.cells #[.bool q, .int .i64 ql, .int .i64 qu] 25)).cell? ⟨x.heap.size + 1, 2, none⟩ = some (.int .i64 qu)) :=
      ⟨(hb.trans ((belowAlloc _ _).mono hb.size)).trans ((belowAlloc _ _).mono (by have := hb.size; simp; omega)), keepBox (newBox x _ p pl pu) (belowAlloc _ _), by simp⟩
    clear hg hb h
    go_wp2_with fail
    refine (meet_impl _ _ _ _ _ _ _).mono ?_
    rintro e x1 ⟨hs1, hb1⟩
    obtain ⟨a1, l1, u1, hx1, rfl⟩ := hs1.out
    have hS1 := keepN2 hS0 hb1
    have hS2 : Below w.heap.size w (x1.alloc (.cells #[.bool a1, .int .i64 l1, .int .i64 u1] 25)) ∧ (x.heap.size < (x1.alloc (.cells #[.bool a1, .int .i64 l1, .int .i64 u1] 25)).heap.size ∧ (x1.alloc (.cells #[.bool a1, .int .i64 l1, .int .i64 u1] 25)).cell? ⟨x.heap.size, 0, none⟩ = some (.bool p) ∧ (x1.alloc (.cells #[.bool a1, .int .i64 l1, .int .i64 u1] 25)).cell? ⟨x.heap.size, 1, none⟩ = some (.int .i64 pl) ∧ (x1.alloc (.cells #[.bool a1, .int .i64 l1, .int .i64 u1] 25)).cell? ⟨x.heap.size, 2, none⟩ = some (.int .i64 pu)) ∧ (x.heap.size + 1 < (x1.alloc (.cells #[.bool a1, .int .i64 l1, .int .i64 u1] 25)).heap.size ∧ (x1.alloc (.cells #[.bool a1, .int .i64 l1, .int .i64 u1] 25)).cell? ⟨x.heap.size + 1, 0, none⟩ = some (.bool q) ∧ (x1.alloc (.cells #[.bool a1, .int .i64 l1, .int .i64 u1] 25)).cell? ⟨x.heap.size + 1, 1, none⟩ = some (.int .i64 ql) ∧ (x1.alloc (.cells #[.bool a1, .int .i64 l1, .int .i64 u1] 25)).cell? ⟨x.heap.size + 1, 2, none⟩ = some (.int .i64 qu)) ∧ (x1.heap.size < (x1.alloc (.cells #[.bool a1, .int .i64 l1, .int .i64 u1] 25)).heap.size ∧ (x1.alloc (.cells #[.bool a1, .int .i64 l1, .int .i64 u1] 25)).cell? ⟨x1.heap.size, 0, none⟩ = some (.bool a1) ∧ (x1.alloc (.cells #[.bool a1, .int .i64 l1, .int .i64 u1] 25)).cell? ⟨x1.heap.size, 1, none⟩ = some (.int .i64 l1) ∧ (x1.alloc (.cells #[.bool a1, .int .i64 l1, .int .i64 u1] 25)).cell? ⟨x1.heap.size, 2, none⟩ = some (.int .i64 u1)) := by
      obtain ⟨k0, k1, k2⟩ := keepN2 hS1 (belowAlloc x1 (.cells #[.bool a1, .int .i64 l1, .int .i64 u1] 25))
      exact ⟨k0, k1, k2, newBox x1 _ a1 l1 u1⟩
    clear hs1 hb1 hS0
    go_wp2_with fail
    go_region_held (fun z => Below w.heap.size w z ∧ (x.heap.size < z.heap.size ∧ z.cell? ⟨x.heap.size, 0, none⟩ = some (.bool p) ∧ z.cell? ⟨x.heap.size, 1, none⟩ = some (.int .i64 pl) ∧ z.cell? ⟨x.heap.size, 2, none⟩ = some (.int .i64 pu)) ∧ (x.heap.size + 1 < z.heap.size ∧ z.cell? ⟨x.heap.size + 1, 0, none⟩ = some (.bool q) ∧ z.cell? ⟨x.heap.size + 1, 1, none⟩ = some (.int .i64 ql) ∧ z.cell? ⟨x.heap.size + 1, 2, none⟩ = some (.int .i64 qu)) ∧ (x1.heap.size < z.heap.size ∧ z.cell? ⟨x1.heap.size, 0, none⟩ = some (.bool a1) ∧ z.cell? ⟨x1.heap.size, 1, none⟩ = some (.int .i64 l1) ∧ z.cell? ⟨x1.heap.size, 2, none⟩ = some (.int .i64 u1))) (first | assumption | exact keepN3 (by assumption) (by assumption) | exact keepN3 (by assumption) (belowDrew _)) (first | (go_at_call 25; refine (meet_spec _ _ _ _ _ _ _).mono ?_; rintro e x2 ⟨hs2, hb2⟩; obtain ⟨a2, l2, u2, hx2, rfl⟩ := hs2.out; obtain ⟨rfl, rfl, rfl⟩ := spSame hx1 hx2; clear hs2))
    have hS3 : Below w.heap.size w x2 ∧ (x.heap.size < x2.heap.size ∧ x2.cell? ⟨x.heap.size, 0, none⟩ = some (.bool p) ∧ x2.cell? ⟨x.heap.size, 1, none⟩ = some (.int .i64 pl) ∧ x2.cell? ⟨x.heap.size, 2, none⟩ = some (.int .i64 pu)) ∧ (x.heap.size + 1 < x2.heap.size ∧ x2.cell? ⟨x.heap.size + 1, 0, none⟩ = some (.bool q) ∧ x2.cell? ⟨x.heap.size + 1, 1, none⟩ = some (.int .i64 ql) ∧ x2.cell? ⟨x.heap.size + 1, 2, none⟩ = some (.int .i64 qu)) ∧ (x1.heap.size < x2.heap.size ∧ x2.cell? ⟨x1.heap.size, 0, none⟩ = some (.bool a1) ∧ x2.cell? ⟨x1.heap.size, 1, none⟩ = some (.int .i64 l1) ∧ x2.cell? ⟨x1.heap.size, 2, none⟩ = some (.int .i64 u1)) := by assumption
    clear hS1 hS2 hb2
    go_wp2
    go_loopw [6] (fun i y => ∃ m : Int, -16 ≤ m ∧ m ≤ 16 ∧ i = .int .i64 m ∧ (Below w.heap.size w y ∧ (x.heap.size < y.heap.size ∧ y.cell? ⟨x.heap.size, 0, none⟩ = some (.bool p) ∧ y.cell? ⟨x.heap.size, 1, none⟩ = some (.int .i64 pl) ∧ y.cell? ⟨x.heap.size, 2, none⟩ = some (.int .i64 pu)) ∧ (x.heap.size + 1 < y.heap.size ∧ y.cell? ⟨x.heap.size + 1, 0, none⟩ = some (.bool q) ∧ y.cell? ⟨x.heap.size + 1, 1, none⟩ = some (.int .i64 ql) ∧ y.cell? ⟨x.heap.size + 1, 2, none⟩ = some (.int .i64 qu)) ∧ (x1.heap.size < y.heap.size ∧ y.cell? ⟨x1.heap.size, 0, none⟩ = some (.bool a1) ∧ y.cell? ⟨x1.heap.size, 1, none⟩ = some (.int .i64 l1) ∧ y.cell? ⟨x1.heap.size, 2, none⟩ = some (.int .i64 u1)))) (fun i _ => (16 - intOf i).toNat)
    case atStart => exact ⟨-16, by omega, by omega, rfl, hS3⟩
    case round =>
      obtain ⟨m, m0, m1, rfl, hS⟩ := hrel
      clear hS3
      by_cases hlt : m ≤ 15
      · have hX := meet_has (n := m) hx1.out
        cases hA : hasF p pl pu m
        · rw [hA, Bool.false_and] at hX
          have hSd := keepN3 hS (belowDrew wr)
          go_wp2_with fail
          first | go_region_with (first | (go_at_call 14; refine (has_impl _ _ _ _ _).mono ?_; rintro e y1 ⟨rfl, hb3⟩; (first | rw [hX] | rw [hA]); have hSn := keepN3 (by assumption) hb3)) | fail
          all_goals
            go_wp2
            go_roundw
            case rel => exact ⟨m + 1, by omega, by omega, by go_num, by assumption⟩
            case measure => simp [intOf]; omega
        · rw [hA, Bool.true_and] at hX
          cases hC : hasF q ql qu m
          all_goals
            rw [hC] at hX
            go_wp2_with fail
            go_region_held (fun y => Below w.heap.size w y ∧ (x.heap.size < y.heap.size ∧ y.cell? ⟨x.heap.size, 0, none⟩ = some (.bool p) ∧ y.cell? ⟨x.heap.size, 1, none⟩ = some (.int .i64 pl) ∧ y.cell? ⟨x.heap.size, 2, none⟩ = some (.int .i64 pu)) ∧ (x.heap.size + 1 < y.heap.size ∧ y.cell? ⟨x.heap.size + 1, 0, none⟩ = some (.bool q) ∧ y.cell? ⟨x.heap.size + 1, 1, none⟩ = some (.int .i64 ql) ∧ y.cell? ⟨x.heap.size + 1, 2, none⟩ = some (.int .i64 qu)) ∧ (x1.heap.size < y.heap.size ∧ y.cell? ⟨x1.heap.size, 0, none⟩ = some (.bool a1) ∧ y.cell? ⟨x1.heap.size, 1, none⟩ = some (.int .i64 l1) ∧ y.cell? ⟨x1.heap.size, 2, none⟩ = some (.int .i64 u1))) (first | assumption | exact keepN3 (by assumption) (by assumption) | exact keepN3 (by assumption) (belowDrew _)) (first | (go_at_call 14; refine (has_impl _ _ _ _ _).mono ?_; rintro e y1 ⟨rfl, hb3⟩; first | rw [hX] | rw [hA] | rw [hC]))
            all_goals
              rename_i hH
              go_wp2
              go_roundw
              case rel => exact ⟨m + 1, by omega, by omega, by go_num, hH⟩
              case measure => simp [intOf]; omega
      · go_wp2_with fail
        refine (ok_impl _ _ _ _).mono ?_
        rintro e y1 ⟨rfl, hb3⟩
        rw [meet_ok hx1.out]
        go_wp2
        go_ret
        exact ⟨rfl, hS.1.trans (hb3.mono hS.1.size)⟩

end Go.Proofs.Ytfjkbbaoifhgaab
