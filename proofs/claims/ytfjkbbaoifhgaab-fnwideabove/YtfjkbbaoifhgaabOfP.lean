/-
  The walk of the law FnSpanOf.
-/
import Derived.Test.YtfjkbbaoifhgaabDrawS
import Derived.Test.YtfjkbbaoifhgaabKeep
import Derived.Test.YtfjkbbaoifhgaabHas
import Derived.Deep.RegionHeld
namespace Go.Proofs.Ytfjkbbaoifhgaab
open Go.RowKit
set_option linter.unusedVariables false
set_option linter.unusedSimpArgs false

theorem row_len {w : World} {a : Option Addr} {len cap : Nat} {zs : List Int} (h : IsRow w a len cap zs) : len ≤ maxLen := by
  rcases h with ⟨rfl, rfl, rfl, rfl⟩ | ⟨x, rfl, hl, hm, hz, hcell, hwz⟩
  · exact Nat.zero_le _
  · omega
theorem of_has {n m : Int} {a : Bool} {l u : Int} (h : ofF n = (a, l, u)) : hasF a l u m = (decide (m = n) && decide (-16 ≤ m) && decide (m ≤ 15)) := by
  unfold ofF at h
  split at h
  · rename_i hw
    have hb := isW_t hw
    simp at h
    obtain ⟨rfl, rfl, rfl⟩ := h
    rw [Bool.eq_iff_iff]
    simp [hasF, okF]
    omega
  · rename_i hw
    simp only [Bool.not_eq_true] at hw
    have hb := isW_f hw
    simp [noSp] at h
    obtain ⟨rfl, rfl, rfl⟩ := h
    rw [Bool.eq_iff_iff]
    simp [hasF]
    omega
theorem of_ok {n : Int} {a : Bool} {l u : Int} (h : ofF n = (a, l, u)) : okF a l u = true := by
  unfold ofF at h
  split at h
  · rename_i hw
    have hb := isW_t hw
    simp at h
    obtain ⟨rfl, rfl, rfl⟩ := h
    exact okF_t (by omega)
  · simp [noSp] at h
    obtain ⟨rfl, rfl, rfl⟩ := h
    rfl

set_option maxRecDepth 100000 in
set_option maxHeartbeats 4000000 in
theorem spanOf_walk (a : Option Addr) (len cap : Nat) (zs : List Int) (w : World) (h : IsRow w a len cap zs) :
    Calls Try.prog 3 #[.slice a len cap] w fun e w' => e = .returned (.bool true) ∧ Below w.heap.size w w' := by
  have hm := row_len h
  unfold maxLen at hm
  by_cases hl : (1048576 : Int) < (len : Int)
  · clear h
    go_enter Try.func3, Try.ntmps3
    go_wp2
    go_ret
    exact ⟨rfl, by go_grown⟩
  · go_enter Try.func3, Try.ntmps3
    go_wp2_with fail
    refine (drawSpanOf_any a len cap zs _ h).mono ?_
    rintro e x ⟨n, rfl, n0, n1, hb⟩
    go_wp2_with fail
    refine (of_impl n _).mono ?_
    rintro e x1 ⟨hs1, hb1⟩
    obtain ⟨a1, l1, u1, hx1, rfl⟩ := hs1.out
    have hB1 := hb.trans (hb1.mono hb.size)
    have hS0 : Below w.heap.size w (x1.alloc (.cells #[.bool a1, .int .i64 l1, .int .i64 u1] 25)) ∧ (x1.heap.size < (x1.alloc (.cells #[.bool a1, .int .i64 l1, .int .i64 u1] 25)).heap.size ∧ (x1.alloc (.cells #[.bool a1, .int .i64 l1, .int .i64 u1] 25)).cell? ⟨x1.heap.size, 0, none⟩ = some (.bool a1) ∧ (x1.alloc (.cells #[.bool a1, .int .i64 l1, .int .i64 u1] 25)).cell? ⟨x1.heap.size, 1, none⟩ = some (.int .i64 l1) ∧ (x1.alloc (.cells #[.bool a1, .int .i64 l1, .int .i64 u1] 25)).cell? ⟨x1.heap.size, 2, none⟩ = some (.int .i64 u1)) := ⟨hB1.trans ((belowAlloc _ _).mono hB1.size), newBox x1 _ a1 l1 u1⟩
    clear hs1 hb hb1 hB1 h
    go_wp2_with fail
    go_region_held (fun x => Below w.heap.size w x ∧ (x1.heap.size < x.heap.size ∧ x.cell? ⟨x1.heap.size, 0, none⟩ = some (.bool a1) ∧ x.cell? ⟨x1.heap.size, 1, none⟩ = some (.int .i64 l1) ∧ x.cell? ⟨x1.heap.size, 2, none⟩ = some (.int .i64 u1))) (first | assumption | exact keepN1 (by assumption) (by assumption) | exact keepN1 (by assumption) (belowDrew _)) (first | (go_at_call 13; refine (of_spec n _).mono ?_; rintro e x2 ⟨hs2, hb2⟩; obtain ⟨a2, l2, u2, hx2, rfl⟩ := hs2.out; obtain ⟨rfl, rfl, rfl⟩ := spSame hx1 hx2; clear hs2))
    have hS2 : Below w.heap.size w x2 ∧ (x1.heap.size < x2.heap.size ∧ x2.cell? ⟨x1.heap.size, 0, none⟩ = some (.bool a1) ∧ x2.cell? ⟨x1.heap.size, 1, none⟩ = some (.int .i64 l1) ∧ x2.cell? ⟨x1.heap.size, 2, none⟩ = some (.int .i64 u1)) := by assumption
    clear hS0 hb2
    go_wp2
    go_loopw [5] (fun i y => ∃ m : Int, -18 ≤ m ∧ m ≤ 18 ∧ i = .int .i64 m ∧ (Below w.heap.size w y ∧ (x1.heap.size < y.heap.size ∧ y.cell? ⟨x1.heap.size, 0, none⟩ = some (.bool a1) ∧ y.cell? ⟨x1.heap.size, 1, none⟩ = some (.int .i64 l1) ∧ y.cell? ⟨x1.heap.size, 2, none⟩ = some (.int .i64 u1)))) (fun i _ => (18 - intOf i).toNat)
    case atStart => exact ⟨-18, by omega, by omega, rfl, hS2⟩
    case round =>
      obtain ⟨m, m0, m1, rfl, hS⟩ := hrel
      by_cases hlt : m ≤ 17
      · go_wp2_with fail
        refine (has_impl _ _ _ m _).mono ?_
        rintro e y1 ⟨rfl, hb3⟩
        have hS3 := keepN1 hS hb3
        have hh := of_has (m := m) hx1.out
        rw [hh]
        clear hS hb3 hh hS2
        by_cases g1 : m = n
        · subst g1
          by_cases g2 : -16 ≤ m
          · by_cases g3 : m ≤ 15
            all_goals
              go_wp2
              go_roundw
              case rel => exact ⟨m + 1, by omega, by omega, by go_num, hS3⟩
              case measure => simp [intOf]; omega
          · go_wp2
            go_roundw
            case rel => exact ⟨m + 1, by omega, by omega, by go_num, hS3⟩
            case measure => simp [intOf]; omega
        · have g1' : (m == n) = false := by simp [g1]
          have g1'' : decide (m = n) = false := by simp [g1]
          go_wp2
          go_roundw
          case rel => exact ⟨m + 1, by omega, by omega, by go_num, hS3⟩
          case measure => simp [intOf]; omega
      · go_wp2_with fail
        refine (ok_impl _ _ _ _).mono ?_
        rintro e y1 ⟨rfl, hb3⟩
        rw [of_ok hx1.out]
        go_wp2
        go_ret
        exact ⟨rfl, hS.1.trans (hb3.mono hS.1.size)⟩

end Go.Proofs.Ytfjkbbaoifhgaab
