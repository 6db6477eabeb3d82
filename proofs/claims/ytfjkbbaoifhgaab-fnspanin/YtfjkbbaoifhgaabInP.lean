/-
  The walk of the law FnSpanIn.
-/
import Derived.Test.YtfjkbbaoifhgaabDrawIn
import Derived.Test.YtfjkbbaoifhgaabIn
namespace Go.Proofs.Ytfjkbbaoifhgaab
open Go.RowKit
set_option linter.unusedVariables false
set_option linter.unusedSimpArgs false

theorem hasF_iff {a : Bool} {l u n : Int} : hasF a l u n = true ↔ a = true ∧ okF a l u = true ∧ l ≤ n ∧ n ≤ u := by
  simp [hasF, and_assoc]
/-- whether each of the first k words that the first span has the second has, too -/
def allB (a : Bool) (al ah : Int) (b : Bool) (bl bh : Int) : Nat → Bool
  | 0 => true
  | k + 1 => allB a al ah b bl bh k && (!hasF a al ah (-16 + k) || hasF b bl bh (-16 + k))
theorem allB_iff (a : Bool) (al ah : Int) (b : Bool) (bl bh : Int) (k : Nat) : allB a al ah b bl bh k = true ↔ ∀ n : Int, -16 ≤ n → n < -16 + k → hasF a al ah n = true → hasF b bl bh n = true := by
  induction k with
  | zero => simp [allB]; intro n h1 h2; omega
  | succ k ih =>
    rw [allB, Bool.and_eq_true, ih]
    constructor
    · rintro ⟨h1, h2⟩ n n0 n1 hn
      by_cases e : n < -16 + k
      · exact h1 n n0 e hn
      · obtain rfl : n = -16 + (k : Int) := by omega
        rw [hn] at h2
        simpa using h2
    · intro h
      refine ⟨fun n n0 n1 hn => h n n0 (by omega) hn, ?_⟩
      cases hh : hasF a al ah (-16 + k)
      · rfl
      · rw [h (-16 + k) (by omega) (by omega) hh]; rfl
theorem in_all {a b : Bool} {al ah bl bh : Int} (h1 : okF a al ah = true) (h2 : okF b bl bh = true) : inF a al ah b bl bh = allB a al ah b bl bh 32 := by
  rw [Bool.eq_iff_iff, allB_iff]
  simp only [inF, h1, h2, Bool.true_and]
  cases a
  · simp [hasF]
  · have e1 := okF_bd h1
    simp only [Bool.not_true, Bool.false_or, Bool.and_eq_true, decide_eq_true_eq]
    constructor
    · rintro ⟨rfl, h3, h4⟩ n n0 n1 hn
      rw [hasF_iff] at hn ⊢
      exact ⟨rfl, h2, by omega, by omega⟩
    · intro h
      have hl := h al (by omega) (by omega) (hasF_iff.2 ⟨rfl, h1, by omega, by omega⟩)
      have hu := h ah (by omega) (by omega) (hasF_iff.2 ⟨rfl, h1, by omega, by omega⟩)
      rw [hasF_iff] at hl hu
      exact ⟨hl.1, by omega, by omega⟩

set_option maxRecDepth 100000 in
set_option maxHeartbeats 4000000 in
theorem spanIn_walk (a : Option Addr) (len cap : Nat) (zs : List Int) (w : World) (h : IsRow w a len cap zs) :
    Calls Try.prog 4 #[.slice a len cap] w fun e w' => e = .returned (.bool true) ∧ Below w.heap.size w w' := by
  have hm := row_len h
  unfold maxLen at hm
  by_cases hl : (1048576 : Int) < (len : Int)
  · clear h
    go_enter Try.func4, Try.ntmps4
    go_wp2
    go_ret
    exact ⟨rfl, by go_grown⟩
  · go_enter Try.func4, Try.ntmps4
    go_wp2_with fail
    refine (drawSpanIn_any a len cap zs _ h).mono ?_
    rintro e x hg
    obtain ⟨p, pl, pu, q, ql, qu, rfl, _, _, _, _, _, _, _, _, hb⟩ := hg.it
    have hS0 : Below w.heap.size w ((x.alloc (.cells #[.bool p, .int .i64 pl, .int .i64 pu] 25)).alloc (.cells #[.bool q, .int .i64 ql, .int .i64 qu] 25)) ∧ (x.heap.size < ((x.alloc (.cells #[.bool p, .int .i64 pl, .int .i64 pu] 25)).alloc (.cells #[.bool q, .int .i64 ql, .int .i64 qu] 25)).heap.size ∧ ((x.alloc (.cells #[.bool p, .int .i64 pl, .int .i64 pu] 25)).alloc (.cells #[.bool q, .int .i64 ql, .int .i64 qu] 25)).cell? ⟨x.heap.size, 0, none⟩ = some (.bool p) ∧ ((x.alloc (.cells #[.bool p, .int .i64 pl, .int .i64 pu] 25)).alloc (.cells #[.bool q, .int .i64 ql, .int .i64 qu] 25)).cell? ⟨x.heap.size, 1, none⟩ = some (.int .i64 pl) ∧ ((x.alloc (.cells #[.bool p, .int .i64 pl, .int .i64 pu] 25)).alloc (.cells #[.bool q, .int .i64 ql, .int .i64 qu] 25)).cell? ⟨x.heap.size, 2, none⟩ = some (.int .i64 pu)) ∧ (x.heap.size + 1 < ((x.alloc (.cells #[.bool p, .int .i64 pl, .int .i64 pu] 25)).alloc (.cells #[.bool q, .int .i64 ql, .int .i64 qu] 25)).heap.size ∧ ((x.alloc (.cells #[.bool p, .int .i64 pl, .int .i64 pu] 25)).alloc (.cells #[.bool q, .int .i64 ql, .int .i64 qu] 25)).cell? ⟨x.heap.size + 1, 0, none⟩ = some (.bool q) ∧ ((x.alloc (.cells #[.bool p, .int .i64 pl, .int .i64 pu] 25)).alloc (.cells #[.bool q, .int .i64 ql, .int .i64 qu] 25)).cell? ⟨x.heap.size + 1, 1, none⟩ = some (.int .i64 ql) ∧ ((x.alloc (.cells #[.bool p, .int .i64 pl, .int .i64 pu] 25)).alloc (.cells #[.bool q, .int .i64 ql, .int .i64 qu] 25)).cell? ⟨x.heap.size + 1, 2, none⟩ = some (.int .i64 qu)) :=
      ⟨(hb.trans ((belowAlloc _ _).mono hb.size)).trans ((belowAlloc _ _).mono (by have := hb.size; simp; omega)), keepBox (newBox x _ p pl pu) (belowAlloc _ _), by simp⟩
    clear hg hb h
    go_wp2_with fail
    refine (in_impl _ _ _ _ _ _ _).mono ?_
    rintro e x1 ⟨rfl, hb1⟩
    have hS1 := keepN2 hS0 hb1
    clear hb1 hS0
    obtain ⟨v, Hv⟩ : ∃ v, Hid (inF p pl pu q ql qu = v) := ⟨_, rfl⟩
    rw [Hv.out]
    go_wp2_with fail
    refine (in_spec _ _ _ _ _ _ _).mono ?_
    rintro e x2 ⟨rfl, hb2⟩
    rw [Hv.out]
    have hS2 := keepN2 hS1 hb2
    clear hb2 hS1
    go_wp2_with fail
    refine (ok_spec _ _ _ _).mono ?_
    rintro e x3 ⟨rfl, hb3⟩
    have hS3 := keepN2 hS2 hb3
    clear hb3 hS2
    cases ho1 : okF p pl pu
    · go_wp2_with fail
      refine (in_spec _ _ _ _ _ _ _).mono ?_
      rintro e x4 ⟨rfl, hb4⟩
      rw [Hv.out]
      go_wp2
      go_ret
      exact ⟨rfl, hS3.1.trans (hb4.mono hS3.1.size)⟩
    · go_wp2_with fail
      refine (ok_spec _ _ _ _).mono ?_
      rintro e x4 ⟨rfl, hb4⟩
      have hS4 := keepN2 hS3 hb4
      clear hb4 hS3
      cases ho2 : okF q ql qu
      · go_wp2_with fail
        refine (in_spec _ _ _ _ _ _ _).mono ?_
        rintro e x5 ⟨rfl, hb5⟩
        rw [Hv.out]
        go_wp2
        go_ret
        exact ⟨rfl, hS4.1.trans (hb5.mono hS4.1.size)⟩
      · have HA : Hid (v = allB p pl pu q ql qu 32) := Hv.out.symm.trans (in_all ho1 ho2)
        clear ho1 ho2 Hv
        go_wp2
        go_loopw [6, 7] (fun s i y => ∃ k : Nat, k ≤ 32 ∧ i = .int .i64 (-16 + k) ∧ s = .bool (allB p pl pu q ql qu k) ∧ (Below w.heap.size w y ∧ (x.heap.size < y.heap.size ∧ y.cell? ⟨x.heap.size, 0, none⟩ = some (.bool p) ∧ y.cell? ⟨x.heap.size, 1, none⟩ = some (.int .i64 pl) ∧ y.cell? ⟨x.heap.size, 2, none⟩ = some (.int .i64 pu)) ∧ (x.heap.size + 1 < y.heap.size ∧ y.cell? ⟨x.heap.size + 1, 0, none⟩ = some (.bool q) ∧ y.cell? ⟨x.heap.size + 1, 1, none⟩ = some (.int .i64 ql) ∧ y.cell? ⟨x.heap.size + 1, 2, none⟩ = some (.int .i64 qu)))) (fun _ i _ => (16 - intOf i).toNat)
        case atStart => exact ⟨0, by omega, rfl, rfl, hS4⟩
        case round =>
          obtain ⟨k, hk, rfl, rfl, hS⟩ := hrel
          clear hS4
          by_cases hlt : k < 32
          · have hle : (-16 + (k : Int)) ≤ 15 := by omega
            have hstep : Hid (allB p pl pu q ql qu (k + 1) = (allB p pl pu q ql qu k && (!hasF p pl pu (-16 + k) || hasF q ql qu (-16 + k)))) := rfl
            cases h0 : allB p pl pu q ql qu k
            · go_wp2
              go_roundw
              case rel => exact ⟨k + 1, by omega, by go_num, by rw [hstep.out, h0]; rfl, hS⟩
              case measure => simp [intOf]; omega
            · go_wp2_with fail
              refine (has_impl _ _ _ _ _).mono ?_
              rintro e y1 ⟨rfl, hb5⟩
              have hS5 := keepN2 hS hb5
              clear hb5 hS
              cases h1 : hasF p pl pu (-16 + k)
              · go_wp2
                go_roundw
                case rel => exact ⟨k + 1, by omega, by go_num, by rw [hstep.out, h0, h1]; rfl, hS5⟩
                case measure => simp [intOf]; omega
              · go_wp2_with fail
                refine (has_impl _ _ _ _ _).mono ?_
                rintro e y2 ⟨rfl, hb6⟩
                have hS6 := keepN2 hS5 hb6
                clear hb6 hS5
                go_wp2
                go_roundw
                case rel => exact ⟨k + 1, by omega, by go_num, by rw [hstep.out, h0, h1]; simp, hS6⟩
                case measure => simp [intOf]; omega
          · obtain rfl : k = 32 := by omega
            rw [← HA.out]
            go_wp2
            go_ret
            exact ⟨ret_bool (by simp), hS.1⟩

end Go.Proofs.Ytfjkbbaoifhgaab
