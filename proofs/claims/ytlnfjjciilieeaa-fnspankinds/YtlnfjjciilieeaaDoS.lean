/-
  The contract of the model's SpanDo.
-/
import Derived.Test.YtlnfjjciilieeaaEnds
import Derived.Test.YtlnfjjciilieeaaMeet
import Derived.Test.YtlnfjjciilieeaaNumB
namespace Go.Proofs.Ytlnfjjciilieeaa
open Go.RowKit
set_option linter.unusedVariables false
set_option linter.unusedSimpArgs false

theorem same_far {al ah bl bh : Int} (h : min ah bh < max al bl) : sameSp al ah bl bh = mkF 0 0 := by
  unfold sameSp; rw [mk_no h]; simp [mkF]
theorem same_one {al ah bl bh : Int} (h : ¬ min ah bh < max al bl) (e : al = bl ∧ ah = bh ∧ al = ah) : sameSp al ah bl bh = mkF 1 1 := by
  unfold sameSp; rw [mk_yes (by omega), if_neg (by simp), if_pos e]; simp [mkF]
theorem same_two {al ah bl bh : Int} (h : ¬ min ah bh < max al bl) (e : ¬ (al = bl ∧ ah = bh ∧ al = ah)) : sameSp al ah bl bh = mkF 0 1 := by
  unfold sameSp; rw [mk_yes (by omega), if_neg (by simp), if_neg e]; simp [mkF]

set_option maxHeartbeats 2000000 in
theorem same_spec (al ah bl bh : Int) (w : World) (hbo : bothF true al ah true bl bh = true) :
    Calls Try.prog 59 #[.agg #[.bool true, .int .i64 al, .int .i64 ah], .agg #[.bool true, .int .i64 bl, .int .i64 bh]] w fun e w' => RetSp (sameSp al ah bl bh) e ∧ Below w.heap.size w w' := by
  by_cases h1 : min ah bh < max al bl
  · have hm : Hid (meetF true al ah true bl bh = (false, 0, 0)) := (meet_mk hbo rfl rfl).trans (mk_no h1)
    rw [same_far h1]
    clear hbo h1
    go_enter Try.func59, Try.ntmps59
    go_wp2_with fail
    refine (meet_spec _ _ _ _ _ _ _).mono ?_
    rintro e w1 ⟨hs, hr1⟩
    rw [hm.out] at hs
    clear hm
    have sa1 : Sp3 w1 w.heap.size true al ah := Sp3.later ⟨by go_size, by simp [go_sem], by simp [go_sem], by simp [go_sem], by simp [go_sem], by simp [go_sem], by simp [go_sem]⟩ hr1
    have sb1 : Sp3 w1 (w.heap.size + 1) true bl bh := Sp3.later ⟨by go_size, by simp [go_sem], by simp [go_sem], by simp [go_sem], by simp [go_sem], by simp [go_sem], by simp [go_sem]⟩ hr1
    have sr1 : Sp3 w1 (w.heap.size + 1 + 1) false 0 0 := Sp3.later ⟨by go_size, by simp [go_sem], by simp [go_sem], by simp [go_sem], by simp [go_sem], by simp [go_sem], by simp [go_sem]⟩ hr1
    have hB1 : Below w.heap.size w w1 := ((((Below.refl _ _).alloc (by go_size) _).alloc (by go_size) _).alloc (by go_size) _).trans (hr1.mono (by go_size))
    clear hr1
    obtain ⟨a, l, u, hx, rfl⟩ := hs.out
    obtain ⟨rfl, rfl, rfl⟩ : a = false ∧ l = 0 ∧ u = 0 := by have := hx.out; simp at this; exact ⟨this.1, by omega, by omega⟩
    clear hs hx
    obtain ⟨nA, cA0, cA1, cA2, fA0, fA1, fA2⟩ := sa1
    obtain ⟨nB, cB0, cB1, cB2, fB0, fB1, fB2⟩ := sb1
    have sr2 := sr1
    obtain ⟨nR, cR0, cR1, cR2, fR0, fR1, fR2⟩ := sr1
    go_wp2_with fail
    refine (l1Of_any _ _ _).mono ?_
    rintro e w3 ⟨hs3, hb3⟩
    obtain ⟨a3, l3, u3, hx3, rfl⟩ := hs3.out
    have sr3 : Sp3 w3 (w.heap.size + 1 + 1) false 0 0 := by
      have hne : w.heap.size + 1 + 1 ≠ w1.heap.size := by omega
      first | exact (sr2.alloc _).later hb3 | exact ((((sr2.alloc _).off hne).off hne).off hne).later hb3
    have hB3 : Below w.heap.size w w3 := by
      refine Below.trans ?_ (hb3.mono (by have := hB1.size; simp; omega))
      first | exact hB1.alloc hB1.size _ | exact (((hB1.alloc hB1.size _).setCell (by simp; omega) _).setCell (by simp; omega) _).setCell (by simp; omega) _
    clear hb3 hs3 cR0 cR1 cR2 fR0 fR1 fR2 sr2 cA0 cA1 cA2 fA0 fA1 fA2 cB0 cB1 cB2 fB0 fB1 fB2
    obtain ⟨n3, d0, d1, d2, e0, e1, e2⟩ := sr3
    go_wp2_with fail
    refine bodyPost_ret (v := .agg #[.bool a3, .int .i64 l3, .int .i64 u3]) (by simp [results, Try.results59, go_sem, n3, d0, d1, d2]) rfl ⟨RetSp.mk hx3, ?_⟩
    exact ((hB3.setCell (by simp; omega) _).setCell (by simp; omega) _).setCell (by simp; omega) _
  · have hm : Hid (meetF true al ah true bl bh = (true, max al bl, min ah bh)) := (meet_mk hbo rfl rfl).trans (mk_yes (by omega))
    by_cases he : al = bl ∧ ah = bh ∧ al = ah
    · rw [same_one h1 he]
      obtain ⟨rfl, rfl, rfl⟩ := he
      clear hbo h1
      go_enter Try.func59, Try.ntmps59
      go_wp2_with fail
      refine (meet_spec _ _ _ _ _ _ _).mono ?_
      rintro e w1 ⟨hs, hr1⟩
      rw [hm.out] at hs
      clear hm
      have sa1 : Sp3 w1 w.heap.size true al al := Sp3.later ⟨by go_size, by simp [go_sem], by simp [go_sem], by simp [go_sem], by simp [go_sem], by simp [go_sem], by simp [go_sem]⟩ hr1
      have sb1 : Sp3 w1 (w.heap.size + 1) true al al := Sp3.later ⟨by go_size, by simp [go_sem], by simp [go_sem], by simp [go_sem], by simp [go_sem], by simp [go_sem], by simp [go_sem]⟩ hr1
      have sr1 : Sp3 w1 (w.heap.size + 1 + 1) false 0 0 := Sp3.later ⟨by go_size, by simp [go_sem], by simp [go_sem], by simp [go_sem], by simp [go_sem], by simp [go_sem], by simp [go_sem]⟩ hr1
      have hB1 : Below w.heap.size w w1 := ((((Below.refl _ _).alloc (by go_size) _).alloc (by go_size) _).alloc (by go_size) _).trans (hr1.mono (by go_size))
      clear hr1
      obtain ⟨a, l, u, hx, rfl⟩ := hs.out
      obtain rfl : a = true := by have := hx.out; simp at this; exact this.1
      clear hs hx
      obtain ⟨nA, cA0, cA1, cA2, fA0, fA1, fA2⟩ := sa1
      obtain ⟨nB, cB0, cB1, cB2, fB0, fB1, fB2⟩ := sb1
      have sr2 := sr1
      obtain ⟨nR, cR0, cR1, cR2, fR0, fR1, fR2⟩ := sr1
      go_wp2_with fail
      refine (l1Of_any _ _ _).mono ?_
      rintro e w3 ⟨hs3, hb3⟩
      obtain ⟨a3, l3, u3, hx3, rfl⟩ := hs3.out
      have sr3 : Sp3 w3 (w.heap.size + 1 + 1) false 0 0 := by
        have hne : w.heap.size + 1 + 1 ≠ w1.heap.size := by omega
        first | exact (sr2.alloc _).later hb3 | exact ((((sr2.alloc _).off hne).off hne).off hne).later hb3
      have hB3 : Below w.heap.size w w3 := by
        refine Below.trans ?_ (hb3.mono (by have := hB1.size; simp; omega))
        first | exact hB1.alloc hB1.size _ | exact (((hB1.alloc hB1.size _).setCell (by simp; omega) _).setCell (by simp; omega) _).setCell (by simp; omega) _
      clear hb3 hs3 cR0 cR1 cR2 fR0 fR1 fR2 sr2 cA0 cA1 cA2 fA0 fA1 fA2 cB0 cB1 cB2 fB0 fB1 fB2
      obtain ⟨n3, d0, d1, d2, e0, e1, e2⟩ := sr3
      go_wp2_with fail
      refine bodyPost_ret (v := .agg #[.bool a3, .int .i64 l3, .int .i64 u3]) (by simp [results, Try.results59, go_sem, n3, d0, d1, d2]) rfl ⟨RetSp.mk hx3, ?_⟩
      exact ((hB3.setCell (by simp; omega) _).setCell (by simp; omega) _).setCell (by simp; omega) _
    · rw [same_two h1 he]
      clear hbo h1
      by_cases e1 : al = bl
      · by_cases e2 : ah = bh
        · subst e1 e2
          have he3 : (al == ah) = false := by simp at he; simp [he]
          clear he
          go_enter Try.func59, Try.ntmps59
          go_wp2_with fail
          refine (meet_spec _ _ _ _ _ _ _).mono ?_
          rintro e w1 ⟨hs, hr1⟩
          rw [hm.out] at hs
          clear hm
          have sa1 : Sp3 w1 w.heap.size true al ah := Sp3.later ⟨by go_size, by simp [go_sem], by simp [go_sem], by simp [go_sem], by simp [go_sem], by simp [go_sem], by simp [go_sem]⟩ hr1
          have sb1 : Sp3 w1 (w.heap.size + 1) true al ah := Sp3.later ⟨by go_size, by simp [go_sem], by simp [go_sem], by simp [go_sem], by simp [go_sem], by simp [go_sem], by simp [go_sem]⟩ hr1
          have sr1 : Sp3 w1 (w.heap.size + 1 + 1) false 0 0 := Sp3.later ⟨by go_size, by simp [go_sem], by simp [go_sem], by simp [go_sem], by simp [go_sem], by simp [go_sem], by simp [go_sem]⟩ hr1
          have hB1 : Below w.heap.size w w1 := ((((Below.refl _ _).alloc (by go_size) _).alloc (by go_size) _).alloc (by go_size) _).trans (hr1.mono (by go_size))
          clear hr1
          obtain ⟨a, l, u, hx, rfl⟩ := hs.out
          obtain rfl : a = true := by have := hx.out; simp at this; exact this.1
          clear hs hx
          obtain ⟨nA, cA0, cA1, cA2, fA0, fA1, fA2⟩ := sa1
          obtain ⟨nB, cB0, cB1, cB2, fB0, fB1, fB2⟩ := sb1
          have sr2 := sr1
          obtain ⟨nR, cR0, cR1, cR2, fR0, fR1, fR2⟩ := sr1
          go_wp2_with fail
          refine (l1Of_any _ _ _).mono ?_
          rintro e w3 ⟨hs3, hb3⟩
          obtain ⟨a3, l3, u3, hx3, rfl⟩ := hs3.out
          have sr3 : Sp3 w3 (w.heap.size + 1 + 1) false 0 0 := by
            have hne : w.heap.size + 1 + 1 ≠ w1.heap.size := by omega
            first | exact (sr2.alloc _).later hb3 | exact ((((sr2.alloc _).off hne).off hne).off hne).later hb3
          have hB3 : Below w.heap.size w w3 := by
            refine Below.trans ?_ (hb3.mono (by have := hB1.size; simp; omega))
            first | exact hB1.alloc hB1.size _ | exact (((hB1.alloc hB1.size _).setCell (by simp; omega) _).setCell (by simp; omega) _).setCell (by simp; omega) _
          clear hb3 hs3 cR0 cR1 cR2 fR0 fR1 fR2 sr2 cA0 cA1 cA2 fA0 fA1 fA2 cB0 cB1 cB2 fB0 fB1 fB2
          obtain ⟨n3, d0, d1, d2, e0, e1, e2⟩ := sr3
          go_wp2_with fail
          refine bodyPost_ret (v := .agg #[.bool a3, .int .i64 l3, .int .i64 u3]) (by simp [results, Try.results59, go_sem, n3, d0, d1, d2]) rfl ⟨RetSp.mk hx3, ?_⟩
          exact ((hB3.setCell (by simp; omega) _).setCell (by simp; omega) _).setCell (by simp; omega) _
        · have he3 : (ah == bh) = false := by simp [e2]
          subst e1
          clear he e2
          go_enter Try.func59, Try.ntmps59
          go_wp2_with fail
          refine (meet_spec _ _ _ _ _ _ _).mono ?_
          rintro e w1 ⟨hs, hr1⟩
          rw [hm.out] at hs
          clear hm
          have sa1 : Sp3 w1 w.heap.size true al ah := Sp3.later ⟨by go_size, by simp [go_sem], by simp [go_sem], by simp [go_sem], by simp [go_sem], by simp [go_sem], by simp [go_sem]⟩ hr1
          have sb1 : Sp3 w1 (w.heap.size + 1) true al bh := Sp3.later ⟨by go_size, by simp [go_sem], by simp [go_sem], by simp [go_sem], by simp [go_sem], by simp [go_sem], by simp [go_sem]⟩ hr1
          have sr1 : Sp3 w1 (w.heap.size + 1 + 1) false 0 0 := Sp3.later ⟨by go_size, by simp [go_sem], by simp [go_sem], by simp [go_sem], by simp [go_sem], by simp [go_sem], by simp [go_sem]⟩ hr1
          have hB1 : Below w.heap.size w w1 := ((((Below.refl _ _).alloc (by go_size) _).alloc (by go_size) _).alloc (by go_size) _).trans (hr1.mono (by go_size))
          clear hr1
          obtain ⟨a, l, u, hx, rfl⟩ := hs.out
          obtain rfl : a = true := by have := hx.out; simp at this; exact this.1
          clear hs hx
          obtain ⟨nA, cA0, cA1, cA2, fA0, fA1, fA2⟩ := sa1
          obtain ⟨nB, cB0, cB1, cB2, fB0, fB1, fB2⟩ := sb1
          have sr2 := sr1
          obtain ⟨nR, cR0, cR1, cR2, fR0, fR1, fR2⟩ := sr1
          go_wp2_with fail
          refine (l1Of_any _ _ _).mono ?_
          rintro e w3 ⟨hs3, hb3⟩
          obtain ⟨a3, l3, u3, hx3, rfl⟩ := hs3.out
          have sr3 : Sp3 w3 (w.heap.size + 1 + 1) false 0 0 := by
            have hne : w.heap.size + 1 + 1 ≠ w1.heap.size := by omega
            first | exact (sr2.alloc _).later hb3 | exact ((((sr2.alloc _).off hne).off hne).off hne).later hb3
          have hB3 : Below w.heap.size w w3 := by
            refine Below.trans ?_ (hb3.mono (by have := hB1.size; simp; omega))
            first | exact hB1.alloc hB1.size _ | exact (((hB1.alloc hB1.size _).setCell (by simp; omega) _).setCell (by simp; omega) _).setCell (by simp; omega) _
          clear hb3 hs3 cR0 cR1 cR2 fR0 fR1 fR2 sr2 cA0 cA1 cA2 fA0 fA1 fA2 cB0 cB1 cB2 fB0 fB1 fB2
          obtain ⟨n3, d0, d1, d2, e0, e1, e2⟩ := sr3
          go_wp2_with fail
          refine bodyPost_ret (v := .agg #[.bool a3, .int .i64 l3, .int .i64 u3]) (by simp [results, Try.results59, go_sem, n3, d0, d1, d2]) rfl ⟨RetSp.mk hx3, ?_⟩
          exact ((hB3.setCell (by simp; omega) _).setCell (by simp; omega) _).setCell (by simp; omega) _
      · have he3 : (al == bl) = false := by simp [e1]
        clear he e1
        go_enter Try.func59, Try.ntmps59
        go_wp2_with fail
        refine (meet_spec _ _ _ _ _ _ _).mono ?_
        rintro e w1 ⟨hs, hr1⟩
        rw [hm.out] at hs
        clear hm
        have sa1 : Sp3 w1 w.heap.size true al ah := Sp3.later ⟨by go_size, by simp [go_sem], by simp [go_sem], by simp [go_sem], by simp [go_sem], by simp [go_sem], by simp [go_sem]⟩ hr1
        have sb1 : Sp3 w1 (w.heap.size + 1) true bl bh := Sp3.later ⟨by go_size, by simp [go_sem], by simp [go_sem], by simp [go_sem], by simp [go_sem], by simp [go_sem], by simp [go_sem]⟩ hr1
        have sr1 : Sp3 w1 (w.heap.size + 1 + 1) false 0 0 := Sp3.later ⟨by go_size, by simp [go_sem], by simp [go_sem], by simp [go_sem], by simp [go_sem], by simp [go_sem], by simp [go_sem]⟩ hr1
        have hB1 : Below w.heap.size w w1 := ((((Below.refl _ _).alloc (by go_size) _).alloc (by go_size) _).alloc (by go_size) _).trans (hr1.mono (by go_size))
        clear hr1
        obtain ⟨a, l, u, hx, rfl⟩ := hs.out
        obtain rfl : a = true := by have := hx.out; simp at this; exact this.1
        clear hs hx
        obtain ⟨nA, cA0, cA1, cA2, fA0, fA1, fA2⟩ := sa1
        obtain ⟨nB, cB0, cB1, cB2, fB0, fB1, fB2⟩ := sb1
        have sr2 := sr1
        obtain ⟨nR, cR0, cR1, cR2, fR0, fR1, fR2⟩ := sr1
        go_wp2_with fail
        refine (l1Of_any _ _ _).mono ?_
        rintro e w3 ⟨hs3, hb3⟩
        obtain ⟨a3, l3, u3, hx3, rfl⟩ := hs3.out
        have sr3 : Sp3 w3 (w.heap.size + 1 + 1) false 0 0 := by
          have hne : w.heap.size + 1 + 1 ≠ w1.heap.size := by omega
          first | exact (sr2.alloc _).later hb3 | exact ((((sr2.alloc _).off hne).off hne).off hne).later hb3
        have hB3 : Below w.heap.size w w3 := by
          refine Below.trans ?_ (hb3.mono (by have := hB1.size; simp; omega))
          first | exact hB1.alloc hB1.size _ | exact (((hB1.alloc hB1.size _).setCell (by simp; omega) _).setCell (by simp; omega) _).setCell (by simp; omega) _
        clear hb3 hs3 cR0 cR1 cR2 fR0 fR1 fR2 sr2 cA0 cA1 cA2 fA0 fA1 fA2 cB0 cB1 cB2 fB0 fB1 fB2
        obtain ⟨n3, d0, d1, d2, e0, e1, e2⟩ := sr3
        go_wp2_with fail
        refine bodyPost_ret (v := .agg #[.bool a3, .int .i64 l3, .int .i64 u3]) (by simp [results, Try.results59, go_sem, n3, d0, d1, d2]) rfl ⟨RetSp.mk hx3, ?_⟩
        exact ((hB3.setCell (by simp; omega) _).setCell (by simp; omega) _).setCell (by simp; omega) _

end Go.Proofs.Ytlnfjjciilieeaa
