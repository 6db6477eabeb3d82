/-
  The contract of the model's SpanWhen.
-/
import Derived.Test.YtlnfjjciilieeaaWhenI
import Derived.Test.YtlnfjjciilieeaaMeet
namespace Go.Proofs.Ytlnfjjciilieeaa
open Go.RowKit
set_option linter.unusedVariables false
set_option linter.unusedSimpArgs false

theorem retsp_mk {lo hi lo' hi' : Int} {e : Ending} (h : RetSp (mkF lo hi) e) (h1 : lo' = lo) (h2 : hi' = hi) : RetSp (mkF lo' hi') e := by rw [h1, h2]; exact h

set_option maxHeartbeats 1000000 in
theorem not_spec (a b : Bool) (al ah bl bh : Int) (w : World) (ha1 : -16 ≤ al) (ha2 : ah ≤ 15) (haa : al ≤ ah) :
    Calls Try.prog 39 #[.agg #[.bool a, .int .i64 al, .int .i64 ah], .agg #[.bool b, .int .i64 bl, .int .i64 bh]] w fun e w' => RetSp (notF al ah bl bh) e ∧ Below w.heap.size w w' := by
  by_cases e1 : bl = bh
  · subst e1
    by_cases e2 : al = bl
    · subst e2
      by_cases e3 : ah = al
      · subst e3
        rw [show notF ah ah ah ah = mkF (ah + 1) (ah - 1) by simp [notF]]
        go_enter Try.func39, Try.ntmps39
        go_wp2_with (go_at_call 41; refine (l1Of_any _ _ _).mono ?_; rintro e w1 ⟨hs, hb⟩; obtain ⟨a1, l1, u1, hx, rfl⟩ := hs.out; obtain ⟨nR, cR0, cR1, cR2, fR0, fR1, fR2⟩ := Sp3.later (m := w.heap.size + 1 + 1) (a := false) (l := 0) (u := 0) ⟨by go_size, by simp [go_sem], by simp [go_sem], by simp [go_sem], by simp [go_sem], by simp [go_sem], by simp [go_sem]⟩ hb)
        refine bodyPost_ret (v := .agg #[.bool a1, .int .i64 l1, .int .i64 u1]) (by simp [results, Try.results39, go_sem, nR, cR0, cR1, cR2]) rfl ⟨RetSp.mk hx, ?_⟩
        exact ((Below.setCell (Below.setCell (Below.setCell (Below.trans (by go_grown) (hb.mono (by go_size))) (by simp; omega) _) (by simp; omega) _) (by simp; omega) _))
      · have e3' : (ah == al) = false := by simp [e3]
        rw [show notF al ah al al = mkF (al + 1) ah by simp [notF, e3]]
        clear e3
        go_enter Try.func39, Try.ntmps39
        go_wp2_with (go_at_call 41; refine (l1Of_any _ _ _).mono ?_; rintro e w1 ⟨hs, hb⟩; obtain ⟨a1, l1, u1, hx, rfl⟩ := hs.out; obtain ⟨nR, cR0, cR1, cR2, fR0, fR1, fR2⟩ := Sp3.later (m := w.heap.size + 1 + 1) (a := false) (l := 0) (u := 0) ⟨by go_size, by simp [go_sem], by simp [go_sem], by simp [go_sem], by simp [go_sem], by simp [go_sem], by simp [go_sem]⟩ hb)
        refine bodyPost_ret (v := .agg #[.bool a1, .int .i64 l1, .int .i64 u1]) (by simp [results, Try.results39, go_sem, nR, cR0, cR1, cR2]) rfl ⟨RetSp.mk hx, ?_⟩
        exact ((Below.setCell (Below.setCell (Below.setCell (Below.trans (by go_grown) (hb.mono (by go_size))) (by simp; omega) _) (by simp; omega) _) (by simp; omega) _))
    · have e2' : (al == bl) = false := by simp [e2]
      by_cases e3 : ah = bl
      · subst e3
        rw [show notF al ah ah ah = mkF al (ah - 1) by simp [notF, e2]]
        clear e2
        go_enter Try.func39, Try.ntmps39
        go_wp2_with (go_at_call 41; refine (l1Of_any _ _ _).mono ?_; rintro e w1 ⟨hs, hb⟩; obtain ⟨a1, l1, u1, hx, rfl⟩ := hs.out; obtain ⟨nR, cR0, cR1, cR2, fR0, fR1, fR2⟩ := Sp3.later (m := w.heap.size + 1 + 1) (a := false) (l := 0) (u := 0) ⟨by go_size, by simp [go_sem], by simp [go_sem], by simp [go_sem], by simp [go_sem], by simp [go_sem], by simp [go_sem]⟩ hb)
        refine bodyPost_ret (v := .agg #[.bool a1, .int .i64 l1, .int .i64 u1]) (by simp [results, Try.results39, go_sem, nR, cR0, cR1, cR2]) rfl ⟨RetSp.mk hx, ?_⟩
        exact ((Below.setCell (Below.setCell (Below.setCell (Below.trans (by go_grown) (hb.mono (by go_size))) (by simp; omega) _) (by simp; omega) _) (by simp; omega) _))
      · have e3' : (ah == bl) = false := by simp [e3]
        rw [show notF al ah bl bl = mkF al ah by simp [notF, e2, e3]]
        clear e2 e3
        go_enter Try.func39, Try.ntmps39
        go_wp2_with (go_at_call 41; refine (l1Of_any _ _ _).mono ?_; rintro e w1 ⟨hs, hb⟩; obtain ⟨a1, l1, u1, hx, rfl⟩ := hs.out; obtain ⟨nR, cR0, cR1, cR2, fR0, fR1, fR2⟩ := Sp3.later (m := w.heap.size + 1 + 1) (a := false) (l := 0) (u := 0) ⟨by go_size, by simp [go_sem], by simp [go_sem], by simp [go_sem], by simp [go_sem], by simp [go_sem], by simp [go_sem]⟩ hb)
        refine bodyPost_ret (v := .agg #[.bool a1, .int .i64 l1, .int .i64 u1]) (by simp [results, Try.results39, go_sem, nR, cR0, cR1, cR2]) rfl ⟨RetSp.mk hx, ?_⟩
        exact ((Below.setCell (Below.setCell (Below.setCell (Below.trans (by go_grown) (hb.mono (by go_size))) (by simp; omega) _) (by simp; omega) _) (by simp; omega) _))
  · have e1' : (bl == bh) = false := by simp [e1]
    rw [show notF al ah bl bh = mkF al ah by simp [notF, e1]]
    clear e1
    go_enter Try.func39, Try.ntmps39
    go_wp2_with (go_at_call 41; refine (l1Of_any _ _ _).mono ?_; rintro e w1 ⟨hs, hb⟩; obtain ⟨a1, l1, u1, hx, rfl⟩ := hs.out; obtain ⟨nR, cR0, cR1, cR2, fR0, fR1, fR2⟩ := Sp3.later (m := w.heap.size + 1 + 1) (a := false) (l := 0) (u := 0) ⟨by go_size, by simp [go_sem], by simp [go_sem], by simp [go_sem], by simp [go_sem], by simp [go_sem], by simp [go_sem]⟩ hb)
    refine bodyPost_ret (v := .agg #[.bool a1, .int .i64 l1, .int .i64 u1]) (by simp [results, Try.results39, go_sem, nR, cR0, cR1, cR2]) rfl ⟨RetSp.mk hx, ?_⟩
    exact ((Below.setCell (Below.setCell (Below.setCell (Below.trans (by go_grown) (hb.mono (by go_size))) (by simp; omega) _) (by simp; omega) _) (by simp; omega) _))

end Go.Proofs.Ytlnfjjciilieeaa
