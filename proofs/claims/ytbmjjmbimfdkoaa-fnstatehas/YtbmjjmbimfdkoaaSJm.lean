/-
  What the join of two states, and the hurried one, are: plain functions; the model's l11Span.
-/
import Derived.Test.YtbmjjmbimfdkoaaSCopy
import Derived.Test.YtbmjjmbimfdkoaaSIn3
import Derived.Test.YtbmjjmbimfdkoaaLatM
import Derived.Test.YtbmjjmbimfdkoaaWideN
namespace Go.Proofs.Ytbmjjmbimfdkoaa
open Go.RowKit
set_option linter.unusedVariables false
set_option linter.unusedSimpArgs false

def wideS (s t : Sp) : Sp := wideF s.1 s.2.1 s.2.2 t.1 t.2.1 t.2.2
/-- a span of two, in a hurry, or not -/
def spF (wd : Bool) (s t : Sp) : Sp := if wd = true then wideS s t else joinS s t
def row3 (wd : Bool) (L M : List Sp) : List Sp := [spF wd (L.getD 0 noSp) (M.getD 0 noSp), spF wd (L.getD 1 noSp) (M.getD 1 noSp), spF wd (L.getD 2 noSp) (M.getD 2 noSp)]
/-- a state of two, in a hurry, or not -/
def stBoth (wd : Bool) (a : Bool) (L : List Sp) (c : Sp) (b : Bool) (M : List Sp) (d : Sp) : St :=
  if (stOk a L c && stOk b M d) = true then (if a = true then (if b = true then (true, row3 wd L M, spF wd c d) else (a, L, c)) else (b, M, d)) else noSt
/-- a state is handed back, in memory of its own -/
def StAt (r : St) (x : World) (e : Ending) (y : World) : Prop :=
  ∃ v, e = .returned (.agg #[.bool r.1, v, .bool r.2.2.1, .int .i64 r.2.2.2.1, .int .i64 r.2.2.2.2]) ∧ SpsAt true y x.heap.size y.heap.size v r.2.1 ∧ Below x.heap.size x y
theorem stOk_len0 {L : List Sp} {c : Sp} {a : Bool} (h : stOk a L c = true) : L.length = 0 ∨ L.length = 3 := by
  cases a
  · unfold stOk at h; simp at h; exact .inl (by simp [h.1])
  · exact .inr (stOk_len' h)
theorem stB_no {wd a : Bool} {L : List Sp} {c : Sp} {b : Bool} {M : List Sp} {d : Sp} (h : (stOk a L c && stOk b M d) = false) : stBoth wd a L c b M d = noSt := by unfold stBoth; rw [h]; rfl
theorem stB_fst {wd a : Bool} {L : List Sp} {c : Sp} {M : List Sp} {d : Sp} (h : stOk a L c = true) (k : stOk false M d = true) (ha : a = true) : stBoth wd a L c false M d = (a, L, c) := by unfold stBoth; rw [h, k, ha]; rfl
theorem stB_snd {wd : Bool} {L : List Sp} {c : Sp} {b : Bool} {M : List Sp} {d : Sp} (h : stOk false L c = true) (k : stOk b M d = true) : stBoth wd false L c b M d = (b, M, d) := by unfold stBoth; rw [h, k]; rfl
theorem stB_all {wd : Bool} {L : List Sp} {c : Sp} {M : List Sp} {d : Sp} (h : stOk true L c = true) (k : stOk true M d = true) : stBoth wd true L c true M d = (true, row3 wd L M, spF wd c d) := by unfold stBoth; rw [h, k]; rfl

theorem wideS_at {a b p : Bool} {al ah bl bh pl ph : Int} (h : wideS (a, al, ah) (b, bl, bh) = (p, pl, ph)) (w : World) : Calls Try.prog 87 #[.agg #[.bool a, .int .i64 al, .int .i64 ah], .agg #[.bool b, .int .i64 bl, .int .i64 bh]] w fun e w' => e = .returned (.agg #[.bool p, .int .i64 pl, .int .i64 ph]) ∧ Below w.heap.size w w' := wideT_at h w
set_option maxHeartbeats 1000000 in
theorem l11Span_at {wd a b p : Bool} {al ah bl bh pl ph : Int} (h : spF wd (a, al, ah) (b, bl, bh) = (p, pl, ph)) (w : World) : Calls Try.prog 77 #[.agg #[.bool a, .int .i64 al, .int .i64 ah], .agg #[.bool b, .int .i64 bl, .int .i64 bh], .bool wd] w fun e w' => e = .returned (.agg #[.bool p, .int .i64 pl, .int .i64 ph]) ∧ Below w.heap.size w w' := by
  have hbW : Below w.heap.size w (((w.alloc (.cells #[.bool a, .int .i64 al, .int .i64 ah] 30)).alloc (.cells #[.bool b, .int .i64 bl, .int .i64 bh] 30)).alloc (.cells #[.bool false, .int .i64 0, .int .i64 0] 30)) := by go_grown
  cases wd
  · have h2 : joinS (a, al, ah) (b, bl, bh) = (p, pl, ph) := h
    go_enter Try.func77, Try.ntmps77
    go_wp2_with fail
    refine (joinT_at h2 _).mono ?_
    rintro e w1 ⟨rfl, hb1⟩
    obtain ⟨p1, q1, r1, f1, g1, h1⟩ := cell3 hb1 (w.heap.size + 1 + 1) (by simp)
    simp [go_sem] at p1 q1 r1 f1 g1 h1
    go_wp2_with fail
    refine bodyPost_ret (v := .agg #[.bool p, .int .i64 pl, .int .i64 ph]) (by simp [results, Try.results77, go_sem, p1, q1, r1, f1, g1, h1]) rfl ⟨rfl, ?_⟩
    repeat (refine Below.setCell ?_ (by simp <;> omega) _)
    exact hbW.trans (hb1.mono hbW.size)
  · have h2 : wideS (a, al, ah) (b, bl, bh) = (p, pl, ph) := h
    go_enter Try.func77, Try.ntmps77
    go_wp2_with fail
    refine (wideS_at h2 _).mono ?_
    rintro e w1 ⟨rfl, hb1⟩
    obtain ⟨p1, q1, r1, f1, g1, h1⟩ := cell3 hb1 (w.heap.size + 1 + 1) (by simp)
    simp [go_sem] at p1 q1 r1 f1 g1 h1
    go_wp2_with fail
    refine bodyPost_ret (v := .agg #[.bool p, .int .i64 pl, .int .i64 ph]) (by simp [results, Try.results77, go_sem, p1, q1, r1, f1, g1, h1]) rfl ⟨rfl, ?_⟩
    repeat (refine Below.setCell ?_ (by simp <;> omega) _)
    exact hbW.trans (hb1.mono hbW.size)
end Go.Proofs.Ytbmjjmbimfdkoaa
