/-
  The contract of the model's FlowCalls.
-/
import Derived.Test.YtifpijindmdboaaFCalS
namespace Go.Proofs.Ytifpijindmdboaa
open Go.RowKit
set_option linter.unusedVariables false
set_option linter.unusedSimpArgs false

set_option maxRecDepth 100000 in
set_option maxHeartbeats 4000000 in
theorem flowCalls_spec (x0 : World) (B : Nat) (v : Value) (P : List (List I4)) (h : ProgAt x0 B v P) (k at_ : Int) (z : Bool) (C E : Nat) (a : Bool) (s : Value) (L : List Sp) (c : Bool) (l u : Int) (hs : SpsAt z x0 C E s L) :
    Calls Try.prog 25 #[v, .int .i64 k, .int .i64 at_, .agg #[.bool a, s, .bool c, .int .i64 l, .int .i64 u]] x0 fun e y => ∃ r, e = .returned r ∧ IRow 2 true y x0.heap.size y.heap.size r (callsK P k at_ a L (c, l, u)).length (callN (callsB P k at_) (callsK P k at_ a L (c, l, u))) ∧ Below x0.heap.size x0 y := by
  obtain ⟨p, cap, rfl, hm⟩ := h.shape
  obtain ⟨ps, cs, rfl⟩ := hs.shape
  have H : Hid (ProgAt x0 B (.slice p P.length cap) P) := h
  have HS : Hid (SpsAt z x0 C E (.slice ps L.length cs) L) := hs
  clear h hm hs
  go_enter Try.func25, Try.ntmps25
  go_wp2_with fail
  generalize hX : x0.alloc (.cells #[.bool a, .slice ps L.length cs, .bool c, .int .i64 l, .int .i64 u] 36) = X
  have HXB : Hid (Below x0.heap.size x0 X) := by show Below x0.heap.size x0 X; rw [← hX]; exact (Below.refl _ _).alloc (Nat.le_refl _) _
  have HB : Hid (Bx5 X x0.heap.size (.bool a) (.slice ps L.length cs) (.bool c) (.int .i64 l) (.int .i64 u)) := by show Bx5 _ _ _ _ _ _ _; rw [← hX]; exact Bx5.new _ _ _ _ _ _ _
  clear hX
  refine (l12At_any X B _ P (H.out.later HXB.out) k at_ z C E a _ L c l u (HS.out.later HXB.out)).mono ?_
  rintro e y ⟨rfl, hb⟩
  have HY : Hid (Below x0.heap.size x0 y) := HXB.out.trans (hb.mono HXB.out.size)
  have HBY : Hid (Bx5 y x0.heap.size (.bool a) (.slice ps L.length cs) (.bool c) (.int .i64 l) (.int .i64 u)) := HB.out.later hb
  clear hb HXB HB
  cases hw : (hasPF P k && placeF P k at_ && stOk a L (c, l, u))
  · have hc : comesF P k at_ a L (c, l, u) = false := by simp only [comesF, hw, Bool.false_and]
    have hout : callsK P k at_ a L (c, l, u) = [] := by unfold callsK; rw [hc]; rfl
    go_wp2_with fail
    go_ret
    exact ⟨_, rfl, by rw [hout]; exact IRow.nil, by first | exact HY.out | exact HY.out.alloc HY.out.size _⟩
  · obtain ⟨_, b0, b1, b2, b3, b4, _⟩ := HBY.out
    cases a
    · have hc : comesF P k at_ false L (c, l, u) = false := by simp only [comesF, Bool.and_false]
      have hout : callsK P k at_ false L (c, l, u) = [] := by unfold callsK; rw [hc]; rfl
      go_wp2_with fail
      refine (l12Called_none y _ _ _ _ c l u).mono ?_
      rintro e y2 ⟨r, rfl, hr, hb2⟩
      go_wp2_with fail
      go_ret
      exact ⟨_, rfl, by rw [hout]; exact (hr _).wide HY.out.size (Nat.le_refl _) (Nat.le_refl _), HY.out.trans (hb2.mono HY.out.size)⟩
    · have hc : comesF P k at_ true L (c, l, u) = true := by simp only [comesF, hw, Bool.and_true]
      obtain ⟨n, m, rfl, rfl, hn, hm, hok, _, _, hL⟩ := comesF_at hc
      have hout : Hid (callsK P n m true L (c, l, u) = callK (P.getD n []) m L) := by
        show callsK P n m true L (c, l, u) = _
        unfold callsK
        rw [if_pos hc]
        rfl
      have houtb : Hid (callsB P n m = callB (P.getD n []) m) := rfl
      have HG := l12Called_any y B _ P (H.out.later HY.out) n m hn hm hok z C E _ L c l u (HS.out.later HY.out) hL
      have HGG : Hid (Calls Try.prog 58 #[.slice p P.length cap, .int .i64 n, .int .i64 m, .agg #[.bool true, .slice ps L.length cs, .bool c, .int .i64 l, .int .i64 u]] y fun e y2 => ∃ r, e = .returned r ∧ IRow 2 true y2 y.heap.size y2.heap.size r (callK (P.getD n []) m L).length (callN (callB (P.getD n []) m) (callK (P.getD n []) m L)) ∧ Below y.heap.size y y2) := HG
      clear hc hw hn hm hok hL HG
      generalize callK (P.getD n []) m L = S at hout HGG
      generalize callB (P.getD n []) m = SB at houtb HGG
      go_wp2_with fail
      refine HGG.out.mono ?_
      rintro e y2 ⟨r, rfl, hr, hb2⟩
      have hr2 := hr.wide HY.out.size (Nat.le_refl _) (Nat.le_refl _)
      go_wp2_with fail
      go_ret
      exact ⟨_, rfl, by rw [hout.out, houtb.out]; exact hr2, HY.out.trans (hb2.mono HY.out.size)⟩

end Go.Proofs.Ytifpijindmdboaa
