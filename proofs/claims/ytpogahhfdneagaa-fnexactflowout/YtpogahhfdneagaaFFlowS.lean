/-
  The contract of the model's FlowOut.
-/
import Derived.Test.YtpogahhfdneagaaFFlow
namespace Go.Proofs.Ytpogahhfdneagaa
open Go.RowKit
set_option linter.unusedVariables false
set_option linter.unusedSimpArgs false

set_option maxRecDepth 100000 in
set_option maxHeartbeats 4000000 in
theorem l12Gives_none (x : World) (v : Value) (k at_ : Value) (s : Value) (c : Bool) (l u : Int) :
    Calls Try.prog 44 #[v, k, at_, .agg #[.bool false, s, .bool c, .int .i64 l, .int .i64 u]] x fun e y => e = .returned (aggS noSp) ∧ Below x.heap.size x y := by
  go_enter Try.func44, Try.ntmps44
  go_wp2_with fail
  go_returns
  exact ⟨rfl, by go_grown⟩

set_option maxRecDepth 100000 in
set_option maxHeartbeats 4000000 in
theorem l12Gives_any (x0 : World) (B : Nat) (v : Value) (P : List (List I4)) (h : ProgAt x0 B v P) (n m : Nat) (hn : n < P.length) (hm : m ≤ (P.getD n []).length) (hok : progOkF P = true) (z : Bool) (C E : Nat) (s : Value) (L : List Sp) (c : Bool) (l u : Int) (hs : SpsAt z x0 C E s L) (hL : L.length = 3) :
    Calls Try.prog 44 #[v, .int .i64 n, .int .i64 m, .agg #[.bool true, s, .bool c, .int .i64 l, .int .i64 u]] x0 fun e y => e = .returned (aggS (givesF (P.getD n []) m L)) ∧ Below x0.heap.size x0 y := by
  obtain ⟨p, cap, rfl, _⟩ := h.shape
  obtain ⟨ps, cs, rfl⟩ := hs.shape
  rw [hL] at hs ⊢
  obtain ⟨gs, os, rfl, hgs, hq⟩ := hs.threeF hL
  have HQ : Hid (∀ j, j < 3 → Spn x0 gs (os + j * 3) (L.getD j noSp)) := hq
  obtain ⟨g, o, uu, rfl, hg, hu, hc⟩ := h.code hn
  obtain ⟨pk, ck, rfl, _⟩ := hc.shape
  have HC : Hid (CodeAt x0 B (.slice pk (P.getD n []).length ck) (P.getD n [])) := hc
  have h8 := (progOkF_code hok hn).1
  have hl4 := (progOkF_len hok).2
  have HI : Hid (∀ j, j < (P.getD n []).length → insOkF ((P.getD n []).getD j i0) (P.getD n []).length P.length = true) := (progOkF_code hok hn).2
  clear hc h hs hq hok hL
  generalize P.getD n [] = K at *
  have hki : (n : Int) < (P.length : Int) := by omega
  have hn4 : (P.length : Int) ≤ 4 := by omega
  have hc8 : (K.length : Int) ≤ 8 := by omega
  by_cases he : m = K.length
  · subst he
    have HG : Hid (givesF K K.length L = (true, 0, 0)) := givesF_end K L
    clear HC HI HQ hm
    have hg1 : g < x0.heap.size + 1 := by omega
    go_enter Try.func44, Try.ntmps44
    go_wp2_with fail
    generalize hX : (x0.alloc (.cells #[.bool true, .slice (some ⟨gs, os, none⟩) 3 cs, .bool c, .int .i64 l, .int .i64 u] 36)).alloc (.cells #[.bool false, .int .i64 0, .int .i64 0] 30) = X
    have HXB : Hid (Below x0.heap.size x0 X) := by show Below x0.heap.size x0 X; rw [← hX]; go_grown
    have HS3 : Hid (Sf3 X (x0.heap.size + 1) noSp) := by show Sf3 _ _ _; rw [← hX]; exact ⟨by simp, by simp [go_sem, noSp], by simp [go_sem, noSp], by simp [go_sem, noSp], by simp [go_sem], by simp [go_sem], by simp [go_sem]⟩
    clear hX
    refine (l1Of_any 0 0 _).mono ?_
    rintro e y ⟨hr, hb⟩
    obtain ⟨a', l', u', hx, rfl⟩ := hr.out
    have he : ((true, 0, 0) : Sp) = (a', l', u') := by rw [← hx.out]; rfl
    injection he with e1 e2
    injection e2 with e2 e3
    subst e1 e2 e3
    have hBy := HXB.out.trans (hb.mono HXB.out.size)
    obtain ⟨n0, c0, c1, c2, f0, f1, f2⟩ := HS3.out.later hb
    clear hb HXB HS3 hx hr
    go_wp2_with fail
    refine bodyPost_ret (v := .agg #[.bool true, .int .i64 0, .int .i64 0]) (by simp [results, Try.results44, go_sem, c0, c1, c2]) rfl ⟨by rw [HG.out]; rfl, ?_⟩
    exact ((hBy.setCell (by simp) _).setCell (by simp) _).setCell (by simp) _
  · have hlt : m < K.length := by omega
    have hmi : (m : Int) < (K.length : Int) := by omega
    have hne : ((m : Int) == (K.length : Int)) = false := by simp; omega
    obtain ⟨g2, o2, rfl, hg2, hI4⟩ := HC.out.ins hlt
    have hi := insOkF_kind (HI.out m hlt)
    have HG : Hid (givesF K m L = outIns (K.getD m i0) L) := givesF_ins K L m hlt
    clear HC HI
    generalize K.getD m i0 = I at *
    obtain ⟨q0, q1, q2, q3⟩ := hI4
    obtain ⟨T, A, B', C'⟩ := I
    simp only at q0 q1 q2 q3 hi
    have hg1 : g < x0.heap.size + 1 := by omega
    have hg2a : g2 < x0.heap.size + 1 := by omega
    have hg2b : g2 < x0.heap.size + 1 + 1 := by omega
    have hgs1 : gs < x0.heap.size + 1 := by omega
    have hgs2 : gs < x0.heap.size + 1 + 1 := by omega
    by_cases h9 : T = 9
    · subst h9
      obtain ⟨hA0, hA2⟩ := hi.2.2 rfl
      obtain ⟨r, rfl⟩ : ∃ r : Nat, A = r := ⟨A.toNat, by omega⟩
      have hr3 : r < 3 := by omega
      have hri : (r : Int) < 3 := by omega
      have hsp := HQ.out r hr3
      have HO : Hid (outIns (9, (r : Int), B', C') L = L.getD r noSp) := by show outIns _ _ = _; simp [outIns]
      generalize L.getD r noSp = S at hsp HO
      obtain ⟨s0, s1, s2⟩ := hsp
      clear HQ hi hA0 hA2
      go_enter Try.func44, Try.ntmps44
      go_wp2_with fail
      go_returns
      exact ⟨by rw [HG.out, HO.out]; rfl, by go_grown⟩
    · have HO : Hid (outIns (T, A, B', C') L = noSp) := by show outIns _ _ = _; simp [outIns, h9]
      have h9' : (T == 9) = false := by simpa using h9
      clear HQ hi
      go_enter Try.func44, Try.ntmps44
      go_wp2_with fail
      go_returns
      exact ⟨by rw [HG.out, HO.out]; rfl, by go_grown⟩

set_option maxRecDepth 100000 in
set_option maxHeartbeats 4000000 in
theorem flowOut_spec (x0 : World) (B : Nat) (v : Value) (P : List (List I4)) (h : ProgAt x0 B v P) (k at_ : Int) (z : Bool) (C E : Nat) (a : Bool) (s : Value) (L : List Sp) (c : Bool) (l u : Int) (hs : SpsAt z x0 C E s L) :
    Calls Try.prog 11 #[v, .int .i64 k, .int .i64 at_, .agg #[.bool a, s, .bool c, .int .i64 l, .int .i64 u]] x0 fun e y => e = .returned (aggS (outFlow P k at_ a L (c, l, u))) ∧ Below x0.heap.size x0 y := by
  obtain ⟨p, cap, rfl, hm⟩ := h.shape
  obtain ⟨ps, cs, rfl⟩ := hs.shape
  have H : Hid (ProgAt x0 B (.slice p P.length cap) P) := h
  have HS : Hid (SpsAt z x0 C E (.slice ps L.length cs) L) := hs
  clear h hm hs
  go_enter Try.func11, Try.ntmps11
  go_wp2_with fail
  generalize hX : (x0.alloc (.cells #[.bool a, .slice ps L.length cs, .bool c, .int .i64 l, .int .i64 u] 36)).alloc (.cells #[.bool false, .int .i64 0, .int .i64 0] 30) = X
  have HXB : Hid (Below x0.heap.size x0 X) := by show Below x0.heap.size x0 X; rw [← hX]; go_grown
  have HB : Hid (Bx5 X x0.heap.size (.bool a) (.slice ps L.length cs) (.bool c) (.int .i64 l) (.int .i64 u)) := by show Bx5 _ _ _ _ _ _ _; rw [← hX]; exact (Bx5.new _ _ _ _ _ _ _).alloc _
  have HC : Hid (Sf3 X (x0.heap.size + 1) noSp) := by show Sf3 _ _ _; rw [← hX]; exact ⟨by simp, by simp [go_sem, noSp], by simp [go_sem, noSp], by simp [go_sem, noSp], by simp [go_sem], by simp [go_sem], by simp [go_sem]⟩
  clear hX
  have c' := HB.out
  obtain ⟨_, b0, b1, b2, b3, b4, _⟩ := c'
  refine (l12At_any X B _ P (H.out.later HXB.out) k at_ z C E a _ L c l u (HS.out.later HXB.out)).mono ?_
  rintro e y ⟨rfl, hb⟩
  have HY : Hid (Below x0.heap.size x0 y) := HXB.out.trans (hb.mono HXB.out.size)
  have HBY : Hid (Bx5 y x0.heap.size (.bool a) (.slice ps L.length cs) (.bool c) (.int .i64 l) (.int .i64 u)) := HB.out.later hb
  have HCY : Hid (Sf3 y (x0.heap.size + 1) noSp) := HC.out.later hb
  clear hb HXB HB HC b0 b1 b2 b3 b4
  cases hw : (hasPF P k && placeF P k at_ && stOk a L (c, l, u))
  · have hc : comesF P k at_ a L (c, l, u) = false := by simp only [comesF, hw, Bool.false_and]
    obtain ⟨n0, c0, c1, c2, f0, f1, f2⟩ := HCY.out
    go_wp2_with fail
    refine bodyPost_ret (v := .agg #[.bool false, .int .i64 0, .int .i64 0]) (by simp [results, Try.results11, go_sem, c0, c1, c2]) rfl ⟨by simp [outFlow, hc, aggS, noSp], ?_⟩
    exact ((HY.out.setCell (by simp) _).setCell (by simp) _).setCell (by simp) _
  · obtain ⟨_, b0, b1, b2, b3, b4, _⟩ := HBY.out
    obtain ⟨n0, c0, c1, c2, f0, f1, f2⟩ := HCY.out
    cases a
    · have hc : comesF P k at_ false L (c, l, u) = false := by simp only [comesF, Bool.and_false]
      go_wp2_with fail
      refine (l12Gives_none y _ _ _ _ c l u).mono ?_
      rintro e y2 ⟨rfl, hb2⟩
      have HY2 := HY.out.trans (hb2.mono HY.out.size)
      have k3 := HCY.out.later hb2
      clear b0 b1 b2 b3 b4 n0 c0 c1 c2 f0 f1 f2 hb2
      obtain ⟨n0, c0, c1, c2, f0, f1, f2⟩ := k3
      unfold aggS
      go_wp2_with fail
      refine bodyPost_ret (v := .agg #[.bool false, .int .i64 0, .int .i64 0]) (by simp [results, Try.results11, go_sem, c0, c1, c2, noSp]) rfl ⟨by simp [outFlow, hc, aggS, noSp], ?_⟩
      exact ((HY2.setCell (by simp) _).setCell (by simp) _).setCell (by simp) _
    · have hc : comesF P k at_ true L (c, l, u) = true := by simp only [comesF, hw, Bool.and_true]
      obtain ⟨n, m, rfl, rfl, hn, hm, hok, _, _, hL⟩ := comesF_at hc
      have hout : Hid (outFlow P n m true L (c, l, u) = givesF (P.getD n []) m L) := by
        show outFlow P n m true L (c, l, u) = _
        unfold outFlow
        rw [if_pos hc]
        rfl
      have HG := l12Gives_any y B _ P (H.out.later HY.out) n m hn hm hok z C E _ L c l u (HS.out.later HY.out) hL
      have HGG : Hid (Calls Try.prog 44 #[.slice p P.length cap, .int .i64 n, .int .i64 m, .agg #[.bool true, .slice ps L.length cs, .bool c, .int .i64 l, .int .i64 u]] y fun e z' => e = .returned (aggS (givesF (P.getD n []) m L)) ∧ Below y.heap.size y z') := HG
      clear hc hw hn hm hok hL HG
      generalize givesF (P.getD n []) m L = G at hout HGG
      go_wp2_with fail
      refine HGG.out.mono ?_
      rintro e y2 ⟨rfl, hb2⟩
      have HY2 := HY.out.trans (hb2.mono HY.out.size)
      have k3 := HCY.out.later hb2
      clear b0 b1 b2 b3 b4 n0 c0 c1 c2 f0 f1 f2 hb2
      obtain ⟨n0, c0, c1, c2, f0, f1, f2⟩ := k3
      unfold aggS
      go_wp2_with fail
      refine bodyPost_ret (v := aggS G) (by simp [results, Try.results11, go_sem, c0, c1, c2, aggS]) rfl ⟨by rw [hout.out], ?_⟩
      exact ((HY2.setCell (by simp) _).setCell (by simp) _).setCell (by simp) _

end Go.Proofs.Ytpogahhfdneagaa
