/-
  The contracts of the laws' own helpers on states: copied (toState), the same (eqSpanS, eqState).
-/
import Derived.Test.YtifpijindmdboaaSMem
namespace Go.Proofs.Ytifpijindmdboaa
open Go.RowKit
set_option linter.unusedVariables false
set_option linter.unusedSimpArgs false

theorem SpsAt.shape {z : Bool} {x : World} {B E : Nat} {v : Value} {L : List Sp} (h : SpsAt z x B E v L) : ∃ p cap, v = .slice p L.length cap := by
  obtain ⟨p, cap, hv, _⟩ := h
  exact ⟨p, cap, hv⟩

set_option maxHeartbeats 1000000 in
theorem toState_any (x : World) (z : Bool) (B E : Nat) (a : Bool) (v : Value) (L : List Sp) (c : Bool) (l u : Int) (h : SpsAt z x B E v L) (hn : L.length ≤ 1048576) :
    Calls Try.prog 13 #[.agg #[.bool a, v, .bool c, .int .i64 l, .int .i64 u]] x fun e y => ∃ v', e = .returned (.agg #[.bool a, v', .bool c, .int .i64 l, .int .i64 u]) ∧ SpsAt true y x.heap.size y.heap.size v' L ∧ Below x.heap.size x y := by
  obtain ⟨p, cap, rfl⟩ := h.shape
  have HN : Hid (L.length ≤ 1048576) := hn
  clear hn
  have H : Hid (SpsAt z x B E (.slice p L.length cap) L) := h
  clear h
  generalize hL : L.length = n at H HN
  have HL : Hid (L.length = n) := hL
  clear hL
  go_enter Try.func13, Try.ntmps13
  go_wp2_with fail
  have hbW : Below x.heap.size x (((x.alloc (.cells #[.bool a, .slice p n cap, .bool c, .int .i64 l, .int .i64 u] 27)).alloc (.cells #[.bool false, .slice none 0 0, .bool false, .int .i64 0, .int .i64 0] 36)).alloc (.cells #[.bool a, .slice none 0 0, .bool false, .int .i64 0, .int .i64 0] 36)) := by go_grown
  refine (toSpanS_any _ z B E _ L (H.out.later hbW) (by rw [HL.out]; exact HN.out)).mono ?_
  rintro e y ⟨v1, rfl, hc, hb⟩
  obtain ⟨q, cp, rfl⟩ := hc.shape
  rw [HL.out] at hc
  rw [HL.out]
  have hB : Below x.heap.size x y := hbW.trans (hb.mono (by first | (simp; done) | (simp; omega)))
  have hz : x.heap.size + 3 ≤ y.heap.size := by have := hb.size; simp at this; omega
  have hc3 : Hid (SpsAt true y (x.heap.size + 3) y.heap.size (.slice q n cp) L) := hc.wide (by simp) (Nat.le_refl _) (Nat.le_refl _)
  have k0 := ((((Bx5.new x (.bool a) (.slice p n cap) (.bool c) (.int .i64 l) (.int .i64 u) 27).alloc _).alloc _).later hb)
  have k1 := (((Bx5.new (x.alloc _) (.bool false) (.slice none 0 0) (.bool false) (.int .i64 0) (.int .i64 0) 36).alloc _).later hb)
  have k2 := ((Bx5.new ((x.alloc _).alloc _) (.bool a) (.slice none 0 0) (.bool false) (.int .i64 0) (.int .i64 0) 36).later hb)
  simp at k1 k2
  have K0 : Hid _ := k0
  have K1 : Hid _ := k1
  have K2 : Hid _ := k2
  obtain ⟨_, a0, a1, a2, a3, a4, _⟩ := k0
  obtain ⟨_, d0, d1, d2, d3, d4, df⟩ := k2
  clear k1 hbW hb hc
  go_wp2_with fail
  refine (toSpan_any _ _ _ _).mono ?_
  rintro e w2 ⟨rfl, hb2⟩
  clear a0 a1 a2 a3 a4 d0 d1 d2 d3 d4 df
  have e1 := (K1.out.off (b := x.heap.size + 1 + 1) (o := 1) (u := .slice q n cp) (by omega)).later hb2
  have e2 := (K2.out.set1 (u := .slice q n cp)).later hb2
  have hc4 : Hid (SpsAt true w2 (x.heap.size + 3) y.heap.size (.slice q n cp) L) := (hc3.out.off (by omega)).later hb2
  have hB2 : Below x.heap.size x w2 := (hB.setCell (p := ⟨x.heap.size + 1 + 1, 1, none⟩) (by simp; omega) _).trans (hb2.mono (by simp; omega))
  have hz2 : y.heap.size ≤ w2.heap.size := by have := hb2.size; simpa using this
  clear hb2 hB hc3 K0 K1 K2
  obtain ⟨el, d0, d1, d2, d3, d4, df⟩ := e1
  obtain ⟨fl, f0, f1, f2, f3, f4, ff⟩ := e2
  go_wp2_with fail
  refine bodyPost_ret (v := .agg #[.bool a, .slice q n cp, .bool c, .int .i64 l, .int .i64 u]) (by simp [results, Try.results13, go_sem, el, fl, f0, f1, f2, f3, f4, d0, d1, d2, d3, d4, ff, df]) rfl ⟨_, rfl, ?_, ?_⟩
  · refine SpsAt.wide (B := x.heap.size + 3) (E := y.heap.size) ?_ (by omega) (by simp; omega) (by simp)
    repeat (refine SpsAt.off ?_ (by omega))
    exact hc4.out
  · repeat (refine Below.setCell ?_ (by simp <;> omega) _)
    exact hB2

theorem keep6 {w y : World} {g o g' o' k : Nat} {i0 : Bool} {i1 i2 : Int} (h : (fun z => z.cell? ⟨g, o + k * 3, none⟩ = some (.bool i0) ∧ z.cell? ⟨g, o + k * 3 + 1, none⟩ = some (.int .i64 i1) ∧ z.cell? ⟨g, o + k * 3 + 2, none⟩ = some (.int .i64 i2) ∧ z.cell? ⟨g', o' + k * 3, none⟩ = some (.bool i0) ∧ z.cell? ⟨g', o' + k * 3 + 1, none⟩ = some (.int .i64 i1) ∧ z.cell? ⟨g', o' + k * 3 + 2, none⟩ = some (.int .i64 i2)) w) (hb : Below w.heap.size w y) (hg : g < w.heap.size) (hg' : g' < w.heap.size) : (fun z => z.cell? ⟨g, o + k * 3, none⟩ = some (.bool i0) ∧ z.cell? ⟨g, o + k * 3 + 1, none⟩ = some (.int .i64 i1) ∧ z.cell? ⟨g, o + k * 3 + 2, none⟩ = some (.int .i64 i2) ∧ z.cell? ⟨g', o' + k * 3, none⟩ = some (.bool i0) ∧ z.cell? ⟨g', o' + k * 3 + 1, none⟩ = some (.int .i64 i1) ∧ z.cell? ⟨g', o' + k * 3 + 2, none⟩ = some (.int .i64 i2)) y := by
  obtain ⟨d0, d1, d2, e0, e1, e2⟩ := h
  exact ⟨(hb.cell (p := ⟨g, _, none⟩) hg).trans d0, (hb.cell (p := ⟨g, _, none⟩) hg).trans d1, (hb.cell (p := ⟨g, _, none⟩) hg).trans d2, (hb.cell (p := ⟨g', _, none⟩) hg').trans e0, (hb.cell (p := ⟨g', _, none⟩) hg').trans e1, (hb.cell (p := ⟨g', _, none⟩) hg').trans e2⟩
set_option maxHeartbeats 1000000 in
theorem eqSpanS_same (x : World) (z z' : Bool) (B E C D : Nat) (v u : Value) (c : List Sp) (h : SpsAt z x B E v c) (h' : SpsAt z' x C D u c) :
    Calls Try.prog 52 #[v, u] x fun e y => e = .returned (.bool true) ∧ Below x.heap.size x y := by
  obtain ⟨p, cap, rfl, hm, hc⟩ := h
  obtain ⟨p', cap', rfl, _, hc'⟩ := h'
  generalize hL : c.length = n at *
  unfold maxLen at hm
  have hni : (n : Int) ≤ 9223372036854775807 := by omega
  clear hL hm
  go_enter Try.func52, Try.ntmps52
  go_wp2_with fail
  go_loopw [5] (fun t y => ∃ k : Nat, k ≤ n ∧ t = .int .i64 k ∧ Below x.heap.size x y) (fun t _ => n - (intOf t).toNat)
  case atStart => exact ⟨0, by omega, rfl, Below.refl _ _⟩
  case round =>
    obtain ⟨k, hk, rfl, hB⟩ := hrel
    by_cases hlt : k < n
    · rcases hc with h0 | ⟨g, o, rfl, hBg, hgE, hEx, _, hins⟩
      · omega
      rcases hc' with h0 | ⟨g', o', rfl, hBg', hgE', hEx', _, hins'⟩
      · omega
      have hgx : g < x.heap.size := by omega
      have hgx' : g' < x.heap.size := by omega
      have hki : (k : Int) < (n : Int) := by omega
      obtain ⟨d0, d1, d2⟩ := (hins k hlt).later hB hgx
      obtain ⟨e0, e1, e2⟩ := (hins' k hlt).later hB hgx'
      clear hins hins'
      generalize c.getD k noSp = I at *
      obtain ⟨i0, i1, i2⟩ := I
      simp only at d0 d1 d2 e0 e1 e2
      have hgw : g < wr.heap.size := Nat.lt_of_lt_of_le hgx hB.size
      have hgw' : g' < wr.heap.size := Nat.lt_of_lt_of_le hgx' hB.size
      go_wp2_with fail
      go_region_held3 (fun z => z.cell? ⟨g, o + k * 3, none⟩ = some (.bool i0) ∧ z.cell? ⟨g, o + k * 3 + 1, none⟩ = some (.int .i64 i1) ∧ z.cell? ⟨g, o + k * 3 + 2, none⟩ = some (.int .i64 i2) ∧ z.cell? ⟨g', o' + k * 3, none⟩ = some (.bool i0) ∧ z.cell? ⟨g', o' + k * 3 + 1, none⟩ = some (.int .i64 i1) ∧ z.cell? ⟨g', o' + k * 3 + 2, none⟩ = some (.int .i64 i2)) (first | (with_reducible assumption) | exact ⟨d0, d1, d2, e0, e1, e2⟩ | fail) ((go_at_call 15; refine (eqSpan_same i0 i1 i2 _).mono ?_; rintro e w2 ⟨rfl, hb2⟩; have hS2 := keep6 (w := wr.drew) (o := o) (o' := o') (k := k) (i0 := i0) (i1 := i1) (i2 := i2) ⟨d0, d1, d2, e0, e1, e2⟩ hb2 hgw hgw'))
      have hB2 : Below x.heap.size x w2 := hB.trans ((Below.drew (Below.refl _ _)).trans (hb2.mono (by simp)) |>.mono hB.size)
      go_wp2_with fail
      go_roundw
      case rel => exact ⟨k + 1, by omega, by go_num, hB2⟩
      case measure => simp [intOf]; omega
    · obtain rfl : k = n := by omega
      have hki : ¬ (k : Int) < (k : Int) := by omega
      go_wp2_with fail
      go_ret
      exact ⟨rfl, hB⟩

set_option maxHeartbeats 1000000 in
theorem eqState_same (x : World) (z z' : Bool) (B E C D : Nat) (a : Bool) (v v' : Value) (L : List Sp) (c : Bool) (l u : Int) (h : SpsAt z x B E v L) (h' : SpsAt z' x C D v' L) :
    Calls Try.prog 17 #[.agg #[.bool a, v, .bool c, .int .i64 l, .int .i64 u], .agg #[.bool a, v', .bool c, .int .i64 l, .int .i64 u]] x fun e y => e = .returned (.bool true) ∧ Below x.heap.size x y := by
  obtain ⟨p, cap, rfl⟩ := h.shape
  obtain ⟨p', cap', rfl⟩ := h'.shape
  have H : Hid (SpsAt z x B E (.slice p L.length cap) L) := h
  have H' : Hid (SpsAt z' x C D (.slice p' L.length cap') L) := h'
  clear h h'
  generalize hL : L.length = n at H H'
  clear hL
  go_enter Try.func17, Try.ntmps17
  go_wp2_with fail
  have hbW : Below x.heap.size x ((x.alloc (.cells #[.bool a, .slice p n cap, .bool c, .int .i64 l, .int .i64 u] 36)).alloc (.cells #[.bool a, .slice p' n cap', .bool c, .int .i64 l, .int .i64 u] 36)) := by go_grown
  refine (eqSpanS_same _ z z' B E C D _ _ L (H.out.later hbW) (H'.out.later hbW)).mono ?_
  rintro e y ⟨rfl, hb⟩
  have k0 := ((Bx5.new x (.bool a) (.slice p n cap) (.bool c) (.int .i64 l) (.int .i64 u) 36).alloc (.cells #[.bool a, .slice p' n cap', .bool c, .int .i64 l, .int .i64 u] 36)).later hb
  have k1 := (Bx5.new (x.alloc _) (.bool a) (.slice p' n cap') (.bool c) (.int .i64 l) (.int .i64 u) 36).later hb
  simp at k1
  have hB : Below x.heap.size x y := hbW.trans (hb.mono (by simp; omega))
  obtain ⟨_, a0, a1, a2, a3, a4, _⟩ := k0
  obtain ⟨_, d0, d1, d2, d3, d4, _⟩ := k1
  clear hbW hb H H'
  go_wp2_with fail
  refine (eqSpan_same _ _ _ _).mono ?_
  rintro e w2 ⟨rfl, hb2⟩
  go_wp2_with fail
  go_ret
  exact ⟨rfl, hB.trans (hb2.mono hB.size)⟩
end Go.Proofs.Ytifpijindmdboaa
