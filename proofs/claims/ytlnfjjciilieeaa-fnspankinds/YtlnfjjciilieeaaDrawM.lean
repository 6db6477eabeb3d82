/-
  The contracts of the draws of an operation or a question with two spans.
-/
import Derived.Test.YtlnfjjciilieeaaDrawS
namespace Go.Proofs.Ytlnfjjciilieeaa
open Go.RowKit
set_option linter.unusedVariables false
set_option linter.unusedSimpArgs false

/-- an operation and two drawn spans -/
structure GotDo (w : World) (e : Ending) (y : World) : Prop where
  it : ∃ op a l u b m v, e = .returned (.tuple #[.int .i64 op, .agg #[.bool a, .int .i64 l, .int .i64 u], .agg #[.bool b, .int .i64 m, .int .i64 v]]) ∧ -17 ≤ l ∧ l ≤ 16 ∧ -17 ≤ u ∧ u ≤ 16 ∧ -17 ≤ m ∧ m ≤ 16 ∧ -17 ≤ v ∧ v ≤ 16 ∧ Below w.heap.size w y
/-- what is asked, two drawn spans, and yes or no -/
structure GotWhen (w : World) (e : Ending) (y : World) : Prop where
  it : ∃ op a l u b m v yes, e = .returned (.tuple #[.int .i64 op, .agg #[.bool a, .int .i64 l, .int .i64 u], .agg #[.bool b, .int .i64 m, .int .i64 v], .bool yes]) ∧ -17 ≤ l ∧ l ≤ 16 ∧ -17 ≤ u ∧ u ≤ 16 ∧ -17 ≤ m ∧ m ≤ 16 ∧ -17 ≤ v ∧ v ≤ 16 ∧ Below w.heap.size w y

set_option maxHeartbeats 2000000 in
theorem drawSpanDo_any (a : Option Addr) (len cap : Nat) (zs : List Int) (w : World) (h : IsRow w a len cap zs) :
    Calls Try.prog 25 #[.slice a len cap] w fun e y => GotDo w e y := by
  have hb0 : Below w.heap.size w ((w.alloc (.cells #[.bool false, .int .i64 0, .int .i64 0] 24)).alloc (.cells #[.bool false, .int .i64 0, .int .i64 0] 24)) := by go_grown
  have h' := IsRow.later h hb0
  go_enter Try.func25, Try.ntmps25
  go_wp2_with fail
  refine (open_any a len cap zs _ h').mono ?_
  rintro e x ⟨rfl, hR, hb⟩
  have c0 := (hb.cell (p := ⟨w.heap.size, 0, none⟩) (by go_size)).trans (show _ = some (.bool false) by simp [go_sem])
  have c1 := (hb.cell (p := ⟨w.heap.size, 1, none⟩) (by go_size)).trans (show _ = some (.int .i64 0) by simp [go_sem])
  have c2 := (hb.cell (p := ⟨w.heap.size, 2, none⟩) (by go_size)).trans (show _ = some (.int .i64 0) by simp [go_sem])
  have d0 := (hb.cell (p := ⟨w.heap.size + 1, 0, none⟩) (by go_size)).trans (show _ = some (.bool false) by simp [go_sem])
  have d1 := (hb.cell (p := ⟨w.heap.size + 1, 1, none⟩) (by go_size)).trans (show _ = some (.int .i64 0) by simp [go_sem])
  have d2 := (hb.cell (p := ⟨w.heap.size + 1, 2, none⟩) (by go_size)).trans (show _ = some (.int .i64 0) by simp [go_sem])
  have f0 := (hb.frozen (p := ⟨w.heap.size, 0, none⟩) (by go_size)).trans (show _ = false by simp [go_sem])
  have f1 := (hb.frozen (p := ⟨w.heap.size, 1, none⟩) (by go_size)).trans (show _ = false by simp [go_sem])
  have f2 := (hb.frozen (p := ⟨w.heap.size, 2, none⟩) (by go_size)).trans (show _ = false by simp [go_sem])
  have g0 := (hb.frozen (p := ⟨w.heap.size + 1, 0, none⟩) (by go_size)).trans (show _ = false by simp [go_sem])
  have g1 := (hb.frozen (p := ⟨w.heap.size + 1, 1, none⟩) (by go_size)).trans (show _ = false by simp [go_sem])
  have g2 := (hb.frozen (p := ⟨w.heap.size + 1, 2, none⟩) (by go_size)).trans (show _ = false by simp [go_sem])
  have hrn : ((w.alloc (.cells #[.bool false, .int .i64 0, .int .i64 0] 24)).alloc (.cells #[.bool false, .int .i64 0, .int .i64 0] 24)).heap.size = w.heap.size + 1 + 1 := by simp
  have hB := hb0.trans (hb.mono (by go_size))
  rw [hrn] at hR
  rw [hrn]
  have hrx := hR.lt
  clear hb hrn hb0 h h'
  go_wp2_with fail
  refine (l71Op_any (w.heap.size + 1 + 1) 0 _ hR (by omega)).mono ?_
  rintro e y0 ⟨op, rfl, o0, o1, hD0⟩
  go_wp2_with fail
  refine (l71Span_any (w.heap.size + 1 + 1) (0 + 2) _ hD0.rd (by omega)).mono ?_
  rintro e y1 hg1
  obtain ⟨a1, l1, u1, rfl, b10, b11, b12, b13, hD1⟩ := hg1.it
  have hE1 := hD0.trans hD1
  clear hg1 hD0 hD1
  go_wp2_with fail
  refine (l71Span_any (w.heap.size + 1 + 1) (0 + 2 + 8) _ hE1.rd (by omega)).mono ?_
  rintro e y2 hg2
  obtain ⟨a2, l2, u2, rfl, b20, b21, b22, b23, hD2⟩ := hg2.it
  have hE := hE1.trans hD2
  clear hg2 hD2 hE1
  obtain ⟨c0', c1', c2', f0', f1', f2'⟩ := q_cells hE (q := w.heap.size) (by omega) (by omega) c0 c1 c2 f0 f1 f2
  obtain ⟨d0', d1', d2', g0', g1', g2'⟩ := q_cells hE (q := w.heap.size + 1) (by omega) (by omega) d0 d1 d2 g0 g1 g2
  have hF : Below w.heap.size w y2 := hB.trans (hE.below.mono (by omega))
  clear hE hR hB c0 c1 c2 d0 d1 d2 f0 f1 f2 g0 g1 g2
  go_wp2
  refine bodyPost_ret (v := .tuple #[.int .i64 op, .agg #[.bool a1, .int .i64 l1, .int .i64 u1], .agg #[.bool a2, .int .i64 l2, .int .i64 u2]]) (by simp [results, Try.results25, go_sem, c0', c1', c2', d0', d1', d2']) rfl ⟨_, _, _, _, _, _, _, rfl, b10, b11, b12, b13, b20, b21, b22, b23, ?_⟩
  go_grown

set_option maxHeartbeats 4000000 in
theorem drawSpanWhen_any (a : Option Addr) (len cap : Nat) (zs : List Int) (w : World) (h : IsRow w a len cap zs) :
    Calls Try.prog 31 #[.slice a len cap] w fun e y => GotWhen w e y := by
  have hb0 : Below w.heap.size w ((w.alloc (.cells #[.bool false, .int .i64 0, .int .i64 0] 24)).alloc (.cells #[.bool false, .int .i64 0, .int .i64 0] 24)) := by go_grown
  have h' := IsRow.later h hb0
  go_enter Try.func31, Try.ntmps31
  go_wp2_with fail
  refine (open_any a len cap zs _ h').mono ?_
  rintro e x ⟨rfl, hR, hb⟩
  have c0 := (hb.cell (p := ⟨w.heap.size, 0, none⟩) (by go_size)).trans (show _ = some (.bool false) by simp [go_sem])
  have c1 := (hb.cell (p := ⟨w.heap.size, 1, none⟩) (by go_size)).trans (show _ = some (.int .i64 0) by simp [go_sem])
  have c2 := (hb.cell (p := ⟨w.heap.size, 2, none⟩) (by go_size)).trans (show _ = some (.int .i64 0) by simp [go_sem])
  have d0 := (hb.cell (p := ⟨w.heap.size + 1, 0, none⟩) (by go_size)).trans (show _ = some (.bool false) by simp [go_sem])
  have d1 := (hb.cell (p := ⟨w.heap.size + 1, 1, none⟩) (by go_size)).trans (show _ = some (.int .i64 0) by simp [go_sem])
  have d2 := (hb.cell (p := ⟨w.heap.size + 1, 2, none⟩) (by go_size)).trans (show _ = some (.int .i64 0) by simp [go_sem])
  have f0 := (hb.frozen (p := ⟨w.heap.size, 0, none⟩) (by go_size)).trans (show _ = false by simp [go_sem])
  have f1 := (hb.frozen (p := ⟨w.heap.size, 1, none⟩) (by go_size)).trans (show _ = false by simp [go_sem])
  have f2 := (hb.frozen (p := ⟨w.heap.size, 2, none⟩) (by go_size)).trans (show _ = false by simp [go_sem])
  have g0 := (hb.frozen (p := ⟨w.heap.size + 1, 0, none⟩) (by go_size)).trans (show _ = false by simp [go_sem])
  have g1 := (hb.frozen (p := ⟨w.heap.size + 1, 1, none⟩) (by go_size)).trans (show _ = false by simp [go_sem])
  have g2 := (hb.frozen (p := ⟨w.heap.size + 1, 2, none⟩) (by go_size)).trans (show _ = false by simp [go_sem])
  have hrn : ((w.alloc (.cells #[.bool false, .int .i64 0, .int .i64 0] 24)).alloc (.cells #[.bool false, .int .i64 0, .int .i64 0] 24)).heap.size = w.heap.size + 1 + 1 := by simp
  have hB := hb0.trans (hb.mono (by go_size))
  rw [hrn] at hR
  rw [hrn]
  have hrx := hR.lt
  clear hb hrn hb0 h h'
  go_wp2_with fail
  refine (pick_any (w.heap.size + 1 + 1) 0 2 _ hR (by omega) (by omega)).mono ?_
  rintro e y01 ⟨p1, rfl, p10, p11, hD01⟩
  go_wp2_with fail
  refine (pick_any (w.heap.size + 1 + 1) (0 + 1) 24 _ hD01.rd (by omega) (by omega)).mono ?_
  rintro e y02 ⟨p2, rfl, p20, p21, hD02⟩
  have hE02 := hD01.trans hD02
  clear hD01 hD02
  by_cases hp2 : p2 = 0
  · subst hp2
    go_wp2_with fail
    refine (pick_any (w.heap.size + 1 + 1) (0 + 1 + 1) 9 _ hE02.rd (by omega) (by omega)).mono ?_
    rintro e y03 ⟨p3, rfl, p30, p31, hD03⟩
    have hE03 := hE02.trans hD03
    clear hE02 hD03
    go_wp2_with fail
    refine (l71Span_any (w.heap.size + 1 + 1) (0 + 1 + 1 + 1) _ hE03.rd (by omega)).mono ?_
    rintro e y1 hg1
    obtain ⟨a1, l1, u1, rfl, b10, b11, b12, b13, hD1⟩ := hg1.it
    have hE1 := hE03.trans hD1
    clear hg1 hE03 hD1
    go_wp2_with fail
    refine (l71Span_any (w.heap.size + 1 + 1) (0 + 1 + 1 + 1 + 8) _ hE1.rd (by omega)).mono ?_
    rintro e y2 hg2
    obtain ⟨a2, l2, u2, rfl, b20, b21, b22, b23, hD2⟩ := hg2.it
    have hE := hE1.trans hD2
    clear hg2 hD2 hE1
    go_wp2_with fail
    refine (pick_any (w.heap.size + 1 + 1) (0 + 1 + 1 + 1 + 8 + 8) 2 _ hE.rd (by omega) (by omega)).mono ?_
    rintro e y3 ⟨p4, rfl, p40, p41, hD4⟩
    have hE := hE.trans hD4
    clear hD4
    obtain ⟨c0', c1', c2', f0', f1', f2'⟩ := q_cells hE (q := w.heap.size) (by omega) (by omega) c0 c1 c2 f0 f1 f2
    obtain ⟨d0', d1', d2', g0', g1', g2'⟩ := q_cells hE (q := w.heap.size + 1) (by omega) (by omega) d0 d1 d2 g0 g1 g2
    have hF : Below w.heap.size w y3 := hB.trans (hE.below.mono (by omega))
    clear hE hR hB c0 c1 c2 d0 d1 d2 f0 f1 f2 g0 g1 g2
    go_wp2
    refine bodyPost_ret (v := .tuple #[.int .i64 p3, .agg #[.bool a1, .int .i64 l1, .int .i64 u1], .agg #[.bool a2, .int .i64 l2, .int .i64 u2], .bool (p4 == 0)]) (by simp [results, Try.results31, go_sem, c0', c1', c2', d0', d1', d2']) rfl ⟨_, _, _, _, _, _, _, _, rfl, b10, b11, b12, b13, b20, b21, b22, b23, ?_⟩
    go_grown
  · have hp2' : (p2 == 0) = false := by simp [hp2]
    have hE03 := hE02.le (by omega : 0 + 1 + 1 ≤ 0 + 1 + 1 + 1)
    clear hE02
    go_wp2_with fail
    refine (l71Span_any (w.heap.size + 1 + 1) (0 + 1 + 1 + 1) _ hE03.rd (by omega)).mono ?_
    rintro e y1 hg1
    obtain ⟨a1, l1, u1, rfl, b10, b11, b12, b13, hD1⟩ := hg1.it
    have hE1 := hE03.trans hD1
    clear hg1 hE03 hD1
    go_wp2_with fail
    refine (l71Span_any (w.heap.size + 1 + 1) (0 + 1 + 1 + 1 + 8) _ hE1.rd (by omega)).mono ?_
    rintro e y2 hg2
    obtain ⟨a2, l2, u2, rfl, b20, b21, b22, b23, hD2⟩ := hg2.it
    have hE := hE1.trans hD2
    clear hg2 hD2 hE1
    go_wp2_with fail
    refine (pick_any (w.heap.size + 1 + 1) (0 + 1 + 1 + 1 + 8 + 8) 2 _ hE.rd (by omega) (by omega)).mono ?_
    rintro e y3 ⟨p4, rfl, p40, p41, hD4⟩
    have hE := hE.trans hD4
    clear hD4
    obtain ⟨c0', c1', c2', f0', f1', f2'⟩ := q_cells hE (q := w.heap.size) (by omega) (by omega) c0 c1 c2 f0 f1 f2
    obtain ⟨d0', d1', d2', g0', g1', g2'⟩ := q_cells hE (q := w.heap.size + 1) (by omega) (by omega) d0 d1 d2 g0 g1 g2
    have hF : Below w.heap.size w y3 := hB.trans (hE.below.mono (by omega))
    clear hE hR hB c0 c1 c2 d0 d1 d2 f0 f1 f2 g0 g1 g2
    go_wp2
    refine bodyPost_ret (v := .tuple #[.int .i64 (5 + p1), .agg #[.bool a1, .int .i64 l1, .int .i64 u1], .agg #[.bool a2, .int .i64 l2, .int .i64 u2], .bool (p4 == 0)]) (by simp [results, Try.results31, go_sem, c0', c1', c2', d0', d1', d2']) rfl ⟨_, _, _, _, _, _, _, _, rfl, b10, b11, b12, b13, b20, b21, b22, b23, ?_⟩
    go_grown

end Go.Proofs.Ytlnfjjciilieeaa
