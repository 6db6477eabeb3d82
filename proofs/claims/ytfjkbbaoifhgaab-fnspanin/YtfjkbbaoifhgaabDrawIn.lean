/-
  The contract of DrawSpanIn.
-/
import Derived.Test.YtfjkbbaoifhgaabOfP
import Derived.Test.YtfjkbbaoifhgaabJoinS
namespace Go.Proofs.Ytfjkbbaoifhgaab
open Go.RowKit
set_option linter.unusedVariables false
set_option linter.unusedSimpArgs false

theorem keepBoxQ {x : World} {m q o : Nat} {v : Value} {a : Bool} {l u : Int} (h : m < x.heap.size ∧ x.cell? ⟨m, 0, none⟩ = some (.bool a) ∧ x.cell? ⟨m, 1, none⟩ = some (.int .i64 l) ∧ x.cell? ⟨m, 2, none⟩ = some (.int .i64 u)) (hq : m ≠ q) :
    m < (x.setCell ⟨q, o, none⟩ v).heap.size ∧ (x.setCell ⟨q, o, none⟩ v).cell? ⟨m, 0, none⟩ = some (.bool a) ∧ (x.setCell ⟨q, o, none⟩ v).cell? ⟨m, 1, none⟩ = some (.int .i64 l) ∧ (x.setCell ⟨q, o, none⟩ v).cell? ⟨m, 2, none⟩ = some (.int .i64 u) := by
  obtain ⟨h2, c0, c1, c2⟩ := h
  refine ⟨by simpa using h2, ?_, ?_, ?_⟩ <;> simp [go_sem, hq, c0, c1, c2]
theorem join_bd {a b c : Bool} {al ah bl bh cl ch : Int} (h : joinF a al ah b bl bh = (c, cl, ch)) (h1 : -17 ≤ al) (h2 : al ≤ 16) (h3 : -17 ≤ ah) (h4 : ah ≤ 16) (h5 : -17 ≤ bl) (h6 : bl ≤ 16) (h7 : -17 ≤ bh) (h8 : bh ≤ 16) : -17 ≤ cl ∧ cl ≤ 16 ∧ -17 ≤ ch ∧ ch ≤ 16 := by
  unfold joinF at h
  repeat' split at h
  all_goals (simp [noSp] at h; omega)

theorem keepQ2 {w x : World} {m0 m1 q o : Nat} {v : Value} {a0 a1 : Bool} {l0 u0 l1 u1 : Int} (h : Below w.heap.size w x ∧ (m0 < x.heap.size ∧ x.cell? ⟨m0, 0, none⟩ = some (.bool a0) ∧ x.cell? ⟨m0, 1, none⟩ = some (.int .i64 l0) ∧ x.cell? ⟨m0, 2, none⟩ = some (.int .i64 u0)) ∧ (m1 < x.heap.size ∧ x.cell? ⟨m1, 0, none⟩ = some (.bool a1) ∧ x.cell? ⟨m1, 1, none⟩ = some (.int .i64 l1) ∧ x.cell? ⟨m1, 2, none⟩ = some (.int .i64 u1))) (h0 : m0 ≠ q) (h1 : m1 ≠ q) (hw : w.heap.size ≤ q) : Below w.heap.size w (x.setCell ⟨q, o, none⟩ v) ∧ (m0 < (x.setCell ⟨q, o, none⟩ v).heap.size ∧ (x.setCell ⟨q, o, none⟩ v).cell? ⟨m0, 0, none⟩ = some (.bool a0) ∧ (x.setCell ⟨q, o, none⟩ v).cell? ⟨m0, 1, none⟩ = some (.int .i64 l0) ∧ (x.setCell ⟨q, o, none⟩ v).cell? ⟨m0, 2, none⟩ = some (.int .i64 u0)) ∧ (m1 < (x.setCell ⟨q, o, none⟩ v).heap.size ∧ (x.setCell ⟨q, o, none⟩ v).cell? ⟨m1, 0, none⟩ = some (.bool a1) ∧ (x.setCell ⟨q, o, none⟩ v).cell? ⟨m1, 1, none⟩ = some (.int .i64 l1) ∧ (x.setCell ⟨q, o, none⟩ v).cell? ⟨m1, 2, none⟩ = some (.int .i64 u1)) := by
  obtain ⟨k, b0, b1⟩ := h
  exact ⟨k.setCell hw _, keepBoxQ b0 h0, keepBoxQ b1 h1⟩

set_option maxHeartbeats 1500000 in
theorem drawSpanIn_any (a : Option Addr) (len cap : Nat) (zs : List Int) (w : World) (h : IsRow w a len cap zs) :
    Calls Try.prog 16 #[.slice a len cap] w fun e y => GotTwo w e y := by
  have hb0 : Below w.heap.size w ((w.alloc (.cells #[.bool false, .int .i64 0, .int .i64 0] 25)).alloc (.cells #[.bool false, .int .i64 0, .int .i64 0] 25)) := by go_grown
  have h' := IsRow.later h hb0
  go_enter Try.func16, Try.ntmps16
  go_wp2_with fail
  refine (open_any a len cap zs _ h').mono ?_
  rintro e x ⟨rfl, hR, hb⟩
  have c0 := (hb.cell (p := ⟨w.heap.size, 0, none⟩) (by go_size)).trans (show _ = some (.bool false) by simp [go_sem])
  have cf0 := (hb.frozen (p := ⟨w.heap.size, 0, none⟩) (by go_size)).trans (show _ = false by simp [go_sem])
  have c1 := (hb.cell (p := ⟨w.heap.size, 1, none⟩) (by go_size)).trans (show _ = some (.int .i64 0) by simp [go_sem])
  have cf1 := (hb.frozen (p := ⟨w.heap.size, 1, none⟩) (by go_size)).trans (show _ = false by simp [go_sem])
  have c2 := (hb.cell (p := ⟨w.heap.size, 2, none⟩) (by go_size)).trans (show _ = some (.int .i64 0) by simp [go_sem])
  have cf2 := (hb.frozen (p := ⟨w.heap.size, 2, none⟩) (by go_size)).trans (show _ = false by simp [go_sem])
  have d0 := (hb.cell (p := ⟨w.heap.size + 1, 0, none⟩) (by go_size)).trans (show _ = some (.bool false) by simp [go_sem])
  have df0 := (hb.frozen (p := ⟨w.heap.size + 1, 0, none⟩) (by go_size)).trans (show _ = false by simp [go_sem])
  have d1 := (hb.cell (p := ⟨w.heap.size + 1, 1, none⟩) (by go_size)).trans (show _ = some (.int .i64 0) by simp [go_sem])
  have df1 := (hb.frozen (p := ⟨w.heap.size + 1, 1, none⟩) (by go_size)).trans (show _ = false by simp [go_sem])
  have d2 := (hb.cell (p := ⟨w.heap.size + 1, 2, none⟩) (by go_size)).trans (show _ = some (.int .i64 0) by simp [go_sem])
  have df2 := (hb.frozen (p := ⟨w.heap.size + 1, 2, none⟩) (by go_size)).trans (show _ = false by simp [go_sem])
  have hrn : ((w.alloc (.cells #[.bool false, .int .i64 0, .int .i64 0] 25)).alloc (.cells #[.bool false, .int .i64 0, .int .i64 0] 25)).heap.size = w.heap.size + 1 + 1 := by simp
  have hB := hb0.trans (hb.mono (by go_size))
  rw [hrn] at hR
  rw [hrn]
  have hrx := hR.lt
  clear hb hrn hb0 h h'
  go_wp2_with fail
  refine (l71Span_any (w.heap.size + 1 + 1) 0 _ hR (by omega)).mono ?_
  rintro e y1 hg1
  obtain ⟨a1, l1, u1, rfl, b10, b11, b12, b13, hD1⟩ := hg1.it
  have hr1 := hD1.rd.lt
  obtain ⟨c0, c1, c2, cf0, cf1, cf2⟩ := q_cells hD1 (q := w.heap.size) (by omega) (by omega) c0 c1 c2 cf0 cf1 cf2
  obtain ⟨d0, d1, d2, df0, df1, df2⟩ := q_cells hD1 (q := w.heap.size + 1) (by omega) (by omega) d0 d1 d2 df0 df1 df2
  have hB1 : Below w.heap.size w y1 := hB.trans (hD1.below.mono (by omega))
  have hA1 := drawn_alloc (.cells #[.bool a1, .int .i64 l1, .int .i64 u1] 25) hD1.rd
  have n1 := newBox y1 25 a1 l1 u1
  clear hg1 hD1 hR hB
  go_wp2_with fail
  refine (l71Span_any (w.heap.size + 1 + 1) (0 + 8) _ hA1.rd (by omega)).mono ?_
  rintro e y2 hg2
  obtain ⟨a2, l2, u2, rfl, b20, b21, b22, b23, hD2⟩ := hg2.it
  have hr2 := hD2.rd.lt
  have hE2 := hA1.trans hD2
  have hs2 := hD2.size
  obtain ⟨c0, c1, c2, cf0, cf1, cf2⟩ := q_cells hE2 (q := w.heap.size) (by omega) (by omega) c0 c1 c2 cf0 cf1 cf2
  obtain ⟨d0, d1, d2, df0, df1, df2⟩ := q_cells hE2 (q := w.heap.size + 1) (by omega) (by omega) d0 d1 d2 df0 df1 df2
  have o0 := (hD2.cell y1.heap.size 0 (by omega) n1.1).trans n1.2.1
  have o1 := (hD2.cell y1.heap.size 1 (by omega) n1.1).trans n1.2.2.1
  have o2 := (hD2.cell y1.heap.size 2 (by omega) n1.1).trans n1.2.2.2
  have hB2 : Below w.heap.size w y2 := hB1.trans (hE2.below.mono (by omega))
  have hlt2 : y1.heap.size < y2.heap.size := by have := n1.1; omega
  have hA2 := drawn_alloc (.cells #[.bool a2, .int .i64 l2, .int .i64 u2] 25) hD2.rd
  have n2 := newBox y2 25 a2 l2 u2
  have p1 := keepBox ⟨hlt2, o0, o1, o2⟩ (belowAlloc y2 (.cells #[.bool a2, .int .i64 l2, .int .i64 u2] 25))
  clear hg2 hD2 hE2 hA1 hB1 n1 o0 o1 o2
  go_wp2_with fail
  refine (pick_any (w.heap.size + 1 + 1) (0 + 8 + 8) 2 _ hA2.rd (by omega) (by omega)).mono ?_
  rintro e y3 ⟨t, rfl, t0, t1, hD3⟩
  have hs3 := hD3.size
  have hE3 := hA2.trans hD3
  obtain ⟨c0, c1, c2, cf0, cf1, cf2⟩ := q_cells hE3 (q := w.heap.size) (by omega) (by omega) c0 c1 c2 cf0 cf1 cf2
  obtain ⟨d0, d1, d2, df0, df1, df2⟩ := q_cells hE3 (q := w.heap.size + 1) (by omega) (by omega) d0 d1 d2 df0 df1 df2
  have q1 : y1.heap.size < y3.heap.size ∧ y3.cell? ⟨y1.heap.size, 0, none⟩ = some (.bool a1) ∧ y3.cell? ⟨y1.heap.size, 1, none⟩ = some (.int .i64 l1) ∧ y3.cell? ⟨y1.heap.size, 2, none⟩ = some (.int .i64 u1) := ⟨by have := p1.1; omega, (hD3.cell y1.heap.size 0 (by omega) p1.1).trans p1.2.1, (hD3.cell y1.heap.size 1 (by omega) p1.1).trans p1.2.2.1, (hD3.cell y1.heap.size 2 (by omega) p1.1).trans p1.2.2.2⟩
  have q2 : y2.heap.size < y3.heap.size ∧ y3.cell? ⟨y2.heap.size, 0, none⟩ = some (.bool a2) ∧ y3.cell? ⟨y2.heap.size, 1, none⟩ = some (.int .i64 l2) ∧ y3.cell? ⟨y2.heap.size, 2, none⟩ = some (.int .i64 u2) := ⟨by have := n2.1; omega, (hD3.cell y2.heap.size 0 (by omega) n2.1).trans n2.2.1, (hD3.cell y2.heap.size 1 (by omega) n2.1).trans n2.2.2.1, (hD3.cell y2.heap.size 2 (by omega) n2.1).trans n2.2.2.2⟩
  have hB3 : Below w.heap.size w y3 := hB2.trans (hE3.below.mono (by omega))
  have hS3 : Below w.heap.size w y3 ∧ (y1.heap.size < y3.heap.size ∧ y3.cell? ⟨y1.heap.size, 0, none⟩ = some (.bool a1) ∧ y3.cell? ⟨y1.heap.size, 1, none⟩ = some (.int .i64 l1) ∧ y3.cell? ⟨y1.heap.size, 2, none⟩ = some (.int .i64 u1)) ∧ (y2.heap.size < y3.heap.size ∧ y3.cell? ⟨y2.heap.size, 0, none⟩ = some (.bool a2) ∧ y3.cell? ⟨y2.heap.size, 1, none⟩ = some (.int .i64 l2) ∧ y3.cell? ⟨y2.heap.size, 2, none⟩ = some (.int .i64 u2)) := ⟨hB3, q1, q2⟩
  have hlt3 : w.heap.size < y3.heap.size := by omega
  have hlt4 : w.heap.size + 1 < y3.heap.size := by omega
  clear hD3 hE3 hA2 hB2 n2 p1 q1 q2 hB3
  by_cases ht : t = 0
  · subst ht
    go_wp2_with fail
    go_region_held (fun z => Below w.heap.size w z ∧ (y1.heap.size < z.heap.size ∧ z.cell? ⟨y1.heap.size, 0, none⟩ = some (.bool a1) ∧ z.cell? ⟨y1.heap.size, 1, none⟩ = some (.int .i64 l1) ∧ z.cell? ⟨y1.heap.size, 2, none⟩ = some (.int .i64 u1)) ∧ (y2.heap.size < z.heap.size ∧ z.cell? ⟨y2.heap.size, 0, none⟩ = some (.bool a2) ∧ z.cell? ⟨y2.heap.size, 1, none⟩ = some (.int .i64 l2) ∧ z.cell? ⟨y2.heap.size, 2, none⟩ = some (.int .i64 u2))) (first | (refine keepQ2 (keepQ2 (keepQ2 (by assumption) ?_ ?_ ?_) ?_ ?_ ?_) ?_ ?_ ?_ <;> omega) | assumption | exact keepN2 (by assumption) (by assumption) | exact keepN2 (by assumption) (belowDrew _)) (first | (go_at_call 22; refine (join_spec _ _ _ _ _ _ _).mono ?_; rintro e y4 ⟨hs4, hb4⟩; obtain ⟨a4, l4, u4, hx4, rfl⟩ := hs4.out; have hS4 := keepN2 (by assumption) hb4; have c0' := (hb4.cell (p := ⟨w.heap.size, 0, none⟩) hlt3).trans c0; have cf0' := (hb4.frozen (p := ⟨w.heap.size, 0, none⟩) hlt3).trans cf0; have d0' := (hb4.cell (p := ⟨w.heap.size + 1, 0, none⟩) hlt4).trans d0; have df0' := (hb4.frozen (p := ⟨w.heap.size + 1, 0, none⟩) hlt4).trans df0; have c1' := (hb4.cell (p := ⟨w.heap.size, 1, none⟩) hlt3).trans c1; have cf1' := (hb4.frozen (p := ⟨w.heap.size, 1, none⟩) hlt3).trans cf1; have d1' := (hb4.cell (p := ⟨w.heap.size + 1, 1, none⟩) hlt4).trans d1; have df1' := (hb4.frozen (p := ⟨w.heap.size + 1, 1, none⟩) hlt4).trans df1; have c2' := (hb4.cell (p := ⟨w.heap.size, 2, none⟩) hlt3).trans c2; have cf2' := (hb4.frozen (p := ⟨w.heap.size, 2, none⟩) hlt3).trans cf2; have d2' := (hb4.cell (p := ⟨w.heap.size + 1, 2, none⟩) hlt4).trans d2; have df2' := (hb4.frozen (p := ⟨w.heap.size + 1, 2, none⟩) hlt4).trans df2; have hbd4 := join_bd hx4.out b10 b11 b12 b13 b20 b21 b22 b23))
    all_goals
      go_wp2
      refine bodyPost_ret (v := .tuple #[.agg #[.bool a1, .int .i64 l1, .int .i64 u1], .agg #[.bool a4, .int .i64 l4, .int .i64 u4]]) (by simp [results, Try.results16, go_sem, c0', c1', c2', d0', d1', d2']) rfl ⟨_, _, _, _, _, _, rfl, b10, b11, b12, b13, hbd4.1, hbd4.2.1, hbd4.2.2.1, hbd4.2.2.2, ?_⟩
      rename_i hH
      exact hH.1
  · have ht' : (t == 0) = false := by simp [ht]
    go_wp2_with fail
    obtain ⟨hB3, ⟨_, q10, q11, q12⟩, _, q20, q21, q22⟩ := hS3
    go_region
    all_goals
      go_wp2
      refine bodyPost_ret (v := .tuple #[.agg #[.bool a1, .int .i64 l1, .int .i64 u1], .agg #[.bool a2, .int .i64 l2, .int .i64 u2]]) (by simp [results, Try.results16, go_sem, c0, c1, c2, d0, d1, d2]) rfl ⟨_, _, _, _, _, _, rfl, b10, b11, b12, b13, b20, b21, b22, b23, ?_⟩
      go_grown

end Go.Proofs.Ytfjkbbaoifhgaab
