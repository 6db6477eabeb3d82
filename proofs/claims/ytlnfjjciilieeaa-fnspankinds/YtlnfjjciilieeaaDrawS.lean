/-
  The contracts of the draws of spans: each hands back a span whose ends are small and turns nothing but its reader.
-/
import Derived.Test.YtlnfjjciilieeaaDraw
import Derived.Test.YtlnfjjciilieeaaSpan
namespace Go.Proofs.Ytlnfjjciilieeaa
open Go.RowKit
set_option linter.unusedVariables false
set_option linter.unusedSimpArgs false

theorem rd_below {r B q : Nat} {x y : World} (h : Rd x r B) (hb : Below q x y) (hq : r < q) : Rd y r B := by
  have hr := h.lt
  obtain ⟨a, len, cap, p, c0, c1, p0, p1, hl, hf, _, hrow⟩ := h.it
  have hz := hb.size
  refine ⟨a, len, cap, p, ?_, ?_, p0, p1, hl, ?_, by omega, ?_⟩
  · exact (hb.cell (p := ⟨r, 0, none⟩) hq).trans c0
  · exact (hb.cell (p := ⟨r, 1, none⟩) hq).trans c1
  · exact (hb.frozen (p := ⟨r, 1, none⟩) hq).trans hf
  · rcases hrow with h0 | ⟨b, off, zs, e, hlt, hz', hcell⟩
    · exact .inl h0
    · refine .inr ⟨b, off, zs, e, hlt, hz', fun j hj => ?_⟩
      obtain ⟨e1, e2, e3⟩ := hcell j hj
      exact ⟨(hb.cell (p := ⟨b, off + j, none⟩) (Nat.lt_trans hlt hq)).trans e1, e2, e3⟩
/-- what is done above the first world's blocks leaves what is said of a draw -/
theorem Drawn.more {r B q : Nat} {x y z : World} (h : Drawn r B x y) (hb : Below q y z) (hq : x.heap.size ≤ q) (hr : r < x.heap.size) : Drawn r B x z :=
  ⟨Nat.le_trans h.size hb.size, fun b o hne hl => (hb.cell (p := ⟨b, o, none⟩) (Nat.lt_of_lt_of_le hl hq)).trans (h.cell b o hne hl), fun b o hne hl => (hb.frozen (p := ⟨b, o, none⟩) (Nat.lt_of_lt_of_le hl hq)).trans (h.frozen b o hne hl), h.below.trans (hb.mono (by omega)), rd_below h.rd hb (by omega)⟩
theorem Drawn.set3 {r B q : Nat} {x y : World} {v0 v1 v2 : Value} (h : Drawn r B x y) (hq : x.heap.size ≤ q) (hr : r < x.heap.size) : Drawn r B x (((y.setCell ⟨q, 0, none⟩ v0).setCell ⟨q, 1, none⟩ v1).setCell ⟨q, 2, none⟩ v2) :=
  h.more ((((Below.refl q y).setCell (p := ⟨q, 0, none⟩) (Nat.le_refl _) _).setCell (p := ⟨q, 1, none⟩) (Nat.le_refl _) _).setCell (p := ⟨q, 2, none⟩) (Nat.le_refl _) _) hq hr
theorem drawn_first {r B : Nat} {x : World} (h : Rd x r B) : Drawn r B x x := ⟨Nat.le_refl _, fun _ _ _ _ => rfl, fun _ _ _ _ => rfl, Below.refl _ _, h⟩

/-- a drawn span -/
structure GotSp (r B : Nat) (x : World) (e : Ending) (y : World) : Prop where
  it : ∃ a l u, e = .returned (.agg #[.bool a, .int .i64 l, .int .i64 u]) ∧ -17 ≤ l ∧ l ≤ 16 ∧ -17 ≤ u ∧ u ≤ 16 ∧ Drawn r B x y
theorem mk_bd {x y : Int} {a : Bool} {l u : Int} (h : mkF x y = (a, l, u)) (x0 : -16 ≤ x) (x1 : x ≤ 15) (y0 : -16 ≤ y) (y1 : y ≤ 15) : -17 ≤ l ∧ l ≤ 16 ∧ -17 ≤ u ∧ u ≤ 16 := by
  unfold mkF at h
  split at h
  · simp [noSp] at h; omega
  · simp at h; omega
/-- the three cells of the result's block, which a draw leaves -/
theorem q_cells {r B : Nat} {X y : World} {q : Nat} (h : Drawn r B X y) (hq : q < X.heap.size) (hr : q ≠ r) {v0 v1 v2 : Value} (c0 : X.cell? ⟨q, 0, none⟩ = some v0) (c1 : X.cell? ⟨q, 1, none⟩ = some v1) (c2 : X.cell? ⟨q, 2, none⟩ = some v2) (f0 : X.frozen? ⟨q, 0, none⟩ = false) (f1 : X.frozen? ⟨q, 1, none⟩ = false) (f2 : X.frozen? ⟨q, 2, none⟩ = false) :
    y.cell? ⟨q, 0, none⟩ = some v0 ∧ y.cell? ⟨q, 1, none⟩ = some v1 ∧ y.cell? ⟨q, 2, none⟩ = some v2 ∧ y.frozen? ⟨q, 0, none⟩ = false ∧ y.frozen? ⟨q, 1, none⟩ = false ∧ y.frozen? ⟨q, 2, none⟩ = false :=
  ⟨(h.cell q 0 hr hq).trans c0, (h.cell q 1 hr hq).trans c1, (h.cell q 2 hr hq).trans c2, (h.frozen q 0 hr hq).trans f0, (h.frozen q 1 hr hq).trans f1, (h.frozen q 2 hr hq).trans f2⟩

set_option maxHeartbeats 2000000 in
theorem l71Some_any (r B : Nat) (x : World) (h : Rd x r B) (hB : B ≤ 80000) :
    Calls Try.prog 71 #[.pointer (some ⟨r, 0, none⟩)] x fun e y => GotSp r (B + 7) x e y := by
  have hr := h.lt
  have hA := drawn_alloc (.cells #[.bool false, .int .i64 0, .int .i64 0] 24) h
  have hq0 : (x.alloc (.cells #[.bool false, .int .i64 0, .int .i64 0] 24)).cell? ⟨x.heap.size, 0, none⟩ = some (.bool false) ∧ (x.alloc (.cells #[.bool false, .int .i64 0, .int .i64 0] 24)).cell? ⟨x.heap.size, 1, none⟩ = some (.int .i64 0) ∧ (x.alloc (.cells #[.bool false, .int .i64 0, .int .i64 0] 24)).cell? ⟨x.heap.size, 2, none⟩ = some (.int .i64 0) ∧ (x.alloc (.cells #[.bool false, .int .i64 0, .int .i64 0] 24)).frozen? ⟨x.heap.size, 0, none⟩ = false ∧ (x.alloc (.cells #[.bool false, .int .i64 0, .int .i64 0] 24)).frozen? ⟨x.heap.size, 1, none⟩ = false ∧ (x.alloc (.cells #[.bool false, .int .i64 0, .int .i64 0] 24)).frozen? ⟨x.heap.size, 2, none⟩ = false := by simp [go_sem]
  have HQ : Hid ((x.alloc (.cells #[.bool false, .int .i64 0, .int .i64 0] 24)).cell? ⟨x.heap.size, 0, none⟩ = some (.bool false) ∧ (x.alloc (.cells #[.bool false, .int .i64 0, .int .i64 0] 24)).cell? ⟨x.heap.size, 1, none⟩ = some (.int .i64 0) ∧ (x.alloc (.cells #[.bool false, .int .i64 0, .int .i64 0] 24)).cell? ⟨x.heap.size, 2, none⟩ = some (.int .i64 0) ∧ (x.alloc (.cells #[.bool false, .int .i64 0, .int .i64 0] 24)).frozen? ⟨x.heap.size, 0, none⟩ = false ∧ (x.alloc (.cells #[.bool false, .int .i64 0, .int .i64 0] 24)).frozen? ⟨x.heap.size, 1, none⟩ = false ∧ (x.alloc (.cells #[.bool false, .int .i64 0, .int .i64 0] 24)).frozen? ⟨x.heap.size, 2, none⟩ = false) := hq0
  clear hq0
  go_enter Try.func71, Try.ntmps71
  go_wp2_with fail
  refine (l71Word_any r B _ hA.rd (by omega)).mono ?_
  rintro e y1 ⟨v, rfl, v0, v1, hD1⟩
  go_wp2_with fail
  refine (pick_any r (B + 2) 4 _ hD1.rd (by omega) (by omega)).mono ?_
  rintro e y2 ⟨t, rfl, t0, t1, hD2⟩
  have hE2 := hD1.trans hD2
  clear hD1 hD2
  by_cases ht : t = 0
  · subst ht
    go_wp2_with fail
    refine (l1Of_any v v _).mono ?_
    rintro e y3 ⟨hs, hb⟩
    obtain ⟨a3, l3, u3, hx3, rfl⟩ := hs.out
    have hE3 := hE2.more hb hE2.size (by simp; omega)
    obtain ⟨k0, k1, k2, j0, j1, j2⟩ := q_cells hE3 (by simp) (by omega) HQ.out.1 HQ.out.2.1 HQ.out.2.2.1 HQ.out.2.2.2.1 HQ.out.2.2.2.2.1 HQ.out.2.2.2.2.2
    have hbd := mk_bd hx3.out v0 v1 v0 v1
    have hF := (((hA.trans hE3).set3 (v0 := .bool a3) (v1 := .int .i64 l3) (v2 := .int .i64 u3) (Nat.le_refl x.heap.size) hr).le (by omega : B + 2 + 1 ≤ B + 7))
    clear hs hb hE2 hE3 hA
    go_wp2
    refine bodyPost_ret (v := .agg #[.bool a3, .int .i64 l3, .int .i64 u3]) (by simp [results, Try.results71, go_sem, k0, k1, k2]) rfl ⟨_, _, _, rfl, hbd.1, hbd.2.1, hbd.2.2.1, hbd.2.2.2, hF⟩
  · have ht' : (t == 0) = false := by simp [ht]
    go_wp2_with fail
    refine (l71Word_any r (B + 3) _ hE2.rd (by omega)).mono ?_
    rintro e y3 ⟨s, rfl, s0, s1, hD3⟩
    have hE3 := hE2.trans hD3
    clear hE2 hD3
    go_wp2_with fail
    refine (pick_any r (B + 5) 2 _ hE3.rd (by omega) (by omega)).mono ?_
    rintro e y4 ⟨m, rfl, m0, m1, hD4⟩
    have hE4 := hE3.trans hD4
    clear hE3 hD4
    by_cases hm : m = 0
    · subst hm
      go_wp2_with fail
      refine (pick_any r (B + 6) 5 _ hE4.rd (by omega) (by omega)).mono ?_
      rintro e y5 ⟨n, rfl, n0, n1, hD5⟩
      have hE5 := hE4.trans hD5
      clear hE4 hD5
      go_wp2_with fail
      all_goals
        refine (l1Of_any _ _ _).mono ?_
        rintro e y6 ⟨hs, hb⟩
        obtain ⟨a3, l3, u3, hx3, rfl⟩ := hs.out
        have hE6 := hE5.more hb hE5.size (by simp; omega)
        obtain ⟨k0, k1, k2, j0, j1, j2⟩ := q_cells hE6 (by simp) (by omega) HQ.out.1 HQ.out.2.1 HQ.out.2.2.1 HQ.out.2.2.2.1 HQ.out.2.2.2.2.1 HQ.out.2.2.2.2.2
        have hbd := mk_bd hx3.out (by omega) (by omega) (by omega) (by omega)
        have hF := (((hA.trans hE6).set3 (v0 := .bool a3) (v1 := .int .i64 l3) (v2 := .int .i64 u3) (Nat.le_refl x.heap.size) hr))
        clear hs hb hE5 hE6 hA
        go_wp2
        refine bodyPost_ret (v := .agg #[.bool a3, .int .i64 l3, .int .i64 u3]) (by simp [results, Try.results71, go_sem, k0, k1, k2]) rfl ⟨_, _, _, rfl, hbd.1, hbd.2.1, hbd.2.2.1, hbd.2.2.2, hF⟩
    · have hm' : (m == 0) = false := by simp [hm]
      go_wp2_with fail
      all_goals
        refine (l1Of_any _ _ _).mono ?_
        rintro e y6 ⟨hs, hb⟩
        obtain ⟨a3, l3, u3, hx3, rfl⟩ := hs.out
        have hE6 := hE4.more hb hE4.size (by simp; omega)
        obtain ⟨k0, k1, k2, j0, j1, j2⟩ := q_cells hE6 (by simp) (by omega) HQ.out.1 HQ.out.2.1 HQ.out.2.2.1 HQ.out.2.2.2.1 HQ.out.2.2.2.2.1 HQ.out.2.2.2.2.2
        have hbd := mk_bd hx3.out (by omega) (by omega) (by omega) (by omega)
        have hF := (((hA.trans hE6).set3 (v0 := .bool a3) (v1 := .int .i64 l3) (v2 := .int .i64 u3) (Nat.le_refl x.heap.size) hr).le (by omega : B + 5 + 1 ≤ B + 7))
        clear hs hb hE4 hE6 hA
        go_wp2
        refine bodyPost_ret (v := .agg #[.bool a3, .int .i64 l3, .int .i64 u3]) (by simp [results, Try.results71, go_sem, k0, k1, k2]) rfl ⟨_, _, _, rfl, hbd.1, hbd.2.1, hbd.2.2.1, hbd.2.2.2, hF⟩

set_option maxHeartbeats 2000000 in
theorem l71Span_any (r B : Nat) (x : World) (h : Rd x r B) (hB : B ≤ 70000) :
    Calls Try.prog 47 #[.pointer (some ⟨r, 0, none⟩)] x fun e y => GotSp r (B + 8) x e y := by
  have hr := h.lt
  have hA := drawn_alloc (.cells #[.bool false, .int .i64 0, .int .i64 0] 24) h
  have hq0 : (x.alloc (.cells #[.bool false, .int .i64 0, .int .i64 0] 24)).cell? ⟨x.heap.size, 0, none⟩ = some (.bool false) ∧ (x.alloc (.cells #[.bool false, .int .i64 0, .int .i64 0] 24)).cell? ⟨x.heap.size, 1, none⟩ = some (.int .i64 0) ∧ (x.alloc (.cells #[.bool false, .int .i64 0, .int .i64 0] 24)).cell? ⟨x.heap.size, 2, none⟩ = some (.int .i64 0) ∧ (x.alloc (.cells #[.bool false, .int .i64 0, .int .i64 0] 24)).frozen? ⟨x.heap.size, 0, none⟩ = false ∧ (x.alloc (.cells #[.bool false, .int .i64 0, .int .i64 0] 24)).frozen? ⟨x.heap.size, 1, none⟩ = false ∧ (x.alloc (.cells #[.bool false, .int .i64 0, .int .i64 0] 24)).frozen? ⟨x.heap.size, 2, none⟩ = false := by simp [go_sem]
  have HQ : Hid ((x.alloc (.cells #[.bool false, .int .i64 0, .int .i64 0] 24)).cell? ⟨x.heap.size, 0, none⟩ = some (.bool false) ∧ (x.alloc (.cells #[.bool false, .int .i64 0, .int .i64 0] 24)).cell? ⟨x.heap.size, 1, none⟩ = some (.int .i64 0) ∧ (x.alloc (.cells #[.bool false, .int .i64 0, .int .i64 0] 24)).cell? ⟨x.heap.size, 2, none⟩ = some (.int .i64 0) ∧ (x.alloc (.cells #[.bool false, .int .i64 0, .int .i64 0] 24)).frozen? ⟨x.heap.size, 0, none⟩ = false ∧ (x.alloc (.cells #[.bool false, .int .i64 0, .int .i64 0] 24)).frozen? ⟨x.heap.size, 1, none⟩ = false ∧ (x.alloc (.cells #[.bool false, .int .i64 0, .int .i64 0] 24)).frozen? ⟨x.heap.size, 2, none⟩ = false) := hq0
  clear hq0
  go_enter Try.func47, Try.ntmps47
  go_wp2_with fail
  refine (pick_any r B 24 _ hA.rd (by omega) (by omega)).mono ?_
  rintro e y1 ⟨t, rfl, t0, t1, hD1⟩
  by_cases ht : t = 0
  · subst ht
    obtain ⟨k0, k1, k2, j0, j1, j2⟩ := q_cells hD1 (by simp) (by omega) HQ.out.1 HQ.out.2.1 HQ.out.2.2.1 HQ.out.2.2.2.1 HQ.out.2.2.2.2.1 HQ.out.2.2.2.2.2
    have hF := (((hA.trans hD1).set3 (v0 := .bool false) (v1 := .int .i64 0) (v2 := .int .i64 0) (Nat.le_refl x.heap.size) hr).le (by omega : B + 1 ≤ B + 8))
    clear hD1 hA
    go_wp2
    refine bodyPost_ret (v := .agg #[.bool false, .int .i64 0, .int .i64 0]) (by simp [results, Try.results47, go_sem, k0, k1, k2]) rfl ⟨_, _, _, rfl, by omega, by omega, by omega, by omega, hF⟩
  · have ht' : (t == 0) = false := by simp [ht]
    by_cases hu : t = 1
    · subst hu
      go_wp2_with fail
      refine (pick_any r (B + 1) 4 _ (drawn_alloc _ hD1.rd).rd (by omega) (by omega)).mono ?_
      rintro e y2 ⟨m, rfl, m0, m1, hD2⟩
      have hne : y1.heap.size ≠ r := by have := hD1.rd.lt; omega
      have z00 := (hD2.cell y1.heap.size 0 hne (by simp)).trans (show _ = some (.bool false) by simp [go_sem])
      have z01 := (hD2.cell y1.heap.size 1 hne (by simp)).trans (show _ = some (.int .i64 1) by simp [go_sem])
      have z02 := (hD2.cell y1.heap.size 2 hne (by simp)).trans (show _ = some (.int .i64 0) by simp [go_sem])
      have z10 := (hD2.cell y1.heap.size 3 hne (by simp)).trans (show _ = some (.bool true) by simp [go_sem])
      have z11 := (hD2.cell y1.heap.size 4 hne (by simp)).trans (show _ = some (.int .i64 2) by simp [go_sem])
      have z12 := (hD2.cell y1.heap.size 5 hne (by simp)).trans (show _ = some (.int .i64 1) by simp [go_sem])
      have z20 := (hD2.cell y1.heap.size 6 hne (by simp)).trans (show _ = some (.bool true) by simp [go_sem])
      have z21 := (hD2.cell y1.heap.size 7 hne (by simp)).trans (show _ = some (.int .i64 (-17)) by simp [go_sem])
      have z22 := (hD2.cell y1.heap.size 8 hne (by simp)).trans (show _ = some (.int .i64 0) by simp [go_sem])
      have z30 := (hD2.cell y1.heap.size 9 hne (by simp)).trans (show _ = some (.bool true) by simp [go_sem])
      have z31 := (hD2.cell y1.heap.size 10 hne (by simp)).trans (show _ = some (.int .i64 0) by simp [go_sem])
      have z32 := (hD2.cell y1.heap.size 11 hne (by simp)).trans (show _ = some (.int .i64 16) by simp [go_sem])
      have hE2 := (hD1.trans (drawn_alloc _ hD1.rd)).trans hD2
      obtain ⟨k0, k1, k2, j0, j1, j2⟩ := q_cells hE2 (by simp) (by omega) HQ.out.1 HQ.out.2.1 HQ.out.2.2.1 HQ.out.2.2.2.1 HQ.out.2.2.2.2.1 HQ.out.2.2.2.2.2
      have hG := hA.trans hE2
      clear hD1 hD2 hE2 hA
      obtain rfl | rfl | rfl | rfl : m = 0 ∨ m = 1 ∨ m = 2 ∨ m = 3 := by omega
      · go_wp2
        refine bodyPost_ret (v := .agg #[.bool false, .int .i64 1, .int .i64 0]) (by simp [results, Try.results47, go_sem, k0, k1, k2]) rfl ⟨_, _, _, rfl, by omega, by omega, by omega, by omega, (hG.set3 (v0 := .bool false) (v1 := .int .i64 1) (v2 := .int .i64 0) (Nat.le_refl x.heap.size) hr).le (by omega : B + 1 + 1 ≤ B + 8)⟩
      · go_wp2
        refine bodyPost_ret (v := .agg #[.bool true, .int .i64 2, .int .i64 1]) (by simp [results, Try.results47, go_sem, k0, k1, k2]) rfl ⟨_, _, _, rfl, by omega, by omega, by omega, by omega, (hG.set3 (v0 := .bool true) (v1 := .int .i64 2) (v2 := .int .i64 1) (Nat.le_refl x.heap.size) hr).le (by omega : B + 1 + 1 ≤ B + 8)⟩
      · go_wp2
        refine bodyPost_ret (v := .agg #[.bool true, .int .i64 (-17), .int .i64 0]) (by simp [results, Try.results47, go_sem, k0, k1, k2]) rfl ⟨_, _, _, rfl, by omega, by omega, by omega, by omega, (hG.set3 (v0 := .bool true) (v1 := .int .i64 (-17)) (v2 := .int .i64 0) (Nat.le_refl x.heap.size) hr).le (by omega : B + 1 + 1 ≤ B + 8)⟩
      · go_wp2
        refine bodyPost_ret (v := .agg #[.bool true, .int .i64 0, .int .i64 16]) (by simp [results, Try.results47, go_sem, k0, k1, k2]) rfl ⟨_, _, _, rfl, by omega, by omega, by omega, by omega, (hG.set3 (v0 := .bool true) (v1 := .int .i64 0) (v2 := .int .i64 16) (Nat.le_refl x.heap.size) hr).le (by omega : B + 1 + 1 ≤ B + 8)⟩
    · have hu' : (t == 1) = false := by simp [hu]
      go_wp2_with fail
      refine (l71Some_any r (B + 1) _ hD1.rd (by omega)).mono ?_
      rintro e y2 hg
      obtain ⟨a3, l3, u3, rfl, b0, b1, b2, b3, hD2⟩ := hg.it
      have hE2 := hD1.trans hD2
      obtain ⟨k0, k1, k2, j0, j1, j2⟩ := q_cells hE2 (by simp) (by omega) HQ.out.1 HQ.out.2.1 HQ.out.2.2.1 HQ.out.2.2.2.1 HQ.out.2.2.2.2.1 HQ.out.2.2.2.2.2
      have hF := ((hA.trans hE2).set3 (v0 := .bool a3) (v1 := .int .i64 l3) (v2 := .int .i64 u3) (Nat.le_refl x.heap.size) hr)
      clear hg hD1 hD2 hE2 hA
      go_wp2
      refine bodyPost_ret (v := .agg #[.bool a3, .int .i64 l3, .int .i64 u3]) (by simp [results, Try.results47, go_sem, k0, k1, k2]) rfl ⟨_, _, _, rfl, b0, b1, b2, b3, (hF.le (by omega : B + 1 + 7 ≤ B + 8))⟩

/-- two drawn spans -/
structure GotTwo (w : World) (e : Ending) (y : World) : Prop where
  it : ∃ a l u b m v, e = .returned (.tuple #[.agg #[.bool a, .int .i64 l, .int .i64 u], .agg #[.bool b, .int .i64 m, .int .i64 v]]) ∧ -17 ≤ l ∧ l ≤ 16 ∧ -17 ≤ u ∧ u ≤ 16 ∧ -17 ≤ m ∧ m ≤ 16 ∧ -17 ≤ v ∧ v ≤ 16 ∧ Below w.heap.size w y

set_option maxHeartbeats 2000000 in
theorem drawSpanJoin_any (a : Option Addr) (len cap : Nat) (zs : List Int) (w : World) (h : IsRow w a len cap zs) :
    Calls Try.prog 15 #[.slice a len cap] w fun e y => GotTwo w e y := by
  have hb0 : Below w.heap.size w ((w.alloc (.cells #[.bool false, .int .i64 0, .int .i64 0] 24)).alloc (.cells #[.bool false, .int .i64 0, .int .i64 0] 24)) := by go_grown
  have h' := IsRow.later h hb0
  go_enter Try.func15, Try.ntmps15
  go_wp2_with fail
  refine (open_any a len cap zs _ h').mono ?_
  rintro e x ⟨rfl, hR, hb⟩
  have c0 := (hb.cell (p := ⟨w.heap.size, 0, none⟩) (by go_size)).trans (show _ = some (.bool false) by simp [go_sem])
  have c1 := (hb.cell (p := ⟨w.heap.size, 1, none⟩) (by go_size)).trans (show _ = some (.int .i64 0) by simp [go_sem])
  have c2 := (hb.cell (p := ⟨w.heap.size, 2, none⟩) (by go_size)).trans (show _ = some (.int .i64 0) by simp [go_sem])
  have d0 := (hb.cell (p := ⟨w.heap.size + 1, 0, none⟩) (by go_size)).trans (show _ = some (.bool false) by simp [go_sem])
  have d1 := (hb.cell (p := ⟨w.heap.size + 1, 1, none⟩) (by go_size)).trans (show _ = some (.int .i64 0) by simp [go_sem])
  have d2 := (hb.cell (p := ⟨w.heap.size + 1, 2, none⟩) (by go_size)).trans (show _ = some (.int .i64 0) by simp [go_sem])
  have f0 := (hb.frozen (p := ⟨w.heap.size, 0, none⟩) (by go_size)).trans (show _ = false by simp [go_sem])
  have f1 := (hb.frozen (p := ⟨w.heap.size, 1, none⟩) (by go_size)).trans (show _ = false by simp [go_sem])
  have f2 := (hb.frozen (p := ⟨w.heap.size, 2, none⟩) (by go_size)).trans (show _ = false by simp [go_sem])
  have g0 := (hb.frozen (p := ⟨w.heap.size + 1, 0, none⟩) (by go_size)).trans (show _ = false by simp [go_sem])
  have g1 := (hb.frozen (p := ⟨w.heap.size + 1, 1, none⟩) (by go_size)).trans (show _ = false by simp [go_sem])
  have g2 := (hb.frozen (p := ⟨w.heap.size + 1, 2, none⟩) (by go_size)).trans (show _ = false by simp [go_sem])
  have hrn : ((w.alloc (.cells #[.bool false, .int .i64 0, .int .i64 0] 24)).alloc (.cells #[.bool false, .int .i64 0, .int .i64 0] 24)).heap.size = w.heap.size + 1 + 1 := by simp
  have hB := hb0.trans (hb.mono (by go_size))
  rw [hrn] at hR
  rw [hrn]
  have hrx := hR.lt
  clear hb hrn hb0 h h'
  go_wp2_with fail
  refine (l71Span_any (w.heap.size + 1 + 1) 0 _ hR (by omega)).mono ?_
  rintro e y1 hg1
  obtain ⟨a1, l1, u1, rfl, b10, b11, b12, b13, hD1⟩ := hg1.it
  clear hg1
  go_wp2_with fail
  refine (l71Span_any (w.heap.size + 1 + 1) (0 + 8) _ hD1.rd (by omega)).mono ?_
  rintro e y2 hg2
  obtain ⟨a2, l2, u2, rfl, b20, b21, b22, b23, hD2⟩ := hg2.it
  have hE := hD1.trans hD2
  obtain ⟨c0', c1', c2', f0', f1', f2'⟩ := q_cells hE (q := w.heap.size) (by omega) (by omega) c0 c1 c2 f0 f1 f2
  obtain ⟨d0', d1', d2', g0', g1', g2'⟩ := q_cells hE (q := w.heap.size + 1) (by omega) (by omega) d0 d1 d2 g0 g1 g2
  have hF : Below w.heap.size w y2 := hB.trans (hE.below.mono (by omega))
  clear hg2 hD1 hD2 hE hR hB c0 c1 c2 d0 d1 d2 f0 f1 f2 g0 g1 g2
  go_wp2
  refine bodyPost_ret (v := .tuple #[.agg #[.bool a1, .int .i64 l1, .int .i64 u1], .agg #[.bool a2, .int .i64 l2, .int .i64 u2]]) (by simp [results, Try.results15, go_sem, c0', c1', c2', d0', d1', d2']) rfl ⟨_, _, _, _, _, _, rfl, b10, b11, b12, b13, b20, b21, b22, b23, ?_⟩
  go_grown

set_option maxHeartbeats 2000000 in
theorem drawSpanWide_any (a : Option Addr) (len cap : Nat) (zs : List Int) (w : World) (h : IsRow w a len cap zs) :
    Calls Try.prog 20 #[.slice a len cap] w fun e y => GotTwo w e y := by
  have hb0 : Below w.heap.size w ((w.alloc (.cells #[.bool false, .int .i64 0, .int .i64 0] 24)).alloc (.cells #[.bool false, .int .i64 0, .int .i64 0] 24)) := by go_grown
  have h' := IsRow.later h hb0
  go_enter Try.func20, Try.ntmps20
  go_wp2_with fail
  refine (open_any a len cap zs _ h').mono ?_
  rintro e x ⟨rfl, hR, hb⟩
  have c0 := (hb.cell (p := ⟨w.heap.size, 0, none⟩) (by go_size)).trans (show _ = some (.bool false) by simp [go_sem])
  have c1 := (hb.cell (p := ⟨w.heap.size, 1, none⟩) (by go_size)).trans (show _ = some (.int .i64 0) by simp [go_sem])
  have c2 := (hb.cell (p := ⟨w.heap.size, 2, none⟩) (by go_size)).trans (show _ = some (.int .i64 0) by simp [go_sem])
  have d0 := (hb.cell (p := ⟨w.heap.size + 1, 0, none⟩) (by go_size)).trans (show _ = some (.bool false) by simp [go_sem])
  have d1 := (hb.cell (p := ⟨w.heap.size + 1, 1, none⟩) (by go_size)).trans (show _ = some (.int .i64 0) by simp [go_sem])
  have d2 := (hb.cell (p := ⟨w.heap.size + 1, 2, none⟩) (by go_size)).trans (show _ = some (.int .i64 0) by simp [go_sem])
  have f0 := (hb.frozen (p := ⟨w.heap.size, 0, none⟩) (by go_size)).trans (show _ = false by simp [go_sem])
  have f1 := (hb.frozen (p := ⟨w.heap.size, 1, none⟩) (by go_size)).trans (show _ = false by simp [go_sem])
  have f2 := (hb.frozen (p := ⟨w.heap.size, 2, none⟩) (by go_size)).trans (show _ = false by simp [go_sem])
  have g0 := (hb.frozen (p := ⟨w.heap.size + 1, 0, none⟩) (by go_size)).trans (show _ = false by simp [go_sem])
  have g1 := (hb.frozen (p := ⟨w.heap.size + 1, 1, none⟩) (by go_size)).trans (show _ = false by simp [go_sem])
  have g2 := (hb.frozen (p := ⟨w.heap.size + 1, 2, none⟩) (by go_size)).trans (show _ = false by simp [go_sem])
  have hrn : ((w.alloc (.cells #[.bool false, .int .i64 0, .int .i64 0] 24)).alloc (.cells #[.bool false, .int .i64 0, .int .i64 0] 24)).heap.size = w.heap.size + 1 + 1 := by simp
  have hB := hb0.trans (hb.mono (by go_size))
  rw [hrn] at hR
  rw [hrn]
  have hrx := hR.lt
  clear hb hrn hb0 h h'
  go_wp2_with fail
  refine (l71Span_any (w.heap.size + 1 + 1) 0 _ hR (by omega)).mono ?_
  rintro e y1 hg1
  obtain ⟨a1, l1, u1, rfl, b10, b11, b12, b13, hD1⟩ := hg1.it
  clear hg1
  go_wp2_with fail
  refine (l71Span_any (w.heap.size + 1 + 1) (0 + 8) _ hD1.rd (by omega)).mono ?_
  rintro e y2 hg2
  obtain ⟨a2, l2, u2, rfl, b20, b21, b22, b23, hD2⟩ := hg2.it
  have hE := hD1.trans hD2
  obtain ⟨c0', c1', c2', f0', f1', f2'⟩ := q_cells hE (q := w.heap.size) (by omega) (by omega) c0 c1 c2 f0 f1 f2
  obtain ⟨d0', d1', d2', g0', g1', g2'⟩ := q_cells hE (q := w.heap.size + 1) (by omega) (by omega) d0 d1 d2 g0 g1 g2
  have hF : Below w.heap.size w y2 := hB.trans (hE.below.mono (by omega))
  clear hg2 hD1 hD2 hE hR hB c0 c1 c2 d0 d1 d2 f0 f1 f2 g0 g1 g2
  go_wp2
  refine bodyPost_ret (v := .tuple #[.agg #[.bool a1, .int .i64 l1, .int .i64 u1], .agg #[.bool a2, .int .i64 l2, .int .i64 u2]]) (by simp [results, Try.results20, go_sem, c0', c1', c2', d0', d1', d2']) rfl ⟨_, _, _, _, _, _, rfl, b10, b11, b12, b13, b20, b21, b22, b23, ?_⟩
  go_grown

end Go.Proofs.Ytlnfjjciilieeaa
