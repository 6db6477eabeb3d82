/-
  The contracts of the draws of spans: each hands back a span whose ends are small and turns nothing but its reader.
-/
import Derived.Test.YtbmjjmbimfdkoaaDraw
import Derived.Test.YtbmjjmbimfdkoaaSpan
namespace Go.Proofs.Ytbmjjmbimfdkoaa
open Go.RowKit
set_option linter.unusedVariables false
set_option linter.unusedSimpArgs false

theorem rd_below {r B q : Nat} {x y : World} (h : Rd x r B) (hb : Below q x y) (hq : r < q) : Rd y r B := by
  have hr := h.lt
  obtain ⟨a, len, cap, p, c0, c1, p0, p1, hl, hf, _, hrow⟩ := h.it
  have hz := hb.size
  refine ⟨a, len, cap, p, ?_, ?_, p0, p1, hl, ?_, by omega, ?_⟩
  · exact (hb.cell (p := ⟨r, 0, none⟩) hq).trans c0
  · exact (hb.cell (p := ⟨r, 1, none⟩) hq).trans c1
  · exact (hb.frozen (p := ⟨r, 1, none⟩) hq).trans hf
  · rcases hrow with h0 | ⟨b, off, zs, e, hlt, hz', hcell⟩
    · exact .inl h0
    · refine .inr ⟨b, off, zs, e, hlt, hz', fun j hj => ?_⟩
      obtain ⟨e1, e2, e3⟩ := hcell j hj
      exact ⟨(hb.cell (p := ⟨b, off + j, none⟩) (Nat.lt_trans hlt hq)).trans e1, e2, e3⟩
/-- what is done above the first world's blocks leaves what is said of a draw -/
theorem Drawn.more {r B q : Nat} {x y z : World} (h : Drawn r B x y) (hb : Below q y z) (hq : x.heap.size ≤ q) (hr : r < x.heap.size) : Drawn r B x z :=
  ⟨Nat.le_trans h.size hb.size, fun b o hne hl => (hb.cell (p := ⟨b, o, none⟩) (Nat.lt_of_lt_of_le hl hq)).trans (h.cell b o hne hl), fun b o hne hl => (hb.frozen (p := ⟨b, o, none⟩) (Nat.lt_of_lt_of_le hl hq)).trans (h.frozen b o hne hl), h.below.trans (hb.mono (by omega)), rd_below h.rd hb (by omega), fun b hne hl => (hb.block b (Nat.lt_of_lt_of_le hl hq)).trans (h.blk b hne hl)⟩
theorem Drawn.set3 {r B q : Nat} {x y : World} {v0 v1 v2 : Value} (h : Drawn r B x y) (hq : x.heap.size ≤ q) (hr : r < x.heap.size) : Drawn r B x (((y.setCell ⟨q, 0, none⟩ v0).setCell ⟨q, 1, none⟩ v1).setCell ⟨q, 2, none⟩ v2) :=
  h.more ((((Below.refl q y).setCell (p := ⟨q, 0, none⟩) (Nat.le_refl _) _).setCell (p := ⟨q, 1, none⟩) (Nat.le_refl _) _).setCell (p := ⟨q, 2, none⟩) (Nat.le_refl _) _) hq hr
theorem drawn_first {r B : Nat} {x : World} (h : Rd x r B) : Drawn r B x x := ⟨Nat.le_refl _, fun _ _ _ _ => rfl, fun _ _ _ _ => rfl, Below.refl _ _, h, fun _ _ _ => rfl⟩

/-- a drawn span -/
structure GotSp (r B : Nat) (x : World) (e : Ending) (y : World) : Prop where
  it : ∃ a l u, e = .returned (.agg #[.bool a, .int .i64 l, .int .i64 u]) ∧ -17 ≤ l ∧ l ≤ 16 ∧ -17 ≤ u ∧ u ≤ 16 ∧ Drawn r B x y
theorem mk_bd {x y : Int} {a : Bool} {l u : Int} (h : mkF x y = (a, l, u)) (x0 : -16 ≤ x) (x1 : x ≤ 15) (y0 : -16 ≤ y) (y1 : y ≤ 15) : -17 ≤ l ∧ l ≤ 16 ∧ -17 ≤ u ∧ u ≤ 16 := by
  unfold mkF at h
  split at h
  · simp [noSp] at h; omega
  · simp at h; omega
/-- the three cells of the result's block, which a draw leaves -/
theorem q_cells {r B : Nat} {X y : World} {q : Nat} (h : Drawn r B X y) (hq : q < X.heap.size) (hr : q ≠ r) {v0 v1 v2 : Value} (c0 : X.cell? ⟨q, 0, none⟩ = some v0) (c1 : X.cell? ⟨q, 1, none⟩ = some v1) (c2 : X.cell? ⟨q, 2, none⟩ = some v2) (f0 : X.frozen? ⟨q, 0, none⟩ = false) (f1 : X.frozen? ⟨q, 1, none⟩ = false) (f2 : X.frozen? ⟨q, 2, none⟩ = false) :
    y.cell? ⟨q, 0, none⟩ = some v0 ∧ y.cell? ⟨q, 1, none⟩ = some v1 ∧ y.cell? ⟨q, 2, none⟩ = some v2 ∧ y.frozen? ⟨q, 0, none⟩ = false ∧ y.frozen? ⟨q, 1, none⟩ = false ∧ y.frozen? ⟨q, 2, none⟩ = false :=
  ⟨(h.cell q 0 hr hq).trans c0, (h.cell q 1 hr hq).trans c1, (h.cell q 2 hr hq).trans c2, (h.frozen q 0 hr hq).trans f0, (h.frozen q 1 hr hq).trans f1, (h.frozen q 2 hr hq).trans f2⟩

set_option maxHeartbeats 2000000 in
theorem l71Some_any (r B : Nat) (x : World) (h : Rd x r B) (hB : B ≤ 80000) :
    Calls Try.prog 82 #[.pointer (some ⟨r, 0, none⟩)] x fun e y => GotSp r (B + 7) x e y := by
  have hr := h.lt
  have hA := drawn_alloc (.cells #[.bool false, .int .i64 0, .int .i64 0] 30) h
  have hq0 : (x.alloc (.cells #[.bool false, .int .i64 0, .int .i64 0] 30)).cell? ⟨x.heap.size, 0, none⟩ = some (.bool false) ∧ (x.alloc (.cells #[.bool false, .int .i64 0, .int .i64 0] 30)).cell? ⟨x.heap.size, 1, none⟩ = some (.int .i64 0) ∧ (x.alloc (.cells #[.bool false, .int .i64 0, .int .i64 0] 30)).cell? ⟨x.heap.size, 2, none⟩ = some (.int .i64 0) ∧ (x.alloc (.cells #[.bool false, .int .i64 0, .int .i64 0] 30)).frozen? ⟨x.heap.size, 0, none⟩ = false ∧ (x.alloc (.cells #[.bool false, .int .i64 0, .int .i64 0] 30)).frozen? ⟨x.heap.size, 1, none⟩ = false ∧ (x.alloc (.cells #[.bool false, .int .i64 0, .int .i64 0] 30)).frozen? ⟨x.heap.size, 2, none⟩ = false := by simp [go_sem]
  have HQ : Hid ((x.alloc (.cells #[.bool false, .int .i64 0, .int .i64 0] 30)).cell? ⟨x.heap.size, 0, none⟩ = some (.bool false) ∧ (x.alloc (.cells #[.bool false, .int .i64 0, .int .i64 0] 30)).cell? ⟨x.heap.size, 1, none⟩ = some (.int .i64 0) ∧ (x.alloc (.cells #[.bool false, .int .i64 0, .int .i64 0] 30)).cell? ⟨x.heap.size, 2, none⟩ = some (.int .i64 0) ∧ (x.alloc (.cells #[.bool false, .int .i64 0, .int .i64 0] 30)).frozen? ⟨x.heap.size, 0, none⟩ = false ∧ (x.alloc (.cells #[.bool false, .int .i64 0, .int .i64 0] 30)).frozen? ⟨x.heap.size, 1, none⟩ = false ∧ (x.alloc (.cells #[.bool false, .int .i64 0, .int .i64 0] 30)).frozen? ⟨x.heap.size, 2, none⟩ = false) := hq0
  clear hq0
  go_enter Try.func82, Try.ntmps82
  go_wp2_with fail
  refine (l71Word_any r B _ hA.rd (by omega)).mono ?_
  rintro e y1 ⟨v, rfl, v0, v1, hD1⟩
  go_wp2_with fail
  refine (pick_any r (B + 2) 4 _ hD1.rd (by omega) (by omega)).mono ?_
  rintro e y2 ⟨t, rfl, t0, t1, hD2⟩
  have hE2 := hD1.trans hD2
  clear hD1 hD2
  by_cases ht : t = 0
  · subst ht
    go_wp2_with fail
    refine (l1Of_any v v _).mono ?_
    rintro e y3 ⟨hs, hb⟩
    obtain ⟨a3, l3, u3, hx3, rfl⟩ := hs.out
    have hE3 := hE2.more hb hE2.size (by simp; omega)
    obtain ⟨k0, k1, k2, j0, j1, j2⟩ := q_cells hE3 (by simp) (by omega) HQ.out.1 HQ.out.2.1 HQ.out.2.2.1 HQ.out.2.2.2.1 HQ.out.2.2.2.2.1 HQ.out.2.2.2.2.2
    have hbd := mk_bd hx3.out v0 v1 v0 v1
    have hF := (((hA.trans hE3).set3 (v0 := .bool a3) (v1 := .int .i64 l3) (v2 := .int .i64 u3) (Nat.le_refl x.heap.size) hr).le (by omega : B + 2 + 1 ≤ B + 7))
    clear hs hb hE2 hE3 hA
    go_wp2
    refine bodyPost_ret (v := .agg #[.bool a3, .int .i64 l3, .int .i64 u3]) (by simp [results, Try.results82, go_sem, k0, k1, k2]) rfl ⟨_, _, _, rfl, hbd.1, hbd.2.1, hbd.2.2.1, hbd.2.2.2, hF⟩
  · have ht' : (t == 0) = false := by simp [ht]
    go_wp2_with fail
    refine (l71Word_any r (B + 3) _ hE2.rd (by omega)).mono ?_
    rintro e y3 ⟨s, rfl, s0, s1, hD3⟩
    have hE3 := hE2.trans hD3
    clear hE2 hD3
    go_wp2_with fail
    refine (pick_any r (B + 5) 2 _ hE3.rd (by omega) (by omega)).mono ?_
    rintro e y4 ⟨m, rfl, m0, m1, hD4⟩
    have hE4 := hE3.trans hD4
    clear hE3 hD4
    by_cases hm : m = 0
    · subst hm
      go_wp2_with fail
      refine (pick_any r (B + 6) 5 _ hE4.rd (by omega) (by omega)).mono ?_
      rintro e y5 ⟨n, rfl, n0, n1, hD5⟩
      have hE5 := hE4.trans hD5
      clear hE4 hD5
      go_wp2_with fail
      all_goals
        refine (l1Of_any _ _ _).mono ?_
        rintro e y6 ⟨hs, hb⟩
        obtain ⟨a3, l3, u3, hx3, rfl⟩ := hs.out
        have hE6 := hE5.more hb hE5.size (by simp; omega)
        obtain ⟨k0, k1, k2, j0, j1, j2⟩ := q_cells hE6 (by simp) (by omega) HQ.out.1 HQ.out.2.1 HQ.out.2.2.1 HQ.out.2.2.2.1 HQ.out.2.2.2.2.1 HQ.out.2.2.2.2.2
        have hbd := mk_bd hx3.out (by omega) (by omega) (by omega) (by omega)
        have hF := (((hA.trans hE6).set3 (v0 := .bool a3) (v1 := .int .i64 l3) (v2 := .int .i64 u3) (Nat.le_refl x.heap.size) hr))
        clear hs hb hE5 hE6 hA
        go_wp2
        refine bodyPost_ret (v := .agg #[.bool a3, .int .i64 l3, .int .i64 u3]) (by simp [results, Try.results82, go_sem, k0, k1, k2]) rfl ⟨_, _, _, rfl, hbd.1, hbd.2.1, hbd.2.2.1, hbd.2.2.2, hF⟩
    · have hm' : (m == 0) = false := by simp [hm]
      go_wp2_with fail
      all_goals
        refine (l1Of_any _ _ _).mono ?_
        rintro e y6 ⟨hs, hb⟩
        obtain ⟨a3, l3, u3, hx3, rfl⟩ := hs.out
        have hE6 := hE4.more hb hE4.size (by simp; omega)
        obtain ⟨k0, k1, k2, j0, j1, j2⟩ := q_cells hE6 (by simp) (by omega) HQ.out.1 HQ.out.2.1 HQ.out.2.2.1 HQ.out.2.2.2.1 HQ.out.2.2.2.2.1 HQ.out.2.2.2.2.2
        have hbd := mk_bd hx3.out (by omega) (by omega) (by omega) (by omega)
        have hF := (((hA.trans hE6).set3 (v0 := .bool a3) (v1 := .int .i64 l3) (v2 := .int .i64 u3) (Nat.le_refl x.heap.size) hr).le (by omega : B + 5 + 1 ≤ B + 7))
        clear hs hb hE4 hE6 hA
        go_wp2
        refine bodyPost_ret (v := .agg #[.bool a3, .int .i64 l3, .int .i64 u3]) (by simp [results, Try.results82, go_sem, k0, k1, k2]) rfl ⟨_, _, _, rfl, hbd.1, hbd.2.1, hbd.2.2.1, hbd.2.2.2, hF⟩

/-- two drawn spans -/
structure GotTwo (w : World) (e : Ending) (y : World) : Prop where
  it : ∃ a l u b m v, e = .returned (.tuple #[.agg #[.bool a, .int .i64 l, .int .i64 u], .agg #[.bool b, .int .i64 m, .int .i64 v]]) ∧ -17 ≤ l ∧ l ≤ 16 ∧ -17 ≤ u ∧ u ≤ 16 ∧ -17 ≤ m ∧ m ≤ 16 ∧ -17 ≤ v ∧ v ≤ 16 ∧ Below w.heap.size w y

end Go.Proofs.Ytbmjjmbimfdkoaa
