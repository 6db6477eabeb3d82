import Derived.Test.YtdomalclpjijaaaB30
import Derived.Test.YtdomalclpjijaaaB4
/-
  The contracts of the draws of an operation and of words: each hands back a number in its range and turns nothing but its reader.
-/
namespace Go.Proofs.Ytdomalclpjijaaa
open Go.RowKit
set_option linter.unusedVariables false
set_option linter.unusedSimpArgs false

theorem IsRow.later {w x : World} {a : Option Addr} {len cap : Nat} {zs : List Int} (h : IsRow w a len cap zs) (hb : Below w.heap.size w x) : IsRow x a len cap zs := by
  rcases h with h | ⟨p, e, hl, hm, hz, hcell, hwz⟩
  · exact .inl h
  · refine .inr ⟨p, e, hl, hm, hz, fun i hi => ?_, hwz⟩
    have hc := hcell i hi
    exact (hb.cell (World.block_lt_of_cell? w _ hc)).trans hc

/-- a row of at most 2000 bytes -/
theorem rd_of (w : World) (a : Option Addr) (len cap : Nat) (zs : List Int) (n : Nat) (h : IsRow w a len cap zs) (hn : n ≤ len) (hn2 : n ≤ 2000) :
    Rd (w.alloc (.cells #[.slice a n cap, .int .i64 0] 72)) w.heap.size 0 := by
  refine ⟨a, n, cap, 0, by simp [go_sem], by simp [go_sem], by omega, by omega, hn2, by simp [go_sem], by simp, ?_⟩
  by_cases h0 : n = 0
  · exact .inl h0
  rcases h with ⟨rfl, rfl, rfl, rfl⟩ | ⟨x, rfl, hl, hm, hz, hcell, hwz⟩
  · omega
  obtain ⟨b, off, spot⟩ := x
  have hc := hcell 0 (by omega)
  have hspot : spot = none := by simpa [Addr.add] using World.cell?_spot hc
  subst hspot
  have hlt : b < w.heap.size := by have := World.block_lt_of_cell? w ((⟨b, off, none⟩ : Addr).add 0) hc; simpa [Addr.add] using this
  refine .inr ⟨b, off, zs, rfl, hlt, by omega, fun j hj => ?_⟩
  have hcj := hcell j (by omega)
  have hw := bounds_u8 (hwz (zs.getD j 0) (by rw [List.getD_eq_getElem?_getD, List.getElem?_eq_getElem (by omega)]; exact List.getElem_mem _))
  refine ⟨?_, hw.1, hw.2⟩
  have := World.cell?_alloc_lt (w := w) (o := .cells #[.slice (some ⟨b, off, none⟩) n cap, .int .i64 0] 72) (a := ⟨b, off + j, none⟩) hlt
  rw [this]
  by_cases hj0 : j = 0
  · subst hj0; simpa [Addr.add] using hcj
  · simpa [Addr.add, hj0] using hcj

set_option maxHeartbeats 1000000 in
theorem open_any (a : Option Addr) (len cap : Nat) (zs : List Int) (w : World) (h : IsRow w a len cap zs) :
    Calls Try.prog 41 #[.slice a len cap] w fun e y => e = .returned (.pointer (some ⟨w.heap.size, 0, none⟩)) ∧ Rd y w.heap.size 0 ∧ Below w.heap.size w y := by
  have hcap : cap ≤ maxLen := by
    rcases h with ⟨rfl, rfl, rfl, rfl⟩ | ⟨x, rfl, hl, hm, hz, hcell, hwz⟩
    · unfold maxLen; omega
    · exact hm
  have hlc : len ≤ cap := by
    rcases h with ⟨rfl, rfl, rfl, rfl⟩ | ⟨x, rfl, hl, hm, hz, hcell, hwz⟩
    · omega
    · exact hl
  unfold maxLen at hcap
  by_cases h2 : 2000 < len
  · have hR := rd_of w a len cap zs 2000 h (by omega) (by omega)
    rcases h with ⟨rfl, rfl, rfl, rfl⟩ | ⟨x, rfl, hl, hm, hz, hcell, hwz⟩
    · omega
    have hl2 : (2000 : Int) < (len : Int) := by omega
    clear hcell hwz hm
    go_enter Try.func41, Try.ntmps41
    go_wp2
    go_ret
    exact ⟨rfl, hR, by go_grown⟩
  · have hR := rd_of w a len cap zs len h (by omega) (by omega)
    have hl2 : ¬ (2000 : Int) < (len : Int) := by omega
    clear h
    go_enter Try.func41, Try.ntmps41
    go_wp2
    go_ret
    exact ⟨rfl, hR, by go_grown⟩

/-- what two draws behind one another leave -/
theorem Drawn.trans {r B C : Nat} {x y z : World} (h : Drawn r B x y) (k : Drawn r C y z) : Drawn r C x z :=
  ⟨Nat.le_trans h.size k.size, fun b o hb hl => (k.cell b o hb (Nat.lt_of_lt_of_le hl h.size)).trans (h.cell b o hb hl), fun b o hb hl => (k.frozen b o hb (Nat.lt_of_lt_of_le hl h.size)).trans (h.frozen b o hb hl), h.below.trans k.below, k.rd, fun b hb hl => (k.blk b hb (Nat.lt_of_lt_of_le hl h.size)).trans (h.blk b hb hl)⟩
theorem Rd.lt {x : World} {r B : Nat} (h : Rd x r B) : r < x.heap.size := by obtain ⟨a, len, cap, p, c0, c1, p0, p1, hl, hf, hr, hrow⟩ := h.it; exact hr
theorem Rd.le {x : World} {r B C : Nat} (h : Rd x r B) (hc : B ≤ C) : Rd x r C := by
  obtain ⟨a, len, cap, p, c0, c1, p0, p1, hl, hf, hr, hrow⟩ := h.it
  exact ⟨a, len, cap, p, c0, c1, p0, by omega, hl, hf, hr, hrow⟩
theorem Drawn.le {r B C : Nat} {x y : World} (h : Drawn r B x y) (hc : B ≤ C) : Drawn r C x y := ⟨h.size, h.cell, h.frozen, h.below, h.rd.le hc, h.blk⟩
/-- new memory that is laid ahead of a draw -/
theorem drawn_alloc {r B : Nat} {x : World} (o : Obj) (h : Rd x r B) : Drawn r B x (x.alloc o) := by
  have hr := h.lt
  have hb : Below x.heap.size x (x.alloc o) := (Below.refl _ _).alloc (Nat.le_refl _) _
  obtain ⟨a, len, cap, p, c0, c1, p0, p1, hl, hf, _, hrow⟩ := h.it
  refine ⟨by simp, fun b o _ hl => hb.cell (p := ⟨b, o, none⟩) hl, fun b o _ hl => hb.frozen (p := ⟨b, o, none⟩) hl, hb.mono (by omega), ⟨a, len, cap, p, ?_, ?_, p0, p1, hl, ?_, by simp; omega, ?_⟩, fun b _ hl => hb.block b hl⟩
  · exact (hb.cell (p := ⟨r, 0, none⟩) hr).trans c0
  · exact (hb.cell (p := ⟨r, 1, none⟩) hr).trans c1
  · exact (hb.frozen (p := ⟨r, 1, none⟩) hr).trans hf
  · rcases hrow with h0 | ⟨b, off, zs, e, hlt, hz', hcell⟩
    · exact .inl h0
    · refine .inr ⟨b, off, zs, e, hlt, hz', fun j hj => ?_⟩
      obtain ⟨e1, e2, e3⟩ := hcell j hj
      exact ⟨(hb.cell (p := ⟨b, off + j, none⟩) (Nat.lt_trans hlt hr)).trans e1, e2, e3⟩

theorem many_any (w : World) : Calls Try.prog 71 #[] w fun e w' => e = .returned (.int .i64 32) ∧ w' = w := by
  go_enter Try.func71, Try.ntmps71
  go_wp2
  go_ret
  exact ⟨rfl, rfl⟩

set_option maxHeartbeats 1000000 in
theorem l71Word_any (r B : Nat) (x : World) (h : Rd x r B) (hB : B ≤ 90000) :
    Calls Try.prog 63 #[.pointer (some ⟨r, 0, none⟩)] x fun e y => ∃ v : Int, e = .returned (.int .i64 v) ∧ -16 ≤ v ∧ v ≤ 15 ∧ Drawn r (B + 2) x y := by
  go_enter Try.func63, Try.ntmps63
  go_wp2_with fail
  refine (pick_any r B 3 _ h (by omega) (by omega)).mono ?_
  rintro e y ⟨v, rfl, v0, v1, hD⟩
  by_cases hv : v = 0
  · subst hv
    go_wp2_with fail
    refine (pick_any r (B + 1) 6 _ (drawn_alloc _ hD.rd).rd (by omega) (by omega)).mono ?_
    rintro e z ⟨u, rfl, u0, u1, hE⟩
    have hne : y.heap.size ≠ r := by have := hD.rd.lt; omega
    have k0 := (hE.cell y.heap.size 0 hne (by simp)).trans (show _ = some (.int .i64 0) by simp [go_sem])
    have k1 := (hE.cell y.heap.size 1 hne (by simp)).trans (show _ = some (.int .i64 1) by simp [go_sem])
    have k2 := (hE.cell y.heap.size 2 hne (by simp)).trans (show _ = some (.int .i64 (-1)) by simp [go_sem])
    have k3 := (hE.cell y.heap.size 3 hne (by simp)).trans (show _ = some (.int .i64 (-16)) by simp [go_sem])
    have k4 := (hE.cell y.heap.size 4 hne (by simp)).trans (show _ = some (.int .i64 15) by simp [go_sem])
    have k5 := (hE.cell y.heap.size 5 hne (by simp)).trans (show _ = some (.int .i64 2) by simp [go_sem])
    have hfin := (hD.trans (drawn_alloc _ hD.rd)).trans hE
    clear hE hD
    obtain rfl | rfl | rfl | rfl | rfl | rfl : u = 0 ∨ u = 1 ∨ u = 2 ∨ u = 3 ∨ u = 4 ∨ u = 5 := by omega
    all_goals
      go_wp2
      go_ret
      exact ⟨_, rfl, by omega, by omega, hfin⟩
  · have hv' : (v == 0) = false := by simp [hv]
    go_wp2_with (go_at_call 71; refine (many_any _).mono ?_; rintro e w' ⟨rfl, rfl⟩)
    refine (pick_any r (B + 1) 32 _ hD.rd (by omega) (by omega)).mono ?_
    rintro e z ⟨u, rfl, u0, u1, hE⟩
    go_wp2
    go_ret
    exact ⟨_, rfl, by omega, by omega, hD.trans hE⟩

end Go.Proofs.Ytdomalclpjijaaa

/-
  The contracts of the draws of spans: each hands back a span whose ends are small and turns nothing but its reader.
-/
namespace Go.Proofs.Ytdomalclpjijaaa
open Go.RowKit
set_option linter.unusedVariables false
set_option linter.unusedSimpArgs false

theorem rd_below {r B q : Nat} {x y : World} (h : Rd x r B) (hb : Below q x y) (hq : r < q) : Rd y r B := by
  have hr := h.lt
  obtain ⟨a, len, cap, p, c0, c1, p0, p1, hl, hf, _, hrow⟩ := h.it
  have hz := hb.size
  refine ⟨a, len, cap, p, ?_, ?_, p0, p1, hl, ?_, by omega, ?_⟩
  · exact (hb.cell (p := ⟨r, 0, none⟩) hq).trans c0
  · exact (hb.cell (p := ⟨r, 1, none⟩) hq).trans c1
  · exact (hb.frozen (p := ⟨r, 1, none⟩) hq).trans hf
  · rcases hrow with h0 | ⟨b, off, zs, e, hlt, hz', hcell⟩
    · exact .inl h0
    · refine .inr ⟨b, off, zs, e, hlt, hz', fun j hj => ?_⟩
      obtain ⟨e1, e2, e3⟩ := hcell j hj
      exact ⟨(hb.cell (p := ⟨b, off + j, none⟩) (Nat.lt_trans hlt hq)).trans e1, e2, e3⟩
/-- what is done above the first world's blocks leaves what is said of a draw -/
theorem Drawn.more {r B q : Nat} {x y z : World} (h : Drawn r B x y) (hb : Below q y z) (hq : x.heap.size ≤ q) (hr : r < x.heap.size) : Drawn r B x z :=
  ⟨Nat.le_trans h.size hb.size, fun b o hne hl => (hb.cell (p := ⟨b, o, none⟩) (Nat.lt_of_lt_of_le hl hq)).trans (h.cell b o hne hl), fun b o hne hl => (hb.frozen (p := ⟨b, o, none⟩) (Nat.lt_of_lt_of_le hl hq)).trans (h.frozen b o hne hl), h.below.trans (hb.mono (by omega)), rd_below h.rd hb (by omega), fun b hne hl => (hb.block b (Nat.lt_of_lt_of_le hl hq)).trans (h.blk b hne hl)⟩
theorem Drawn.set3 {r B q : Nat} {x y : World} {v0 v1 v2 : Value} (h : Drawn r B x y) (hq : x.heap.size ≤ q) (hr : r < x.heap.size) : Drawn r B x (((y.setCell ⟨q, 0, none⟩ v0).setCell ⟨q, 1, none⟩ v1).setCell ⟨q, 2, none⟩ v2) :=
  h.more ((((Below.refl q y).setCell (p := ⟨q, 0, none⟩) (Nat.le_refl _) _).setCell (p := ⟨q, 1, none⟩) (Nat.le_refl _) _).setCell (p := ⟨q, 2, none⟩) (Nat.le_refl _) _) hq hr
theorem drawn_first {r B : Nat} {x : World} (h : Rd x r B) : Drawn r B x x := ⟨Nat.le_refl _, fun _ _ _ _ => rfl, fun _ _ _ _ => rfl, Below.refl _ _, h, fun _ _ _ => rfl⟩

/-- a drawn span -/
structure GotSp (r B : Nat) (x : World) (e : Ending) (y : World) : Prop where
  it : ∃ a l u, e = .returned (.agg #[.bool a, .int .i64 l, .int .i64 u]) ∧ -17 ≤ l ∧ l ≤ 16 ∧ -17 ≤ u ∧ u ≤ 16 ∧ Drawn r B x y
theorem mk_bd {x y : Int} {a : Bool} {l u : Int} (h : mkF x y = (a, l, u)) (x0 : -16 ≤ x) (x1 : x ≤ 15) (y0 : -16 ≤ y) (y1 : y ≤ 15) : -17 ≤ l ∧ l ≤ 16 ∧ -17 ≤ u ∧ u ≤ 16 := by
  unfold mkF at h
  split at h
  · simp [noSp] at h; omega
  · simp at h; omega
/-- the three cells of the result's block, which a draw leaves -/
theorem q_cells {r B : Nat} {X y : World} {q : Nat} (h : Drawn r B X y) (hq : q < X.heap.size) (hr : q ≠ r) {v0 v1 v2 : Value} (c0 : X.cell? ⟨q, 0, none⟩ = some v0) (c1 : X.cell? ⟨q, 1, none⟩ = some v1) (c2 : X.cell? ⟨q, 2, none⟩ = some v2) (f0 : X.frozen? ⟨q, 0, none⟩ = false) (f1 : X.frozen? ⟨q, 1, none⟩ = false) (f2 : X.frozen? ⟨q, 2, none⟩ = false) :
    y.cell? ⟨q, 0, none⟩ = some v0 ∧ y.cell? ⟨q, 1, none⟩ = some v1 ∧ y.cell? ⟨q, 2, none⟩ = some v2 ∧ y.frozen? ⟨q, 0, none⟩ = false ∧ y.frozen? ⟨q, 1, none⟩ = false ∧ y.frozen? ⟨q, 2, none⟩ = false :=
  ⟨(h.cell q 0 hr hq).trans c0, (h.cell q 1 hr hq).trans c1, (h.cell q 2 hr hq).trans c2, (h.frozen q 0 hr hq).trans f0, (h.frozen q 1 hr hq).trans f1, (h.frozen q 2 hr hq).trans f2⟩

set_option maxHeartbeats 2000000 in
theorem l71Some_any (r B : Nat) (x : World) (h : Rd x r B) (hB : B ≤ 80000) :
    Calls Try.prog 62 #[.pointer (some ⟨r, 0, none⟩)] x fun e y => GotSp r (B + 7) x e y := by
  have hr := h.lt
  have hA := drawn_alloc (.cells #[.bool false, .int .i64 0, .int .i64 0] 29) h
  have hq0 : (x.alloc (.cells #[.bool false, .int .i64 0, .int .i64 0] 29)).cell? ⟨x.heap.size, 0, none⟩ = some (.bool false) ∧ (x.alloc (.cells #[.bool false, .int .i64 0, .int .i64 0] 29)).cell? ⟨x.heap.size, 1, none⟩ = some (.int .i64 0) ∧ (x.alloc (.cells #[.bool false, .int .i64 0, .int .i64 0] 29)).cell? ⟨x.heap.size, 2, none⟩ = some (.int .i64 0) ∧ (x.alloc (.cells #[.bool false, .int .i64 0, .int .i64 0] 29)).frozen? ⟨x.heap.size, 0, none⟩ = false ∧ (x.alloc (.cells #[.bool false, .int .i64 0, .int .i64 0] 29)).frozen? ⟨x.heap.size, 1, none⟩ = false ∧ (x.alloc (.cells #[.bool false, .int .i64 0, .int .i64 0] 29)).frozen? ⟨x.heap.size, 2, none⟩ = false := by simp [go_sem]
  have HQ : Hid ((x.alloc (.cells #[.bool false, .int .i64 0, .int .i64 0] 29)).cell? ⟨x.heap.size, 0, none⟩ = some (.bool false) ∧ (x.alloc (.cells #[.bool false, .int .i64 0, .int .i64 0] 29)).cell? ⟨x.heap.size, 1, none⟩ = some (.int .i64 0) ∧ (x.alloc (.cells #[.bool false, .int .i64 0, .int .i64 0] 29)).cell? ⟨x.heap.size, 2, none⟩ = some (.int .i64 0) ∧ (x.alloc (.cells #[.bool false, .int .i64 0, .int .i64 0] 29)).frozen? ⟨x.heap.size, 0, none⟩ = false ∧ (x.alloc (.cells #[.bool false, .int .i64 0, .int .i64 0] 29)).frozen? ⟨x.heap.size, 1, none⟩ = false ∧ (x.alloc (.cells #[.bool false, .int .i64 0, .int .i64 0] 29)).frozen? ⟨x.heap.size, 2, none⟩ = false) := hq0
  clear hq0
  go_enter Try.func62, Try.ntmps62
  go_wp2_with fail
  refine (l71Word_any r B _ hA.rd (by omega)).mono ?_
  rintro e y1 ⟨v, rfl, v0, v1, hD1⟩
  go_wp2_with fail
  refine (pick_any r (B + 2) 4 _ hD1.rd (by omega) (by omega)).mono ?_
  rintro e y2 ⟨t, rfl, t0, t1, hD2⟩
  have hE2 := hD1.trans hD2
  clear hD1 hD2
  by_cases ht : t = 0
  · subst ht
    go_wp2_with fail
    refine (l1Of_any v v _).mono ?_
    rintro e y3 ⟨hs, hb⟩
    obtain ⟨a3, l3, u3, hx3, rfl⟩ := hs.out
    have hE3 := hE2.more hb hE2.size (by simp; omega)
    obtain ⟨k0, k1, k2, j0, j1, j2⟩ := q_cells hE3 (by simp) (by omega) HQ.out.1 HQ.out.2.1 HQ.out.2.2.1 HQ.out.2.2.2.1 HQ.out.2.2.2.2.1 HQ.out.2.2.2.2.2
    have hbd := mk_bd hx3.out v0 v1 v0 v1
    have hF := (((hA.trans hE3).set3 (v0 := .bool a3) (v1 := .int .i64 l3) (v2 := .int .i64 u3) (Nat.le_refl x.heap.size) hr).le (by omega : B + 2 + 1 ≤ B + 7))
    clear hs hb hE2 hE3 hA
    go_wp2
    refine bodyPost_ret (v := .agg #[.bool a3, .int .i64 l3, .int .i64 u3]) (by simp [results, Try.results62, go_sem, k0, k1, k2]) rfl ⟨_, _, _, rfl, hbd.1, hbd.2.1, hbd.2.2.1, hbd.2.2.2, hF⟩
  · have ht' : (t == 0) = false := by simp [ht]
    go_wp2_with fail
    refine (l71Word_any r (B + 3) _ hE2.rd (by omega)).mono ?_
    rintro e y3 ⟨s, rfl, s0, s1, hD3⟩
    have hE3 := hE2.trans hD3
    clear hE2 hD3
    go_wp2_with fail
    refine (pick_any r (B + 5) 2 _ hE3.rd (by omega) (by omega)).mono ?_
    rintro e y4 ⟨m, rfl, m0, m1, hD4⟩
    have hE4 := hE3.trans hD4
    clear hE3 hD4
    by_cases hm : m = 0
    · subst hm
      go_wp2_with fail
      refine (pick_any r (B + 6) 5 _ hE4.rd (by omega) (by omega)).mono ?_
      rintro e y5 ⟨n, rfl, n0, n1, hD5⟩
      have hE5 := hE4.trans hD5
      clear hE4 hD5
      go_wp2_with fail
      all_goals
        refine (l1Of_any _ _ _).mono ?_
        rintro e y6 ⟨hs, hb⟩
        obtain ⟨a3, l3, u3, hx3, rfl⟩ := hs.out
        have hE6 := hE5.more hb hE5.size (by simp; omega)
        obtain ⟨k0, k1, k2, j0, j1, j2⟩ := q_cells hE6 (by simp) (by omega) HQ.out.1 HQ.out.2.1 HQ.out.2.2.1 HQ.out.2.2.2.1 HQ.out.2.2.2.2.1 HQ.out.2.2.2.2.2
        have hbd := mk_bd hx3.out (by omega) (by omega) (by omega) (by omega)
        have hF := (((hA.trans hE6).set3 (v0 := .bool a3) (v1 := .int .i64 l3) (v2 := .int .i64 u3) (Nat.le_refl x.heap.size) hr))
        clear hs hb hE5 hE6 hA
        go_wp2
        refine bodyPost_ret (v := .agg #[.bool a3, .int .i64 l3, .int .i64 u3]) (by simp [results, Try.results62, go_sem, k0, k1, k2]) rfl ⟨_, _, _, rfl, hbd.1, hbd.2.1, hbd.2.2.1, hbd.2.2.2, hF⟩
    · have hm' : (m == 0) = false := by simp [hm]
      go_wp2_with fail
      all_goals
        refine (l1Of_any _ _ _).mono ?_
        rintro e y6 ⟨hs, hb⟩
        obtain ⟨a3, l3, u3, hx3, rfl⟩ := hs.out
        have hE6 := hE4.more hb hE4.size (by simp; omega)
        obtain ⟨k0, k1, k2, j0, j1, j2⟩ := q_cells hE6 (by simp) (by omega) HQ.out.1 HQ.out.2.1 HQ.out.2.2.1 HQ.out.2.2.2.1 HQ.out.2.2.2.2.1 HQ.out.2.2.2.2.2
        have hbd := mk_bd hx3.out (by omega) (by omega) (by omega) (by omega)
        have hF := (((hA.trans hE6).set3 (v0 := .bool a3) (v1 := .int .i64 l3) (v2 := .int .i64 u3) (Nat.le_refl x.heap.size) hr).le (by omega : B + 5 + 1 ≤ B + 7))
        clear hs hb hE4 hE6 hA
        go_wp2
        refine bodyPost_ret (v := .agg #[.bool a3, .int .i64 l3, .int .i64 u3]) (by simp [results, Try.results62, go_sem, k0, k1, k2]) rfl ⟨_, _, _, rfl, hbd.1, hbd.2.1, hbd.2.2.1, hbd.2.2.2, hF⟩

/-- two drawn spans -/
structure GotTwo (w : World) (e : Ending) (y : World) : Prop where
  it : ∃ a l u b m v, e = .returned (.tuple #[.agg #[.bool a, .int .i64 l, .int .i64 u], .agg #[.bool b, .int .i64 m, .int .i64 v]]) ∧ -17 ≤ l ∧ l ≤ 16 ∧ -17 ≤ u ∧ u ≤ 16 ∧ -17 ≤ m ∧ m ≤ 16 ∧ -17 ≤ v ∧ v ≤ 16 ∧ Below w.heap.size w y

end Go.Proofs.Ytdomalclpjijaaa
