/-
  The contracts of the draws of an operation and of words: each hands back a number in its range and turns nothing but its reader.
-/
import Derived.Test.YtbmjjmbimfdkoaaPick
namespace Go.Proofs.Ytbmjjmbimfdkoaa
open Go.RowKit
set_option linter.unusedVariables false
set_option linter.unusedSimpArgs false

theorem IsRow.later {w x : World} {a : Option Addr} {len cap : Nat} {zs : List Int} (h : IsRow w a len cap zs) (hb : Below w.heap.size w x) : IsRow x a len cap zs := by
  rcases h with h | ⟨p, e, hl, hm, hz, hcell, hwz⟩
  · exact .inl h
  · refine .inr ⟨p, e, hl, hm, hz, fun i hi => ?_, hwz⟩
    have hc := hcell i hi
    exact (hb.cell (World.block_lt_of_cell? w _ hc)).trans hc

/-- a row of at most 2000 bytes -/
theorem rd_of (w : World) (a : Option Addr) (len cap : Nat) (zs : List Int) (n : Nat) (h : IsRow w a len cap zs) (hn : n ≤ len) (hn2 : n ≤ 2000) :
    Rd (w.alloc (.cells #[.slice a n cap, .int .i64 0] 86)) w.heap.size 0 := by
  refine ⟨a, n, cap, 0, by simp [go_sem], by simp [go_sem], by omega, by omega, hn2, by simp [go_sem], by simp, ?_⟩
  by_cases h0 : n = 0
  · exact .inl h0
  rcases h with ⟨rfl, rfl, rfl, rfl⟩ | ⟨x, rfl, hl, hm, hz, hcell, hwz⟩
  · omega
  obtain ⟨b, off, spot⟩ := x
  have hc := hcell 0 (by omega)
  have hspot : spot = none := by simpa [Addr.add] using World.cell?_spot hc
  subst hspot
  have hlt : b < w.heap.size := by have := World.block_lt_of_cell? w ((⟨b, off, none⟩ : Addr).add 0) hc; simpa [Addr.add] using this
  refine .inr ⟨b, off, zs, rfl, hlt, by omega, fun j hj => ?_⟩
  have hcj := hcell j (by omega)
  have hw := bounds_u8 (hwz (zs.getD j 0) (by rw [List.getD_eq_getElem?_getD, List.getElem?_eq_getElem (by omega)]; exact List.getElem_mem _))
  refine ⟨?_, hw.1, hw.2⟩
  have := World.cell?_alloc_lt (w := w) (o := .cells #[.slice (some ⟨b, off, none⟩) n cap, .int .i64 0] 86) (a := ⟨b, off + j, none⟩) hlt
  rw [this]
  by_cases hj0 : j = 0
  · subst hj0; simpa [Addr.add] using hcj
  · simpa [Addr.add, hj0] using hcj

set_option maxHeartbeats 1000000 in
theorem open_any (a : Option Addr) (len cap : Nat) (zs : List Int) (w : World) (h : IsRow w a len cap zs) :
    Calls Try.prog 66 #[.slice a len cap] w fun e y => e = .returned (.pointer (some ⟨w.heap.size, 0, none⟩)) ∧ Rd y w.heap.size 0 ∧ Below w.heap.size w y := by
  have hcap : cap ≤ maxLen := by
    rcases h with ⟨rfl, rfl, rfl, rfl⟩ | ⟨x, rfl, hl, hm, hz, hcell, hwz⟩
    · unfold maxLen; omega
    · exact hm
  have hlc : len ≤ cap := by
    rcases h with ⟨rfl, rfl, rfl, rfl⟩ | ⟨x, rfl, hl, hm, hz, hcell, hwz⟩
    · omega
    · exact hl
  unfold maxLen at hcap
  by_cases h2 : 2000 < len
  · have hR := rd_of w a len cap zs 2000 h (by omega) (by omega)
    rcases h with ⟨rfl, rfl, rfl, rfl⟩ | ⟨x, rfl, hl, hm, hz, hcell, hwz⟩
    · omega
    have hl2 : (2000 : Int) < (len : Int) := by omega
    clear hcell hwz hm
    go_enter Try.func66, Try.ntmps66
    go_wp2
    go_ret
    exact ⟨rfl, hR, by go_grown⟩
  · have hR := rd_of w a len cap zs len h (by omega) (by omega)
    have hl2 : ¬ (2000 : Int) < (len : Int) := by omega
    clear h
    go_enter Try.func66, Try.ntmps66
    go_wp2
    go_ret
    exact ⟨rfl, hR, by go_grown⟩

/-- what two draws behind one another leave -/
theorem Drawn.trans {r B C : Nat} {x y z : World} (h : Drawn r B x y) (k : Drawn r C y z) : Drawn r C x z :=
  ⟨Nat.le_trans h.size k.size, fun b o hb hl => (k.cell b o hb (Nat.lt_of_lt_of_le hl h.size)).trans (h.cell b o hb hl), fun b o hb hl => (k.frozen b o hb (Nat.lt_of_lt_of_le hl h.size)).trans (h.frozen b o hb hl), h.below.trans k.below, k.rd, fun b hb hl => (k.blk b hb (Nat.lt_of_lt_of_le hl h.size)).trans (h.blk b hb hl)⟩
theorem Rd.lt {x : World} {r B : Nat} (h : Rd x r B) : r < x.heap.size := by obtain ⟨a, len, cap, p, c0, c1, p0, p1, hl, hf, hr, hrow⟩ := h.it; exact hr
theorem Rd.le {x : World} {r B C : Nat} (h : Rd x r B) (hc : B ≤ C) : Rd x r C := by
  obtain ⟨a, len, cap, p, c0, c1, p0, p1, hl, hf, hr, hrow⟩ := h.it
  exact ⟨a, len, cap, p, c0, c1, p0, by omega, hl, hf, hr, hrow⟩
theorem Drawn.le {r B C : Nat} {x y : World} (h : Drawn r B x y) (hc : B ≤ C) : Drawn r C x y := ⟨h.size, h.cell, h.frozen, h.below, h.rd.le hc, h.blk⟩
/-- new memory that is laid ahead of a draw -/
theorem drawn_alloc {r B : Nat} {x : World} (o : Obj) (h : Rd x r B) : Drawn r B x (x.alloc o) := by
  have hr := h.lt
  have hb : Below x.heap.size x (x.alloc o) := (Below.refl _ _).alloc (Nat.le_refl _) _
  obtain ⟨a, len, cap, p, c0, c1, p0, p1, hl, hf, _, hrow⟩ := h.it
  refine ⟨by simp, fun b o _ hl => hb.cell (p := ⟨b, o, none⟩) hl, fun b o _ hl => hb.frozen (p := ⟨b, o, none⟩) hl, hb.mono (by omega), ⟨a, len, cap, p, ?_, ?_, p0, p1, hl, ?_, by simp; omega, ?_⟩, fun b _ hl => hb.block b hl⟩
  · exact (hb.cell (p := ⟨r, 0, none⟩) hr).trans c0
  · exact (hb.cell (p := ⟨r, 1, none⟩) hr).trans c1
  · exact (hb.frozen (p := ⟨r, 1, none⟩) hr).trans hf
  · rcases hrow with h0 | ⟨b, off, zs, e, hlt, hz', hcell⟩
    · exact .inl h0
    · refine .inr ⟨b, off, zs, e, hlt, hz', fun j hj => ?_⟩
      obtain ⟨e1, e2, e3⟩ := hcell j hj
      exact ⟨(hb.cell (p := ⟨b, off + j, none⟩) (Nat.lt_trans hlt hr)).trans e1, e2, e3⟩

theorem many_any (w : World) : Calls Try.prog 89 #[] w fun e w' => e = .returned (.int .i64 32) ∧ w' = w := by
  go_enter Try.func89, Try.ntmps89
  go_wp2
  go_ret
  exact ⟨rfl, rfl⟩

set_option maxHeartbeats 1000000 in
theorem l71Word_any (r B : Nat) (x : World) (h : Rd x r B) (hB : B ≤ 90000) :
    Calls Try.prog 83 #[.pointer (some ⟨r, 0, none⟩)] x fun e y => ∃ v : Int, e = .returned (.int .i64 v) ∧ -16 ≤ v ∧ v ≤ 15 ∧ Drawn r (B + 2) x y := by
  go_enter Try.func83, Try.ntmps83
  go_wp2_with fail
  refine (pick_any r B 3 _ h (by omega) (by omega)).mono ?_
  rintro e y ⟨v, rfl, v0, v1, hD⟩
  by_cases hv : v = 0
  · subst hv
    go_wp2_with fail
    refine (pick_any r (B + 1) 6 _ (drawn_alloc _ hD.rd).rd (by omega) (by omega)).mono ?_
    rintro e z ⟨u, rfl, u0, u1, hE⟩
    have hne : y.heap.size ≠ r := by have := hD.rd.lt; omega
    have k0 := (hE.cell y.heap.size 0 hne (by simp)).trans (show _ = some (.int .i64 0) by simp [go_sem])
    have k1 := (hE.cell y.heap.size 1 hne (by simp)).trans (show _ = some (.int .i64 1) by simp [go_sem])
    have k2 := (hE.cell y.heap.size 2 hne (by simp)).trans (show _ = some (.int .i64 (-1)) by simp [go_sem])
    have k3 := (hE.cell y.heap.size 3 hne (by simp)).trans (show _ = some (.int .i64 (-16)) by simp [go_sem])
    have k4 := (hE.cell y.heap.size 4 hne (by simp)).trans (show _ = some (.int .i64 15) by simp [go_sem])
    have k5 := (hE.cell y.heap.size 5 hne (by simp)).trans (show _ = some (.int .i64 2) by simp [go_sem])
    have hfin := (hD.trans (drawn_alloc _ hD.rd)).trans hE
    clear hE hD
    obtain rfl | rfl | rfl | rfl | rfl | rfl : u = 0 ∨ u = 1 ∨ u = 2 ∨ u = 3 ∨ u = 4 ∨ u = 5 := by omega
    all_goals
      go_wp2
      go_ret
      exact ⟨_, rfl, by omega, by omega, hfin⟩
  · have hv' : (v == 0) = false := by simp [hv]
    go_wp2_with (go_at_call 89; refine (many_any _).mono ?_; rintro e w' ⟨rfl, rfl⟩)
    refine (pick_any r (B + 1) 32 _ hD.rd (by omega) (by omega)).mono ?_
    rintro e z ⟨u, rfl, u0, u1, hE⟩
    go_wp2
    go_ret
    exact ⟨_, rfl, by omega, by omega, hD.trans hE⟩

end Go.Proofs.Ytbmjjmbimfdkoaa
