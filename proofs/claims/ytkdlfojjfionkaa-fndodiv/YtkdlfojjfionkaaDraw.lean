/-
  The contracts of the draws of an operation and of words: each hands back a number in its range and turns nothing but its reader.
-/
import Derived.Test.YtkdlfojjfionkaaPick
import Derived.Test.YtkdlfojjfionkaaNumB
namespace Go.Proofs.Ytkdlfojjfionkaa
open Go.RowKit
set_option linter.unusedVariables false
set_option linter.unusedSimpArgs false

/-- a row of at most 2000 bytes -/
theorem rd_of (w : World) (a : Option Addr) (len cap : Nat) (zs : List Int) (n : Nat) (h : IsRow w a len cap zs) (hn : n ≤ len) (hn2 : n ≤ 2000) :
    Rd (w.alloc (.cells #[.slice a n cap, .int .i64 0] 60)) w.heap.size 0 := by
  refine ⟨a, n, cap, 0, by simp [go_sem], by simp [go_sem], by omega, by omega, hn2, by simp [go_sem], by simp, ?_⟩
  by_cases h0 : n = 0
  · exact .inl h0
  rcases h with ⟨rfl, rfl, rfl, rfl⟩ | ⟨x, rfl, hl, hm, hz, hcell, hwz⟩
  · omega
  obtain ⟨b, off, spot⟩ := x
  have hc := hcell 0 (by omega)
  have hspot : spot = none := by simpa [Addr.add] using World.cell?_spot hc
  subst hspot
  have hlt : b < w.heap.size := by have := World.block_lt_of_cell? w ((⟨b, off, none⟩ : Addr).add 0) hc; simpa [Addr.add] using this
  refine .inr ⟨b, off, zs, rfl, hlt, by omega, fun j hj => ?_⟩
  have hcj := hcell j (by omega)
  have hw := bounds_u8 (hwz (zs.getD j 0) (by rw [List.getD_eq_getElem?_getD, List.getElem?_eq_getElem (by omega)]; exact List.getElem_mem _))
  refine ⟨?_, hw.1, hw.2⟩
  have := World.cell?_alloc_lt (w := w) (o := .cells #[.slice (some ⟨b, off, none⟩) n cap, .int .i64 0] 60) (a := ⟨b, off + j, none⟩) hlt
  rw [this]
  by_cases hj0 : j = 0
  · subst hj0; simpa [Addr.add] using hcj
  · simpa [Addr.add, hj0] using hcj

set_option maxHeartbeats 1000000 in
theorem open_any (a : Option Addr) (len cap : Nat) (zs : List Int) (w : World) (h : IsRow w a len cap zs) :
    Calls Try.prog 51 #[.slice a len cap] w fun e y => e = .returned (.pointer (some ⟨w.heap.size, 0, none⟩)) ∧ Rd y w.heap.size 0 ∧ Below w.heap.size w y := by
  have hcap : cap ≤ maxLen := by
    rcases h with ⟨rfl, rfl, rfl, rfl⟩ | ⟨x, rfl, hl, hm, hz, hcell, hwz⟩
    · unfold maxLen; omega
    · exact hm
  have hlc : len ≤ cap := by
    rcases h with ⟨rfl, rfl, rfl, rfl⟩ | ⟨x, rfl, hl, hm, hz, hcell, hwz⟩
    · omega
    · exact hl
  unfold maxLen at hcap
  by_cases h2 : 2000 < len
  · have hR := rd_of w a len cap zs 2000 h (by omega) (by omega)
    rcases h with ⟨rfl, rfl, rfl, rfl⟩ | ⟨x, rfl, hl, hm, hz, hcell, hwz⟩
    · omega
    have hl2 : (2000 : Int) < (len : Int) := by omega
    clear hcell hwz hm
    go_enter Try.func51, Try.ntmps51
    go_wp2
    go_ret
    exact ⟨rfl, hR, by go_grown⟩
  · have hR := rd_of w a len cap zs len h (by omega) (by omega)
    have hl2 : ¬ (2000 : Int) < (len : Int) := by omega
    clear h
    go_enter Try.func51, Try.ntmps51
    go_wp2
    go_ret
    exact ⟨rfl, hR, by go_grown⟩

/-- what two draws behind one another leave -/
theorem Drawn.trans {r B C : Nat} {x y z : World} (h : Drawn r B x y) (k : Drawn r C y z) : Drawn r C x z :=
  ⟨Nat.le_trans h.size k.size, fun b o hb hl => (k.cell b o hb (Nat.lt_of_lt_of_le hl h.size)).trans (h.cell b o hb hl), fun b o hb hl => (k.frozen b o hb (Nat.lt_of_lt_of_le hl h.size)).trans (h.frozen b o hb hl), h.below.trans k.below, k.rd⟩
theorem Rd.lt {x : World} {r B : Nat} (h : Rd x r B) : r < x.heap.size := by obtain ⟨a, len, cap, p, c0, c1, p0, p1, hl, hf, hr, hrow⟩ := h.it; exact hr
theorem Rd.le {x : World} {r B C : Nat} (h : Rd x r B) (hc : B ≤ C) : Rd x r C := by
  obtain ⟨a, len, cap, p, c0, c1, p0, p1, hl, hf, hr, hrow⟩ := h.it
  exact ⟨a, len, cap, p, c0, c1, p0, by omega, hl, hf, hr, hrow⟩
theorem Drawn.le {r B C : Nat} {x y : World} (h : Drawn r B x y) (hc : B ≤ C) : Drawn r C x y := ⟨h.size, h.cell, h.frozen, h.below, h.rd.le hc⟩
/-- new memory that is laid ahead of a draw -/
theorem drawn_alloc {r B : Nat} {x : World} (o : Obj) (h : Rd x r B) : Drawn r B x (x.alloc o) := by
  have hr := h.lt
  have hb : Below x.heap.size x (x.alloc o) := (Below.refl _ _).alloc (Nat.le_refl _) _
  obtain ⟨a, len, cap, p, c0, c1, p0, p1, hl, hf, _, hrow⟩ := h.it
  refine ⟨by simp, fun b o _ hl => hb.cell (p := ⟨b, o, none⟩) hl, fun b o _ hl => hb.frozen (p := ⟨b, o, none⟩) hl, hb.mono (by omega), ⟨a, len, cap, p, ?_, ?_, p0, p1, hl, ?_, by simp; omega, ?_⟩⟩
  · exact (hb.cell (p := ⟨r, 0, none⟩) hr).trans c0
  · exact (hb.cell (p := ⟨r, 1, none⟩) hr).trans c1
  · exact (hb.frozen (p := ⟨r, 1, none⟩) hr).trans hf
  · rcases hrow with h0 | ⟨b, off, zs, e, hlt, hz', hcell⟩
    · exact .inl h0
    · refine .inr ⟨b, off, zs, e, hlt, hz', fun j hj => ?_⟩
      obtain ⟨e1, e2, e3⟩ := hcell j hj
      exact ⟨(hb.cell (p := ⟨b, off + j, none⟩) (Nat.lt_trans hlt hr)).trans e1, e2, e3⟩

set_option maxHeartbeats 1000000 in
theorem l71Op_any (r B : Nat) (x : World) (h : Rd x r B) (hB : B ≤ 90000) :
    Calls Try.prog 53 #[.pointer (some ⟨r, 0, none⟩)] x fun e y => ∃ v : Int, e = .returned (.int .i64 v) ∧ -1 ≤ v ∧ v ≤ 7 ∧ Drawn r (B + 2) x y := by
  go_enter Try.func53, Try.ntmps53
  go_wp2_with fail
  refine (pick_any r B 24 _ h (by omega) (by omega)).mono ?_
  rintro e y ⟨v, rfl, v0, v1, hD⟩
  by_cases hv : v = 0
  · subst hv
    go_wp2_with fail
    refine (pick_any r (B + 1) 3 _ (drawn_alloc _ hD.rd).rd (by omega) (by omega)).mono ?_
    rintro e z ⟨u, rfl, u0, u1, hE⟩
    have hne : y.heap.size ≠ r := by have := hD.rd.lt; omega
    have k0 := (hE.cell y.heap.size 0 hne (by simp)).trans (show _ = some (.int .i64 0) by simp [go_sem])
    have k1 := (hE.cell y.heap.size 1 hne (by simp)).trans (show _ = some (.int .i64 7) by simp [go_sem])
    have k2 := (hE.cell y.heap.size 2 hne (by simp)).trans (show _ = some (.int .i64 (-1)) by simp [go_sem])
    have hfin := (hD.trans (drawn_alloc _ hD.rd)).trans hE
    clear hE hD
    obtain rfl | rfl | rfl : u = 0 ∨ u = 1 ∨ u = 2 := by omega
    all_goals
      go_wp2
      go_ret
      exact ⟨_, rfl, by omega, by omega, hfin⟩
  · have hv' : (v == 0) = false := by simp [hv]
    go_wp2_with fail
    refine (pick_any r (B + 1) 6 _ hD.rd (by omega) (by omega)).mono ?_
    rintro e z ⟨u, rfl, u0, u1, hE⟩
    go_wp2
    go_ret
    exact ⟨_, rfl, by omega, by omega, hD.trans hE⟩

theorem many_any (w : World) : Calls Try.prog 37 #[] w fun e w' => e = .returned (.int .i64 32) ∧ w' = w := by
  go_enter Try.func37, Try.ntmps37
  go_wp2
  go_ret
  exact ⟨rfl, rfl⟩

set_option maxHeartbeats 1000000 in
theorem l71Word_any (r B : Nat) (x : World) (h : Rd x r B) (hB : B ≤ 90000) :
    Calls Try.prog 54 #[.pointer (some ⟨r, 0, none⟩)] x fun e y => ∃ v : Int, e = .returned (.int .i64 v) ∧ -16 ≤ v ∧ v ≤ 15 ∧ Drawn r (B + 2) x y := by
  go_enter Try.func54, Try.ntmps54
  go_wp2_with fail
  refine (pick_any r B 3 _ h (by omega) (by omega)).mono ?_
  rintro e y ⟨v, rfl, v0, v1, hD⟩
  by_cases hv : v = 0
  · subst hv
    go_wp2_with fail
    refine (pick_any r (B + 1) 6 _ (drawn_alloc _ hD.rd).rd (by omega) (by omega)).mono ?_
    rintro e z ⟨u, rfl, u0, u1, hE⟩
    have hne : y.heap.size ≠ r := by have := hD.rd.lt; omega
    have k0 := (hE.cell y.heap.size 0 hne (by simp)).trans (show _ = some (.int .i64 0) by simp [go_sem])
    have k1 := (hE.cell y.heap.size 1 hne (by simp)).trans (show _ = some (.int .i64 1) by simp [go_sem])
    have k2 := (hE.cell y.heap.size 2 hne (by simp)).trans (show _ = some (.int .i64 (-1)) by simp [go_sem])
    have k3 := (hE.cell y.heap.size 3 hne (by simp)).trans (show _ = some (.int .i64 (-16)) by simp [go_sem])
    have k4 := (hE.cell y.heap.size 4 hne (by simp)).trans (show _ = some (.int .i64 15) by simp [go_sem])
    have k5 := (hE.cell y.heap.size 5 hne (by simp)).trans (show _ = some (.int .i64 2) by simp [go_sem])
    have hfin := (hD.trans (drawn_alloc _ hD.rd)).trans hE
    clear hE hD
    obtain rfl | rfl | rfl | rfl | rfl | rfl : u = 0 ∨ u = 1 ∨ u = 2 ∨ u = 3 ∨ u = 4 ∨ u = 5 := by omega
    all_goals
      go_wp2
      go_ret
      exact ⟨_, rfl, by omega, by omega, hfin⟩
  · have hv' : (v == 0) = false := by simp [hv]
    go_wp2_with (go_at_call 37; refine (many_any _).mono ?_; rintro e w' ⟨rfl, rfl⟩)
    refine (pick_any r (B + 1) 32 _ hD.rd (by omega) (by omega)).mono ?_
    rintro e z ⟨u, rfl, u0, u1, hE⟩
    go_wp2
    go_ret
    exact ⟨_, rfl, by omega, by omega, hD.trans hE⟩

set_option maxHeartbeats 1000000 in
theorem drawNumWrap_any (a : Option Addr) (len cap : Nat) (zs : List Int) (w : World) (h : IsRow w a len cap zs) :
    Calls Try.prog 35 #[.slice a len cap] w fun e y => ∃ v : Int, e = .returned (.int .i64 v) ∧ -9223372036854775808 ≤ v ∧ v ≤ 9223372036854775807 ∧ Below w.heap.size w y := by
  go_enter Try.func35, Try.ntmps35
  go_wp2_with fail
  refine (open_any a len cap zs _ h).mono ?_
  rintro e x ⟨rfl, hR, hb⟩
  go_wp2_with fail
  refine (pick_any w.heap.size 0 4 _ hR (by omega) (by omega)).mono ?_
  rintro e y ⟨v, rfl, v0, v1, hD⟩
  by_cases hv : v = 0
  · subst hv
    go_wp2_with fail
    refine (pick_any w.heap.size 1 64 _ hD.rd (by omega) (by omega)).mono ?_
    rintro e y1 ⟨s, rfl, s0, s1, hD1⟩
    go_wp2_with fail
    refine (pick_any w.heap.size 2 64 _ hD1.rd (by omega) (by omega)).mono ?_
    rintro e y2 ⟨t, rfl, t0, t1, hD2⟩
    go_wp2_with fail
    refine (pick_any w.heap.size 3 6 _ (drawn_alloc _ hD2.rd).rd (by omega) (by omega)).mono ?_
    rintro e z ⟨u, rfl, u0, u1, hE⟩
    have hne : y2.heap.size ≠ w.heap.size := by have := hD2.rd.lt; omega
    have k0 := (hE.cell y2.heap.size 0 hne (by simp)).trans (show _ = some (.int .i64 9223372036854775807) by simp [go_sem])
    have k1 := (hE.cell y2.heap.size 1 hne (by simp)).trans (show _ = some (.int .i64 (-9223372036854775808)) by simp [go_sem])
    have k2 := (hE.cell y2.heap.size 2 hne (by simp)).trans (show _ = some (.int .i64 (9223372036854775807 - s)) by simp [go_sem])
    have k3 := (hE.cell y2.heap.size 3 hne (by simp)).trans (show _ = some (.int .i64 (-9223372036854775807 + t)) by simp [go_sem])
    have k4 := (hE.cell y2.heap.size 4 hne (by simp)).trans (show _ = some (.int .i64 16) by simp [go_sem])
    have k5 := (hE.cell y2.heap.size 5 hne (by simp)).trans (show _ = some (.int .i64 (-17)) by simp [go_sem])
    have hfin := hb.trans ((((hD.trans hD1).trans hD2).trans (drawn_alloc _ hD2.rd)).trans hE).below
    clear hE hD hD1 hD2 hR hb h
    obtain rfl | rfl | rfl | rfl | rfl | rfl : u = 0 ∨ u = 1 ∨ u = 2 ∨ u = 3 ∨ u = 4 ∨ u = 5 := by omega
    all_goals
      go_wp2
      go_ret
      exact ⟨_, rfl, by omega, by omega, hfin⟩
  · have hv' : (v == 0) = false := by simp [hv]
    go_wp2_with fail
    refine (pick_any w.heap.size 1 256 _ hD.rd (by omega) (by omega)).mono ?_
    rintro e y1 ⟨s, rfl, s0, s1, hD1⟩
    go_wp2_with fail
    refine (pick_any w.heap.size 2 3 _ hD1.rd (by omega) (by omega)).mono ?_
    rintro e y2 ⟨t, rfl, t0, t1, hD2⟩
    go_wp2_with fail
    refine (pick_any w.heap.size 3 7 _ hD2.rd (by omega) (by omega)).mono ?_
    rintro e z ⟨u, rfl, u0, u1, hE⟩
    have hfin := (((hD.trans hD1).trans hD2)).trans hE
    go_wp2
    go_ret
    refine ⟨_, rfl, ?_, ?_, hb.trans (hfin.below)⟩
    · unfold wrap64; omega
    · unfold wrap64; omega

set_option maxHeartbeats 1000000 in
theorem drawNumDo_any (a : Option Addr) (len cap : Nat) (zs : List Int) (w : World) (h : IsRow w a len cap zs) :
    Calls Try.prog 36 #[.slice a len cap] w fun e y => ∃ p q s : Int, e = .returned (.tuple #[.int .i64 p, .int .i64 q, .int .i64 s]) ∧ -1 ≤ p ∧ p ≤ 7 ∧ -17 ≤ q ∧ q ≤ 16 ∧ -17 ≤ s ∧ s ≤ 16 ∧ Below w.heap.size w y := by
  go_enter Try.func36, Try.ntmps36
  go_wp2_with fail
  refine (open_any a len cap zs _ h).mono ?_
  rintro e x ⟨rfl, hR, hb⟩
  go_wp2_with fail
  refine (l71Op_any w.heap.size 0 _ hR (by omega)).mono ?_
  rintro e y ⟨p, rfl, p0, p1, hD⟩
  go_wp2_with fail
  refine (l71Word_any w.heap.size 2 _ hD.rd (by omega)).mono ?_
  rintro e y1 ⟨q, rfl, q0, q1, hD1⟩
  go_wp2_with fail
  refine (l71Word_any w.heap.size 4 _ hD1.rd (by omega)).mono ?_
  rintro e y2 ⟨s, rfl, s0, s1, hD2⟩
  go_wp2_with fail
  refine (pick_any w.heap.size 6 24 _ hD2.rd (by omega) (by omega)).mono ?_
  rintro e y3 ⟨t, rfl, t0, t1, hD3⟩
  have hfin := hb.trans (((hD.trans hD1).trans hD2).trans hD3).below
  clear hD hD1 hD2 hD3 hR hb h
  by_cases hv : t = 0
  · subst hv
    go_wp2
    go_ret3
    exact ⟨_, _, _, rfl, p0, p1, by omega, by omega, by omega, by omega, hfin⟩
  · have hv' : (t == 0) = false := by simp [hv]
    by_cases hw : t = 1
    · subst hw
      go_wp2
      go_ret3
      exact ⟨_, _, _, rfl, p0, p1, by omega, by omega, by omega, by omega, hfin⟩
    · have hw' : (t == 1) = false := by simp [hw]
      go_wp2
      go_ret3
      exact ⟨_, _, _, rfl, p0, p1, by omega, by omega, by omega, by omega, hfin⟩
end Go.Proofs.Ytkdlfojjfionkaa
