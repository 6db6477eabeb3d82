import Derived.Test.YtlkebkajdlgebaaGreatB5
/-
  The contracts of the laws' own helpers that copy instructions and procedures (toInsS, toProc, toProcS).
-/
namespace Go.Proofs.YtlkebkajdlgebaaGreat
open Go.RowKit
set_option linter.unusedVariables false
set_option linter.unusedSimpArgs false

def set4 (x : World) (g o : Nat) (v0 v1 v2 v3 : Value) : World := (((x.setCell ⟨g, o, none⟩ v0).setCell ⟨g, o + 1, none⟩ v1).setCell ⟨g, o + 2, none⟩ v2).setCell ⟨g, o + 3, none⟩ v3
theorem set4_miss (x : World) (g o : Nat) (v0 v1 v2 v3 : Value) (b p : Nat) (h : b ≠ g ∨ p < o ∨ o + 4 ≤ p) : (set4 x g o v0 v1 v2 v3).cell? ⟨b, p, none⟩ = x.cell? ⟨b, p, none⟩ := by
  unfold set4
  rw [sc_other (by intro e; injection e; omega), sc_other (by intro e; injection e; omega), sc_other (by intro e; injection e; omega), sc_other (by intro e; injection e; omega)]
theorem set4_some (x : World) (g o : Nat) (v0 v1 v2 v3 : Value) (a : Addr) (h : ∃ v, x.cell? a = some v) : ∃ v, (set4 x g o v0 v1 v2 v3).cell? a = some v := by
  obtain ⟨v, h⟩ := h
  obtain ⟨v, h⟩ := cell?_setCell_some (p := ⟨g, o, none⟩) (x := v0) h
  obtain ⟨v, h⟩ := cell?_setCell_some (p := ⟨g, o + 1, none⟩) (x := v1) h
  obtain ⟨v, h⟩ := cell?_setCell_some (p := ⟨g, o + 2, none⟩) (x := v2) h
  exact cell?_setCell_some (p := ⟨g, o + 3, none⟩) (x := v3) h
theorem set4_hit (x : World) (g o : Nat) (i : I4) (h0 : ∃ v, x.cell? ⟨g, o, none⟩ = some v) (h1 : ∃ v, x.cell? ⟨g, o + 1, none⟩ = some v) (h2 : ∃ v, x.cell? ⟨g, o + 2, none⟩ = some v) (h3 : ∃ v, x.cell? ⟨g, o + 3, none⟩ = some v) :
    Ins4 (set4 x g o (.int .i64 i.1) (.int .i64 i.2.1) (.int .i64 i.2.2.1) (.int .i64 i.2.2.2)) g o i := by
  obtain ⟨u0, h0⟩ := h0
  obtain ⟨u1, h1⟩ := h1
  obtain ⟨u2, h2⟩ := h2
  obtain ⟨u3, h3⟩ := h3
  unfold set4
  refine ⟨?_, ?_, ?_, ?_⟩
  · rw [sc_other (by intro e; injection e; omega), sc_other (by intro e; injection e; omega), sc_other (by intro e; injection e; omega), sc_same h0]
  · rw [sc_other (by intro e; injection e; omega), sc_other (by intro e; injection e; omega), sc_same ((sc_other (by intro e; injection e; omega)).trans h1)]
  · rw [sc_other (by intro e; injection e; omega), sc_same ((sc_other (by intro e; injection e; omega)).trans ((sc_other (by intro e; injection e; omega)).trans h2))]
  · rw [sc_same ((sc_other (by intro e; injection e; omega)).trans ((sc_other (by intro e; injection e; omega)).trans ((sc_other (by intro e; injection e; omega)).trans h3)))]
theorem set4_frozen (x : World) (g o : Nat) (v0 v1 v2 v3 : Value) (a : Addr) : (set4 x g o v0 v1 v2 v3).frozen? a = x.frozen? a := by unfold set4; simp
theorem set4_below {B : Nat} {w x : World} {g o : Nat} {v0 v1 v2 v3 : Value} (h : Below B w x) (hg : B ≤ g) : Below B w (set4 x g o v0 v1 v2 v3) :=
  (((h.setCell (p := ⟨g, o, none⟩) hg _).setCell (p := ⟨g, o + 1, none⟩) hg _).setCell (p := ⟨g, o + 2, none⟩) hg _).setCell (p := ⟨g, o + 3, none⟩) hg _
theorem set4_size (x : World) (g o : Nat) (v0 v1 v2 v3 : Value) : (set4 x g o v0 v1 v2 v3).heap.size = x.heap.size := by unfold set4; simp

/-- a code in memory of its own, between the blocks B and E -/
def CFree (x : World) (B E : Nat) (u : Value) : Prop := ∃ g o n cap, u = .slice (some ⟨g, o, none⟩) n cap ∧ B ≤ g ∧ g < E ∧ E ≤ x.heap.size ∧ (∀ k, x.frozen? ⟨g, k, none⟩ = false) ∧ ∀ j, j < n * 4 → ∃ v, x.cell? ⟨g, o + j, none⟩ = some v
theorem CFree.later {x y : World} {B E : Nat} {u : Value} (h : CFree x B E u) (hb : Below x.heap.size x y) : CFree y B E u := by
  obtain ⟨g, o, n, cap, e, h1, h2, h3, hf, hc⟩ := h
  have hg : g < x.heap.size := by omega
  exact ⟨g, o, n, cap, e, h1, h2, Nat.le_trans h3 hb.size, fun k => (hb.frozen (p := ⟨g, k, none⟩) hg).trans (hf k), fun j hj => by obtain ⟨v, hv⟩ := hc j hj; exact ⟨v, (hb.cell (p := ⟨g, _, none⟩) hg).trans hv⟩⟩
theorem CFree.wide {x : World} {B E C D : Nat} {u : Value} (h : CFree x B E u) (hc : C ≤ B) (hd : E ≤ D) (hx : D ≤ x.heap.size) : CFree x C D u := by
  obtain ⟨g, o, n, cap, e, h1, h2, h3, hf, hcc⟩ := h
  exact ⟨g, o, n, cap, e, by omega, by omega, hx, hf, hcc⟩
theorem CFree.off {x : World} {B E : Nat} {u : Value} (h : CFree x B E u) {b o : Nat} {v : Value} (hb : b < B) : CFree (x.setCell ⟨b, o, none⟩ v) B E u := by
  obtain ⟨g, q, n, cap, e, h1, h2, h3, hf, hc⟩ := h
  exact ⟨g, q, n, cap, e, h1, h2, by simpa using h3, fun k => (World.frozen?_setCell _ _ _ _).trans (hf k), fun j hj => by obtain ⟨w, hw⟩ := hc j hj; exact ⟨w, (sc_other (by intro e; injection e; omega)).trans hw⟩⟩

theorem infoIns : (Tryz.prog.info? 104).map (fun i => (i.zero, i.size, i.bytes)) = some (some (aggI i0), 4, 32) := by kernel_rfl
set_option maxHeartbeats 1000000 in
theorem toInsS_free (x : World) (B : Nat) (v : Value) (c : List I4) (h : CodeAt x B v c) (hn : c.length ≤ 1048576) :
    Calls Tryz.prog 55 #[v] x fun e y => ∃ u, e = .returned u ∧ CodeAt y x.heap.size u c ∧ CFree y x.heap.size y.heap.size u ∧ Below x.heap.size x y := by
  obtain ⟨i, hi, hz0, hz1, hz2⟩ : ∃ i, Tryz.prog.info? 104 = some i ∧ i.zero = some (aggI i0) ∧ i.size = 4 ∧ i.bytes = 32 := info_parts infoIns
  have HI : Hid (Tryz.prog.info? 104 = some i ∧ i.zero = some (aggI i0) ∧ i.size = 4 ∧ i.bytes = 32) := ⟨hi, hz0, hz1, hz2⟩
  clear hi hz0 hz1 hz2
  obtain ⟨p, cap, rfl, hm, hc⟩ := h
  generalize hL : c.length = n at *
  have HL : Hid (c.length = n) := hL
  have HN : Hid (n ≤ 1048576) := hn
  have hni : (n : Int) ≤ 1048576 := by omega
  have HM : Hid (n ≤ maxLen) := hm
  clear hL hn hm
  go_enter Tryz.func55, Tryz.ntmps55
  go_wp2_with (refine wpList_make_full _ rfl _ _ 72 rfl x.heap.size 104 i (aggI i0) 4 Tryz.underlying72 HI.out.1 HI.out.2.1 HI.out.2.2.1 .i64 .i64 n n n rfl rfl rfl rfl ?b2 HM.out (Nat.le_refl _) ?_)
  case b2 => rw [HI.out.2.2.2]; have := HN.out; omega
  intro w1 hown0 hgr
  obtain ⟨xs, hown⟩ : ∃ xs, w1.ownsRow x.heap.size 104 4 (.slice (some ⟨x.heap.size, 0, none⟩) n n) n xs := ⟨_, hown0⟩
  clear hown0
  have hg1 : x.heap.size < w1.heap.size := (World.ownsRow.lt hown x.heap.size rfl).2
  have hB1 : Below x.heap.size x w1 := (Below.refl _ _).grown hgr (Nat.le_refl _) (fun k hk => by simp at hk)
  have hcell : ∀ k, k < n * 4 → (∃ v, w1.cell? ⟨x.heap.size, k, none⟩ = some v) ∧ w1.frozen? ⟨x.heap.size, k, none⟩ = false := by
    intro k hk
    refine ⟨?_, World.ownsRow.frozenAt hown k⟩
    have hl : k < xs.length := by rw [hown.1]; exact hk
    have := World.ownsRow.cells hown rfl k _ (List.getElem?_eq_getElem hl)
    rw [Addr.add_mid, Nat.zero_add] at this
    exact ⟨_, this⟩
  have hfz : ∀ j, w1.frozen? ⟨x.heap.size, j, none⟩ = false := fun j => World.ownsRow.frozenAt hown j
  clear hown hgr
  go_wp2_with fail
  go_loopw [4] (fun t y => ∃ k : Nat, k ≤ n ∧ t = .int .i64 k ∧ Below x.heap.size x y ∧ x.heap.size < y.heap.size ∧ (∀ j, j < n * 4 → (∃ v, y.cell? ⟨x.heap.size, j, none⟩ = some v) ∧ y.frozen? ⟨x.heap.size, j, none⟩ = false) ∧ (∀ j, j < k → Ins4 y x.heap.size (j * 4) (c.getD j i0)) ∧ Hid (∀ j, y.frozen? ⟨x.heap.size, j, none⟩ = false)) (fun t _ => n - (intOf t).toNat)
  case atStart => exact ⟨0, by omega, rfl, hB1, hg1, hcell, fun j hj => by omega, hfz⟩
  case round =>
    clear hB1 hg1 hcell hfz
    obtain ⟨k, hk, rfl, hB, hg, hcell, hdone, HZ⟩ := hrel
    by_cases hlt : k < n
    · rcases hc with h0 | ⟨g, o, rfl, hBg, hgx, hins⟩
      · omega
      have hki : (k : Int) < (n : Int) := by omega
      obtain ⟨q0, q1, q2, q3⟩ := (hins k hlt)
      have d0 := (hB.cell (p := ⟨g, o + k * 4, none⟩) hgx).trans q0
      have d1 := (hB.cell (p := ⟨g, o + k * 4 + 1, none⟩) hgx).trans q1
      have d2 := (hB.cell (p := ⟨g, o + k * 4 + 2, none⟩) hgx).trans q2
      have d3 := (hB.cell (p := ⟨g, o + k * 4 + 3, none⟩) hgx).trans q3
      clear q0 q1 q2 q3
      have HC : Hid (∀ j, j < n * 4 → (∃ v, wr.cell? ⟨x.heap.size, j, none⟩ = some v) ∧ wr.frozen? ⟨x.heap.size, j, none⟩ = false) := hcell
      have HD : Hid (∀ j, j < k → Ins4 wr x.heap.size (j * 4) (c.getD j i0)) := hdone
      have HX : Hid (∀ j, j < n → Ins4 x g (o + j * 4) (c.getD j i0)) := hins
      clear hcell hdone hins
      go_wp2_with fail
      generalize hI : c[k]?.getD i0 = I
      have HII : Hid (c.getD k i0 = I) := by rw [List.getD]; exact hI
      clear hI
      refine (toIns_any I _).mono ?_
      rintro e w2 ⟨rfl, hb2⟩
      unfold aggI
      obtain ⟨⟨u0, e0⟩, f0⟩ := HC.out (k * 4) (by omega)
      obtain ⟨⟨u1, e1⟩, f1⟩ := HC.out (k * 4 + 1) (by omega)
      obtain ⟨⟨u2, e2⟩, f2⟩ := HC.out (k * 4 + 2) (by omega)
      obtain ⟨⟨u3, e3⟩, f3⟩ := HC.out (k * 4 + 3) (by omega)
      replace e0 := (hb2.cell (p := ⟨x.heap.size, k * 4, none⟩) hg).trans e0
      replace e1 := (hb2.cell (p := ⟨x.heap.size, k * 4 + 1, none⟩) hg).trans e1
      replace e2 := (hb2.cell (p := ⟨x.heap.size, k * 4 + 2, none⟩) hg).trans e2
      replace e3 := (hb2.cell (p := ⟨x.heap.size, k * 4 + 3, none⟩) hg).trans e3
      replace f0 := (hb2.frozen (p := ⟨x.heap.size, k * 4, none⟩) hg).trans f0
      replace f1 := (hb2.frozen (p := ⟨x.heap.size, k * 4 + 1, none⟩) hg).trans f1
      replace f2 := (hb2.frozen (p := ⟨x.heap.size, k * 4 + 2, none⟩) hg).trans f2
      replace f3 := (hb2.frozen (p := ⟨x.heap.size, k * 4 + 3, none⟩) hg).trans f3
      clear d0 d1 d2 d3
      go_wp2_with fail
      go_roundw
      case rel =>
        refine ⟨k + 1, by omega, by go_num, ?_⟩
        change Below x.heap.size x (set4 w2 x.heap.size (k * 4) _ _ _ _) ∧ x.heap.size < (set4 w2 x.heap.size (k * 4) _ _ _ _).heap.size ∧ (∀ j, j < n * 4 → (∃ v, (set4 w2 x.heap.size (k * 4) _ _ _ _).cell? ⟨x.heap.size, j, none⟩ = some v) ∧ (set4 w2 x.heap.size (k * 4) _ _ _ _).frozen? ⟨x.heap.size, j, none⟩ = false) ∧ (∀ j, j < k + 1 → Ins4 (set4 w2 x.heap.size (k * 4) _ _ _ _) x.heap.size (j * 4) (c.getD j i0)) ∧ Hid (∀ j, (set4 w2 x.heap.size (k * 4) _ _ _ _).frozen? ⟨x.heap.size, j, none⟩ = false)
        refine ⟨set4_below (hB.trans (hb2.mono hB.size)) (Nat.le_refl _), by rw [set4_size]; exact Nat.lt_of_lt_of_le hg hb2.size, fun j hj => ⟨set4_some _ _ _ _ _ _ _ _ ?_, ?_⟩, fun j hj => ?_, fun j => (set4_frozen _ _ _ _ _ _ _ _).trans ((hb2.frozen (p := ⟨x.heap.size, j, none⟩) hg).trans (HZ.out j))⟩
        · obtain ⟨v, hv⟩ := (HC.out j hj).1
          exact ⟨v, (hb2.cell (p := ⟨x.heap.size, j, none⟩) hg).trans hv⟩
        · rw [set4_frozen]; exact (hb2.frozen (p := ⟨x.heap.size, j, none⟩) hg).trans (HC.out j hj).2
        · by_cases hjk : j = k
          · subst hjk
            rw [HII.out]
            exact set4_hit w2 x.heap.size (j * 4) I ⟨_, e0⟩ ⟨_, e1⟩ ⟨_, e2⟩ ⟨_, e3⟩
          · obtain ⟨r0, r1, r2, r3⟩ := (HD.out j (by omega)).later hb2 hg
            exact ⟨(set4_miss _ _ _ _ _ _ _ _ _ (by omega)).trans r0, (set4_miss _ _ _ _ _ _ _ _ _ (by omega)).trans r1, (set4_miss _ _ _ _ _ _ _ _ _ (by omega)).trans r2, (set4_miss _ _ _ _ _ _ _ _ _ (by omega)).trans r3⟩
      case measure => simp [intOf]; omega
    · obtain rfl : k = n := by omega
      have hki : ¬ (k : Int) < (k : Int) := by omega
      have HD : Hid (∀ j, j < k → Ins4 wr x.heap.size (j * 4) (c.getD j i0)) := hdone
      have HC : Hid (∀ j, j < k * 4 → (∃ v, wr.cell? ⟨x.heap.size, j, none⟩ = some v) ∧ wr.frozen? ⟨x.heap.size, j, none⟩ = false) := hcell
      clear hcell hdone hc
      go_wp2_with fail
      go_ret
      exact ⟨_, rfl, ⟨some ⟨x.heap.size, 0, none⟩, k, by rw [HL.out]; rfl, by rw [HL.out]; exact HM.out, .inr ⟨x.heap.size, 0, rfl, Nat.le_refl _, hg, fun j hj => by rw [Nat.zero_add]; rw [HL.out] at hj; exact HD.out j hj⟩⟩, ⟨x.heap.size, 0, k, k, rfl, Nat.le_refl _, hg, Nat.le_refl _, HZ.out, fun j hj => by rw [Nat.zero_add]; exact (HC.out j hj).1⟩, hB⟩
theorem toInsS_any (x : World) (B : Nat) (v : Value) (c : List I4) (h : CodeAt x B v c) (hn : c.length ≤ 1048576) :
    Calls Tryz.prog 55 #[v] x fun e y => ∃ u, e = .returned u ∧ CodeAt y x.heap.size u c ∧ Below x.heap.size x y :=
  (toInsS_free x B v c h hn).mono fun e y ⟨u, h1, h2, _, h4⟩ => ⟨u, h1, h2, h4⟩

end Go.Proofs.YtlkebkajdlgebaaGreat

/-
  The contracts of the laws' own helpers on whole programs: measured (szProcS), copied (toProc, toProcS), the same (eqInsS, eqProc, eqProcS).
-/
namespace Go.Proofs.YtlkebkajdlgebaaGreat
open Go.RowKit
set_option linter.unusedVariables false
set_option linter.unusedSimpArgs false

theorem CodeAt.lower {x : World} {B C : Nat} {v : Value} {c : List I4} (h : CodeAt x B v c) (hc : C ≤ B) : CodeAt x C v c := by
  obtain ⟨p, cap, hv, hm, hq⟩ := h
  refine ⟨p, cap, hv, hm, hq.imp id ?_⟩
  rintro ⟨g, o, hp, hB, hg, hj⟩
  exact ⟨g, o, hp, Nat.le_trans hc hB, hg, hj⟩

theorem CodeAt.off {x : World} {B : Nat} {v : Value} {c : List I4} (h : CodeAt x B v c) {b o : Nat} {u : Value} (hb : b < B) : CodeAt (x.setCell ⟨b, o, none⟩ u) B v c := by
  obtain ⟨p, cap, hv, hm, hq⟩ := h
  refine ⟨p, cap, hv, hm, hq.imp id ?_⟩
  rintro ⟨g, q, hp, hB, hg, hj⟩
  have far : ∀ k, (x.setCell ⟨b, o, none⟩ u).cell? ⟨g, k, none⟩ = x.cell? ⟨g, k, none⟩ := fun k => sc_other (by intro e; injection e; omega)
  exact ⟨g, q, hp, hB, by simpa using hg, fun j h => ⟨(far _).trans (hj j h).c0, (far _).trans (hj j h).c1, (far _).trans (hj j h).c2, (far _).trans (hj j h).c3⟩⟩

set_option maxHeartbeats 1000000 in
theorem toProc_free (x : World) (B : Nat) (v : Value) (c : List I4) (h : CodeAt x B v c) (hn : c.length ≤ 1048576) :
    Calls Tryz.prog 33 #[.agg #[v]] x fun e y => ∃ u, e = .returned (.agg #[u]) ∧ CodeAt y x.heap.size u c ∧ CFree y x.heap.size y.heap.size u ∧ Below x.heap.size x y := by
  have hone : v.oneCell' = true := by obtain ⟨p, cap, rfl, _⟩ := h; rfl
  have HN : Hid (c.length ≤ 1048576) := hn
  clear hn
  go_enter Tryz.func33, Tryz.ntmps33
  go_wp2_with fail
  have hbW : Below x.heap.size x (((x.alloc (.cells #[v] 64)).alloc (.cells #[.slice none 0 0] 74)).alloc (.cells #[.slice none 0 0] 74)) := by go_grown
  refine (toInsS_free _ B v c (h.later hbW) HN.out).mono ?_
  rintro e y ⟨u, rfl, hc, hfr, hb⟩
  have HFR : Hid (CFree y (x.heap.size + 1 + 1 + 1) y.heap.size u) := hfr.wide (by simp) (Nat.le_refl _) (Nat.le_refl _)
  clear hfr
  have hc3 : CodeAt y (x.heap.size + 1 + 1 + 1) u c := hc.lower (by simp)
  obtain ⟨q, cp, hu, _⟩ := id hc3
  subst hu
  have hB : Below x.heap.size x y := hbW.trans (hb.mono (by first | (simp; done) | (simp; omega)))
  have n1 : x.heap.size + 1 < y.heap.size := by have := hb.size; simp at this; omega
  have n2 : x.heap.size + 1 + 1 < y.heap.size := by have := hb.size; simp at this; omega
  have c1 : y.cell? ⟨x.heap.size + 1, 0, none⟩ = some (.slice none 0 0) := (hb.cell (p := ⟨x.heap.size + 1, 0, none⟩) (by simp)).trans (by simp [go_sem])
  have c2 : y.cell? ⟨x.heap.size + 1 + 1, 0, none⟩ = some (.slice none 0 0) := (hb.cell (p := ⟨x.heap.size + 1 + 1, 0, none⟩) (by simp)).trans (by simp [go_sem])
  have f1 : y.frozen? ⟨x.heap.size + 1, 0, none⟩ = false := (hb.frozen (p := ⟨x.heap.size + 1, 0, none⟩) (by simp)).trans (by simp [go_sem])
  have f2 : y.frozen? ⟨x.heap.size + 1 + 1, 0, none⟩ = false := (hb.frozen (p := ⟨x.heap.size + 1 + 1, 0, none⟩) (by simp)).trans (by simp [go_sem])
  clear hbW hb h hc
  go_wp2_with fail
  refine bodyPost_ret (v := .agg #[.slice q c.length cp]) (by simp [results, Tryz.results33, go_sem, n1, n2, c1, c2]) rfl ⟨_, rfl, ?_, ?_, ?_⟩
  · exact ((hc3.off (by omega)).off (by omega)).lower (by omega)
  · exact ((HFR.out.off (by omega)).off (by omega)).wide (by omega) (by simp) (by simp)
  · exact (hB.setCell (by first | (simp; done) | (simp; omega)) _).setCell (by first | (simp; done) | (simp; omega)) _

theorem toProc_any (x : World) (B : Nat) (v : Value) (c : List I4) (h : CodeAt x B v c) (hn : c.length ≤ 1048576) :
    Calls Tryz.prog 33 #[.agg #[v]] x fun e y => ∃ u, e = .returned (.agg #[u]) ∧ CodeAt y x.heap.size u c ∧ Below x.heap.size x y :=
  (toProc_free x B v c h hn).mono fun e y ⟨u, h1, h2, _, h4⟩ => ⟨u, h1, h2, h4⟩
/-- a program in memory of its own, between the blocks B and E -/
def FreeP (x : World) (B E : Nat) (v : Value) (P : List (List I4)) : Prop := ∃ g cap, v = .slice (some ⟨g, 0, none⟩) P.length cap ∧ B ≤ g ∧ g < E ∧ E ≤ x.heap.size ∧ ∀ j, j < P.length → ∃ u, x.cell? ⟨g, j, none⟩ = some u ∧ CodeAt x (g + 1) u (P.getD j []) ∧ CFree x (g + 1) E u
theorem FreeP.later {x y : World} {B E : Nat} {v : Value} {P : List (List I4)} (h : FreeP x B E v P) (hb : Below x.heap.size x y) : FreeP y B E v P := by
  obtain ⟨g, cap, e, h1, h2, h3, hj⟩ := h
  have hg : g < x.heap.size := by omega
  refine ⟨g, cap, e, h1, h2, Nat.le_trans h3 hb.size, fun j hl => ?_⟩
  obtain ⟨u, hu, hc, hf⟩ := hj j hl
  exact ⟨u, (hb.cell (p := ⟨g, j, none⟩) hg).trans hu, hc.later hb, hf.later hb⟩
theorem FreeP.prog {x : World} {B E : Nat} {v : Value} {P : List (List I4)} (h : FreeP x B E v P) (hm : P.length ≤ maxLen) : ProgAt x B v P := by
  obtain ⟨g, cap, e, h1, h2, h3, hj⟩ := h
  refine ⟨_, cap, e, hm, .inr ⟨g, 0, rfl, h1, by omega, fun j hl => ?_⟩⟩
  obtain ⟨u, hu, hc, hf⟩ := hj j hl
  rw [Nat.zero_add]
  exact ⟨u, hu, hc.lower (by omega)⟩

theorem infoProc : (Tryz.prog.info? 74).map (fun i => (i.zero, i.size, i.bytes)) = some (some (.agg #[.slice none 0 0]), 1, 24) := by kernel_rfl
set_option maxHeartbeats 2000000 in
theorem toProcS_free (x : World) (B : Nat) (v : Value) (P : List (List I4)) (h : ProgAt x B v P) (hn : P.length ≤ 1048576) (hall : ∀ j, j < P.length → (P.getD j []).length ≤ 1048576) :
    Calls Tryz.prog 10 #[v] x fun e y => ∃ u, e = .returned u ∧ FreeP y x.heap.size y.heap.size u P ∧ Below x.heap.size x y := by
  obtain ⟨i, hi, hz0, hz1, hz2⟩ : ∃ i, Tryz.prog.info? 74 = some i ∧ i.zero = some (.agg #[.slice none 0 0]) ∧ i.size = 1 ∧ i.bytes = 24 := info_parts infoProc
  have HI : Hid (Tryz.prog.info? 74 = some i ∧ i.zero = some (.agg #[.slice none 0 0]) ∧ i.size = 1 ∧ i.bytes = 24) := ⟨hi, hz0, hz1, hz2⟩
  clear hi hz0 hz1 hz2
  obtain ⟨p, cap, rfl, hm, hc⟩ := h
  generalize hL : P.length = n at *
  have HL : Hid (P.length = n) := hL
  have HN : Hid (n ≤ 1048576) := hn
  have HA : Hid (∀ j, j < n → (P.getD j []).length ≤ 1048576) := hall
  have hni : (n : Int) ≤ 1048576 := by omega
  have HM : Hid (n ≤ maxLen) := hm
  clear hL hn hm hall
  go_enter Tryz.func10, Tryz.ntmps10
  go_wp2_with (refine wpList_make_full _ rfl _ _ 29 rfl x.heap.size 74 i (.agg #[.slice none 0 0]) 1 Tryz.underlying29 HI.out.1 HI.out.2.1 HI.out.2.2.1 .i64 .i64 n n n rfl rfl rfl rfl ?b2 HM.out (Nat.le_refl _) ?_)
  case b2 => rw [HI.out.2.2.2]; have := HN.out; omega
  intro w1 hown0 hgr
  obtain ⟨xs, hown⟩ : ∃ xs, w1.ownsRow x.heap.size 74 1 (.slice (some ⟨x.heap.size, 0, none⟩) n n) n xs := ⟨_, hown0⟩
  clear hown0
  have hg1 : x.heap.size < w1.heap.size := (World.ownsRow.lt hown x.heap.size rfl).2
  have hB1 : Below x.heap.size x w1 := (Below.refl _ _).grown hgr (Nat.le_refl _) (fun k hk => by simp at hk)
  have hcell : ∀ k, k < n → (∃ v, w1.cell? ⟨x.heap.size, k, none⟩ = some v) ∧ w1.frozen? ⟨x.heap.size, k, none⟩ = false := by
    intro k hk
    refine ⟨?_, World.ownsRow.frozenAt hown k⟩
    have hl : k < xs.length := by rw [hown.1]; omega
    have := World.ownsRow.cells hown rfl k _ (List.getElem?_eq_getElem hl)
    rw [Addr.add_mid, Nat.zero_add] at this
    exact ⟨_, this⟩
  clear hown hgr
  go_wp2_with fail
  go_loopw [4] (fun t y => ∃ k : Nat, k ≤ n ∧ t = .int .i64 k ∧ Below x.heap.size x y ∧ x.heap.size < y.heap.size ∧ (∀ j, j < n → (∃ v, y.cell? ⟨x.heap.size, j, none⟩ = some v) ∧ y.frozen? ⟨x.heap.size, j, none⟩ = false) ∧ (∀ j, j < k → ∃ u, y.cell? ⟨x.heap.size, j, none⟩ = some u ∧ CodeAt y (x.heap.size + 1) u (P.getD j []) ∧ CFree y (x.heap.size + 1) y.heap.size u)) (fun t _ => n - (intOf t).toNat)
  case atStart => exact ⟨0, by omega, rfl, hB1, hg1, hcell, fun j hj => by omega⟩
  case round =>
    clear hB1 hg1 hcell
    obtain ⟨k, hk, rfl, hB, hg, hcell, hdone⟩ := hrel
    by_cases hlt : k < n
    · rcases hc with h0 | ⟨g, o, rfl, hBg, hgx, hins⟩
      · omega
      have hki : (k : Int) < (n : Int) := by omega
      obtain ⟨uk, cu, hcu⟩ := hins k hlt
      have hcuw := hcu.later (hb := hB)
      obtain ⟨pk, ck, hu, _⟩ := id hcuw
      subst hu
      have d0 := (hB.cell (p := ⟨g, o + k, none⟩) hgx).trans cu
      have HC : Hid (∀ j, j < n → (∃ v, wr.cell? ⟨x.heap.size, j, none⟩ = some v) ∧ wr.frozen? ⟨x.heap.size, j, none⟩ = false) := hcell
      have HD : Hid (∀ j, j < k → ∃ u, wr.cell? ⟨x.heap.size, j, none⟩ = some u ∧ CodeAt wr (x.heap.size + 1) u (P.getD j []) ∧ CFree wr (x.heap.size + 1) wr.heap.size u) := hdone
      have HX : Hid (∀ j, j < n → ∃ u, x.cell? ⟨g, o + j, none⟩ = some u ∧ CodeAt x B u (P.getD j [])) := hins
      have hle := HA.out k hlt
      have HLe : Hid ((P.getD k []).length ≤ 1048576) := hle
      have HCU : Hid (CodeAt wr B (.slice pk (P.getD k []).length ck) (P.getD k [])) := hcuw
      clear hcell hdone hins hle hcu hcuw cu
      generalize hI : P.getD k [] = C at HLe HCU d0
      have HII : Hid (P.getD k [] = C) := hI
      clear hI
      go_wp2_with fail
      refine (toProc_free _ B _ C HCU.out HLe.out).mono ?_
      rintro e w2 ⟨u2, rfl, hcn, hcf, hb2⟩
      have HCF : Hid (CFree w2 (x.heap.size + 1) w2.heap.size u2) := hcf.wide (by omega) (Nat.le_refl _) (Nat.le_refl _)
      clear hcf
      have hcn1 : CodeAt w2 (x.heap.size + 1) u2 C := hcn.lower (by omega)
      obtain ⟨p2, c2, hu2, _⟩ := id hcn1
      subst hu2
      obtain ⟨⟨u0, e0⟩, f0⟩ := HC.out k hlt
      replace e0 := (hb2.cell (p := ⟨x.heap.size, k, none⟩) hg).trans e0
      replace f0 := (hb2.frozen (p := ⟨x.heap.size, k, none⟩) hg).trans f0
      clear d0 hcn
      go_wp2_with fail
      go_roundw
      case rel =>
        refine ⟨k + 1, by omega, by go_num, (hB.trans (hb2.mono hB.size)).setCell (by simp) _, by simp; exact Nat.lt_of_lt_of_le hg hb2.size, fun j hj => ⟨?_, ?_⟩, fun j hj => ?_⟩
        · obtain ⟨v, hv⟩ := (HC.out j hj).1
          exact cell?_setCell_some ((hb2.cell (p := ⟨x.heap.size, j, none⟩) hg).trans hv)
        · rw [World.frozen?_setCell]; exact (hb2.frozen (p := ⟨x.heap.size, j, none⟩) hg).trans (HC.out j hj).2
        · by_cases hjk : j = k
          · subst hjk
            exact ⟨_, sc_same e0, by rw [HII.out]; exact hcn1.off (by omega), (HCF.out.off (by omega)).wide (Nat.le_refl _) (by simp) (by simp)⟩
          · obtain ⟨u, h1, h2, h3⟩ := HD.out j (by omega)
            exact ⟨u, (sc_other (by intro e; injection e; omega)).trans ((hb2.cell (p := ⟨x.heap.size, j, none⟩) hg).trans h1), (h2.later hb2).off (by omega), ((h3.later hb2).off (by omega)).wide (Nat.le_refl _) (by simpa using hb2.size) (by simp)⟩
      case measure => simp [intOf]; omega
    · obtain rfl : k = n := by omega
      have hki : ¬ (k : Int) < (k : Int) := by omega
      have HD : Hid (∀ j, j < k → ∃ u, wr.cell? ⟨x.heap.size, j, none⟩ = some u ∧ CodeAt wr (x.heap.size + 1) u (P.getD j []) ∧ CFree wr (x.heap.size + 1) wr.heap.size u) := hdone
      clear hcell hdone hc
      go_wp2_with fail
      go_ret
      refine ⟨_, rfl, ⟨x.heap.size, k, by rw [HL.out]; rfl, Nat.le_refl _, hg, Nat.le_refl _, fun j hj => ?_⟩, hB⟩
      rw [HL.out] at hj
      exact HD.out j hj
theorem toProcS_any (x : World) (B : Nat) (v : Value) (P : List (List I4)) (h : ProgAt x B v P) (hn : P.length ≤ 1048576) (hall : ∀ j, j < P.length → (P.getD j []).length ≤ 1048576) :
    Calls Tryz.prog 10 #[v] x fun e y => ∃ u, e = .returned u ∧ ProgAt y x.heap.size u P ∧ Below x.heap.size x y :=
  (toProcS_free x B v P h hn hall).mono fun e y ⟨u, h1, h2, h4⟩ => ⟨u, h1, h2.prog (by unfold maxLen; omega), h4⟩

/-- how many procedures and instructions there are -/
def sizeP : List (List I4) → Nat
  | [] => 0
  | c :: r => c.length + sizeP r
theorem sizeP_take (P : List (List I4)) (k : Nat) (h : k < P.length) : sizeP (P.take (k + 1)) = sizeP (P.take k) + (P.getD k []).length := by
  induction P generalizing k with
  | nil => simp at h
  | cons c r ih =>
    cases k with
    | zero => simp [sizeP]
    | succ k =>
      have := ih k (by simpa using h)
      simp only [List.take_succ_cons, sizeP, List.getD_cons_succ] at *
      omega

set_option maxHeartbeats 2000000 in
theorem szProcS_any (x : World) (B : Nat) (v : Value) (P : List (List I4)) (h : ProgAt x B v P) :
    Calls Tryz.prog 7 #[v, .int .i64 1048576] x fun e y => ∃ r : Int, e = .returned (.int .i64 r) ∧ (0 ≤ r → P.length ≤ 1048576 ∧ ∀ j, j < P.length → (P.getD j []).length ≤ 1048576) ∧ r ≤ 1048576 ∧ Below x.heap.size x y := by
  obtain ⟨p, cap, rfl, hm, hc⟩ := h
  generalize hL : P.length = n at *
  have HL : Hid (P.length = n) := hL
  have HM : Hid (n ≤ maxLen) := hm
  unfold maxLen at hm
  have hni : (n : Int) ≤ 9223372036854775807 := by omega
  clear hL hm
  by_cases hbig : 1048576 - (n : Int) < 0
  · go_enter Tryz.func7, Tryz.ntmps7
    go_wp2_with fail
    go_ret
    exact ⟨-1, rfl, fun h => by omega, by omega, Below.refl _ _⟩
  · have hbig' : ¬ 1048576 - (n : Int) < 0 := hbig
    have HB : Hid (n ≤ 1048576) := by show n ≤ 1048576; omega
    go_enter Tryz.func7, Tryz.ntmps7
    go_wp2_with fail
    go_loopw [1, 5] (fun l t y => ∃ (k : Nat) (L : Int), k ≤ n ∧ t = .int .i64 k ∧ l = .int .i64 L ∧ 0 ≤ L ∧ L ≤ 1048576 ∧ (∀ j, j < k → (P.getD j []).length ≤ 1048576) ∧ Below x.heap.size x y) (fun _ t _ => n - (intOf t).toNat)
    case atStart => exact ⟨0, _, by omega, rfl, rfl, by omega, by omega, fun j hj => by omega, Below.refl _ _⟩
    case round =>
      obtain ⟨k, L, hk, rfl, rfl, hL0, hL1, hdone, hB⟩ := hrel
      have HD : Hid (∀ j, j < k → (P.getD j []).length ≤ 1048576) := hdone
      clear hdone
      by_cases hlt : k < n
      · rcases hc with h0 | ⟨g, o, rfl, hBg, hgx, hins⟩
        · omega
        have hki : (k : Int) < (n : Int) := by omega
        obtain ⟨uk, cu, hcu⟩ := hins k hlt
        obtain ⟨pk, ck, hu, hmk, _⟩ := id hcu
        subst hu
        have d0 := (hB.cell (p := ⟨g, o + k, none⟩) hgx).trans cu
        clear hins hcu cu
        have HMK : Hid ((P.getD k []).length ≤ maxLen) := hmk
        clear hmk
        generalize hI : (P.getD k []).length = m at d0 HMK
        have HII : Hid ((P.getD k []).length = m) := hI
        clear hI
        by_cases hneg : L - (m : Int) < 0
        · go_wp2_with (go_at_call 29; refine (szProc_any _ _ _ _ _ hL0 hL1 HMK.out).mono ?_; rintro e w2 ⟨rfl, hb2⟩; rw [if_pos hneg])
          go_ret
          exact ⟨-1, rfl, fun h => by omega, by omega, hB.trans (hb2.mono hB.size)⟩
        · go_wp2_with (go_at_call 29; refine (szProc_any _ _ _ _ _ hL0 hL1 HMK.out).mono ?_; rintro e w2 ⟨rfl, hb2⟩; rw [if_neg hneg])
          go_roundw
          case rel =>
            refine ⟨k + 1, _, by omega, by go_num, rfl, by omega, by omega, fun j hj => ?_, hB.trans (hb2.mono hB.size)⟩
            by_cases hjk : j = k
            · subst hjk; rw [HII.out]; omega
            · exact HD.out j (by omega)
          case measure => simp [intOf]; omega
      · obtain rfl : k = n := by omega
        have hki : ¬ (k : Int) < (k : Int) := by omega
        go_wp2_with fail
        go_ret
        exact ⟨L, rfl, fun _ => ⟨HB.out, HD.out⟩, hL1, hB⟩

theorem keep8 {w y : World} {g o g' o' k : Nat} {I : I4} (h : (fun z => z.cell? ⟨g, o + k * 4, none⟩ = some (.int .i64 I.1) ∧ z.cell? ⟨g, o + k * 4 + 1, none⟩ = some (.int .i64 I.2.1) ∧ z.cell? ⟨g, o + k * 4 + 2, none⟩ = some (.int .i64 I.2.2.1) ∧ z.cell? ⟨g, o + k * 4 + 3, none⟩ = some (.int .i64 I.2.2.2) ∧ z.cell? ⟨g', o' + k * 4, none⟩ = some (.int .i64 I.1) ∧ z.cell? ⟨g', o' + k * 4 + 1, none⟩ = some (.int .i64 I.2.1) ∧ z.cell? ⟨g', o' + k * 4 + 2, none⟩ = some (.int .i64 I.2.2.1) ∧ z.cell? ⟨g', o' + k * 4 + 3, none⟩ = some (.int .i64 I.2.2.2)) w) (hb : Below w.heap.size w y) (hg : g < w.heap.size) (hg' : g' < w.heap.size) : (fun z => z.cell? ⟨g, o + k * 4, none⟩ = some (.int .i64 I.1) ∧ z.cell? ⟨g, o + k * 4 + 1, none⟩ = some (.int .i64 I.2.1) ∧ z.cell? ⟨g, o + k * 4 + 2, none⟩ = some (.int .i64 I.2.2.1) ∧ z.cell? ⟨g, o + k * 4 + 3, none⟩ = some (.int .i64 I.2.2.2) ∧ z.cell? ⟨g', o' + k * 4, none⟩ = some (.int .i64 I.1) ∧ z.cell? ⟨g', o' + k * 4 + 1, none⟩ = some (.int .i64 I.2.1) ∧ z.cell? ⟨g', o' + k * 4 + 2, none⟩ = some (.int .i64 I.2.2.1) ∧ z.cell? ⟨g', o' + k * 4 + 3, none⟩ = some (.int .i64 I.2.2.2)) y := by
  obtain ⟨d0, d1, d2, d3, e0, e1, e2, e3⟩ := h
  exact ⟨(hb.cell (p := ⟨g, _, none⟩) hg).trans d0, (hb.cell (p := ⟨g, _, none⟩) hg).trans d1, (hb.cell (p := ⟨g, _, none⟩) hg).trans d2, (hb.cell (p := ⟨g, _, none⟩) hg).trans d3, (hb.cell (p := ⟨g', _, none⟩) hg').trans e0, (hb.cell (p := ⟨g', _, none⟩) hg').trans e1, (hb.cell (p := ⟨g', _, none⟩) hg').trans e2, (hb.cell (p := ⟨g', _, none⟩) hg').trans e3⟩
set_option maxHeartbeats 1000000 in
theorem eqInsS_same (x : World) (B C : Nat) (v u : Value) (c : List I4) (h : CodeAt x B v c) (h' : CodeAt x C u c) :
    Calls Tryz.prog 60 #[v, u] x fun e y => e = .returned (.bool true) ∧ Below x.heap.size x y := by
  obtain ⟨p, cap, rfl, hm, hc⟩ := h
  obtain ⟨p', cap', rfl, _, hc'⟩ := h'
  generalize hL : c.length = n at *
  unfold maxLen at hm
  have hni : (n : Int) ≤ 9223372036854775807 := by omega
  clear hL hm
  go_enter Tryz.func60, Tryz.ntmps60
  go_wp2_with fail
  go_loopw [5] (fun t y => ∃ k : Nat, k ≤ n ∧ t = .int .i64 k ∧ Below x.heap.size x y) (fun t _ => n - (intOf t).toNat)
  case atStart => exact ⟨0, by omega, rfl, Below.refl _ _⟩
  case round =>
    obtain ⟨k, hk, rfl, hB⟩ := hrel
    by_cases hlt : k < n
    · rcases hc with h0 | ⟨g, o, rfl, hBg, hgx, hins⟩
      · omega
      rcases hc' with h0 | ⟨g', o', rfl, hBg', hgx', hins'⟩
      · omega
      have hki : (k : Int) < (n : Int) := by omega
      obtain ⟨q0, q1, q2, q3⟩ := (hins k hlt)
      obtain ⟨r0, r1, r2, r3⟩ := (hins' k hlt)
      have d0 := (hB.cell (p := ⟨g, o + k * 4, none⟩) hgx).trans q0
      have d1 := (hB.cell (p := ⟨g, o + k * 4 + 1, none⟩) hgx).trans q1
      have d2 := (hB.cell (p := ⟨g, o + k * 4 + 2, none⟩) hgx).trans q2
      have d3 := (hB.cell (p := ⟨g, o + k * 4 + 3, none⟩) hgx).trans q3
      have e0 := (hB.cell (p := ⟨g', o' + k * 4, none⟩) hgx').trans r0
      have e1 := (hB.cell (p := ⟨g', o' + k * 4 + 1, none⟩) hgx').trans r1
      have e2 := (hB.cell (p := ⟨g', o' + k * 4 + 2, none⟩) hgx').trans r2
      have e3 := (hB.cell (p := ⟨g', o' + k * 4 + 3, none⟩) hgx').trans r3
      clear q0 q1 q2 q3 r0 r1 r2 r3 hins hins'
      generalize c.getD k i0 = I at *
      have hgw : g < wr.heap.size := Nat.lt_of_lt_of_le hgx hB.size
      have hgw' : g' < wr.heap.size := Nat.lt_of_lt_of_le hgx' hB.size
      go_wp2_with fail
      go_region_held3 (fun z => z.cell? ⟨g, o + k * 4, none⟩ = some (.int .i64 I.1) ∧ z.cell? ⟨g, o + k * 4 + 1, none⟩ = some (.int .i64 I.2.1) ∧ z.cell? ⟨g, o + k * 4 + 2, none⟩ = some (.int .i64 I.2.2.1) ∧ z.cell? ⟨g, o + k * 4 + 3, none⟩ = some (.int .i64 I.2.2.2) ∧ z.cell? ⟨g', o' + k * 4, none⟩ = some (.int .i64 I.1) ∧ z.cell? ⟨g', o' + k * 4 + 1, none⟩ = some (.int .i64 I.2.1) ∧ z.cell? ⟨g', o' + k * 4 + 2, none⟩ = some (.int .i64 I.2.2.1) ∧ z.cell? ⟨g', o' + k * 4 + 3, none⟩ = some (.int .i64 I.2.2.2)) (first | (with_reducible assumption) | exact ⟨d0, d1, d2, d3, e0, e1, e2, e3⟩ | fail) ((go_at_call 85; refine (eqIns_same I _).mono ?_; rintro e w2 ⟨rfl, hb2⟩; have hS2 := keep8 (w := wr.drew) (o := o) (o' := o') (k := k) (I := I) ⟨d0, d1, d2, d3, e0, e1, e2, e3⟩ hb2 hgw hgw'))
      have hB2 : Below x.heap.size x w2 := hB.trans ((Below.drew (Below.refl _ _)).trans (hb2.mono (by simp)) |>.mono hB.size)
      go_wp2_with fail
      go_roundw
      case rel => exact ⟨k + 1, by omega, by go_num, hB2⟩
      case measure => simp [intOf]; omega
    · obtain rfl : k = n := by omega
      have hki : ¬ (k : Int) < (k : Int) := by omega
      go_wp2_with fail
      go_ret
      exact ⟨rfl, hB⟩

end Go.Proofs.YtlkebkajdlgebaaGreat

/-
  The contracts of the laws' own helpers: two programs are the same (eqProc, eqProcS).
-/
namespace Go.Proofs.YtlkebkajdlgebaaGreat
open Go.RowKit
set_option linter.unusedVariables false
set_option linter.unusedSimpArgs false

set_option maxHeartbeats 1000000 in
theorem eqProc_same (x : World) (B C : Nat) (v u : Value) (c : List I4) (h : CodeAt x B v c) (h' : CodeAt x C u c) :
    Calls Tryz.prog 37 #[.agg #[v], .agg #[u]] x fun e y => e = .returned (.bool true) ∧ Below x.heap.size x y := by
  obtain ⟨p, cap, rfl, _⟩ := id h
  obtain ⟨p', cap', rfl, _⟩ := id h'
  go_enter Tryz.func37, Tryz.ntmps37
  go_wp2_with fail
  have hbW : Below x.heap.size x ((x.alloc (.cells #[.slice p c.length cap] 74)).alloc (.cells #[.slice p' c.length cap'] 74)) := by go_grown
  refine (eqInsS_same _ B C _ _ c (h.later hbW) (h'.later hbW)).mono ?_
  rintro e y ⟨rfl, hb⟩
  have hB : Below x.heap.size x y := hbW.trans (hb.mono (by simp; omega))
  clear hbW hb h h'
  go_wp2_with fail
  go_ret
  exact ⟨rfl, hB⟩

theorem keep2 {w y : World} {g o g' o' : Nat} {u v : Value} (h : w.cell? ⟨g, o, none⟩ = some u ∧ w.cell? ⟨g', o', none⟩ = some v) (hb : Below w.heap.size w y) (hg : g < w.heap.size) (hg' : g' < w.heap.size) : y.cell? ⟨g, o, none⟩ = some u ∧ y.cell? ⟨g', o', none⟩ = some v :=
  ⟨(hb.cell (p := ⟨g, o, none⟩) hg).trans h.1, (hb.cell (p := ⟨g', o', none⟩) hg').trans h.2⟩

set_option maxHeartbeats 1000000 in
theorem eqProcS_same (x : World) (B C : Nat) (v u : Value) (P : List (List I4)) (h : ProgAt x B v P) (h' : ProgAt x C u P) :
    Calls Tryz.prog 13 #[v, u] x fun e y => e = .returned (.bool true) ∧ Below x.heap.size x y := by
  obtain ⟨p, cap, rfl, hm, hc⟩ := h
  obtain ⟨p', cap', rfl, _, hc'⟩ := h'
  generalize hL : P.length = n at *
  unfold maxLen at hm
  have hni : (n : Int) ≤ 9223372036854775807 := by omega
  clear hL hm
  go_enter Tryz.func13, Tryz.ntmps13
  go_wp2_with fail
  go_loopw [5] (fun t y => ∃ k : Nat, k ≤ n ∧ t = .int .i64 k ∧ Below x.heap.size x y) (fun t _ => n - (intOf t).toNat)
  case atStart => exact ⟨0, by omega, rfl, Below.refl _ _⟩
  case round =>
    obtain ⟨k, hk, rfl, hB⟩ := hrel
    by_cases hlt : k < n
    · rcases hc with h0 | ⟨g, o, rfl, hBg, hgx, hins⟩
      · omega
      rcases hc' with h0 | ⟨g', o', rfl, hBg', hgx', hins'⟩
      · omega
      have hki : (k : Int) < (n : Int) := by omega
      obtain ⟨u1, cu1, hcu1⟩ := hins k hlt
      obtain ⟨u2, cu2, hcu2⟩ := hins' k hlt
      obtain ⟨p1, c1, hu1, _⟩ := id hcu1
      obtain ⟨p2, c2, hu2, _⟩ := id hcu2
      subst hu1 hu2
      have d0 := (hB.cell (p := ⟨g, o + k, none⟩) hgx).trans cu1
      have e0 := (hB.cell (p := ⟨g', o' + k, none⟩) hgx').trans cu2
      have HC1 : Hid (CodeAt wr B (.slice p1 (P.getD k []).length c1) (P.getD k [])) := hcu1.later hB
      have HC2 : Hid (CodeAt wr C (.slice p2 (P.getD k []).length c2) (P.getD k [])) := hcu2.later hB
      clear cu1 cu2 hcu1 hcu2 hins hins'
      generalize P.getD k [] = Q at *
      have hgw : g < wr.heap.size := Nat.lt_of_lt_of_le hgx hB.size
      have hgw' : g' < wr.heap.size := Nat.lt_of_lt_of_le hgx' hB.size
      go_wp2_with fail
      go_region_held3 (fun z => z.cell? ⟨g, o + k, none⟩ = some (.slice p1 Q.length c1) ∧ z.cell? ⟨g', o' + k, none⟩ = some (.slice p2 Q.length c2)) (first | (with_reducible assumption) | exact ⟨d0, e0⟩ | fail) ((go_at_call 37; refine (eqProc_same _ B C _ _ Q (HC1.out.later (Below.drew (Below.refl _ _))) (HC2.out.later (Below.drew (Below.refl _ _)))).mono ?_; rintro e w2 ⟨rfl, hb2⟩; have hS2 := keep2 (w := wr.drew) ⟨d0, e0⟩ hb2 hgw hgw'))
      have hB2 : Below x.heap.size x w2 := hB.trans ((Below.drew (Below.refl _ _)).trans (hb2.mono (by simp)) |>.mono hB.size)
      go_wp2_with fail
      go_roundw
      case rel => exact ⟨k + 1, by omega, by go_num, hB2⟩
      case measure => simp [intOf]; omega
    · obtain rfl : k = n := by omega
      have hki : ¬ (k : Int) < (k : Int) := by omega
      go_wp2_with fail
      go_ret
      exact ⟨rfl, hB⟩

end Go.Proofs.YtlkebkajdlgebaaGreat
