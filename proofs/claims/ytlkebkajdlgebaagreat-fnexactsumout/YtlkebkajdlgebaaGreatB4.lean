import Derived.Test.YtlkebkajdlgebaaGreatB3
import Derived.Deep.Slices
import Derived.Deep.Strs
import Derived.Lib.SmallJoins
import Derived.WideShapes
/-
  Rows of structures of m numbers each: what a slice of them reads as, all numbers in one row.
-/
namespace Go.Proofs.YtlkebkajdlgebaaGreat
open Go.RowKit
set_option linter.unusedVariables false
set_option linter.unusedSimpArgs false

/-- the slice value v reads as n structures of m numbers each, which are N's, in a block from B on and ahead of E; nothing of it is frozen, if z -/
def IRow (m : Nat) (z : Bool) (x : World) (B E : Nat) (v : Value) (n : Nat) (N : Nat → Int) : Prop :=
  ∃ p cap, v = .slice p n cap ∧ n ≤ maxLen ∧ (n = 0 ∨ ∃ g o, p = some ⟨g, o, none⟩ ∧ B ≤ g ∧ g < E ∧ E ≤ x.heap.size ∧ (z = true → ∀ k, x.frozen? ⟨g, k, none⟩ = false) ∧ ∀ j, j < n * m → x.cell? ⟨g, o + j, none⟩ = some (.int .i64 (N j)))
theorem IRow.stay {m : Nat} {z : Bool} {x y : World} {B E : Nat} {v : Value} {n : Nat} {N : Nat → Int} (h : IRow m z x B E v n N) (hs : x.heap.size ≤ y.heap.size) (hc : ∀ g o, B ≤ g → g < E → y.cell? ⟨g, o, none⟩ = x.cell? ⟨g, o, none⟩ ∧ y.frozen? ⟨g, o, none⟩ = x.frozen? ⟨g, o, none⟩) : IRow m z y B E v n N := by
  obtain ⟨p, cap, hv, hm, hq⟩ := h
  refine ⟨p, cap, hv, hm, hq.imp id ?_⟩
  rintro ⟨g, o, hp, hB, hg, hE, hf, hj⟩
  exact ⟨g, o, hp, hB, hg, by omega, fun hz k => (hc g k hB hg).2.trans (hf hz k), fun j h => (hc _ _ hB hg).1.trans (hj j h)⟩
theorem IRow.later {m : Nat} {z : Bool} {x y : World} {B E : Nat} {v : Value} {n : Nat} {N : Nat → Int} (h : IRow m z x B E v n N) (hb : Below x.heap.size x y) : IRow m z y B E v n N := by
  obtain ⟨p, cap, hv, hm, hq⟩ := h
  refine ⟨p, cap, hv, hm, hq.imp id ?_⟩
  rintro ⟨g, o, hp, hB, hg, hE, hf, hj⟩
  exact ⟨g, o, hp, hB, hg, Nat.le_trans hE hb.size, fun hz k => (hb.frozen (p := ⟨g, k, none⟩) (by show g < _; omega)).trans (hf hz k), fun j h => (hb.cell (p := ⟨g, o + j, none⟩) (by show g < _; omega)).trans (hj j h)⟩
theorem IRow.wide {m : Nat} {z : Bool} {x : World} {B E C D : Nat} {v : Value} {n : Nat} {N : Nat → Int} (h : IRow m z x B E v n N) (hc : C ≤ B) (hd : E ≤ D) (hx : D ≤ x.heap.size) : IRow m z x C D v n N := by
  obtain ⟨p, cap, hv, hm, hq⟩ := h
  refine ⟨p, cap, hv, hm, hq.imp id ?_⟩
  rintro ⟨g, o, hp, hB, hg, hE, hf, hj⟩
  exact ⟨g, o, hp, by omega, by omega, hx, hf, hj⟩
theorem IRow.weak {m : Nat} {z : Bool} {x : World} {B E : Nat} {v : Value} {n : Nat} {N : Nat → Int} (h : IRow m z x B E v n N) : IRow m false x B E v n N := by
  obtain ⟨p, cap, hv, hm, hq⟩ := h
  refine ⟨p, cap, hv, hm, hq.imp id ?_⟩
  rintro ⟨g, o, hp, hB, hg, hE, hf, hj⟩
  exact ⟨g, o, hp, hB, hg, hE, fun h => (by cases h), hj⟩
theorem IRow.within {m : Nat} {z : Bool} {x y : World} {B E C D : Nat} {v : Value} {n : Nat} {N : Nat → Int} (h : IRow m z x C D v n N) (hw : Within B E x y) (hd : D ≤ B ∨ E ≤ C) : IRow m z y C D v n N :=
  h.stay (by rw [hw.sz]; exact Nat.le_refl _) fun g o h1 h2 => ⟨hw.cell _ _ (by omega), hw.frozen _ _⟩
theorem IRow.off {m : Nat} {z : Bool} {x : World} {B E : Nat} {v : Value} {n : Nat} {N : Nat → Int} (h : IRow m z x B E v n N) {b o : Nat} {u : Value} (hb : b < B ∨ E ≤ b) : IRow m z (x.setCell ⟨b, o, none⟩ u) B E v n N :=
  h.stay (by simp) fun g k h1 h2 => ⟨sc_other (by intro e; injection e; omega), World.frozen?_setCell _ _ _ _⟩
theorem IRow.nil {m : Nat} {z : Bool} {x : World} {B E : Nat} {p : Option Addr} {cap : Nat} {N : Nat → Int} : IRow m z x B E (.slice p 0 cap) 0 N := ⟨p, cap, rfl, by unfold maxLen; simp, .inl rfl⟩
theorem IRow.shape {m : Nat} {z : Bool} {x : World} {B E : Nat} {v : Value} {n : Nat} {N : Nat → Int} (h : IRow m z x B E v n N) : ∃ p cap, v = .slice p n cap := by
  obtain ⟨p, cap, hv, _⟩ := h
  exact ⟨p, cap, hv⟩
/-- a block is given cells; those behind cell k of it -/
def set2 (x : World) (g o : Nat) (v0 v1 : Value) : World := (x.setCell ⟨g, o, none⟩ v0).setCell ⟨g, o + 1, none⟩ v1
theorem set2_miss (x : World) (g o : Nat) (v0 v1 : Value) (b p : Nat) (h : b ≠ g ∨ p < o ∨ o + 2 ≤ p) : (set2 x g o v0 v1).cell? ⟨b, p, none⟩ = x.cell? ⟨b, p, none⟩ := by
  unfold set2
  rw [sc_other (by intro e; injection e; omega), sc_other (by intro e; injection e; omega)]
theorem set2_some (x : World) (g o : Nat) (v0 v1 : Value) (a : Addr) (h : ∃ v, x.cell? a = some v) : ∃ v, (set2 x g o v0 v1).cell? a = some v := by
  obtain ⟨v, h⟩ := h
  obtain ⟨v, h⟩ := cell?_setCell_some (p := ⟨g, o, none⟩) (x := v0) h
  exact cell?_setCell_some (p := ⟨g, o + 1, none⟩) (x := v1) h
theorem set2_hit (x : World) (g o : Nat) (v0 v1 : Value) (h0 : ∃ v, x.cell? ⟨g, o, none⟩ = some v) (h1 : ∃ v, x.cell? ⟨g, o + 1, none⟩ = some v) :
    (set2 x g o v0 v1).cell? ⟨g, o, none⟩ = some v0 ∧ (set2 x g o v0 v1).cell? ⟨g, o + 1, none⟩ = some v1 := by
  obtain ⟨u0, h0⟩ := h0
  obtain ⟨u1, h1⟩ := h1
  unfold set2
  exact ⟨by rw [sc_other (by intro e; injection e; omega), sc_same h0], by rw [sc_same ((sc_other (by intro e; injection e; omega)).trans h1)]⟩
theorem set2_frozen (x : World) (g o : Nat) (v0 v1 : Value) (a : Addr) : (set2 x g o v0 v1).frozen? a = x.frozen? a := by unfold set2; simp
theorem set2_below {B : Nat} {w x : World} {g o : Nat} {v0 v1 : Value} (h : Below B w x) (hg : B ≤ g) : Below B w (set2 x g o v0 v1) :=
  (h.setCell (p := ⟨g, o, none⟩) hg _).setCell (p := ⟨g, o + 1, none⟩) hg _
theorem set2_size (x : World) (g o : Nat) (v0 v1 : Value) : (set2 x g o v0 v1).heap.size = x.heap.size := by unfold set2; simp
theorem Within.set2 {B E : Nat} {x y : World} (h : Within B E x y) {g o : Nat} (h0 : B ≤ g) (h1 : g < E) (v0 v1 : Value) : Within B E x (set2 y g o v0 v1) :=
  ⟨by rw [set2_size]; exact h.sz, set2_below h.below h0, fun b p hb => (set2_miss _ _ _ _ _ _ _ (by omega)).trans (h.cell b p hb), fun b p => (set2_frozen _ _ _ _ _ _).trans (h.frozen b p)⟩
theorem set3_hits (x : World) (g o : Nat) (v0 v1 v2 : Value) (h0 : ∃ v, x.cell? ⟨g, o, none⟩ = some v) (h1 : ∃ v, x.cell? ⟨g, o + 1, none⟩ = some v) (h2 : ∃ v, x.cell? ⟨g, o + 2, none⟩ = some v) :
    (set3 x g o v0 v1 v2).cell? ⟨g, o, none⟩ = some v0 ∧ (set3 x g o v0 v1 v2).cell? ⟨g, o + 1, none⟩ = some v1 ∧ (set3 x g o v0 v1 v2).cell? ⟨g, o + 2, none⟩ = some v2 := by
  obtain ⟨u0, h0⟩ := h0
  obtain ⟨u1, h1⟩ := h1
  obtain ⟨u2, h2⟩ := h2
  unfold set3
  refine ⟨?_, ?_, ?_⟩
  · rw [sc_other (by intro e; injection e; omega), sc_other (by intro e; injection e; omega), sc_same h0]
  · rw [sc_other (by intro e; injection e; omega), sc_same ((sc_other (by intro e; injection e; omega)).trans h1)]
  · rw [sc_same ((sc_other (by intro e; injection e; omega)).trans ((sc_other (by intro e; injection e; omega)).trans h2))]

end Go.Proofs.YtlkebkajdlgebaaGreat

/-
  The laws' own helpers on rows of sites: measured, copied, the same, marked, held.
-/
namespace Go.Proofs.YtlkebkajdlgebaaGreat
open Go.RowKit
set_option linter.unusedVariables false
set_option linter.unusedSimpArgs false

theorem eqSite_at (n0 : Int) (n1 : Int) (n2 : Int) (w : World) : Calls Tryz.prog 113 #[.agg #[.int .i64 n0, .int .i64 n1, .int .i64 n2], .agg #[.int .i64 n0, .int .i64 n1, .int .i64 n2]] w fun e w' => e = .returned (.bool true) ∧ Below w.heap.size w w' := by
  go_enter Tryz.func113, Tryz.ntmps113
  go_wp2
  go_ret
  exact ⟨rfl, by go_grown⟩
set_option maxHeartbeats 400000 in
theorem toSite_at (n0 : Int) (n1 : Int) (n2 : Int) (w : World) : Calls Tryz.prog 101 #[.agg #[.int .i64 n0, .int .i64 n1, .int .i64 n2]] w fun e w' => e = .returned (.agg #[.int .i64 n0, .int .i64 n1, .int .i64 n2]) ∧ Below w.heap.size w w' := by
  go_enter Tryz.func101, Tryz.ntmps101
  go_wp2
  go_returns
  exact ⟨rfl, by go_grown⟩
theorem szSiteS_any (p : Option Addr) (n cap : Nat) (left : Int) (w : World) (h0 : 0 ≤ left) (h1 : left ≤ 1048576) (hn : n ≤ maxLen) :
    Calls Tryz.prog 71 #[.slice p n cap, .int .i64 left] w fun e w' => e = .returned (.int .i64 (if left - n < 0 then -1 else left - n)) ∧ w' = w := by
  unfold maxLen at hn
  have hn' : (n : Int) ≤ 9223372036854775807 := by omega
  by_cases hlt : left - (n : Int) < 0
  · go_enter Tryz.func71, Tryz.ntmps71
    go_wp2
    go_ret
    exact ⟨retInt (by first | rfl | omega), rfl⟩
  · go_enter Tryz.func71, Tryz.ntmps71
    go_wp2
    go_ret
    exact ⟨retInt (by first | rfl | omega), rfl⟩
theorem infoSite : (Tryz.prog.info? 94).map (fun i => (i.zero, i.size, i.bytes)) = some (some (.agg #[.int .i64 (0), .int .i64 (0), .int .i64 (0)]), 3, 24) := by kernel_rfl
set_option maxHeartbeats 1000000 in
theorem toSiteS_any (x : World) (z : Bool) (B E : Nat) (v : Value) (n : Nat) (N : Nat → Int) (h : IRow 3 z x B E v n N) (hn : n ≤ 1048576) :
    Calls Tryz.prog 77 #[v] x fun e y => ∃ u, e = .returned u ∧ IRow 3 true y x.heap.size y.heap.size u n N ∧ Below x.heap.size x y := by
  obtain ⟨i, hi, hz0, hz1, hz2⟩ : ∃ i, Tryz.prog.info? 94 = some i ∧ i.zero = some (.agg #[.int .i64 (0), .int .i64 (0), .int .i64 (0)]) ∧ i.size = 3 ∧ i.bytes = 24 := info_parts infoSite
  have HI : Hid (Tryz.prog.info? 94 = some i ∧ i.zero = some (.agg #[.int .i64 (0), .int .i64 (0), .int .i64 (0)]) ∧ i.size = 3 ∧ i.bytes = 24) := ⟨hi, hz0, hz1, hz2⟩
  clear hi hz0 hz1 hz2
  obtain ⟨p, cap, rfl, hm, hc⟩ := h
  have HN : Hid (n ≤ 1048576) := hn
  have hni : (n : Int) ≤ 1048576 := by omega
  have HM : Hid (n ≤ maxLen) := hm
  clear hn hm
  go_enter Tryz.func77, Tryz.ntmps77
  go_wp2_with (refine wpList_make_full _ rfl _ _ 68 rfl x.heap.size 94 i (.agg #[.int .i64 (0), .int .i64 (0), .int .i64 (0)]) 3 Tryz.underlying68 HI.out.1 HI.out.2.1 HI.out.2.2.1 .i64 .i64 n n n rfl rfl rfl rfl ?b2 HM.out (Nat.le_refl _) ?_)
  case b2 => rw [HI.out.2.2.2]; have := HN.out; omega
  intro w1 hown0 hgr
  obtain ⟨xs, hown⟩ : ∃ xs, w1.ownsRow x.heap.size 94 3 (.slice (some ⟨x.heap.size, 0, none⟩) n n) n xs := ⟨_, hown0⟩
  clear hown0
  have hg1 : x.heap.size < w1.heap.size := (World.ownsRow.lt hown x.heap.size rfl).2
  have hB1 : Below x.heap.size x w1 := (Below.refl _ _).grown hgr (Nat.le_refl _) (fun k hk => by simp at hk)
  have hcell : ∀ k, k < n * 3 → ∃ v, w1.cell? ⟨x.heap.size, k, none⟩ = some v := by
    intro k hk
    have hl : k < xs.length := by rw [hown.1]; exact hk
    have := World.ownsRow.cells hown rfl k _ (List.getElem?_eq_getElem hl)
    rw [Addr.add_mid, Nat.zero_add] at this
    exact ⟨_, this⟩
  have hfz : ∀ k, w1.frozen? ⟨x.heap.size, k, none⟩ = false := fun k => World.ownsRow.frozenAt hown k
  clear hown hgr
  go_wp2_with fail
  go_loopw [4] (fun t y => ∃ k : Nat, k ≤ n ∧ t = .int .i64 k ∧ Below x.heap.size x y ∧ x.heap.size < y.heap.size ∧ (∀ j, j < n * 3 → ∃ v, y.cell? ⟨x.heap.size, j, none⟩ = some v) ∧ (∀ j, y.frozen? ⟨x.heap.size, j, none⟩ = false) ∧ (∀ j, j < k * 3 → y.cell? ⟨x.heap.size, j, none⟩ = some (.int .i64 (N j)))) (fun t _ => n - (intOf t).toNat)
  case atStart => exact ⟨0, by omega, rfl, hB1, hg1, hcell, hfz, fun j hj => by omega⟩
  case round =>
    clear hB1 hg1 hcell hfz
    obtain ⟨k, hk, rfl, hB, hg, hcell, hfz, hdone⟩ := hrel
    by_cases hlt : k < n
    · rcases hc with h0 | ⟨g, o, rfl, hBg, hgE, hEx, _, hins⟩
      · omega
      have hgx : g < x.heap.size := by omega
      have hki : (k : Int) < (n : Int) := by omega
      have d0 := (hB.cell (p := ⟨g, o + (k * 3), none⟩) hgx).trans (hins (k * 3) (by omega))
      have d1 := (hB.cell (p := ⟨g, o + (k * 3 + 1), none⟩) hgx).trans (hins (k * 3 + 1) (by omega))
      have d2 := (hB.cell (p := ⟨g, o + (k * 3 + 2), none⟩) hgx).trans (hins (k * 3 + 2) (by omega))
      rw [← Nat.add_assoc] at d1 d2
      obtain ⟨n0, hn0⟩ : ∃ q, N (k * 3) = q := ⟨_, rfl⟩
      obtain ⟨n1, hn1⟩ : ∃ q, N (k * 3 + 1) = q := ⟨_, rfl⟩
      obtain ⟨n2, hn2⟩ : ∃ q, N (k * 3 + 2) = q := ⟨_, rfl⟩
      have HN0 : Hid (N (k * 3) = n0) := hn0
      have HN1 : Hid (N (k * 3 + 1) = n1) := hn1
      have HN2 : Hid (N (k * 3 + 2) = n2) := hn2
      rw [hn0] at d0
      rw [hn1] at d1
      rw [hn2] at d2
      have HC : Hid (∀ j, j < n * 3 → ∃ v, wr.cell? ⟨x.heap.size, j, none⟩ = some v) := hcell
      have HF : Hid (∀ j, wr.frozen? ⟨x.heap.size, j, none⟩ = false) := hfz
      have HD : Hid (∀ j, j < k * 3 → wr.cell? ⟨x.heap.size, j, none⟩ = some (.int .i64 (N j))) := hdone
      clear hcell hdone hins hfz hn0 hn1 hn2
      go_wp2_with fail
      refine (toSite_at n0 n1 n2 _).mono ?_
      rintro e w2 ⟨rfl, hb2⟩
      obtain ⟨u0, e0⟩ := HC.out (k * 3) (by omega)
      obtain ⟨u1, e1⟩ := HC.out (k * 3 + 1) (by omega)
      obtain ⟨u2, e2⟩ := HC.out (k * 3 + 2) (by omega)
      replace e0 := (hb2.cell (p := ⟨x.heap.size, k * 3, none⟩) hg).trans e0
      replace e1 := (hb2.cell (p := ⟨x.heap.size, k * 3 + 1, none⟩) hg).trans e1
      replace e2 := (hb2.cell (p := ⟨x.heap.size, k * 3 + 2, none⟩) hg).trans e2
      have f0 := (hb2.frozen (p := ⟨x.heap.size, k * 3, none⟩) hg).trans (HF.out _)
      have f1 := (hb2.frozen (p := ⟨x.heap.size, k * 3 + 1, none⟩) hg).trans (HF.out _)
      have f2 := (hb2.frozen (p := ⟨x.heap.size, k * 3 + 2, none⟩) hg).trans (HF.out _)
      clear d0 d1 d2
      go_wp2_with fail
      go_roundw
      case rel =>
        refine ⟨k + 1, by omega, by go_num, ?_⟩
        change Below x.heap.size x (set3 w2 x.heap.size (k * 3) _ _ _) ∧ x.heap.size < (set3 w2 x.heap.size (k * 3) _ _ _).heap.size ∧ (∀ j, j < n * 3 → ∃ v, (set3 w2 x.heap.size (k * 3) _ _ _).cell? ⟨x.heap.size, j, none⟩ = some v) ∧ (∀ j, (set3 w2 x.heap.size (k * 3) _ _ _).frozen? ⟨x.heap.size, j, none⟩ = false) ∧ (∀ j, j < (k + 1) * 3 → (set3 w2 x.heap.size (k * 3) _ _ _).cell? ⟨x.heap.size, j, none⟩ = some (.int .i64 (N j)))
        refine ⟨set3_below (hB.trans (hb2.mono hB.size)) (Nat.le_refl _), by rw [set3_size]; exact Nat.lt_of_lt_of_le hg hb2.size, fun j hj => set3_some _ _ _ _ _ _ _ ?_, fun j => ?_, fun j hj => ?_⟩
        · obtain ⟨v, hv⟩ := HC.out j hj
          exact ⟨v, (hb2.cell (p := ⟨x.heap.size, j, none⟩) hg).trans hv⟩
        · rw [set3_frozen]; exact (hb2.frozen (p := ⟨x.heap.size, j, none⟩) hg).trans (HF.out j)
        · by_cases hjk : j < k * 3
          · exact (set3_miss _ _ _ _ _ _ _ _ (by omega)).trans ((hb2.cell (p := ⟨x.heap.size, j, none⟩) hg).trans (HD.out j hjk))
          · have hh := set3_hits w2 x.heap.size (k * 3) (.int .i64 n0) (.int .i64 n1) (.int .i64 n2) ⟨_, e0⟩ ⟨_, e1⟩ ⟨_, e2⟩
            rcases (by omega : j = k * 3 ∨ j = k * 3 + 1 ∨ j = k * 3 + 2) with rfl | rfl | rfl
            · rw [HN0.out]; exact hh.1
            · rw [HN1.out]; exact hh.2.1
            · rw [HN2.out]; exact hh.2.2
      case measure => simp [intOf]; omega
    · obtain rfl : k = n := by omega
      have hki : ¬ (k : Int) < (k : Int) := by omega
      have HD : Hid (∀ j, j < k * 3 → wr.cell? ⟨x.heap.size, j, none⟩ = some (.int .i64 (N j))) := hdone
      have HF : Hid (∀ j, wr.frozen? ⟨x.heap.size, j, none⟩ = false) := hfz
      clear hcell hdone hc hfz
      go_wp2_with fail
      go_ret
      exact ⟨_, rfl, ⟨some ⟨x.heap.size, 0, none⟩, k, rfl, HM.out, .inr ⟨x.heap.size, 0, rfl, Nat.le_refl _, hg, Nat.le_refl _, fun _ => HF.out, fun j hj => by rw [Nat.zero_add]; exact HD.out j hj⟩⟩, hB⟩

theorem keepC3 {w y : World} {g o g' o' k : Nat} {n0 n1 n2 : Int} (h : (fun z => z.cell? ⟨g, o + k * 3, none⟩ = some (.int .i64 n0) ∧ z.cell? ⟨g, o + k * 3 + 1, none⟩ = some (.int .i64 n1) ∧ z.cell? ⟨g, o + k * 3 + 2, none⟩ = some (.int .i64 n2) ∧ z.cell? ⟨g', o' + k * 3, none⟩ = some (.int .i64 n0) ∧ z.cell? ⟨g', o' + k * 3 + 1, none⟩ = some (.int .i64 n1) ∧ z.cell? ⟨g', o' + k * 3 + 2, none⟩ = some (.int .i64 n2)) w) (hb : Below w.heap.size w y) (hg : g < w.heap.size) (hg' : g' < w.heap.size) : (fun z => z.cell? ⟨g, o + k * 3, none⟩ = some (.int .i64 n0) ∧ z.cell? ⟨g, o + k * 3 + 1, none⟩ = some (.int .i64 n1) ∧ z.cell? ⟨g, o + k * 3 + 2, none⟩ = some (.int .i64 n2) ∧ z.cell? ⟨g', o' + k * 3, none⟩ = some (.int .i64 n0) ∧ z.cell? ⟨g', o' + k * 3 + 1, none⟩ = some (.int .i64 n1) ∧ z.cell? ⟨g', o' + k * 3 + 2, none⟩ = some (.int .i64 n2)) y := by
  obtain ⟨d0, d1, d2, e0, e1, e2⟩ := h
  exact ⟨(hb.cell (p := ⟨g, _, none⟩) hg).trans d0, (hb.cell (p := ⟨g, _, none⟩) hg).trans d1, (hb.cell (p := ⟨g, _, none⟩) hg).trans d2, (hb.cell (p := ⟨g', _, none⟩) hg').trans e0, (hb.cell (p := ⟨g', _, none⟩) hg').trans e1, (hb.cell (p := ⟨g', _, none⟩) hg').trans e2⟩
set_option maxHeartbeats 1000000 in
theorem eqSiteS_any (x : World) (z z' : Bool) (B E C D : Nat) (v u : Value) (n : Nat) (N : Nat → Int) (h : IRow 3 z x B E v n N) (h' : IRow 3 z' x C D u n N) :
    Calls Tryz.prog 86 #[v, u] x fun e y => e = .returned (.bool true) ∧ Below x.heap.size x y := by
  obtain ⟨p, cap, rfl, hm, hc⟩ := h
  obtain ⟨p', cap', rfl, _, hc'⟩ := h'
  unfold maxLen at hm
  have hni : (n : Int) ≤ 9223372036854775807 := by omega
  clear hm
  go_enter Tryz.func86, Tryz.ntmps86
  go_wp2_with fail
  go_loopw [5] (fun t y => ∃ k : Nat, k ≤ n ∧ t = .int .i64 k ∧ Below x.heap.size x y) (fun t _ => n - (intOf t).toNat)
  case atStart => exact ⟨0, by omega, rfl, Below.refl _ _⟩
  case round =>
    obtain ⟨k, hk, rfl, hB⟩ := hrel
    by_cases hlt : k < n
    · rcases hc with h0 | ⟨g, o, rfl, hBg, hgE, hEx, _, hins⟩
      · omega
      rcases hc' with h0 | ⟨g', o', rfl, hBg', hgE', hEx', _, hins'⟩
      · omega
      have hgx : g < x.heap.size := by omega
      have hgx' : g' < x.heap.size := by omega
      have hki : (k : Int) < (n : Int) := by omega
      have d0 := (hB.cell (p := ⟨g, o + (k * 3), none⟩) hgx).trans (hins (k * 3) (by omega))
      have d1 := (hB.cell (p := ⟨g, o + (k * 3 + 1), none⟩) hgx).trans (hins (k * 3 + 1) (by omega))
      have d2 := (hB.cell (p := ⟨g, o + (k * 3 + 2), none⟩) hgx).trans (hins (k * 3 + 2) (by omega))
      have e0 := (hB.cell (p := ⟨g', o' + (k * 3), none⟩) hgx').trans (hins' (k * 3) (by omega))
      have e1 := (hB.cell (p := ⟨g', o' + (k * 3 + 1), none⟩) hgx').trans (hins' (k * 3 + 1) (by omega))
      have e2 := (hB.cell (p := ⟨g', o' + (k * 3 + 2), none⟩) hgx').trans (hins' (k * 3 + 2) (by omega))
      rw [← Nat.add_assoc] at d1 e1 d2 e2
      clear hins hins'
      generalize N (k * 3) = n0 at *
      generalize N (k * 3 + 1) = n1 at *
      generalize N (k * 3 + 2) = n2 at *
      have hgw : g < wr.heap.size := Nat.lt_of_lt_of_le hgx hB.size
      have hgw' : g' < wr.heap.size := Nat.lt_of_lt_of_le hgx' hB.size
      go_wp2_with fail
      go_region_held3 (fun z => z.cell? ⟨g, o + k * 3, none⟩ = some (.int .i64 n0) ∧ z.cell? ⟨g, o + k * 3 + 1, none⟩ = some (.int .i64 n1) ∧ z.cell? ⟨g, o + k * 3 + 2, none⟩ = some (.int .i64 n2) ∧ z.cell? ⟨g', o' + k * 3, none⟩ = some (.int .i64 n0) ∧ z.cell? ⟨g', o' + k * 3 + 1, none⟩ = some (.int .i64 n1) ∧ z.cell? ⟨g', o' + k * 3 + 2, none⟩ = some (.int .i64 n2)) (first | (with_reducible assumption) | exact ⟨d0, d1, d2, e0, e1, e2⟩ | fail) ((go_at_call 113; refine (eqSite_at n0 n1 n2 _).mono ?_; rintro e w2 ⟨rfl, hb2⟩; have hS2 := keepC3 (w := wr.drew) (o := o) (o' := o') (k := k) (n0 := n0) (n1 := n1) (n2 := n2) ⟨d0, d1, d2, e0, e1, e2⟩ hb2 hgw hgw'))
      have hB2 : Below x.heap.size x w2 := hB.trans ((Below.drew (Below.refl _ _)).trans (hb2.mono (by simp)) |>.mono hB.size)
      go_wp2_with fail
      go_roundw
      case rel => exact ⟨k + 1, by omega, by go_num, hB2⟩
      case measure => simp [intOf]; omega
    · obtain rfl : k = n := by omega
      have hki : ¬ (k : Int) < (k : Int) := by omega
      go_wp2_with fail
      go_ret
      exact ⟨rfl, hB⟩

end Go.Proofs.YtlkebkajdlgebaaGreat

/-
  A state and a row of numbers that are handed in, opened: what they read as.
-/
namespace Go.Proofs.YtlkebkajdlgebaaGreat
open Go.ChangeShapes Go.WideShapes Go.ChangeAt Go.RowKit Go.Joins Go.Deep
set_option linter.unusedVariables false
set_option linter.unusedSimpArgs false

theorem cell_lt {w : World} {a : Addr} {v : Value} (h : w.cell? a = some v) : a.block < w.heap.size := by
  rcases Nat.lt_or_ge a.block w.heap.size with hl | hl
  · exact hl
  · exfalso
    have hn : w.heap[a.block]? = none := by simp; omega
    obtain ⟨b, o, s⟩ := a
    simp only at hn
    simp [World.cell?, hn] at h

section
variable {H : Type} {enc : TypeId × Value → H} {W : World} {spare : Nat → Bool} {held : Bool}

set_option maxRecDepth 100000 in
theorem open_span_cells {fuel : Nat} {cs : List Value} {x : DataW H × List MemPlace} (h : DataW.trod enc Tryz.prog W 0 spare held fuel 46 cs = some x) :
    ∃ (a : Bool) (l u : Int), cs = [.bool a, .int .i64 l, .int .i64 u] := by
  obtain ⟨y0, y1, y2, n, _, hl, h0, h1, h2⟩ := trod_struct3 Tryz.underlying46 h
  have hc : Tryz.prog.cellsOf 46 = 3 := by kernel_rfl
  have hb : Tryz.prog.cellsOf 4 = 1 := by kernel_rfl
  have hi : Tryz.prog.cellsOf 3 = 1 := by kernel_rfl
  rw [hc] at hl
  match cs, hl with
  | [c0, c1, c2], _ =>
    simp only [hb, hi, List.drop_zero, List.drop_succ_cons, List.take_succ_cons, List.take_zero] at h0 h1 h2
    obtain ⟨b, e0, _⟩ := DataW.trod_bool Tryz.underlying4 h0
    obtain ⟨l, e1, _⟩ := DataW.trod_int Tryz.underlying3 h1
    obtain ⟨u, e2, _⟩ := DataW.trod_int Tryz.underlying3 h2
    simp at e0 e1 e2
    subst e0 e1 e2
    exact ⟨b, l, u, rfl⟩

theorem list_of {n : Nat} (q : Nat → Sp) : ∃ L : List Sp, L.length = n ∧ ∀ j, j < n → L.getD j noSp = q j :=
  ⟨(List.range n).map q, by simp, fun j hj => by simp [List.getD, hj]⟩

theorem array5 {α : Type} {cs : Array α} (h : cs.size = 5) : ∃ c0 c1 c2 c3 c4, cs = #[c0, c1, c2, c3, c4] := by
  obtain ⟨l⟩ := cs
  match l, h with
  | [c0, c1, c2, c3, c4], _ => exact ⟨c0, c1, c2, c3, c4, rfl⟩

end
end Go.Proofs.YtlkebkajdlgebaaGreat
