import Derived.Test.YtbjegekfghihkaaB20
/-
  Rows of structures of m numbers each: what a slice of them reads as, all numbers in one row.
-/
namespace Go.Proofs.Ytbjegekfghihkaa
open Go.RowKit
set_option linter.unusedVariables false
set_option linter.unusedSimpArgs false

/-- the slice value v reads as n structures of m numbers each, which are N's, in a block from B on and ahead of E; nothing of it is frozen, if z -/
def IRow (m : Nat) (z : Bool) (x : World) (B E : Nat) (v : Value) (n : Nat) (N : Nat → Int) : Prop :=
  ∃ p cap, v = .slice p n cap ∧ n ≤ maxLen ∧ (n = 0 ∨ ∃ g o, p = some ⟨g, o, none⟩ ∧ B ≤ g ∧ g < E ∧ E ≤ x.heap.size ∧ (z = true → ∀ k, x.frozen? ⟨g, k, none⟩ = false) ∧ ∀ j, j < n * m → x.cell? ⟨g, o + j, none⟩ = some (.int .i64 (N j)))
theorem IRow.stay {m : Nat} {z : Bool} {x y : World} {B E : Nat} {v : Value} {n : Nat} {N : Nat → Int} (h : IRow m z x B E v n N) (hs : x.heap.size ≤ y.heap.size) (hc : ∀ g o, B ≤ g → g < E → y.cell? ⟨g, o, none⟩ = x.cell? ⟨g, o, none⟩ ∧ y.frozen? ⟨g, o, none⟩ = x.frozen? ⟨g, o, none⟩) : IRow m z y B E v n N := by
  obtain ⟨p, cap, hv, hm, hq⟩ := h
  refine ⟨p, cap, hv, hm, hq.imp id ?_⟩
  rintro ⟨g, o, hp, hB, hg, hE, hf, hj⟩
  exact ⟨g, o, hp, hB, hg, by omega, fun hz k => (hc g k hB hg).2.trans (hf hz k), fun j h => (hc _ _ hB hg).1.trans (hj j h)⟩
theorem IRow.later {m : Nat} {z : Bool} {x y : World} {B E : Nat} {v : Value} {n : Nat} {N : Nat → Int} (h : IRow m z x B E v n N) (hb : Below x.heap.size x y) : IRow m z y B E v n N := by
  obtain ⟨p, cap, hv, hm, hq⟩ := h
  refine ⟨p, cap, hv, hm, hq.imp id ?_⟩
  rintro ⟨g, o, hp, hB, hg, hE, hf, hj⟩
  exact ⟨g, o, hp, hB, hg, Nat.le_trans hE hb.size, fun hz k => (hb.frozen (p := ⟨g, k, none⟩) (by show g < _; omega)).trans (hf hz k), fun j h => (hb.cell (p := ⟨g, o + j, none⟩) (by show g < _; omega)).trans (hj j h)⟩
theorem IRow.wide {m : Nat} {z : Bool} {x : World} {B E C D : Nat} {v : Value} {n : Nat} {N : Nat → Int} (h : IRow m z x B E v n N) (hc : C ≤ B) (hd : E ≤ D) (hx : D ≤ x.heap.size) : IRow m z x C D v n N := by
  obtain ⟨p, cap, hv, hm, hq⟩ := h
  refine ⟨p, cap, hv, hm, hq.imp id ?_⟩
  rintro ⟨g, o, hp, hB, hg, hE, hf, hj⟩
  exact ⟨g, o, hp, by omega, by omega, hx, hf, hj⟩
theorem IRow.weak {m : Nat} {z : Bool} {x : World} {B E : Nat} {v : Value} {n : Nat} {N : Nat → Int} (h : IRow m z x B E v n N) : IRow m false x B E v n N := by
  obtain ⟨p, cap, hv, hm, hq⟩ := h
  refine ⟨p, cap, hv, hm, hq.imp id ?_⟩
  rintro ⟨g, o, hp, hB, hg, hE, hf, hj⟩
  exact ⟨g, o, hp, hB, hg, hE, fun h => (by cases h), hj⟩
theorem IRow.within {m : Nat} {z : Bool} {x y : World} {B E C D : Nat} {v : Value} {n : Nat} {N : Nat → Int} (h : IRow m z x C D v n N) (hw : Within B E x y) (hd : D ≤ B ∨ E ≤ C) : IRow m z y C D v n N :=
  h.stay (by rw [hw.sz]; exact Nat.le_refl _) fun g o h1 h2 => ⟨hw.cell _ _ (by omega), hw.frozen _ _⟩
theorem IRow.off {m : Nat} {z : Bool} {x : World} {B E : Nat} {v : Value} {n : Nat} {N : Nat → Int} (h : IRow m z x B E v n N) {b o : Nat} {u : Value} (hb : b < B ∨ E ≤ b) : IRow m z (x.setCell ⟨b, o, none⟩ u) B E v n N :=
  h.stay (by simp) fun g k h1 h2 => ⟨sc_other (by intro e; injection e; omega), World.frozen?_setCell _ _ _ _⟩
theorem IRow.nil {m : Nat} {z : Bool} {x : World} {B E : Nat} {p : Option Addr} {cap : Nat} {N : Nat → Int} : IRow m z x B E (.slice p 0 cap) 0 N := ⟨p, cap, rfl, by unfold maxLen; simp, .inl rfl⟩
theorem IRow.shape {m : Nat} {z : Bool} {x : World} {B E : Nat} {v : Value} {n : Nat} {N : Nat → Int} (h : IRow m z x B E v n N) : ∃ p cap, v = .slice p n cap := by
  obtain ⟨p, cap, hv, _⟩ := h
  exact ⟨p, cap, hv⟩
/-- a block is given cells; those behind cell k of it -/
def set2 (x : World) (g o : Nat) (v0 v1 : Value) : World := (x.setCell ⟨g, o, none⟩ v0).setCell ⟨g, o + 1, none⟩ v1
theorem set2_miss (x : World) (g o : Nat) (v0 v1 : Value) (b p : Nat) (h : b ≠ g ∨ p < o ∨ o + 2 ≤ p) : (set2 x g o v0 v1).cell? ⟨b, p, none⟩ = x.cell? ⟨b, p, none⟩ := by
  unfold set2
  rw [sc_other (by intro e; injection e; omega), sc_other (by intro e; injection e; omega)]
theorem set2_some (x : World) (g o : Nat) (v0 v1 : Value) (a : Addr) (h : ∃ v, x.cell? a = some v) : ∃ v, (set2 x g o v0 v1).cell? a = some v := by
  obtain ⟨v, h⟩ := h
  obtain ⟨v, h⟩ := cell?_setCell_some (p := ⟨g, o, none⟩) (x := v0) h
  exact cell?_setCell_some (p := ⟨g, o + 1, none⟩) (x := v1) h
theorem set2_hit (x : World) (g o : Nat) (v0 v1 : Value) (h0 : ∃ v, x.cell? ⟨g, o, none⟩ = some v) (h1 : ∃ v, x.cell? ⟨g, o + 1, none⟩ = some v) :
    (set2 x g o v0 v1).cell? ⟨g, o, none⟩ = some v0 ∧ (set2 x g o v0 v1).cell? ⟨g, o + 1, none⟩ = some v1 := by
  obtain ⟨u0, h0⟩ := h0
  obtain ⟨u1, h1⟩ := h1
  unfold set2
  exact ⟨by rw [sc_other (by intro e; injection e; omega), sc_same h0], by rw [sc_same ((sc_other (by intro e; injection e; omega)).trans h1)]⟩
theorem set2_frozen (x : World) (g o : Nat) (v0 v1 : Value) (a : Addr) : (set2 x g o v0 v1).frozen? a = x.frozen? a := by unfold set2; simp
theorem set2_below {B : Nat} {w x : World} {g o : Nat} {v0 v1 : Value} (h : Below B w x) (hg : B ≤ g) : Below B w (set2 x g o v0 v1) :=
  (h.setCell (p := ⟨g, o, none⟩) hg _).setCell (p := ⟨g, o + 1, none⟩) hg _
theorem set2_size (x : World) (g o : Nat) (v0 v1 : Value) : (set2 x g o v0 v1).heap.size = x.heap.size := by unfold set2; simp
theorem Within.set2 {B E : Nat} {x y : World} (h : Within B E x y) {g o : Nat} (h0 : B ≤ g) (h1 : g < E) (v0 v1 : Value) : Within B E x (set2 y g o v0 v1) :=
  ⟨by rw [set2_size]; exact h.sz, set2_below h.below h0, fun b p hb => (set2_miss _ _ _ _ _ _ _ (by omega)).trans (h.cell b p hb), fun b p => (set2_frozen _ _ _ _ _ _).trans (h.frozen b p)⟩
theorem set3_hits (x : World) (g o : Nat) (v0 v1 v2 : Value) (h0 : ∃ v, x.cell? ⟨g, o, none⟩ = some v) (h1 : ∃ v, x.cell? ⟨g, o + 1, none⟩ = some v) (h2 : ∃ v, x.cell? ⟨g, o + 2, none⟩ = some v) :
    (set3 x g o v0 v1 v2).cell? ⟨g, o, none⟩ = some v0 ∧ (set3 x g o v0 v1 v2).cell? ⟨g, o + 1, none⟩ = some v1 ∧ (set3 x g o v0 v1 v2).cell? ⟨g, o + 2, none⟩ = some v2 := by
  obtain ⟨u0, h0⟩ := h0
  obtain ⟨u1, h1⟩ := h1
  obtain ⟨u2, h2⟩ := h2
  unfold set3
  refine ⟨?_, ?_, ?_⟩
  · rw [sc_other (by intro e; injection e; omega), sc_other (by intro e; injection e; omega), sc_same h0]
  · rw [sc_other (by intro e; injection e; omega), sc_same ((sc_other (by intro e; injection e; omega)).trans h1)]
  · rw [sc_same ((sc_other (by intro e; injection e; omega)).trans ((sc_other (by intro e; injection e; omega)).trans h2))]

end Go.Proofs.Ytbjegekfghihkaa

/-
  The laws' own helpers on rows of calls: measured, copied, the same, marked, held.
-/
namespace Go.Proofs.Ytbjegekfghihkaa
open Go.RowKit
set_option linter.unusedVariables false
set_option linter.unusedSimpArgs false

theorem eqCall_at (n0 : Int) (n1 : Int) (w : World) : Calls Try.prog 36 #[.agg #[.int .i64 n0, .int .i64 n1], .agg #[.int .i64 n0, .int .i64 n1]] w fun e w' => e = .returned (.bool true) ∧ Below w.heap.size w w' := by
  go_enter Try.func36, Try.ntmps36
  go_wp2
  go_ret
  exact ⟨rfl, by go_grown⟩
theorem infoCall : (Try.prog.info? 78).map (fun i => (i.zero, i.size, i.bytes)) = some (some (.agg #[.int .i64 (0), .int .i64 (0)]), 2, 16) := by kernel_rfl
theorem keepC2 {w y : World} {g o g' o' k : Nat} {n0 n1 : Int} (h : (fun z => z.cell? ⟨g, o + k * 2, none⟩ = some (.int .i64 n0) ∧ z.cell? ⟨g, o + k * 2 + 1, none⟩ = some (.int .i64 n1) ∧ z.cell? ⟨g', o' + k * 2, none⟩ = some (.int .i64 n0) ∧ z.cell? ⟨g', o' + k * 2 + 1, none⟩ = some (.int .i64 n1)) w) (hb : Below w.heap.size w y) (hg : g < w.heap.size) (hg' : g' < w.heap.size) : (fun z => z.cell? ⟨g, o + k * 2, none⟩ = some (.int .i64 n0) ∧ z.cell? ⟨g, o + k * 2 + 1, none⟩ = some (.int .i64 n1) ∧ z.cell? ⟨g', o' + k * 2, none⟩ = some (.int .i64 n0) ∧ z.cell? ⟨g', o' + k * 2 + 1, none⟩ = some (.int .i64 n1)) y := by
  obtain ⟨d0, d1, e0, e1⟩ := h
  exact ⟨(hb.cell (p := ⟨g, _, none⟩) hg).trans d0, (hb.cell (p := ⟨g, _, none⟩) hg).trans d1, (hb.cell (p := ⟨g', _, none⟩) hg').trans e0, (hb.cell (p := ⟨g', _, none⟩) hg').trans e1⟩
set_option maxHeartbeats 1000000 in
theorem eqCallS_any (x : World) (z z' : Bool) (B E C D : Nat) (v u : Value) (n : Nat) (N : Nat → Int) (h : IRow 2 z x B E v n N) (h' : IRow 2 z' x C D u n N) :
    Calls Try.prog 12 #[v, u] x fun e y => e = .returned (.bool true) ∧ Below x.heap.size x y := by
  obtain ⟨p, cap, rfl, hm, hc⟩ := h
  obtain ⟨p', cap', rfl, _, hc'⟩ := h'
  unfold maxLen at hm
  have hni : (n : Int) ≤ 9223372036854775807 := by omega
  clear hm
  go_enter Try.func12, Try.ntmps12
  go_wp2_with fail
  go_loopw [5] (fun t y => ∃ k : Nat, k ≤ n ∧ t = .int .i64 k ∧ Below x.heap.size x y) (fun t _ => n - (intOf t).toNat)
  case atStart => exact ⟨0, by omega, rfl, Below.refl _ _⟩
  case round =>
    obtain ⟨k, hk, rfl, hB⟩ := hrel
    by_cases hlt : k < n
    · rcases hc with h0 | ⟨g, o, rfl, hBg, hgE, hEx, _, hins⟩
      · omega
      rcases hc' with h0 | ⟨g', o', rfl, hBg', hgE', hEx', _, hins'⟩
      · omega
      have hgx : g < x.heap.size := by omega
      have hgx' : g' < x.heap.size := by omega
      have hki : (k : Int) < (n : Int) := by omega
      have d0 := (hB.cell (p := ⟨g, o + (k * 2), none⟩) hgx).trans (hins (k * 2) (by omega))
      have d1 := (hB.cell (p := ⟨g, o + (k * 2 + 1), none⟩) hgx).trans (hins (k * 2 + 1) (by omega))
      have e0 := (hB.cell (p := ⟨g', o' + (k * 2), none⟩) hgx').trans (hins' (k * 2) (by omega))
      have e1 := (hB.cell (p := ⟨g', o' + (k * 2 + 1), none⟩) hgx').trans (hins' (k * 2 + 1) (by omega))
      rw [← Nat.add_assoc] at d1 e1
      clear hins hins'
      generalize N (k * 2) = n0 at *
      generalize N (k * 2 + 1) = n1 at *
      have hgw : g < wr.heap.size := Nat.lt_of_lt_of_le hgx hB.size
      have hgw' : g' < wr.heap.size := Nat.lt_of_lt_of_le hgx' hB.size
      go_wp2_with fail
      go_region_held3 (fun z => z.cell? ⟨g, o + k * 2, none⟩ = some (.int .i64 n0) ∧ z.cell? ⟨g, o + k * 2 + 1, none⟩ = some (.int .i64 n1) ∧ z.cell? ⟨g', o' + k * 2, none⟩ = some (.int .i64 n0) ∧ z.cell? ⟨g', o' + k * 2 + 1, none⟩ = some (.int .i64 n1)) (first | (with_reducible assumption) | exact ⟨d0, d1, e0, e1⟩ | fail) ((go_at_call 36; refine (eqCall_at n0 n1 _).mono ?_; rintro e w2 ⟨rfl, hb2⟩; have hS2 := keepC2 (w := wr.drew) (o := o) (o' := o') (k := k) (n0 := n0) (n1 := n1) ⟨d0, d1, e0, e1⟩ hb2 hgw hgw'))
      have hB2 : Below x.heap.size x w2 := hB.trans ((Below.drew (Below.refl _ _)).trans (hb2.mono (by simp)) |>.mono hB.size)
      go_wp2_with fail
      go_roundw
      case rel => exact ⟨k + 1, by omega, by go_num, hB2⟩
      case measure => simp [intOf]; omega
    · obtain rfl : k = n := by omega
      have hki : ¬ (k : Int) < (k : Int) := by omega
      go_wp2_with fail
      go_ret
      exact ⟨rfl, hB⟩

set_option maxHeartbeats 1000000 in
theorem markCallS_all (x : World) (B E : Nat) (v : Value) (n : Nat) (N : Nat → Int) (k0 : Int) (h : IRow 2 true x B E v n N) (hn : n ≤ 1048576) (h0 : 0 ≤ k0) (h1 : k0 ≤ 1000000000000000) :
    Calls Try.prog 17 #[v, .int .i64 k0] x fun e y => e = .returned (.int .i64 (k0 + 2 * n)) ∧ IRow 2 true y B E v n (fun j => k0 + (j : Int)) ∧ Within B E x y := by
  obtain ⟨p, cap, rfl, hm, hc⟩ := h
  have hni : (n : Int) ≤ 1048576 := by omega
  have HM : Hid (n ≤ maxLen) := hm
  clear hn hm
  have HC : Hid (n = 0 ∨ ∃ g o, p = some ⟨g, o, none⟩ ∧ B ≤ g ∧ g < E ∧ E ≤ x.heap.size ∧ (true = true → ∀ k, x.frozen? ⟨g, k, none⟩ = false) ∧ ∀ j, j < n * 2 → x.cell? ⟨g, o + j, none⟩ = some (.int .i64 (N j))) := hc
  clear hc
  go_enter Try.func17, Try.ntmps17
  go_wp2_with fail
  go_loopw [1, 5] (fun m t y => ∃ k : Nat, k ≤ n ∧ t = .int .i64 k ∧ m = .int .i64 (k0 + 2 * k) ∧ Within B E x y ∧ (∀ g o, p = some ⟨g, o, none⟩ → (∀ j, j < n * 2 → ∃ v, y.cell? ⟨g, o + j, none⟩ = some v) ∧ (∀ j, j < k * 2 → y.cell? ⟨g, o + j, none⟩ = some (.int .i64 (k0 + (j : Int)))))) (fun _ t _ => n - (intOf t).toNat)
  case atStart =>
    refine ⟨0, by omega, rfl, by simp, Within.refl _ _ _, ?_⟩
    intro g o hp
    refine ⟨?_, fun j hj => by omega⟩
    rcases HC.out with h0 | ⟨g', o', hp', _, _, _, _, hs⟩
    · intro j hj; omega
    · rw [hp] at hp'
      injection hp' with hp'
      injection hp' with e1 e2
      subst e1 e2
      intro j hj
      exact ⟨_, hs j hj⟩
  case round =>
    obtain ⟨k, hk, rfl, rfl, hW, hp⟩ := hrel
    by_cases hlt : k < n
    · rcases HC.out with hz | ⟨g, o, rfl, hBg, hgE, hEx, hf, _⟩
      · omega
      obtain ⟨hcell, hdone⟩ := hp g o rfl
      have hki : (k : Int) < (n : Int) := by omega
      obtain ⟨u0, e0⟩ := hcell (k * 2) (by omega)
      obtain ⟨u1, e1⟩ := hcell (k * 2 + 1) (by omega)
      have f0 : wr.frozen? ⟨g, o + k * 2, none⟩ = false := (hW.frozen _ _).trans (hf (by trivial) _)
      have f1 : wr.frozen? ⟨g, o + k * 2 + 1, none⟩ = false := (hW.frozen _ _).trans (hf (by trivial) _)
      rw [← Nat.add_assoc] at e1
      have hkb : 0 ≤ k0 + 2 * (k : Int) ∧ k0 + 2 * (k : Int) ≤ 2000000000000000 := by omega
      generalize hK : k0 + 2 * (k : Int) = K at *
      have HK : Hid (k0 + 2 * (k : Int) = K) := hK
      have hK0 := hkb.1
      have hK1 := hkb.2
      have HP : Hid ((∀ j, j < n * 2 → ∃ v, wr.cell? ⟨g, o + j, none⟩ = some v) ∧ (∀ j, j < k * 2 → wr.cell? ⟨g, o + j, none⟩ = some (.int .i64 (k0 + (j : Int))))) := ⟨hcell, hdone⟩
      clear hcell hdone hp hf hK hkb
      go_wp2_with fail
      go_roundw
      case rel =>
        refine ⟨k + 1, by omega, by go_num, ?_, ?_⟩
        · rw [← HK.out]; congr 1; omega
        · change Within B E x (set2 wr g (o + k * 2) _ _) ∧ ∀ g' o', _ → (∀ j, j < n * 2 → ∃ v, (set2 wr g (o + k * 2) _ _).cell? ⟨g', o' + j, none⟩ = some v) ∧ ∀ j, j < (k + 1) * 2 → (set2 wr g (o + k * 2) _ _).cell? ⟨g', o' + j, none⟩ = some (.int .i64 (k0 + (j : Int)))
          refine ⟨hW.set2 hBg hgE _ _, ?_⟩
          intro g' o' hp
          injection hp with hp
          injection hp with e3 e4
          subst e3 e4
          refine ⟨fun j hj => set2_some _ _ _ _ _ _ (HP.out.1 j hj), fun j hj => ?_⟩
          by_cases hjk : j < k * 2
          · exact (set2_miss _ _ _ _ _ _ _ (by omega)).trans (HP.out.2 j hjk)
          · have hh := set2_hit wr g (o + k * 2) (.int .i64 (K)) (.int .i64 (K + 1)) ⟨_, e0⟩ ⟨_, e1⟩
            have hkk := HK.out
            rcases (by omega : j = k * 2 ∨ j = k * 2 + 1) with e | e
            · subst e; rw [show k0 + (((k * 2 : Nat)) : Int) = K by omega]; exact hh.1
            · subst e; rw [← Nat.add_assoc]; rw [show k0 + (((k * 2 + 1 : Nat)) : Int) = K + 1 by omega]; exact hh.2
      case measure => simp [intOf]; omega
    · obtain rfl : k = n := by omega
      have hki : ¬ (k : Int) < (k : Int) := by omega
      go_wp2_with fail
      go_ret
      refine ⟨rfl, ⟨p, cap, rfl, HM.out, ?_⟩, hW⟩
      rcases HC.out with hz | ⟨g, o, rfl, hBg, hgE, hEx, hf, _⟩
      · exact .inl hz
      · exact .inr ⟨g, o, rfl, hBg, hgE, by rw [← hW.sz]; exact hEx, fun _ j => (hW.frozen _ _).trans (hf (by trivial) j), fun j hj => (hp g o rfl).2 j hj⟩

set_option maxHeartbeats 1000000 in
theorem heldCallS_all (x : World) (z : Bool) (B E : Nat) (v : Value) (n : Nat) (k0 : Int) (h : IRow 2 z x B E v n (fun j => k0 + (j : Int))) (hn : n ≤ 1048576) (h0 : 0 ≤ k0) (h1 : k0 ≤ 1000000000000000) :
    Calls Try.prog 18 #[v, .int .i64 k0] x fun e y => e = .returned (.int .i64 (k0 + 2 * n)) ∧ y = x := by
  obtain ⟨p, cap, rfl, hm, hc⟩ := h
  have hni : (n : Int) ≤ 1048576 := by omega
  have HC : Hid (n = 0 ∨ ∃ g o, p = some ⟨g, o, none⟩ ∧ B ≤ g ∧ g < E ∧ E ≤ x.heap.size ∧ (z = true → ∀ k, x.frozen? ⟨g, k, none⟩ = false) ∧ ∀ j, j < n * 2 → x.cell? ⟨g, o + j, none⟩ = some (.int .i64 (k0 + (j : Int)))) := hc
  clear hc hm hn
  go_enter Try.func18, Try.ntmps18
  go_wp2_with fail
  go_loopw [1, 5] (fun m t y => ∃ k : Nat, k ≤ n ∧ t = .int .i64 k ∧ m = .int .i64 (k0 + 2 * k) ∧ y = x) (fun _ t _ => n - (intOf t).toNat)
  case atStart => exact ⟨0, by omega, rfl, by simp, rfl⟩
  case round =>
    obtain ⟨k, hk, rfl, rfl, rfl⟩ := hrel
    by_cases hlt : k < n
    · rcases HC.out with hz | ⟨g, o, rfl, hBg, hgE, hEx, hf, hs⟩
      · omega
      have hki : (k : Int) < (n : Int) := by omega
      have hkb : 0 ≤ k0 + 2 * (k : Int) ∧ k0 + 2 * (k : Int) ≤ 2000000000000000 := by omega
      have hsk := fun j hj => hs j hj
      generalize hK : k0 + 2 * (k : Int) = K at *
      have HK : Hid (k0 + 2 * (k : Int) = K) := hK
      have hK0 := hkb.1
      have hK1 := hkb.2
      have q0 : wr.cell? ⟨g, o + k * 2, none⟩ = some (.int .i64 (K)) := by have := hsk (k * 2) (by omega); rw [show k0 + (((k * 2 : Nat)) : Int) = K by omega] at this; exact this
      have q1 : wr.cell? ⟨g, o + k * 2 + 1, none⟩ = some (.int .i64 (K + 1)) := by have := hsk (k * 2 + 1) (by omega); rw [show k0 + (((k * 2 + 1 : Nat)) : Int) = K + 1 by omega] at this; rw [← Nat.add_assoc] at this; exact this
      clear hs hf hK hkb hsk
      go_wp2_with fail
      go_roundw
      case rel =>
        refine ⟨k + 1, by omega, by go_num, ?_, trivial⟩
        rw [← HK.out]; congr 1; omega
      case measure => simp [intOf]; omega
    · obtain rfl : k = n := by omega
      have hki : ¬ (k : Int) < (k : Int) := by omega
      go_wp2_with fail
      go_ret
      exact ⟨rfl, rfl⟩

end Go.Proofs.Ytbjegekfghihkaa
