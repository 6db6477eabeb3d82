import Derived.Test.YtbjegekfghihkaaB4
/-
  The laws' marks on the spans of a state: markSpanS and markState write them all, and nothing else; heldSpanS and heldState find them where they stand.
-/
namespace Go.Proofs.Ytbjegekfghihkaa
open Go.RowKit
set_option linter.unusedVariables false
set_option linter.unusedSimpArgs false

/-- the mark that a span gets at number k -/
def mkS (k : Int) : Sp := (k % 3 == 0, k + 1, k + 1 + 1)
/-- the marks of n spans from number k on -/
def mks (k : Int) (n : Nat) : List Sp := (List.range n).map fun (j : Nat) => mkS (k + 3 * (j : Int))
theorem mks_len (k : Int) (n : Nat) : (mks k n).length = n := by simp [mks]
theorem mks_get (k : Int) (n j : Nat) (h : j < n) : (mks k n).getD j noSp = mkS (k + 3 * j) := by
  simp [mks, List.getD, List.getElem?_map, List.getElem?_range h]
/-- nothing but blocks from B on and ahead of E has changed -/
structure Within (B E : Nat) (x y : World) : Prop where
  sz : x.heap.size = y.heap.size
  below : Below B x y
  cell : ∀ b o, b < B ∨ E ≤ b → y.cell? ⟨b, o, none⟩ = x.cell? ⟨b, o, none⟩
  frozen : ∀ b o, y.frozen? ⟨b, o, none⟩ = x.frozen? ⟨b, o, none⟩
theorem Within.refl (B E : Nat) (x : World) : Within B E x x := ⟨rfl, Below.refl _ _, fun _ _ _ => rfl, fun _ _ => rfl⟩
theorem Within.set3 {B E : Nat} {x y : World} (h : Within B E x y) {g o : Nat} (h0 : B ≤ g) (h1 : g < E) (v0 v1 v2 : Value) : Within B E x (set3 y g o v0 v1 v2) :=
  ⟨by rw [set3_size]; exact h.sz, set3_below h.below h0, fun b p hb => (set3_miss _ _ _ _ _ _ _ _ (by omega)).trans (h.cell b p hb), fun b p => (set3_frozen _ _ _ _ _ _ _).trans (h.frozen b p)⟩

set_option maxHeartbeats 1000000 in
theorem markSpanS_any (x : World) (B E : Nat) (v : Value) (c : List Sp) (k0 : Int) (h : SpsAt true x B E v c) (hn : c.length ≤ 1048576) (h0 : 0 ≤ k0) (h1 : k0 ≤ 1000000000000000) :
    Calls Try.prog 41 #[v, .int .i64 k0] x fun e y => e = .returned (.int .i64 (k0 + 3 * c.length)) ∧ SpsAt true y B E v (mks k0 c.length) ∧ Within B E x y := by
  obtain ⟨p, cap, rfl, hm, hc⟩ := h
  generalize hL : c.length = n at *
  have HL : Hid (c.length = n) := hL
  have hni : (n : Int) ≤ 1048576 := by omega
  have HM : Hid (n ≤ maxLen) := hm
  clear hL hn hm
  have HC : Hid (n = 0 ∨ ∃ g o, p = some ⟨g, o, none⟩ ∧ B ≤ g ∧ g < E ∧ E ≤ x.heap.size ∧ (true = true → ∀ k, x.frozen? ⟨g, k, none⟩ = false) ∧ ∀ j, j < n → Spn x g (o + j * 3) (c.getD j noSp)) := hc
  clear hc
  go_enter Try.func41, Try.ntmps41
  go_wp2_with fail
  go_loopw [1, 5] (fun m t y => ∃ k : Nat, k ≤ n ∧ t = .int .i64 k ∧ m = .int .i64 (k0 + 3 * k) ∧ Within B E x y ∧ (∀ g o, p = some ⟨g, o, none⟩ → (∀ j, j < n * 3 → ∃ v, y.cell? ⟨g, o + j, none⟩ = some v) ∧ (∀ j, j < k → Spn y g (o + j * 3) (mkS (k0 + 3 * j))))) (fun _ t _ => n - (intOf t).toNat)
  case atStart =>
    refine ⟨0, by omega, rfl, by simp, Within.refl _ _ _, ?_⟩
    intro g o hp
    refine ⟨?_, fun j hj => by omega⟩
    rcases HC.out with h0 | ⟨g', o', hp', _, _, _, _, hs⟩
    · intro j hj; omega
    · rw [hp] at hp'
      injection hp' with hp'
      injection hp' with e1 e2
      subst e1 e2
      intro j hj
      obtain ⟨q0, q1, q2⟩ := hs (j / 3) (by omega)
      rcases (by omega : j = j / 3 * 3 ∨ j = j / 3 * 3 + 1 ∨ j = j / 3 * 3 + 2) with e | e | e <;> rw [e]
      · exact ⟨_, q0⟩
      · exact ⟨_, q1⟩
      · exact ⟨_, q2⟩
  case round =>
    obtain ⟨k, hk, rfl, rfl, hW, hp⟩ := hrel
    by_cases hlt : k < n
    · rcases HC.out with hz | ⟨g, o, rfl, hBg, hgE, hEx, hf, _⟩
      · omega
      obtain ⟨hcell, hdone⟩ := hp g o rfl
      have hki : (k : Int) < (n : Int) := by omega
      obtain ⟨u0, e0⟩ := hcell (k * 3) (by omega)
      obtain ⟨u1, e1⟩ := hcell (k * 3 + 1) (by omega)
      obtain ⟨u2, e2⟩ := hcell (k * 3 + 2) (by omega)
      have f0 : wr.frozen? ⟨g, o + k * 3, none⟩ = false := (hW.frozen _ _).trans (hf (by trivial) _)
      have f1 : wr.frozen? ⟨g, o + k * 3 + 1, none⟩ = false := (hW.frozen _ _).trans (hf (by trivial) _)
      have f2 : wr.frozen? ⟨g, o + k * 3 + 2, none⟩ = false := (hW.frozen _ _).trans (hf (by trivial) _)
      rw [← Nat.add_assoc] at e1 e2
      have hkb : 0 ≤ k0 + 3 * (k : Int) ∧ k0 + 3 * (k : Int) ≤ 2000000000000000 := by omega
      generalize hK : k0 + 3 * (k : Int) = K at *
      have HK : Hid (k0 + 3 * (k : Int) = K) := hK
      have hK0 := hkb.1
      have hK1 := hkb.2
      have HP : Hid ((∀ j, j < n * 3 → ∃ v, wr.cell? ⟨g, o + j, none⟩ = some v) ∧ (∀ j, j < k → Spn wr g (o + j * 3) (mkS (k0 + 3 * j)))) := ⟨hcell, hdone⟩
      clear hcell hdone hp hf hK hkb
      go_wp2_with fail
      go_roundw
      case rel =>
        refine ⟨k + 1, by omega, by go_num, ?_, ?_⟩
        · rw [← HK.out]; congr 1; omega
        · change Within B E x (set3 wr g (o + k * 3) _ _ _) ∧ ∀ g' o', _ → (∀ j, j < n * 3 → ∃ v, (set3 wr g (o + k * 3) _ _ _).cell? ⟨g', o' + j, none⟩ = some v) ∧ ∀ j, j < k + 1 → Spn (set3 wr g (o + k * 3) _ _ _) g' (o' + j * 3) (mkS (k0 + 3 * j))
          refine ⟨hW.set3 hBg hgE _ _ _, ?_⟩
          intro g' o' hp
          injection hp with hp
          injection hp with e3 e4
          subst e3 e4
          refine ⟨fun j hj => set3_some _ _ _ _ _ _ _ (HP.out.1 j hj), fun j hj => ?_⟩
          by_cases hjk : j = k
          · subst hjk
            rw [HK.out]
            exact set3_hit wr g (o + j * 3) (mkS K) ⟨_, e0⟩ ⟨_, e1⟩ ⟨_, e2⟩
          · obtain ⟨r0, r1, r2⟩ := HP.out.2 j (by omega)
            exact ⟨(set3_miss _ _ _ _ _ _ _ _ (by omega)).trans r0, (set3_miss _ _ _ _ _ _ _ _ (by omega)).trans r1, (set3_miss _ _ _ _ _ _ _ _ (by omega)).trans r2⟩
      case measure => simp [intOf]; omega
    · obtain rfl : k = n := by omega
      have hki : ¬ (k : Int) < (k : Int) := by omega
      go_wp2_with fail
      go_ret
      refine ⟨rfl, ⟨p, cap, by rw [mks_len], by rw [mks_len]; exact HM.out, ?_⟩, hW⟩
      rw [mks_len]
      rcases HC.out with hz | ⟨g, o, rfl, hBg, hgE, hEx, hf, _⟩
      · exact .inl hz
      · refine .inr ⟨g, o, rfl, hBg, hgE, by rw [← hW.sz]; exact hEx, fun _ j => (hW.frozen _ _).trans (hf (by trivial) j), fun j hj => ?_⟩
        rw [mks_get _ _ _ hj]
        exact (hp g o rfl).2 j hj

theorem markState_any (x : World) (B E : Nat) (a : Bool) (v : Value) (c : Sp) (L : List Sp) (k0 : Int) (h : SpsAt true x B E v L) (hn : L.length ≤ 1048576) (h0 : 0 ≤ k0) (h1 : k0 ≤ 1000000000000000) :
    Calls Try.prog 16 #[.agg #[.bool a, v, .bool c.1, .int .i64 c.2.1, .int .i64 c.2.2], .int .i64 k0] x fun e y => e = .returned (.int .i64 (k0 + 3 * L.length)) ∧ SpsAt true y B E v (mks k0 L.length) ∧ Within B E (x.alloc (.cells #[.bool a, v, .bool c.1, .int .i64 c.2.1, .int .i64 c.2.2] 37)) y := by
  obtain ⟨p, cap, rfl, _⟩ := id h
  have hA := h.later ((Below.refl x.heap.size x).alloc (Nat.le_refl _) (.cells #[.bool a, .slice p L.length cap, .bool c.1, .int .i64 c.2.1, .int .i64 c.2.2] 37))
  have HA : Hid (SpsAt true (x.alloc (.cells #[.bool a, .slice p L.length cap, .bool c.1, .int .i64 c.2.1, .int .i64 c.2.2] 37)) B E (.slice p L.length cap) L) := hA
  have HN : Hid (L.length ≤ 1048576) := hn
  clear hA h hn
  go_enter Try.func16, Try.ntmps16
  go_wp2_with (go_at_call 41; refine (markSpanS_any _ _ _ _ _ _ HA.out HN.out h0 h1).mono ?_; rintro e y ⟨rfl, hs, hw⟩)
  go_ret
  exact ⟨rfl, hs, hw⟩

end Go.Proofs.Ytbjegekfghihkaa

/-
  Rows of structures of m numbers each: what a slice of them reads as, all numbers in one row.
-/
namespace Go.Proofs.Ytbjegekfghihkaa
open Go.RowKit
set_option linter.unusedVariables false
set_option linter.unusedSimpArgs false

/-- the slice value v reads as n structures of m numbers each, which are N's, in a block from B on and ahead of E; nothing of it is frozen, if z -/
def IRow (m : Nat) (z : Bool) (x : World) (B E : Nat) (v : Value) (n : Nat) (N : Nat → Int) : Prop :=
  ∃ p cap, v = .slice p n cap ∧ n ≤ maxLen ∧ (n = 0 ∨ ∃ g o, p = some ⟨g, o, none⟩ ∧ B ≤ g ∧ g < E ∧ E ≤ x.heap.size ∧ (z = true → ∀ k, x.frozen? ⟨g, k, none⟩ = false) ∧ ∀ j, j < n * m → x.cell? ⟨g, o + j, none⟩ = some (.int .i64 (N j)))
theorem IRow.stay {m : Nat} {z : Bool} {x y : World} {B E : Nat} {v : Value} {n : Nat} {N : Nat → Int} (h : IRow m z x B E v n N) (hs : x.heap.size ≤ y.heap.size) (hc : ∀ g o, B ≤ g → g < E → y.cell? ⟨g, o, none⟩ = x.cell? ⟨g, o, none⟩ ∧ y.frozen? ⟨g, o, none⟩ = x.frozen? ⟨g, o, none⟩) : IRow m z y B E v n N := by
  obtain ⟨p, cap, hv, hm, hq⟩ := h
  refine ⟨p, cap, hv, hm, hq.imp id ?_⟩
  rintro ⟨g, o, hp, hB, hg, hE, hf, hj⟩
  exact ⟨g, o, hp, hB, hg, by omega, fun hz k => (hc g k hB hg).2.trans (hf hz k), fun j h => (hc _ _ hB hg).1.trans (hj j h)⟩
theorem IRow.later {m : Nat} {z : Bool} {x y : World} {B E : Nat} {v : Value} {n : Nat} {N : Nat → Int} (h : IRow m z x B E v n N) (hb : Below x.heap.size x y) : IRow m z y B E v n N := by
  obtain ⟨p, cap, hv, hm, hq⟩ := h
  refine ⟨p, cap, hv, hm, hq.imp id ?_⟩
  rintro ⟨g, o, hp, hB, hg, hE, hf, hj⟩
  exact ⟨g, o, hp, hB, hg, Nat.le_trans hE hb.size, fun hz k => (hb.frozen (p := ⟨g, k, none⟩) (by show g < _; omega)).trans (hf hz k), fun j h => (hb.cell (p := ⟨g, o + j, none⟩) (by show g < _; omega)).trans (hj j h)⟩
theorem IRow.wide {m : Nat} {z : Bool} {x : World} {B E C D : Nat} {v : Value} {n : Nat} {N : Nat → Int} (h : IRow m z x B E v n N) (hc : C ≤ B) (hd : E ≤ D) (hx : D ≤ x.heap.size) : IRow m z x C D v n N := by
  obtain ⟨p, cap, hv, hm, hq⟩ := h
  refine ⟨p, cap, hv, hm, hq.imp id ?_⟩
  rintro ⟨g, o, hp, hB, hg, hE, hf, hj⟩
  exact ⟨g, o, hp, by omega, by omega, hx, hf, hj⟩
theorem IRow.weak {m : Nat} {z : Bool} {x : World} {B E : Nat} {v : Value} {n : Nat} {N : Nat → Int} (h : IRow m z x B E v n N) : IRow m false x B E v n N := by
  obtain ⟨p, cap, hv, hm, hq⟩ := h
  refine ⟨p, cap, hv, hm, hq.imp id ?_⟩
  rintro ⟨g, o, hp, hB, hg, hE, hf, hj⟩
  exact ⟨g, o, hp, hB, hg, hE, fun h => (by cases h), hj⟩
theorem IRow.within {m : Nat} {z : Bool} {x y : World} {B E C D : Nat} {v : Value} {n : Nat} {N : Nat → Int} (h : IRow m z x C D v n N) (hw : Within B E x y) (hd : D ≤ B ∨ E ≤ C) : IRow m z y C D v n N :=
  h.stay (by rw [hw.sz]; exact Nat.le_refl _) fun g o h1 h2 => ⟨hw.cell _ _ (by omega), hw.frozen _ _⟩
theorem IRow.off {m : Nat} {z : Bool} {x : World} {B E : Nat} {v : Value} {n : Nat} {N : Nat → Int} (h : IRow m z x B E v n N) {b o : Nat} {u : Value} (hb : b < B ∨ E ≤ b) : IRow m z (x.setCell ⟨b, o, none⟩ u) B E v n N :=
  h.stay (by simp) fun g k h1 h2 => ⟨sc_other (by intro e; injection e; omega), World.frozen?_setCell _ _ _ _⟩
theorem IRow.nil {m : Nat} {z : Bool} {x : World} {B E : Nat} {p : Option Addr} {cap : Nat} {N : Nat → Int} : IRow m z x B E (.slice p 0 cap) 0 N := ⟨p, cap, rfl, by unfold maxLen; simp, .inl rfl⟩
theorem IRow.shape {m : Nat} {z : Bool} {x : World} {B E : Nat} {v : Value} {n : Nat} {N : Nat → Int} (h : IRow m z x B E v n N) : ∃ p cap, v = .slice p n cap := by
  obtain ⟨p, cap, hv, _⟩ := h
  exact ⟨p, cap, hv⟩
/-- a block is given cells; those behind cell k of it -/
def set2 (x : World) (g o : Nat) (v0 v1 : Value) : World := (x.setCell ⟨g, o, none⟩ v0).setCell ⟨g, o + 1, none⟩ v1
theorem set2_miss (x : World) (g o : Nat) (v0 v1 : Value) (b p : Nat) (h : b ≠ g ∨ p < o ∨ o + 2 ≤ p) : (set2 x g o v0 v1).cell? ⟨b, p, none⟩ = x.cell? ⟨b, p, none⟩ := by
  unfold set2
  rw [sc_other (by intro e; injection e; omega), sc_other (by intro e; injection e; omega)]
theorem set2_some (x : World) (g o : Nat) (v0 v1 : Value) (a : Addr) (h : ∃ v, x.cell? a = some v) : ∃ v, (set2 x g o v0 v1).cell? a = some v := by
  obtain ⟨v, h⟩ := h
  obtain ⟨v, h⟩ := cell?_setCell_some (p := ⟨g, o, none⟩) (x := v0) h
  exact cell?_setCell_some (p := ⟨g, o + 1, none⟩) (x := v1) h
theorem set2_hit (x : World) (g o : Nat) (v0 v1 : Value) (h0 : ∃ v, x.cell? ⟨g, o, none⟩ = some v) (h1 : ∃ v, x.cell? ⟨g, o + 1, none⟩ = some v) :
    (set2 x g o v0 v1).cell? ⟨g, o, none⟩ = some v0 ∧ (set2 x g o v0 v1).cell? ⟨g, o + 1, none⟩ = some v1 := by
  obtain ⟨u0, h0⟩ := h0
  obtain ⟨u1, h1⟩ := h1
  unfold set2
  exact ⟨by rw [sc_other (by intro e; injection e; omega), sc_same h0], by rw [sc_same ((sc_other (by intro e; injection e; omega)).trans h1)]⟩
theorem set2_frozen (x : World) (g o : Nat) (v0 v1 : Value) (a : Addr) : (set2 x g o v0 v1).frozen? a = x.frozen? a := by unfold set2; simp
theorem set2_below {B : Nat} {w x : World} {g o : Nat} {v0 v1 : Value} (h : Below B w x) (hg : B ≤ g) : Below B w (set2 x g o v0 v1) :=
  (h.setCell (p := ⟨g, o, none⟩) hg _).setCell (p := ⟨g, o + 1, none⟩) hg _
theorem set2_size (x : World) (g o : Nat) (v0 v1 : Value) : (set2 x g o v0 v1).heap.size = x.heap.size := by unfold set2; simp
theorem Within.set2 {B E : Nat} {x y : World} (h : Within B E x y) {g o : Nat} (h0 : B ≤ g) (h1 : g < E) (v0 v1 : Value) : Within B E x (set2 y g o v0 v1) :=
  ⟨by rw [set2_size]; exact h.sz, set2_below h.below h0, fun b p hb => (set2_miss _ _ _ _ _ _ _ (by omega)).trans (h.cell b p hb), fun b p => (set2_frozen _ _ _ _ _ _).trans (h.frozen b p)⟩
theorem set3_hits (x : World) (g o : Nat) (v0 v1 v2 : Value) (h0 : ∃ v, x.cell? ⟨g, o, none⟩ = some v) (h1 : ∃ v, x.cell? ⟨g, o + 1, none⟩ = some v) (h2 : ∃ v, x.cell? ⟨g, o + 2, none⟩ = some v) :
    (set3 x g o v0 v1 v2).cell? ⟨g, o, none⟩ = some v0 ∧ (set3 x g o v0 v1 v2).cell? ⟨g, o + 1, none⟩ = some v1 ∧ (set3 x g o v0 v1 v2).cell? ⟨g, o + 2, none⟩ = some v2 := by
  obtain ⟨u0, h0⟩ := h0
  obtain ⟨u1, h1⟩ := h1
  obtain ⟨u2, h2⟩ := h2
  unfold set3
  refine ⟨?_, ?_, ?_⟩
  · rw [sc_other (by intro e; injection e; omega), sc_other (by intro e; injection e; omega), sc_same h0]
  · rw [sc_other (by intro e; injection e; omega), sc_same ((sc_other (by intro e; injection e; omega)).trans h1)]
  · rw [sc_same ((sc_other (by intro e; injection e; omega)).trans ((sc_other (by intro e; injection e; omega)).trans h2))]

end Go.Proofs.Ytbjegekfghihkaa
