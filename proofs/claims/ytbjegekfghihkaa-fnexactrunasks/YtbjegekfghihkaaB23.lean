import Derived.Test.YtbjegekfghihkaaB7
import Derived.Test.YtbjegekfghihkaaB5
/-
  The contracts of the laws' own helpers that measure a run: szIntS, szFrame, szFrameS, szRun.
-/
namespace Go.Proofs.Ytbjegekfghihkaa
open Go.RowKit
set_option linter.unusedVariables false
set_option linter.unusedSimpArgs false

theorem szIntS_any (p : Option Addr) (n cap : Nat) (left : Int) (w : World) (h0 : 0 ≤ left) (h1 : left ≤ 1048576) (hn : n ≤ maxLen) :
    Calls Try.prog 91 #[.slice p n cap, .int .i64 left] w fun e w' => e = .returned (.int .i64 (if left - n < 0 then -1 else left - n)) ∧ w' = w := by
  unfold maxLen at hn
  have hn' : (n : Int) ≤ 9223372036854775807 := by omega
  by_cases hlt : left - (n : Int) < 0
  · go_enter Try.func91, Try.ntmps91
    go_wp2
    go_ret
    exact ⟨retInt (by first | rfl | omega), rfl⟩
  · go_enter Try.func91, Try.ntmps91
    go_wp2
    go_ret
    exact ⟨retInt (by first | rfl | omega), rfl⟩

set_option maxRecDepth 100000 in
set_option maxHeartbeats 1000000 in
theorem szFrame_any (n0 n1 n2 n5 : Int) (p p' : Option Addr) (n m cap cap' : Nat) (left : Int) (w : World) (h0 : 0 ≤ left) (h1 : left ≤ 1048576) (hn : n ≤ maxLen) (hm : m ≤ maxLen) :
    Calls Try.prog 67 #[.agg #[.int .i64 n0, .int .i64 n1, .int .i64 n2, .slice p n cap, .slice p' m cap', .int .i64 n5], .int .i64 left] w fun e w' => ∃ r : Int, e = .returned (.int .i64 r) ∧ (0 ≤ r → n ≤ 1048576 ∧ m ≤ 1048576) ∧ r ≤ 1048576 ∧ Below w.heap.size w w' := by
  by_cases hlt : left - (n : Int) < 0
  · go_enter Try.func67, Try.ntmps67
    go_wp2_with (go_at_call 91; refine (szIntS_any _ _ _ _ _ h0 h1 hn).mono ?_; rintro e w' ⟨rfl, rfl⟩; rw [if_pos hlt])
    go_ret
    exact ⟨-1, rfl, fun h => by omega, by omega, (Below.refl _ _).alloc (Nat.le_refl _) _⟩
  · have hl' : ¬ left - (n : Int) < 0 := hlt
    have h2 : 0 ≤ left - (n : Int) := by omega
    have h3 : left - (n : Int) ≤ 1048576 := by omega
    have hn2 : n ≤ 1048576 := by omega
    by_cases hlt2 : left - (n : Int) - (m : Int) < 0
    · go_enter Try.func67, Try.ntmps67
      go_wp2_with fail
      refine (szIntS_any p n cap left _ h0 h1 hn).mono ?_
      rintro e w' ⟨rfl, rfl⟩
      rw [if_neg (by omega)]
      generalize hl3 : left - (n : Int) = l3 at *
      go_wp2_with fail
      refine (szIntS_any p' m cap' l3 _ h2 h3 hm).mono ?_
      rintro e w' ⟨rfl, rfl⟩
      rw [if_pos (by omega)]
      go_wp2_with fail
      go_ret
      exact ⟨-1, rfl, fun h => by omega, by omega, (Below.refl _ _).alloc (Nat.le_refl _) _⟩
    · have hl2 : ¬ left - (n : Int) - (m : Int) < 0 := hlt2
      go_enter Try.func67, Try.ntmps67
      go_wp2_with fail
      refine (szIntS_any p n cap left _ h0 h1 hn).mono ?_
      rintro e w' ⟨rfl, rfl⟩
      rw [if_neg (by omega)]
      generalize hl3 : left - (n : Int) = l3 at *
      go_wp2_with fail
      refine (szIntS_any p' m cap' l3 _ h2 h3 hm).mono ?_
      rintro e w' ⟨rfl, rfl⟩
      rw [if_neg (by omega)]
      go_wp2_with fail
      go_ret
      exact ⟨_, rfl, fun h => by omega, by omega, (Below.refl _ _).alloc (Nat.le_refl _) _⟩

set_option maxHeartbeats 2000000 in
theorem szFrameS_any (x : World) (v : Value) (F : List Fr) (h : FrsAt x v F) (left : Int) (h0 : 0 ≤ left) (h1 : left ≤ 1048576) :
    Calls Try.prog 42 #[v, .int .i64 left] x fun e y => ∃ r : Int, e = .returned (.int .i64 r) ∧ (0 ≤ r → F.length ≤ 1048576 ∧ ∀ j, j < F.length → (F.getD j fr0).r.length ≤ 1048576 ∧ (F.getD j fr0).c.length ≤ 1048576) ∧ r ≤ 1048576 ∧ Below x.heap.size x y := by
  obtain ⟨p, cap, rfl, hm, hc⟩ := h
  generalize hL : F.length = n at *
  have HL : Hid (F.length = n) := hL
  have HM : Hid (n ≤ maxLen) := hm
  unfold maxLen at hm
  have hni : (n : Int) ≤ 9223372036854775807 := by omega
  clear hL hm
  by_cases hbig : left - (n : Int) < 0
  · go_enter Try.func42, Try.ntmps42
    go_wp2_with fail
    go_ret
    exact ⟨-1, rfl, fun h => by omega, by omega, Below.refl _ _⟩
  · have hbig' : ¬ left - (n : Int) < 0 := hbig
    have HB : Hid (n ≤ 1048576) := by show n ≤ 1048576; omega
    go_enter Try.func42, Try.ntmps42
    go_wp2_with fail
    go_loopw [1, 5] (fun l t y => ∃ (k : Nat) (L : Int), k ≤ n ∧ t = .int .i64 k ∧ l = .int .i64 L ∧ 0 ≤ L ∧ L ≤ 1048576 ∧ (∀ j, j < k → (F.getD j fr0).r.length ≤ 1048576 ∧ (F.getD j fr0).c.length ≤ 1048576) ∧ Below x.heap.size x y) (fun _ t _ => n - (intOf t).toNat)
    case atStart => exact ⟨0, _, by omega, rfl, rfl, by omega, by omega, fun j hj => by omega, Below.refl _ _⟩
    case round =>
      obtain ⟨k, L, hk, rfl, rfl, hL0, hL1, hdone, hB⟩ := hrel
      have HD : Hid (∀ j, j < k → (F.getD j fr0).r.length ≤ 1048576 ∧ (F.getD j fr0).c.length ≤ 1048576) := hdone
      clear hdone
      by_cases hlt : k < n
      · rcases hc with h0 | ⟨g, o, rfl, hgx, hins⟩
        · omega
        have hki : (k : Int) < (n : Int) := by omega
        obtain ⟨c0, c1, c2, ⟨u3, c3, i3⟩, ⟨u4, c4, i4⟩, c5⟩ := (hins k hlt).later hB hgx
        have hl3 := i3.len
        have hl4 := i4.len
        obtain ⟨p3, k3, rfl⟩ := i3.shape
        obtain ⟨p4, k4, rfl⟩ := i4.shape
        clear hins i3 i4
        generalize hI : F.getD k fr0 = f at *
        have HII : Hid (F.getD k fr0 = f) := hI
        clear hI
        obtain ⟨n0, n1, n2, n5, R, C⟩ := f
        simp only at c0 c1 c2 c3 c4 c5 hl3 hl4
        generalize hR : R.length = r at c3 hl3
        generalize hC : C.length = c at c4 hl4
        have HR : Hid (R.length = r ∧ C.length = c) := ⟨hR, hC⟩
        have H3 : Hid (r ≤ maxLen ∧ c ≤ maxLen) := ⟨hl3, hl4⟩
        clear hR hC hl3 hl4
        go_wp2_with fail
        refine (szFrame_any _ _ _ _ _ _ _ _ _ _ _ _ hL0 hL1 H3.out.1 H3.out.2).mono ?_
        rintro e w2 ⟨r2, rfl, hr0, hr1, hb2⟩
        have hB2 := hB.trans (hb2.mono hB.size)
        by_cases hneg : r2 < 0
        · go_wp2_with fail
          go_ret
          exact ⟨-1, rfl, fun h => by omega, by omega, hB2⟩
        · go_wp2_with fail
          go_roundw
          case rel =>
            refine ⟨k + 1, r2, by omega, by go_num, rfl, by omega, hr1, fun j hj => ?_, hB2⟩
            by_cases hjk : j = k
            · subst hjk; rw [HII.out]; have := hr0 (by omega); have := HR.out; dsimp only; omega
            · exact HD.out j (by omega)
          case measure => simp [intOf]; omega
      · obtain rfl : k = n := by omega
        have hki : ¬ (k : Int) < (k : Int) := by omega
        go_wp2_with fail
        go_ret
        exact ⟨L, rfl, fun _ => ⟨HB.out, HD.out⟩, hL1, hB⟩

set_option maxHeartbeats 1000000 in
theorem szRun_any (x : World) (s : Value) (F : List Fr) (h : FrsAt x s F) (n1 n2 n3 n4 n5 n6 : Int) (left : Int) (h0 : 0 ≤ left) (h1 : left ≤ 1048576) :
    Calls Try.prog 19 #[.agg #[s, .int .i64 n1, .int .i64 n2, .int .i64 n3, .int .i64 n4, .int .i64 n5, .int .i64 n6], .int .i64 left] x fun e y => ∃ r : Int, e = .returned (.int .i64 r) ∧ (0 ≤ r → F.length ≤ 1048576 ∧ ∀ j, j < F.length → (F.getD j fr0).r.length ≤ 1048576 ∧ (F.getD j fr0).c.length ≤ 1048576) ∧ r ≤ 1048576 ∧ Below x.heap.size x y := by
  obtain ⟨p, cap, rfl, _⟩ := h.shape
  have HF : Hid (FrsAt x (.slice p F.length cap) F) := h
  clear h
  go_enter Try.func19, Try.ntmps19
  go_wp2_with fail
  have hbW : Below x.heap.size x (x.alloc (.cells #[.slice p F.length cap, .int .i64 n1, .int .i64 n2, .int .i64 n3, .int .i64 n4, .int .i64 n5, .int .i64 n6] 50)) := by go_grown
  refine (szFrameS_any _ _ F (HF.out.later hbW) left h0 h1).mono ?_
  rintro e y ⟨r, rfl, hr0, hr1, hb⟩
  have hB := hbW.trans (hb.mono hbW.size)
  have HR : Hid (0 ≤ r → F.length ≤ 1048576 ∧ ∀ j, j < F.length → (F.getD j fr0).r.length ≤ 1048576 ∧ (F.getD j fr0).c.length ≤ 1048576) := hr0
  clear hr0 hb hbW HF
  by_cases hneg : r < 0
  · go_wp2_with fail
    go_ret
    exact ⟨-1, rfl, fun h => by omega, by omega, hB⟩
  · go_wp2_with fail
    go_ret
    exact ⟨r, rfl, HR.out, hr1, hB⟩

end Go.Proofs.Ytbjegekfghihkaa

/-
  Boxes of cells, and cells that are stored one behind the other.
-/
namespace Go.Proofs.Ytbjegekfghihkaa
open Go.RowKit
set_option linter.unusedVariables false
set_option linter.unusedSimpArgs false

/-- a box whose cells are L's, that may be stored into -/
structure BxN (x : World) (m : Nat) (L : List Value) : Prop where
  lt : m < x.heap.size
  c : ∀ j v, L[j]? = some v → x.cell? ⟨m, j, none⟩ = some v
  fz : ∀ k, x.frozen? ⟨m, k, none⟩ = false
theorem BxN.later {x y : World} {m : Nat} {L : List Value} (h : BxN x m L) (hb : Below x.heap.size x y) : BxN y m L :=
  ⟨Nat.lt_of_lt_of_le h.lt hb.size, fun j v e => (hb.cell (p := ⟨m, j, none⟩) h.lt).trans (h.c j v e), fun k => (hb.frozen (p := ⟨m, k, none⟩) h.lt).trans (h.fz k)⟩
theorem BxN.off {x : World} {m : Nat} {L : List Value} (h : BxN x m L) {b o : Nat} {u : Value} (hb : b ≠ m) : BxN (x.setCell ⟨b, o, none⟩ u) m L :=
  ⟨by simpa using h.lt, fun j v e => (sc_other (by intro e; injection e; omega)).trans (h.c j v e), fun k => (World.frozen?_setCell _ _ _ _).trans (h.fz k)⟩
theorem BxN.set {x : World} {m : Nat} {L : List Value} (h : BxN x m L) (i : Nat) (hi : i < L.length) (u : Value) : BxN (x.setCell ⟨m, i, none⟩ u) m (L.set i u) := by
  refine ⟨by simpa using h.lt, fun j v e => ?_, fun k => (World.frozen?_setCell _ _ _ _).trans (h.fz k)⟩
  by_cases hij : i = j
  · subst hij
    rw [List.getElem?_set_self hi] at e
    obtain rfl := Option.some.inj e
    exact sc_same (h.c i _ (List.getElem?_eq_getElem hi))
  · rw [List.getElem?_set_ne hij] at e
    exact (sc_other (by intro e; injection e; omega)).trans (h.c j v e)
theorem BxN.new (x : World) (L : List Value) (t : TypeId) : BxN (x.alloc (.cells L.toArray t)) x.heap.size L :=
  ⟨by simp, fun j v e => by simp [go_sem, e], fun k => by simp [go_sem]⟩

theorem BxN.offH {x y : World} {m : Nat} {L : List Value} {b o : Nat} {u : Value} (h : BxN x m L) (hy : x.setCell ⟨b, o, none⟩ u = y) (hb : b ≠ m) : Hid (BxN y m L) := by subst hy; exact h.off hb
theorem BxN.setH {x y : World} {m : Nat} {L : List Value} {i : Nat} {u : Value} (h : BxN x m L) (hy : x.setCell ⟨m, i, none⟩ u = y) (hi : i < L.length) : Hid (BxN y m (L.set i u)) := by subst hy; exact h.set i hi u
theorem BxN.laterH {x y : World} {m : Nat} {L : List Value} (h : BxN x m L) (hb : Below x.heap.size x y) : Hid (BxN y m L) := h.later hb

/-- cells from o on of a block are stored, one behind the other -/
def setL (x : World) (g o : Nat) : List Value → World
  | [] => x
  | v :: L => setL (x.setCell ⟨g, o, none⟩ v) g (o + 1) L
theorem setL_miss (x : World) (g o : Nat) (L : List Value) (b p : Nat) (h : b ≠ g ∨ p < o ∨ o + L.length ≤ p) : (setL x g o L).cell? ⟨b, p, none⟩ = x.cell? ⟨b, p, none⟩ := by
  induction L generalizing x o with
  | nil => rfl
  | cons v L ih =>
    simp only [List.length_cons] at h
    rw [setL, ih _ _ (by omega), sc_other (by intro e; injection e; omega)]
theorem setL_some (x : World) (g o : Nat) (L : List Value) (a : Addr) (h : ∃ v, x.cell? a = some v) : ∃ v, (setL x g o L).cell? a = some v := by
  induction L generalizing x o with
  | nil => exact h
  | cons v L ih =>
    obtain ⟨u, h⟩ := h
    exact ih _ _ (cell?_setCell_some (p := ⟨g, o, none⟩) (x := v) h)
theorem setL_hit (x : World) (g o : Nat) (L : List Value) (h : ∀ j, j < L.length → ∃ v, x.cell? ⟨g, o + j, none⟩ = some v) (j : Nat) (v : Value) (hv : L[j]? = some v) : (setL x g o L).cell? ⟨g, o + j, none⟩ = some v := by
  induction L generalizing x o j with
  | nil => simp at hv
  | cons w L ih =>
    cases j with
    | zero =>
      obtain rfl : w = v := by simpa using hv
      obtain ⟨u, h0⟩ := h 0 (by simp)
      rw [setL, Nat.add_zero, setL_miss _ _ _ _ _ _ (by omega)]
      exact sc_same h0
    | succ j =>
      rw [setL, show o + (j + 1) = o + 1 + j by omega]
      refine ih _ _ (fun i hi => ?_) j (by simpa using hv)
      obtain ⟨u, h0⟩ := h (i + 1) (by simpa using hi)
      rw [show o + (i + 1) = o + 1 + i by omega] at h0
      exact cell?_setCell_some h0
theorem setL_frozen (x : World) (g o : Nat) (L : List Value) (a : Addr) : (setL x g o L).frozen? a = x.frozen? a := by
  induction L generalizing x o with
  | nil => rfl
  | cons v L ih => rw [setL, ih]; exact World.frozen?_setCell _ _ _ _
theorem setL_size (x : World) (g o : Nat) (L : List Value) : (setL x g o L).heap.size = x.heap.size := by
  induction L generalizing x o with
  | nil => rfl
  | cons v L ih => rw [setL, ih]; simp
theorem setL_below {B : Nat} {w x : World} {g o : Nat} (L : List Value) (h : Below B w x) (hg : B ≤ g) : Below B w (setL x g o L) := by
  induction L generalizing x o with
  | nil => exact h
  | cons v L ih => exact ih (h.setCell (p := ⟨g, o, none⟩) hg _)

end Go.Proofs.Ytbjegekfghihkaa
