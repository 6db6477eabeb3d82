import Derived.Test.YtbjegekfghihkaaRows
import Derived.Test.YtbjegekfghihkaaB3
import Derived.Handy
import Derived.WalkLawsBesides
import Derived.WalkSpells
import Derived.Deep.QuietTactic
import Derived.BigQuiet
import Derived.OwnWalk
import Derived.Deep.RegionHeld3
import Derived.Deep.DeepCutAuto
/-
  Programs in memory: what a slice of procedures reads as; the contracts of the laws' own helpers that measure one (szProcS) and copy an instruction.
-/
namespace Go.Proofs.Ytbjegekfghihkaa
open Go.RowKit
set_option linter.unusedVariables false
set_option linter.unusedSimpArgs false


/-- an instruction: its kind and numbers -/
abbrev I4 := Int × Int × Int × Int
def i0 : I4 := (0, 0, 0, 0)
def aggI (i : I4) : Value := .agg #[.int .i64 i.1, .int .i64 i.2.1, .int .i64 i.2.2.1, .int .i64 i.2.2.2]
/-- the four cells of an instruction -/
structure Ins4 (x : World) (g o : Nat) (i : I4) : Prop where
  c0 : x.cell? ⟨g, o, none⟩ = some (.int .i64 i.1)
  c1 : x.cell? ⟨g, o + 1, none⟩ = some (.int .i64 i.2.1)
  c2 : x.cell? ⟨g, o + 2, none⟩ = some (.int .i64 i.2.2.1)
  c3 : x.cell? ⟨g, o + 3, none⟩ = some (.int .i64 i.2.2.2)
/-- the slice value v reads as the code c, in a block from B on -/
def CodeAt (x : World) (B : Nat) (v : Value) (c : List I4) : Prop :=
  ∃ p cap, v = .slice p c.length cap ∧ c.length ≤ maxLen ∧ (c.length = 0 ∨ ∃ g o, p = some ⟨g, o, none⟩ ∧ B ≤ g ∧ g < x.heap.size ∧ ∀ j, j < c.length → Ins4 x g (o + j * 4) (c.getD j i0))
/-- the slice value v reads as the procedures P -/
def ProgAt (x : World) (B : Nat) (v : Value) (P : List (List I4)) : Prop :=
  ∃ p cap, v = .slice p P.length cap ∧ P.length ≤ maxLen ∧ (P.length = 0 ∨ ∃ g o, p = some ⟨g, o, none⟩ ∧ B ≤ g ∧ g < x.heap.size ∧ ∀ j, j < P.length → ∃ u, x.cell? ⟨g, o + j, none⟩ = some u ∧ CodeAt x B u (P.getD j []))

theorem Ins4.later {x y : World} {g o : Nat} {i : I4} (h : Ins4 x g o i) (hb : Below x.heap.size x y) (hg : g < x.heap.size) : Ins4 y g o i :=
  ⟨(hb.cell (p := ⟨g, _, none⟩) hg).trans h.c0, (hb.cell (p := ⟨g, _, none⟩) hg).trans h.c1, (hb.cell (p := ⟨g, _, none⟩) hg).trans h.c2, (hb.cell (p := ⟨g, _, none⟩) hg).trans h.c3⟩
theorem CodeAt.later {x y : World} {B : Nat} {v : Value} {c : List I4} (h : CodeAt x B v c) (hb : Below x.heap.size x y) : CodeAt y B v c := by
  obtain ⟨p, cap, hv, hm, hc⟩ := h
  refine ⟨p, cap, hv, hm, hc.imp id ?_⟩
  rintro ⟨g, o, hp, hB, hg, hj⟩
  exact ⟨g, o, hp, hB, Nat.lt_of_lt_of_le hg hb.size, fun j h => (hj j h).later hb hg⟩
theorem ProgAt.later {x y : World} {B : Nat} {v : Value} {P : List (List I4)} (h : ProgAt x B v P) (hb : Below x.heap.size x y) : ProgAt y B v P := by
  obtain ⟨p, cap, hv, hm, hc⟩ := h
  refine ⟨p, cap, hv, hm, hc.imp id ?_⟩
  rintro ⟨g, o, hp, hB, hg, hj⟩
  refine ⟨g, o, hp, hB, Nat.lt_of_lt_of_le hg hb.size, fun j h => ?_⟩
  obtain ⟨u, hu, hcu⟩ := hj j h
  exact ⟨u, (hb.cell (p := ⟨g, o + j, none⟩) hg).trans hu, hcu.later hb⟩

theorem szInsS_any (p : Option Addr) (n cap : Nat) (left : Int) (w : World) (h0 : 0 ≤ left) (h1 : left ≤ 1048576) (hn : n ≤ maxLen) :
    Calls Try.prog 56 #[.slice p n cap, .int .i64 left] w fun e w' => e = .returned (.int .i64 (if left - n < 0 then -1 else left - n)) ∧ w' = w := by
  unfold maxLen at hn
  have hn' : (n : Int) ≤ 9223372036854775807 := by omega
  by_cases hlt : left - (n : Int) < 0
  · go_enter Try.func56, Try.ntmps56
    go_wp2
    go_ret
    exact ⟨retInt (by first | rfl | omega), rfl⟩
  · go_enter Try.func56, Try.ntmps56
    go_wp2
    go_ret
    exact ⟨retInt (by first | rfl | omega), rfl⟩

set_option maxHeartbeats 400000 in
theorem szProc_any (p : Option Addr) (n cap : Nat) (left : Int) (w : World) (h0 : 0 ≤ left) (h1 : left ≤ 1048576) (hn : n ≤ maxLen) :
    Calls Try.prog 26 #[.agg #[.slice p n cap], .int .i64 left] w fun e w' => e = .returned (.int .i64 (if left - n < 0 then -1 else left - n)) ∧ Below w.heap.size w w' := by
  by_cases hlt : left - (n : Int) < 0
  · rw [if_pos hlt]
    go_enter Try.func26, Try.ntmps26
    go_wp2_with (go_at_call 56; refine (szInsS_any _ _ _ _ _ h0 h1 hn).mono ?_; rintro e w' ⟨rfl, rfl⟩; rw [if_pos hlt])
    go_ret
    exact ⟨rfl, by go_grown⟩
  · rw [if_neg hlt]
    have hl' : ¬ left - (n : Int) < 0 := hlt
    go_enter Try.func26, Try.ntmps26
    go_wp2_with (go_at_call 56; refine (szInsS_any _ _ _ _ _ h0 h1 hn).mono ?_; rintro e w' ⟨rfl, rfl⟩; rw [if_neg hlt])
    go_ret
    exact ⟨rfl, by go_grown⟩

set_option maxHeartbeats 400000 in
theorem toIns_any (i : I4) (w : World) :
    Calls Try.prog 86 #[aggI i] w fun e w' => e = .returned (aggI i) ∧ Below w.heap.size w w' := by
  unfold aggI
  go_enter Try.func86, Try.ntmps86
  go_wp2
  go_returns
  exact ⟨rfl, by go_grown⟩

set_option maxHeartbeats 400000 in
theorem eqIns_same (i : I4) (w : World) :
    Calls Try.prog 90 #[aggI i, aggI i] w fun e w' => e = .returned (.bool true) ∧ Below w.heap.size w w' := by
  unfold aggI
  go_enter Try.func90, Try.ntmps90
  go_wp2
  go_ret
  exact ⟨rfl, by go_grown⟩

end Go.Proofs.Ytbjegekfghihkaa

/-
  The contracts of the laws' own helpers that copy instructions and procedures (toInsS, toProc, toProcS).
-/
namespace Go.Proofs.Ytbjegekfghihkaa
open Go.RowKit
set_option linter.unusedVariables false
set_option linter.unusedSimpArgs false

def set4 (x : World) (g o : Nat) (v0 v1 v2 v3 : Value) : World := (((x.setCell ⟨g, o, none⟩ v0).setCell ⟨g, o + 1, none⟩ v1).setCell ⟨g, o + 2, none⟩ v2).setCell ⟨g, o + 3, none⟩ v3
theorem set4_miss (x : World) (g o : Nat) (v0 v1 v2 v3 : Value) (b p : Nat) (h : b ≠ g ∨ p < o ∨ o + 4 ≤ p) : (set4 x g o v0 v1 v2 v3).cell? ⟨b, p, none⟩ = x.cell? ⟨b, p, none⟩ := by
  unfold set4
  rw [sc_other (by intro e; injection e; omega), sc_other (by intro e; injection e; omega), sc_other (by intro e; injection e; omega), sc_other (by intro e; injection e; omega)]
theorem set4_some (x : World) (g o : Nat) (v0 v1 v2 v3 : Value) (a : Addr) (h : ∃ v, x.cell? a = some v) : ∃ v, (set4 x g o v0 v1 v2 v3).cell? a = some v := by
  obtain ⟨v, h⟩ := h
  obtain ⟨v, h⟩ := cell?_setCell_some (p := ⟨g, o, none⟩) (x := v0) h
  obtain ⟨v, h⟩ := cell?_setCell_some (p := ⟨g, o + 1, none⟩) (x := v1) h
  obtain ⟨v, h⟩ := cell?_setCell_some (p := ⟨g, o + 2, none⟩) (x := v2) h
  exact cell?_setCell_some (p := ⟨g, o + 3, none⟩) (x := v3) h
theorem set4_hit (x : World) (g o : Nat) (i : I4) (h0 : ∃ v, x.cell? ⟨g, o, none⟩ = some v) (h1 : ∃ v, x.cell? ⟨g, o + 1, none⟩ = some v) (h2 : ∃ v, x.cell? ⟨g, o + 2, none⟩ = some v) (h3 : ∃ v, x.cell? ⟨g, o + 3, none⟩ = some v) :
    Ins4 (set4 x g o (.int .i64 i.1) (.int .i64 i.2.1) (.int .i64 i.2.2.1) (.int .i64 i.2.2.2)) g o i := by
  obtain ⟨u0, h0⟩ := h0
  obtain ⟨u1, h1⟩ := h1
  obtain ⟨u2, h2⟩ := h2
  obtain ⟨u3, h3⟩ := h3
  unfold set4
  refine ⟨?_, ?_, ?_, ?_⟩
  · rw [sc_other (by intro e; injection e; omega), sc_other (by intro e; injection e; omega), sc_other (by intro e; injection e; omega), sc_same h0]
  · rw [sc_other (by intro e; injection e; omega), sc_other (by intro e; injection e; omega), sc_same ((sc_other (by intro e; injection e; omega)).trans h1)]
  · rw [sc_other (by intro e; injection e; omega), sc_same ((sc_other (by intro e; injection e; omega)).trans ((sc_other (by intro e; injection e; omega)).trans h2))]
  · rw [sc_same ((sc_other (by intro e; injection e; omega)).trans ((sc_other (by intro e; injection e; omega)).trans ((sc_other (by intro e; injection e; omega)).trans h3)))]
theorem set4_frozen (x : World) (g o : Nat) (v0 v1 v2 v3 : Value) (a : Addr) : (set4 x g o v0 v1 v2 v3).frozen? a = x.frozen? a := by unfold set4; simp
theorem set4_below {B : Nat} {w x : World} {g o : Nat} {v0 v1 v2 v3 : Value} (h : Below B w x) (hg : B ≤ g) : Below B w (set4 x g o v0 v1 v2 v3) :=
  (((h.setCell (p := ⟨g, o, none⟩) hg _).setCell (p := ⟨g, o + 1, none⟩) hg _).setCell (p := ⟨g, o + 2, none⟩) hg _).setCell (p := ⟨g, o + 3, none⟩) hg _
theorem set4_size (x : World) (g o : Nat) (v0 v1 v2 v3 : Value) : (set4 x g o v0 v1 v2 v3).heap.size = x.heap.size := by unfold set4; simp

/-- a code in memory of its own, between the blocks B and E -/
def CFree (x : World) (B E : Nat) (u : Value) : Prop := ∃ g o n cap, u = .slice (some ⟨g, o, none⟩) n cap ∧ B ≤ g ∧ g < E ∧ E ≤ x.heap.size ∧ (∀ k, x.frozen? ⟨g, k, none⟩ = false) ∧ ∀ j, j < n * 4 → ∃ v, x.cell? ⟨g, o + j, none⟩ = some v
theorem CFree.later {x y : World} {B E : Nat} {u : Value} (h : CFree x B E u) (hb : Below x.heap.size x y) : CFree y B E u := by
  obtain ⟨g, o, n, cap, e, h1, h2, h3, hf, hc⟩ := h
  have hg : g < x.heap.size := by omega
  exact ⟨g, o, n, cap, e, h1, h2, Nat.le_trans h3 hb.size, fun k => (hb.frozen (p := ⟨g, k, none⟩) hg).trans (hf k), fun j hj => by obtain ⟨v, hv⟩ := hc j hj; exact ⟨v, (hb.cell (p := ⟨g, _, none⟩) hg).trans hv⟩⟩
theorem CFree.wide {x : World} {B E C D : Nat} {u : Value} (h : CFree x B E u) (hc : C ≤ B) (hd : E ≤ D) (hx : D ≤ x.heap.size) : CFree x C D u := by
  obtain ⟨g, o, n, cap, e, h1, h2, h3, hf, hcc⟩ := h
  exact ⟨g, o, n, cap, e, by omega, by omega, hx, hf, hcc⟩
theorem CFree.off {x : World} {B E : Nat} {u : Value} (h : CFree x B E u) {b o : Nat} {v : Value} (hb : b < B) : CFree (x.setCell ⟨b, o, none⟩ v) B E u := by
  obtain ⟨g, q, n, cap, e, h1, h2, h3, hf, hc⟩ := h
  exact ⟨g, q, n, cap, e, h1, h2, by simpa using h3, fun k => (World.frozen?_setCell _ _ _ _).trans (hf k), fun j hj => by obtain ⟨w, hw⟩ := hc j hj; exact ⟨w, (sc_other (by intro e; injection e; omega)).trans hw⟩⟩

theorem infoIns : (Try.prog.info? 86).map (fun i => (i.zero, i.size, i.bytes)) = some (some (aggI i0), 4, 32) := by kernel_rfl
set_option maxHeartbeats 1000000 in
theorem toInsS_free (x : World) (B : Nat) (v : Value) (c : List I4) (h : CodeAt x B v c) (hn : c.length ≤ 1048576) :
    Calls Try.prog 60 #[v] x fun e y => ∃ u, e = .returned u ∧ CodeAt y x.heap.size u c ∧ CFree y x.heap.size y.heap.size u ∧ Below x.heap.size x y := by
  obtain ⟨i, hi, hz0, hz1, hz2⟩ : ∃ i, Try.prog.info? 86 = some i ∧ i.zero = some (aggI i0) ∧ i.size = 4 ∧ i.bytes = 32 := info_parts infoIns
  have HI : Hid (Try.prog.info? 86 = some i ∧ i.zero = some (aggI i0) ∧ i.size = 4 ∧ i.bytes = 32) := ⟨hi, hz0, hz1, hz2⟩
  clear hi hz0 hz1 hz2
  obtain ⟨p, cap, rfl, hm, hc⟩ := h
  generalize hL : c.length = n at *
  have HL : Hid (c.length = n) := hL
  have HN : Hid (n ≤ 1048576) := hn
  have hni : (n : Int) ≤ 1048576 := by omega
  have HM : Hid (n ≤ maxLen) := hm
  clear hL hn hm
  go_enter Try.func60, Try.ntmps60
  go_wp2_with (refine wpList_make_full _ rfl _ _ 66 rfl x.heap.size 86 i (aggI i0) 4 Try.underlying66 HI.out.1 HI.out.2.1 HI.out.2.2.1 .i64 .i64 n n n rfl rfl rfl rfl ?b2 HM.out (Nat.le_refl _) ?_)
  case b2 => rw [HI.out.2.2.2]; have := HN.out; omega
  intro w1 hown0 hgr
  obtain ⟨xs, hown⟩ : ∃ xs, w1.ownsRow x.heap.size 86 4 (.slice (some ⟨x.heap.size, 0, none⟩) n n) n xs := ⟨_, hown0⟩
  clear hown0
  have hg1 : x.heap.size < w1.heap.size := (World.ownsRow.lt hown x.heap.size rfl).2
  have hB1 : Below x.heap.size x w1 := (Below.refl _ _).grown hgr (Nat.le_refl _) (fun k hk => by simp at hk)
  have hcell : ∀ k, k < n * 4 → (∃ v, w1.cell? ⟨x.heap.size, k, none⟩ = some v) ∧ w1.frozen? ⟨x.heap.size, k, none⟩ = false := by
    intro k hk
    refine ⟨?_, World.ownsRow.frozenAt hown k⟩
    have hl : k < xs.length := by rw [hown.1]; exact hk
    have := World.ownsRow.cells hown rfl k _ (List.getElem?_eq_getElem hl)
    rw [Addr.add_mid, Nat.zero_add] at this
    exact ⟨_, this⟩
  have hfz : ∀ j, w1.frozen? ⟨x.heap.size, j, none⟩ = false := fun j => World.ownsRow.frozenAt hown j
  clear hown hgr
  go_wp2_with fail
  go_loopw [4] (fun t y => ∃ k : Nat, k ≤ n ∧ t = .int .i64 k ∧ Below x.heap.size x y ∧ x.heap.size < y.heap.size ∧ (∀ j, j < n * 4 → (∃ v, y.cell? ⟨x.heap.size, j, none⟩ = some v) ∧ y.frozen? ⟨x.heap.size, j, none⟩ = false) ∧ (∀ j, j < k → Ins4 y x.heap.size (j * 4) (c.getD j i0)) ∧ Hid (∀ j, y.frozen? ⟨x.heap.size, j, none⟩ = false)) (fun t _ => n - (intOf t).toNat)
  case atStart => exact ⟨0, by omega, rfl, hB1, hg1, hcell, fun j hj => by omega, hfz⟩
  case round =>
    clear hB1 hg1 hcell hfz
    obtain ⟨k, hk, rfl, hB, hg, hcell, hdone, HZ⟩ := hrel
    by_cases hlt : k < n
    · rcases hc with h0 | ⟨g, o, rfl, hBg, hgx, hins⟩
      · omega
      have hki : (k : Int) < (n : Int) := by omega
      obtain ⟨q0, q1, q2, q3⟩ := (hins k hlt)
      have d0 := (hB.cell (p := ⟨g, o + k * 4, none⟩) hgx).trans q0
      have d1 := (hB.cell (p := ⟨g, o + k * 4 + 1, none⟩) hgx).trans q1
      have d2 := (hB.cell (p := ⟨g, o + k * 4 + 2, none⟩) hgx).trans q2
      have d3 := (hB.cell (p := ⟨g, o + k * 4 + 3, none⟩) hgx).trans q3
      clear q0 q1 q2 q3
      have HC : Hid (∀ j, j < n * 4 → (∃ v, wr.cell? ⟨x.heap.size, j, none⟩ = some v) ∧ wr.frozen? ⟨x.heap.size, j, none⟩ = false) := hcell
      have HD : Hid (∀ j, j < k → Ins4 wr x.heap.size (j * 4) (c.getD j i0)) := hdone
      have HX : Hid (∀ j, j < n → Ins4 x g (o + j * 4) (c.getD j i0)) := hins
      clear hcell hdone hins
      go_wp2_with fail
      generalize hI : c[k]?.getD i0 = I
      have HII : Hid (c.getD k i0 = I) := by rw [List.getD]; exact hI
      clear hI
      refine (toIns_any I _).mono ?_
      rintro e w2 ⟨rfl, hb2⟩
      unfold aggI
      obtain ⟨⟨u0, e0⟩, f0⟩ := HC.out (k * 4) (by omega)
      obtain ⟨⟨u1, e1⟩, f1⟩ := HC.out (k * 4 + 1) (by omega)
      obtain ⟨⟨u2, e2⟩, f2⟩ := HC.out (k * 4 + 2) (by omega)
      obtain ⟨⟨u3, e3⟩, f3⟩ := HC.out (k * 4 + 3) (by omega)
      replace e0 := (hb2.cell (p := ⟨x.heap.size, k * 4, none⟩) hg).trans e0
      replace e1 := (hb2.cell (p := ⟨x.heap.size, k * 4 + 1, none⟩) hg).trans e1
      replace e2 := (hb2.cell (p := ⟨x.heap.size, k * 4 + 2, none⟩) hg).trans e2
      replace e3 := (hb2.cell (p := ⟨x.heap.size, k * 4 + 3, none⟩) hg).trans e3
      replace f0 := (hb2.frozen (p := ⟨x.heap.size, k * 4, none⟩) hg).trans f0
      replace f1 := (hb2.frozen (p := ⟨x.heap.size, k * 4 + 1, none⟩) hg).trans f1
      replace f2 := (hb2.frozen (p := ⟨x.heap.size, k * 4 + 2, none⟩) hg).trans f2
      replace f3 := (hb2.frozen (p := ⟨x.heap.size, k * 4 + 3, none⟩) hg).trans f3
      clear d0 d1 d2 d3
      go_wp2_with fail
      go_roundw
      case rel =>
        refine ⟨k + 1, by omega, by go_num, ?_⟩
        change Below x.heap.size x (set4 w2 x.heap.size (k * 4) _ _ _ _) ∧ x.heap.size < (set4 w2 x.heap.size (k * 4) _ _ _ _).heap.size ∧ (∀ j, j < n * 4 → (∃ v, (set4 w2 x.heap.size (k * 4) _ _ _ _).cell? ⟨x.heap.size, j, none⟩ = some v) ∧ (set4 w2 x.heap.size (k * 4) _ _ _ _).frozen? ⟨x.heap.size, j, none⟩ = false) ∧ (∀ j, j < k + 1 → Ins4 (set4 w2 x.heap.size (k * 4) _ _ _ _) x.heap.size (j * 4) (c.getD j i0)) ∧ Hid (∀ j, (set4 w2 x.heap.size (k * 4) _ _ _ _).frozen? ⟨x.heap.size, j, none⟩ = false)
        refine ⟨set4_below (hB.trans (hb2.mono hB.size)) (Nat.le_refl _), by rw [set4_size]; exact Nat.lt_of_lt_of_le hg hb2.size, fun j hj => ⟨set4_some _ _ _ _ _ _ _ _ ?_, ?_⟩, fun j hj => ?_, fun j => (set4_frozen _ _ _ _ _ _ _ _).trans ((hb2.frozen (p := ⟨x.heap.size, j, none⟩) hg).trans (HZ.out j))⟩
        · obtain ⟨v, hv⟩ := (HC.out j hj).1
          exact ⟨v, (hb2.cell (p := ⟨x.heap.size, j, none⟩) hg).trans hv⟩
        · rw [set4_frozen]; exact (hb2.frozen (p := ⟨x.heap.size, j, none⟩) hg).trans (HC.out j hj).2
        · by_cases hjk : j = k
          · subst hjk
            rw [HII.out]
            exact set4_hit w2 x.heap.size (j * 4) I ⟨_, e0⟩ ⟨_, e1⟩ ⟨_, e2⟩ ⟨_, e3⟩
          · obtain ⟨r0, r1, r2, r3⟩ := (HD.out j (by omega)).later hb2 hg
            exact ⟨(set4_miss _ _ _ _ _ _ _ _ _ (by omega)).trans r0, (set4_miss _ _ _ _ _ _ _ _ _ (by omega)).trans r1, (set4_miss _ _ _ _ _ _ _ _ _ (by omega)).trans r2, (set4_miss _ _ _ _ _ _ _ _ _ (by omega)).trans r3⟩
      case measure => simp [intOf]; omega
    · obtain rfl : k = n := by omega
      have hki : ¬ (k : Int) < (k : Int) := by omega
      have HD : Hid (∀ j, j < k → Ins4 wr x.heap.size (j * 4) (c.getD j i0)) := hdone
      have HC : Hid (∀ j, j < k * 4 → (∃ v, wr.cell? ⟨x.heap.size, j, none⟩ = some v) ∧ wr.frozen? ⟨x.heap.size, j, none⟩ = false) := hcell
      clear hcell hdone hc
      go_wp2_with fail
      go_ret
      exact ⟨_, rfl, ⟨some ⟨x.heap.size, 0, none⟩, k, by rw [HL.out]; rfl, by rw [HL.out]; exact HM.out, .inr ⟨x.heap.size, 0, rfl, Nat.le_refl _, hg, fun j hj => by rw [Nat.zero_add]; rw [HL.out] at hj; exact HD.out j hj⟩⟩, ⟨x.heap.size, 0, k, k, rfl, Nat.le_refl _, hg, Nat.le_refl _, HZ.out, fun j hj => by rw [Nat.zero_add]; exact (HC.out j hj).1⟩, hB⟩
theorem toInsS_any (x : World) (B : Nat) (v : Value) (c : List I4) (h : CodeAt x B v c) (hn : c.length ≤ 1048576) :
    Calls Try.prog 60 #[v] x fun e y => ∃ u, e = .returned u ∧ CodeAt y x.heap.size u c ∧ Below x.heap.size x y :=
  (toInsS_free x B v c h hn).mono fun e y ⟨u, h1, h2, _, h4⟩ => ⟨u, h1, h2, h4⟩

end Go.Proofs.Ytbjegekfghihkaa
