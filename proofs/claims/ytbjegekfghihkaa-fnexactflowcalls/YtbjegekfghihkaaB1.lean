import Derived.Test.YtbjegekfghihkaaRows
import Derived.Handy
import Derived.WalkLawsBesides
import Derived.WalkSpells
import Derived.Deep.QuietTactic
import Derived.BigQuiet
import Derived.OwnWalk
import Derived.Deep.RegionHeld3
import Derived.Deep.DeepCutAuto
/-
  Plain facts that many texts use.
-/
namespace Go.Proofs.Ytbjegekfghihkaa
open Go.RowKit
set_option linter.unusedVariables false
set_option linter.unusedSimpArgs false

theorem retInt {k : IntKind} {a b : Int} (h : a = b) : Ending.returned (.int k a) = .returned (.int k b) := by rw [h]
theorem sc_other {w : World} {a b : Addr} {v : Value} (h : a ≠ b) : (w.setCell a v).cell? b = w.cell? b := World.cell?_setCell_other w a b v h
theorem sc_same {w : World} {a : Addr} {v u : Value} (h : w.cell? a = some u) : (w.setCell a v).cell? a = some v := World.cell?_setCell_same w a v h

end Go.Proofs.Ytbjegekfghihkaa

/-
  Programs in memory: what a slice of procedures reads as; the contracts of the laws' own helpers that measure one (szProcS) and copy an instruction.
-/
namespace Go.Proofs.Ytbjegekfghihkaa
open Go.RowKit
set_option linter.unusedVariables false
set_option linter.unusedSimpArgs false


/-- an instruction: its kind and numbers -/
abbrev I4 := Int × Int × Int × Int
def i0 : I4 := (0, 0, 0, 0)
def aggI (i : I4) : Value := .agg #[.int .i64 i.1, .int .i64 i.2.1, .int .i64 i.2.2.1, .int .i64 i.2.2.2]
/-- the four cells of an instruction -/
structure Ins4 (x : World) (g o : Nat) (i : I4) : Prop where
  c0 : x.cell? ⟨g, o, none⟩ = some (.int .i64 i.1)
  c1 : x.cell? ⟨g, o + 1, none⟩ = some (.int .i64 i.2.1)
  c2 : x.cell? ⟨g, o + 2, none⟩ = some (.int .i64 i.2.2.1)
  c3 : x.cell? ⟨g, o + 3, none⟩ = some (.int .i64 i.2.2.2)
/-- the slice value v reads as the code c, in a block from B on -/
def CodeAt (x : World) (B : Nat) (v : Value) (c : List I4) : Prop :=
  ∃ p cap, v = .slice p c.length cap ∧ c.length ≤ maxLen ∧ (c.length = 0 ∨ ∃ g o, p = some ⟨g, o, none⟩ ∧ B ≤ g ∧ g < x.heap.size ∧ ∀ j, j < c.length → Ins4 x g (o + j * 4) (c.getD j i0))
/-- the slice value v reads as the procedures P -/
def ProgAt (x : World) (B : Nat) (v : Value) (P : List (List I4)) : Prop :=
  ∃ p cap, v = .slice p P.length cap ∧ P.length ≤ maxLen ∧ (P.length = 0 ∨ ∃ g o, p = some ⟨g, o, none⟩ ∧ B ≤ g ∧ g < x.heap.size ∧ ∀ j, j < P.length → ∃ u, x.cell? ⟨g, o + j, none⟩ = some u ∧ CodeAt x B u (P.getD j []))

theorem Ins4.later {x y : World} {g o : Nat} {i : I4} (h : Ins4 x g o i) (hb : Below x.heap.size x y) (hg : g < x.heap.size) : Ins4 y g o i :=
  ⟨(hb.cell (p := ⟨g, _, none⟩) hg).trans h.c0, (hb.cell (p := ⟨g, _, none⟩) hg).trans h.c1, (hb.cell (p := ⟨g, _, none⟩) hg).trans h.c2, (hb.cell (p := ⟨g, _, none⟩) hg).trans h.c3⟩
theorem CodeAt.later {x y : World} {B : Nat} {v : Value} {c : List I4} (h : CodeAt x B v c) (hb : Below x.heap.size x y) : CodeAt y B v c := by
  obtain ⟨p, cap, hv, hm, hc⟩ := h
  refine ⟨p, cap, hv, hm, hc.imp id ?_⟩
  rintro ⟨g, o, hp, hB, hg, hj⟩
  exact ⟨g, o, hp, hB, Nat.lt_of_lt_of_le hg hb.size, fun j h => (hj j h).later hb hg⟩
theorem ProgAt.later {x y : World} {B : Nat} {v : Value} {P : List (List I4)} (h : ProgAt x B v P) (hb : Below x.heap.size x y) : ProgAt y B v P := by
  obtain ⟨p, cap, hv, hm, hc⟩ := h
  refine ⟨p, cap, hv, hm, hc.imp id ?_⟩
  rintro ⟨g, o, hp, hB, hg, hj⟩
  refine ⟨g, o, hp, hB, Nat.lt_of_lt_of_le hg hb.size, fun j h => ?_⟩
  obtain ⟨u, hu, hcu⟩ := hj j h
  exact ⟨u, (hb.cell (p := ⟨g, o + j, none⟩) hg).trans hu, hcu.later hb⟩

theorem szInsS_any (p : Option Addr) (n cap : Nat) (left : Int) (w : World) (h0 : 0 ≤ left) (h1 : left ≤ 1048576) (hn : n ≤ maxLen) :
    Calls Try.prog 56 #[.slice p n cap, .int .i64 left] w fun e w' => e = .returned (.int .i64 (if left - n < 0 then -1 else left - n)) ∧ w' = w := by
  unfold maxLen at hn
  have hn' : (n : Int) ≤ 9223372036854775807 := by omega
  by_cases hlt : left - (n : Int) < 0
  · go_enter Try.func56, Try.ntmps56
    go_wp2
    go_ret
    exact ⟨retInt (by first | rfl | omega), rfl⟩
  · go_enter Try.func56, Try.ntmps56
    go_wp2
    go_ret
    exact ⟨retInt (by first | rfl | omega), rfl⟩

set_option maxHeartbeats 400000 in
theorem szProc_any (p : Option Addr) (n cap : Nat) (left : Int) (w : World) (h0 : 0 ≤ left) (h1 : left ≤ 1048576) (hn : n ≤ maxLen) :
    Calls Try.prog 26 #[.agg #[.slice p n cap], .int .i64 left] w fun e w' => e = .returned (.int .i64 (if left - n < 0 then -1 else left - n)) ∧ Below w.heap.size w w' := by
  by_cases hlt : left - (n : Int) < 0
  · rw [if_pos hlt]
    go_enter Try.func26, Try.ntmps26
    go_wp2_with (go_at_call 56; refine (szInsS_any _ _ _ _ _ h0 h1 hn).mono ?_; rintro e w' ⟨rfl, rfl⟩; rw [if_pos hlt])
    go_ret
    exact ⟨rfl, by go_grown⟩
  · rw [if_neg hlt]
    have hl' : ¬ left - (n : Int) < 0 := hlt
    go_enter Try.func26, Try.ntmps26
    go_wp2_with (go_at_call 56; refine (szInsS_any _ _ _ _ _ h0 h1 hn).mono ?_; rintro e w' ⟨rfl, rfl⟩; rw [if_neg hlt])
    go_ret
    exact ⟨rfl, by go_grown⟩

set_option maxHeartbeats 400000 in
theorem toIns_any (i : I4) (w : World) :
    Calls Try.prog 86 #[aggI i] w fun e w' => e = .returned (aggI i) ∧ Below w.heap.size w w' := by
  unfold aggI
  go_enter Try.func86, Try.ntmps86
  go_wp2
  go_returns
  exact ⟨rfl, by go_grown⟩

set_option maxHeartbeats 400000 in
theorem eqIns_same (i : I4) (w : World) :
    Calls Try.prog 90 #[aggI i, aggI i] w fun e w' => e = .returned (.bool true) ∧ Below w.heap.size w w' := by
  unfold aggI
  go_enter Try.func90, Try.ntmps90
  go_wp2
  go_ret
  exact ⟨rfl, by go_grown⟩

end Go.Proofs.Ytbjegekfghihkaa
