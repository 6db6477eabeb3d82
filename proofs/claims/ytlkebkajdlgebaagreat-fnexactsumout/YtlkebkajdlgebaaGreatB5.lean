import Derived.Test.YtlkebkajdlgebaaGreatB4
import Derived.Test.YtlkebkajdlgebaaGreatRows
import Derived.Test.YtlkebkajdlgebaaGreatB2
import Derived.Handy
import Derived.WalkLawsBesides
import Derived.WalkSpells
import Derived.Deep.QuietTactic
import Derived.BigQuiet
import Derived.OwnWalk
import Derived.Deep.RegionHeld3
import Derived.Deep.DeepCutAuto
/-
  Rows of numbers: what a slice of them reads as; copied (toIntS), the same (eqIntS); one that is handed in, opened.
-/
namespace Go.Proofs.YtlkebkajdlgebaaGreat
open Go.ChangeShapes Go.WideShapes Go.ChangeAt Go.RowKit Go.Joins Go.Deep
set_option linter.unusedVariables false
set_option linter.unusedSimpArgs false

/-- the slice value v reads as the numbers L, in a block from B on and ahead of E; nothing of it is frozen, if z -/
def IntsAt (z : Bool) (x : World) (B E : Nat) (v : Value) (L : List Int) : Prop :=
  ∃ p cap, v = .slice p L.length cap ∧ L.length ≤ maxLen ∧ (L.length = 0 ∨ ∃ g o, p = some ⟨g, o, none⟩ ∧ B ≤ g ∧ g < E ∧ E ≤ x.heap.size ∧ (z = true → ∀ k, x.frozen? ⟨g, k, none⟩ = false) ∧ ∀ j, j < L.length → x.cell? ⟨g, o + j, none⟩ = some (.int .i64 (L.getD j 0)))
theorem IntsAt.stay {z : Bool} {x y : World} {B E : Nat} {v : Value} {L : List Int} (h : IntsAt z x B E v L) (hs : x.heap.size ≤ y.heap.size) (hc : ∀ g o, B ≤ g → g < E → y.cell? ⟨g, o, none⟩ = x.cell? ⟨g, o, none⟩ ∧ y.frozen? ⟨g, o, none⟩ = x.frozen? ⟨g, o, none⟩) : IntsAt z y B E v L := by
  obtain ⟨p, cap, hv, hm, hq⟩ := h
  refine ⟨p, cap, hv, hm, hq.imp id ?_⟩
  rintro ⟨g, o, hp, hB, hg, hE, hf, hj⟩
  exact ⟨g, o, hp, hB, hg, by omega, fun hz k => (hc g k hB hg).2.trans (hf hz k), fun j h => (hc _ _ hB hg).1.trans (hj j h)⟩
theorem IntsAt.later {z : Bool} {x y : World} {B E : Nat} {v : Value} {L : List Int} (h : IntsAt z x B E v L) (hb : Below x.heap.size x y) : IntsAt z y B E v L := by
  obtain ⟨p, cap, hv, hm, hq⟩ := h
  refine ⟨p, cap, hv, hm, hq.imp id ?_⟩
  rintro ⟨g, o, hp, hB, hg, hE, hf, hj⟩
  exact ⟨g, o, hp, hB, hg, Nat.le_trans hE hb.size, fun hz k => (hb.frozen (p := ⟨g, k, none⟩) (by show g < _; omega)).trans (hf hz k), fun j h => (hb.cell (p := ⟨g, o + j, none⟩) (by show g < _; omega)).trans (hj j h)⟩
theorem IntsAt.wide {z : Bool} {x : World} {B E C D : Nat} {v : Value} {L : List Int} (h : IntsAt z x B E v L) (hc : C ≤ B) (hd : E ≤ D) (hx : D ≤ x.heap.size) : IntsAt z x C D v L := by
  obtain ⟨p, cap, hv, hm, hq⟩ := h
  refine ⟨p, cap, hv, hm, hq.imp id ?_⟩
  rintro ⟨g, o, hp, hB, hg, hE, hf, hj⟩
  exact ⟨g, o, hp, by omega, by omega, hx, hf, hj⟩
theorem IntsAt.off {z : Bool} {x : World} {B E : Nat} {v : Value} {L : List Int} (h : IntsAt z x B E v L) {b o : Nat} {u : Value} (hb : b < B ∨ E ≤ b) : IntsAt z (x.setCell ⟨b, o, none⟩ u) B E v L :=
  h.stay (by simp) fun g k h1 h2 => ⟨sc_other (by intro e; injection e; omega), World.frozen?_setCell _ _ _ _⟩
theorem IntsAt.nil {z : Bool} {x : World} {B E : Nat} {p : Option Addr} {cap : Nat} : IntsAt z x B E (.slice p 0 cap) [] := ⟨p, cap, rfl, by unfold maxLen; simp, .inl rfl⟩
theorem IntsAt.shape {z : Bool} {x : World} {B E : Nat} {v : Value} {L : List Int} (h : IntsAt z x B E v L) : ∃ p cap, v = .slice p L.length cap := by
  obtain ⟨p, cap, hv, _⟩ := h
  exact ⟨p, cap, hv⟩

theorem infoInt : (Tryz.prog.info? 3).map (fun i => (i.zero, i.size, i.bytes)) = some (some (.int .i64 0), 1, 8) := by kernel_rfl
theorem belowN (x : World) (n : Nat) : Below x.heap.size x (x.drewN n) := by
  induction n with
  | zero => exact Below.refl _ _
  | succ n ih => exact ih.drew
section
variable {H : Type} {enc : TypeId × Value → H} {W : World} {spare : Nat → Bool} {held : Bool}
theorem open_ints_at {v : Value} {d : DataW H} {p : List MemPlace} {s : Option Addr} {n cap : Nat} (hv : v = .slice s n cap) (h : DataW.Trod enc Tryz.prog W 0 spare held 83 v d p) :
    ∃ L, IntsAt false W 0 W.heap.size v L := by
  subst hv
  obtain ⟨fuel, hf⟩ := h
  rcases open_ints Tryz.underlying83 Tryz.underlying3 (by kernel_rfl) hf with ⟨hcs, _⟩ | ⟨x, l, c, zs, hcs, _, hl, hm, hz, _, hcell, hwz⟩
  · simp [Value.cells] at hcs
    obtain ⟨rfl, rfl, rfl⟩ := hcs
    exact ⟨[], IntsAt.nil⟩
  · simp [Value.cells] at hcs
    obtain ⟨rfl, rfl, rfl⟩ := hcs
    have hlz : n ≤ zs.length := by rw [hz]; split <;> omega
    have hlen : (zs.take n).length = n := by rw [List.length_take]; omega
    refine ⟨zs.take n, some x, cap, by rw [hlen], by rw [hlen]; omega, ?_⟩
    rw [hlen]
    by_cases h0 : n = 0
    · exact .inl h0
    · right
      obtain ⟨b, off, rfl, hc⟩ := ints_at hcell (by omega)
      have hlt : b < W.heap.size := cell_lt (hc 0 (by omega))
      refine ⟨b, off, rfl, Nat.zero_le _, hlt, Nat.le_refl _, fun hz => (by cases hz), fun j hj => ?_⟩
      rw [hc j (by omega)]
      simp [List.getD, List.getElem?_take, hj]
end
end Go.Proofs.YtlkebkajdlgebaaGreat

/-
  Runs in memory: what a frame, a slice of frames and a run read as.
-/
namespace Go.Proofs.YtlkebkajdlgebaaGreat
open Go.RowKit
set_option linter.unusedVariables false
set_option linter.unusedSimpArgs false

/-- a frame: its four numbers (procedure, word, place, register), its registers, its cells -/
structure Fr where
  p : Int
  a : Int
  t : Int
  i : Int
  r : List Int
  c : List Int
deriving Inhabited
def fr0 : Fr := ⟨0, 0, 0, 0, [], []⟩
/-- a slice of numbers that stand somewhere -/
def IntsW (x : World) (u : Value) (L : List Int) : Prop := IntsAt false x 0 x.heap.size u L
theorem IntsW.later {x y : World} {u : Value} {L : List Int} (h : IntsW x u L) (hb : Below x.heap.size x y) : IntsW y u L := by
  have h2 := IntsAt.later h hb
  exact IntsAt.wide h2 (Nat.le_refl _) hb.size (Nat.le_refl _)
theorem IntsAt.any {z : Bool} {x : World} {B E : Nat} {u : Value} {L : List Int} (h : IntsAt z x B E u L) : IntsW x u L := by
  obtain ⟨p, cap, hv, hm, hq⟩ := h
  refine ⟨p, cap, hv, hm, hq.imp id ?_⟩
  rintro ⟨g, o, hp, hB, hg, hE, hf, hj⟩
  exact ⟨g, o, hp, Nat.zero_le _, by omega, Nat.le_refl _, fun h => (by cases h), hj⟩
theorem IntsW.shape {x : World} {u : Value} {L : List Int} (h : IntsW x u L) : ∃ p cap, u = .slice p L.length cap := IntsAt.shape h
theorem IntsW.len {x : World} {u : Value} {L : List Int} (h : IntsW x u L) : L.length ≤ maxLen := by obtain ⟨_, _, _, h, _⟩ := h; exact h
/-- the six cells of a frame -/
structure FrC (x : World) (g o : Nat) (f : Fr) : Prop where
  c0 : x.cell? ⟨g, o, none⟩ = some (.int .i64 f.p)
  c1 : x.cell? ⟨g, o + 1, none⟩ = some (.int .i64 f.a)
  c2 : x.cell? ⟨g, o + 2, none⟩ = some (.int .i64 f.t)
  c3 : ∃ u, x.cell? ⟨g, o + 3, none⟩ = some u ∧ IntsW x u f.r
  c4 : ∃ u, x.cell? ⟨g, o + 4, none⟩ = some u ∧ IntsW x u f.c
  c5 : x.cell? ⟨g, o + 5, none⟩ = some (.int .i64 f.i)
theorem FrC.later {x y : World} {g o : Nat} {f : Fr} (h : FrC x g o f) (hb : Below x.heap.size x y) (hg : g < x.heap.size) : FrC y g o f := by
  obtain ⟨c0, c1, c2, ⟨u3, c3, i3⟩, ⟨u4, c4, i4⟩, c5⟩ := h
  exact ⟨(hb.cell (p := ⟨g, _, none⟩) hg).trans c0, (hb.cell (p := ⟨g, _, none⟩) hg).trans c1, (hb.cell (p := ⟨g, _, none⟩) hg).trans c2, ⟨u3, (hb.cell (p := ⟨g, _, none⟩) hg).trans c3, i3.later hb⟩, ⟨u4, (hb.cell (p := ⟨g, _, none⟩) hg).trans c4, i4.later hb⟩, (hb.cell (p := ⟨g, _, none⟩) hg).trans c5⟩
/-- the slice value v reads as the frames F -/
def FrsAt (x : World) (v : Value) (F : List Fr) : Prop :=
  ∃ p cap, v = .slice p F.length cap ∧ F.length ≤ maxLen ∧ (F.length = 0 ∨ ∃ g o, p = some ⟨g, o, none⟩ ∧ g < x.heap.size ∧ ∀ j, j < F.length → FrC x g (o + j * 6) (F.getD j fr0))
theorem FrsAt.later {x y : World} {v : Value} {F : List Fr} (h : FrsAt x v F) (hb : Below x.heap.size x y) : FrsAt y v F := by
  obtain ⟨p, cap, hv, hm, hq⟩ := h
  refine ⟨p, cap, hv, hm, hq.imp id ?_⟩
  rintro ⟨g, o, hp, hg, hj⟩
  exact ⟨g, o, hp, Nat.lt_of_lt_of_le hg hb.size, fun j h => (hj j h).later hb hg⟩
theorem FrsAt.shape {x : World} {v : Value} {F : List Fr} (h : FrsAt x v F) : ∃ p cap, v = .slice p F.length cap ∧ F.length ≤ maxLen := by
  obtain ⟨p, cap, hv, hm, _⟩ := h
  exact ⟨p, cap, hv, hm⟩
theorem FrsAt.nil {x : World} {p : Option Addr} {cap : Nat} : FrsAt x (.slice p 0 cap) [] := ⟨p, cap, rfl, Nat.zero_le _, .inl rfl⟩
theorem FrsAt.frame {x : World} {p : Option Addr} {cap : Nat} {F : List Fr} (h : FrsAt x (.slice p F.length cap) F) {j : Nat} (hj : j < F.length) : ∃ g o, p = some ⟨g, o, none⟩ ∧ g < x.heap.size ∧ FrC x g (o + j * 6) (F.getD j fr0) := by
  obtain ⟨p', cap', hv, _, hq⟩ := h
  injection hv with e1
  subst e1
  rcases hq with h0 | ⟨g, o, hp, hg, hx⟩
  · omega
  · exact ⟨g, o, hp, hg, hx j hj⟩

end Go.Proofs.YtlkebkajdlgebaaGreat

/-
  Programs in memory: what a slice of procedures reads as; the contracts of the laws' own helpers that measure one (szProcS) and copy an instruction.
-/
namespace Go.Proofs.YtlkebkajdlgebaaGreat
open Go.RowKit
set_option linter.unusedVariables false
set_option linter.unusedSimpArgs false


/-- an instruction: its kind and numbers -/
abbrev I4 := Int × Int × Int × Int
def i0 : I4 := (0, 0, 0, 0)
def aggI (i : I4) : Value := .agg #[.int .i64 i.1, .int .i64 i.2.1, .int .i64 i.2.2.1, .int .i64 i.2.2.2]
/-- the four cells of an instruction -/
structure Ins4 (x : World) (g o : Nat) (i : I4) : Prop where
  c0 : x.cell? ⟨g, o, none⟩ = some (.int .i64 i.1)
  c1 : x.cell? ⟨g, o + 1, none⟩ = some (.int .i64 i.2.1)
  c2 : x.cell? ⟨g, o + 2, none⟩ = some (.int .i64 i.2.2.1)
  c3 : x.cell? ⟨g, o + 3, none⟩ = some (.int .i64 i.2.2.2)
/-- the slice value v reads as the code c, in a block from B on -/
def CodeAt (x : World) (B : Nat) (v : Value) (c : List I4) : Prop :=
  ∃ p cap, v = .slice p c.length cap ∧ c.length ≤ maxLen ∧ (c.length = 0 ∨ ∃ g o, p = some ⟨g, o, none⟩ ∧ B ≤ g ∧ g < x.heap.size ∧ ∀ j, j < c.length → Ins4 x g (o + j * 4) (c.getD j i0))
/-- the slice value v reads as the procedures P -/
def ProgAt (x : World) (B : Nat) (v : Value) (P : List (List I4)) : Prop :=
  ∃ p cap, v = .slice p P.length cap ∧ P.length ≤ maxLen ∧ (P.length = 0 ∨ ∃ g o, p = some ⟨g, o, none⟩ ∧ B ≤ g ∧ g < x.heap.size ∧ ∀ j, j < P.length → ∃ u, x.cell? ⟨g, o + j, none⟩ = some u ∧ CodeAt x B u (P.getD j []))

theorem Ins4.later {x y : World} {g o : Nat} {i : I4} (h : Ins4 x g o i) (hb : Below x.heap.size x y) (hg : g < x.heap.size) : Ins4 y g o i :=
  ⟨(hb.cell (p := ⟨g, _, none⟩) hg).trans h.c0, (hb.cell (p := ⟨g, _, none⟩) hg).trans h.c1, (hb.cell (p := ⟨g, _, none⟩) hg).trans h.c2, (hb.cell (p := ⟨g, _, none⟩) hg).trans h.c3⟩
theorem CodeAt.later {x y : World} {B : Nat} {v : Value} {c : List I4} (h : CodeAt x B v c) (hb : Below x.heap.size x y) : CodeAt y B v c := by
  obtain ⟨p, cap, hv, hm, hc⟩ := h
  refine ⟨p, cap, hv, hm, hc.imp id ?_⟩
  rintro ⟨g, o, hp, hB, hg, hj⟩
  exact ⟨g, o, hp, hB, Nat.lt_of_lt_of_le hg hb.size, fun j h => (hj j h).later hb hg⟩
theorem ProgAt.later {x y : World} {B : Nat} {v : Value} {P : List (List I4)} (h : ProgAt x B v P) (hb : Below x.heap.size x y) : ProgAt y B v P := by
  obtain ⟨p, cap, hv, hm, hc⟩ := h
  refine ⟨p, cap, hv, hm, hc.imp id ?_⟩
  rintro ⟨g, o, hp, hB, hg, hj⟩
  refine ⟨g, o, hp, hB, Nat.lt_of_lt_of_le hg hb.size, fun j h => ?_⟩
  obtain ⟨u, hu, hcu⟩ := hj j h
  exact ⟨u, (hb.cell (p := ⟨g, o + j, none⟩) hg).trans hu, hcu.later hb⟩

theorem szInsS_any (p : Option Addr) (n cap : Nat) (left : Int) (w : World) (h0 : 0 ≤ left) (h1 : left ≤ 1048576) (hn : n ≤ maxLen) :
    Calls Tryz.prog 46 #[.slice p n cap, .int .i64 left] w fun e w' => e = .returned (.int .i64 (if left - n < 0 then -1 else left - n)) ∧ w' = w := by
  unfold maxLen at hn
  have hn' : (n : Int) ≤ 9223372036854775807 := by omega
  by_cases hlt : left - (n : Int) < 0
  · go_enter Tryz.func46, Tryz.ntmps46
    go_wp2
    go_ret
    exact ⟨retInt (by first | rfl | omega), rfl⟩
  · go_enter Tryz.func46, Tryz.ntmps46
    go_wp2
    go_ret
    exact ⟨retInt (by first | rfl | omega), rfl⟩

set_option maxHeartbeats 400000 in
theorem szProc_any (p : Option Addr) (n cap : Nat) (left : Int) (w : World) (h0 : 0 ≤ left) (h1 : left ≤ 1048576) (hn : n ≤ maxLen) :
    Calls Tryz.prog 29 #[.agg #[.slice p n cap], .int .i64 left] w fun e w' => e = .returned (.int .i64 (if left - n < 0 then -1 else left - n)) ∧ Below w.heap.size w w' := by
  by_cases hlt : left - (n : Int) < 0
  · rw [if_pos hlt]
    go_enter Tryz.func29, Tryz.ntmps29
    go_wp2_with (go_at_call 46; refine (szInsS_any _ _ _ _ _ h0 h1 hn).mono ?_; rintro e w' ⟨rfl, rfl⟩; rw [if_pos hlt])
    go_ret
    exact ⟨rfl, by go_grown⟩
  · rw [if_neg hlt]
    have hl' : ¬ left - (n : Int) < 0 := hlt
    go_enter Tryz.func29, Tryz.ntmps29
    go_wp2_with (go_at_call 46; refine (szInsS_any _ _ _ _ _ h0 h1 hn).mono ?_; rintro e w' ⟨rfl, rfl⟩; rw [if_neg hlt])
    go_ret
    exact ⟨rfl, by go_grown⟩

set_option maxHeartbeats 400000 in
theorem toIns_any (i : I4) (w : World) :
    Calls Tryz.prog 76 #[aggI i] w fun e w' => e = .returned (aggI i) ∧ Below w.heap.size w w' := by
  unfold aggI
  go_enter Tryz.func76, Tryz.ntmps76
  go_wp2
  go_returns
  exact ⟨rfl, by go_grown⟩

set_option maxHeartbeats 400000 in
theorem eqIns_same (i : I4) (w : World) :
    Calls Tryz.prog 85 #[aggI i, aggI i] w fun e w' => e = .returned (.bool true) ∧ Below w.heap.size w w' := by
  unfold aggI
  go_enter Tryz.func85, Tryz.ntmps85
  go_wp2
  go_ret
  exact ⟨rfl, by go_grown⟩

end Go.Proofs.YtlkebkajdlgebaaGreat
