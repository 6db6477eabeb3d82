/-
  Runs in memory: what a frame, a slice of frames and a run read as.
-/
import Derived.Test.YtifpijindmdboaaRSite
import Derived.Test.YtifpijindmdboaaSInt
namespace Go.Proofs.Ytifpijindmdboaa
open Go.RowKit
set_option linter.unusedVariables false
set_option linter.unusedSimpArgs false

/-- a frame: its four numbers (procedure, word, place, register), its registers, its cells -/
structure Fr where
  p : Int
  a : Int
  t : Int
  i : Int
  r : List Int
  c : List Int
deriving Inhabited
def fr0 : Fr := ⟨0, 0, 0, 0, [], []⟩
/-- a slice of numbers that stand somewhere -/
def IntsW (x : World) (u : Value) (L : List Int) : Prop := IntsAt false x 0 x.heap.size u L
theorem IntsW.later {x y : World} {u : Value} {L : List Int} (h : IntsW x u L) (hb : Below x.heap.size x y) : IntsW y u L := by
  have h2 := IntsAt.later h hb
  exact IntsAt.wide h2 (Nat.le_refl _) hb.size (Nat.le_refl _)
theorem IntsAt.any {z : Bool} {x : World} {B E : Nat} {u : Value} {L : List Int} (h : IntsAt z x B E u L) : IntsW x u L := by
  obtain ⟨p, cap, hv, hm, hq⟩ := h
  refine ⟨p, cap, hv, hm, hq.imp id ?_⟩
  rintro ⟨g, o, hp, hB, hg, hE, hf, hj⟩
  exact ⟨g, o, hp, Nat.zero_le _, by omega, Nat.le_refl _, fun h => (by cases h), hj⟩
theorem IntsW.shape {x : World} {u : Value} {L : List Int} (h : IntsW x u L) : ∃ p cap, u = .slice p L.length cap := IntsAt.shape h
theorem IntsW.len {x : World} {u : Value} {L : List Int} (h : IntsW x u L) : L.length ≤ maxLen := by obtain ⟨_, _, _, h, _⟩ := h; exact h
/-- the six cells of a frame -/
structure FrC (x : World) (g o : Nat) (f : Fr) : Prop where
  c0 : x.cell? ⟨g, o, none⟩ = some (.int .i64 f.p)
  c1 : x.cell? ⟨g, o + 1, none⟩ = some (.int .i64 f.a)
  c2 : x.cell? ⟨g, o + 2, none⟩ = some (.int .i64 f.t)
  c3 : ∃ u, x.cell? ⟨g, o + 3, none⟩ = some u ∧ IntsW x u f.r
  c4 : ∃ u, x.cell? ⟨g, o + 4, none⟩ = some u ∧ IntsW x u f.c
  c5 : x.cell? ⟨g, o + 5, none⟩ = some (.int .i64 f.i)
theorem FrC.later {x y : World} {g o : Nat} {f : Fr} (h : FrC x g o f) (hb : Below x.heap.size x y) (hg : g < x.heap.size) : FrC y g o f := by
  obtain ⟨c0, c1, c2, ⟨u3, c3, i3⟩, ⟨u4, c4, i4⟩, c5⟩ := h
  exact ⟨(hb.cell (p := ⟨g, _, none⟩) hg).trans c0, (hb.cell (p := ⟨g, _, none⟩) hg).trans c1, (hb.cell (p := ⟨g, _, none⟩) hg).trans c2, ⟨u3, (hb.cell (p := ⟨g, _, none⟩) hg).trans c3, i3.later hb⟩, ⟨u4, (hb.cell (p := ⟨g, _, none⟩) hg).trans c4, i4.later hb⟩, (hb.cell (p := ⟨g, _, none⟩) hg).trans c5⟩
/-- the slice value v reads as the frames F -/
def FrsAt (x : World) (v : Value) (F : List Fr) : Prop :=
  ∃ p cap, v = .slice p F.length cap ∧ F.length ≤ maxLen ∧ (F.length = 0 ∨ ∃ g o, p = some ⟨g, o, none⟩ ∧ g < x.heap.size ∧ ∀ j, j < F.length → FrC x g (o + j * 6) (F.getD j fr0))
theorem FrsAt.later {x y : World} {v : Value} {F : List Fr} (h : FrsAt x v F) (hb : Below x.heap.size x y) : FrsAt y v F := by
  obtain ⟨p, cap, hv, hm, hq⟩ := h
  refine ⟨p, cap, hv, hm, hq.imp id ?_⟩
  rintro ⟨g, o, hp, hg, hj⟩
  exact ⟨g, o, hp, Nat.lt_of_lt_of_le hg hb.size, fun j h => (hj j h).later hb hg⟩
theorem FrsAt.shape {x : World} {v : Value} {F : List Fr} (h : FrsAt x v F) : ∃ p cap, v = .slice p F.length cap ∧ F.length ≤ maxLen := by
  obtain ⟨p, cap, hv, hm, _⟩ := h
  exact ⟨p, cap, hv, hm⟩
theorem FrsAt.nil {x : World} {p : Option Addr} {cap : Nat} : FrsAt x (.slice p 0 cap) [] := ⟨p, cap, rfl, Nat.zero_le _, .inl rfl⟩
theorem FrsAt.frame {x : World} {p : Option Addr} {cap : Nat} {F : List Fr} (h : FrsAt x (.slice p F.length cap) F) {j : Nat} (hj : j < F.length) : ∃ g o, p = some ⟨g, o, none⟩ ∧ g < x.heap.size ∧ FrC x g (o + j * 6) (F.getD j fr0) := by
  obtain ⟨p', cap', hv, _, hq⟩ := h
  injection hv with e1
  subst e1
  rcases hq with h0 | ⟨g, o, hp, hg, hx⟩
  · omega
  · exact ⟨g, o, hp, hg, hx j hj⟩

end Go.Proofs.Ytifpijindmdboaa
