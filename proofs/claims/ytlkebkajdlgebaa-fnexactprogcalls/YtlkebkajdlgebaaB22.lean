import Derived.Test.YtlkebkajdlgebaaB21
import Derived.Test.YtlkebkajdlgebaaB15
import Derived.Deep.Slices
import Derived.Deep.Strs
import Derived.Lib.SmallJoins
import Derived.WideShapes
/-
  The laws' own helpers on rows of sites: measured, copied, the same, marked, held.
-/
namespace Go.Proofs.Ytlkebkajdlgebaa
open Go.RowKit
set_option linter.unusedVariables false
set_option linter.unusedSimpArgs false

theorem keepC3 {w y : World} {g o g' o' k : Nat} {n0 n1 n2 : Int} (h : (fun z => z.cell? ⟨g, o + k * 3, none⟩ = some (.int .i64 n0) ∧ z.cell? ⟨g, o + k * 3 + 1, none⟩ = some (.int .i64 n1) ∧ z.cell? ⟨g, o + k * 3 + 2, none⟩ = some (.int .i64 n2) ∧ z.cell? ⟨g', o' + k * 3, none⟩ = some (.int .i64 n0) ∧ z.cell? ⟨g', o' + k * 3 + 1, none⟩ = some (.int .i64 n1) ∧ z.cell? ⟨g', o' + k * 3 + 2, none⟩ = some (.int .i64 n2)) w) (hb : Below w.heap.size w y) (hg : g < w.heap.size) (hg' : g' < w.heap.size) : (fun z => z.cell? ⟨g, o + k * 3, none⟩ = some (.int .i64 n0) ∧ z.cell? ⟨g, o + k * 3 + 1, none⟩ = some (.int .i64 n1) ∧ z.cell? ⟨g, o + k * 3 + 2, none⟩ = some (.int .i64 n2) ∧ z.cell? ⟨g', o' + k * 3, none⟩ = some (.int .i64 n0) ∧ z.cell? ⟨g', o' + k * 3 + 1, none⟩ = some (.int .i64 n1) ∧ z.cell? ⟨g', o' + k * 3 + 2, none⟩ = some (.int .i64 n2)) y := by
  obtain ⟨d0, d1, d2, e0, e1, e2⟩ := h
  exact ⟨(hb.cell (p := ⟨g, _, none⟩) hg).trans d0, (hb.cell (p := ⟨g, _, none⟩) hg).trans d1, (hb.cell (p := ⟨g, _, none⟩) hg).trans d2, (hb.cell (p := ⟨g', _, none⟩) hg').trans e0, (hb.cell (p := ⟨g', _, none⟩) hg').trans e1, (hb.cell (p := ⟨g', _, none⟩) hg').trans e2⟩
end Go.Proofs.Ytlkebkajdlgebaa

/-
  A state and a row of numbers that are handed in, opened: what they read as.
-/
namespace Go.Proofs.Ytlkebkajdlgebaa
open Go.ChangeShapes Go.WideShapes Go.ChangeAt Go.RowKit Go.Joins Go.Deep
set_option linter.unusedVariables false
set_option linter.unusedSimpArgs false

theorem cell_lt {w : World} {a : Addr} {v : Value} (h : w.cell? a = some v) : a.block < w.heap.size := by
  rcases Nat.lt_or_ge a.block w.heap.size with hl | hl
  · exact hl
  · exfalso
    have hn : w.heap[a.block]? = none := by simp; omega
    obtain ⟨b, o, s⟩ := a
    simp only at hn
    simp [World.cell?, hn] at h

section
variable {H : Type} {enc : TypeId × Value → H} {W : World} {spare : Nat → Bool} {held : Bool}

theorem list_of {n : Nat} (q : Nat → Sp) : ∃ L : List Sp, L.length = n ∧ ∀ j, j < n → L.getD j noSp = q j :=
  ⟨(List.range n).map q, by simp, fun j hj => by simp [List.getD, hj]⟩

theorem array5 {α : Type} {cs : Array α} (h : cs.size = 5) : ∃ c0 c1 c2 c3 c4, cs = #[c0, c1, c2, c3, c4] := by
  obtain ⟨l⟩ := cs
  match l, h with
  | [c0, c1, c2, c3, c4], _ => exact ⟨c0, c1, c2, c3, c4, rfl⟩

end
end Go.Proofs.Ytlkebkajdlgebaa
