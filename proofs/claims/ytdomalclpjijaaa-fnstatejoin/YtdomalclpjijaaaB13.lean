import Derived.Test.YtdomalclpjijaaaB10
import Derived.Test.YtdomalclpjijaaaB12
import Derived.OwnWalk
import Derived.Test.YtdomalclpjijaaaB7
/-
  The contracts of SpanKinds, the program's and the model's: a new row of the kinds of which the span has words.
-/
namespace Go.Proofs.Ytdomalclpjijaaa
open Go.RowKit
set_option linter.unusedVariables false
set_option linter.unusedSimpArgs false

/-- whether a span has words of a kind -/
def kinHas (a : Bool) (l u : Int) (j : Nat) : Bool := (meetF a l u (kindF j).1 (kindF j).2.1 (kindF j).2.2).1
def KL (a : Bool) (l u : Int) : Nat → List Int
  | 0 => []
  | k + 1 => KL a l u k ++ (if kinHas a l u k = true then [(k : Int)] else [])
theorem KL_len (a : Bool) (l u : Int) (k : Nat) : (KL a l u k).length ≤ k := by
  induction k with
  | zero => simp [KL]
  | succ k ih => rw [KL, List.length_append]; split <;> simp <;> omega
/-- the slice value v owns the numbers L, in a block from B on -/
def Owns (x : World) (B : Nat) (v : Value) (L : List Int) : Prop := x.ownsRow B 3 1 v L.length (L.map (Value.int .i64))
theorem Owns.later {x y : World} {B : Nat} {v : Value} {L : List Int} (h : Owns x B v L) (hb : Below x.heap.size x y) : Owns y B v L :=
  World.ownsRow.kept h (row := none) ⟨hb.os, hb.tape, hb.output, hb.size, fun k hk _ => hb.block k hk⟩ (by cases hv : v.ownBlock <;> simp)
theorem Owns.drewN {x : World} {B : Nat} {v : Value} {L : List Int} (h : Owns x B v L) : Owns x.drew B v L := h

theorem keep1 {w x y : World} {m : Nat} {a : Bool} {al ah : Int}
    (h : Below w.heap.size w x ∧ m < x.heap.size ∧ x.cell? ⟨m, 0, none⟩ = some (.bool a) ∧ x.cell? ⟨m, 1, none⟩ = some (.int .i64 al) ∧ x.cell? ⟨m, 2, none⟩ = some (.int .i64 ah))
    (hb : Below x.heap.size x y) :
    Below w.heap.size w y ∧ m < y.heap.size ∧ y.cell? ⟨m, 0, none⟩ = some (.bool a) ∧ y.cell? ⟨m, 1, none⟩ = some (.int .i64 al) ∧ y.cell? ⟨m, 2, none⟩ = some (.int .i64 ah) := by
  obtain ⟨h1, h2, c0, c1, c2⟩ := h
  have hz := hb.size
  have hz1 := h1.size
  exact ⟨h1.trans (hb.mono hz1), by omega, (hb.cell (p := ⟨m, 0, none⟩) h2).trans c0, (hb.cell (p := ⟨m, 1, none⟩) h2).trans c1, (hb.cell (p := ⟨m, 2, none⟩) h2).trans c2⟩
/-- the same where a row of the call's own has turned -/
theorem keep1g {w x y : World} {m : Nat} {a : Bool} {al ah : Int} {v : Value} {L : List Int}
    (h : Below w.heap.size w x ∧ m < x.heap.size ∧ x.cell? ⟨m, 0, none⟩ = some (.bool a) ∧ x.cell? ⟨m, 1, none⟩ = some (.int .i64 al) ∧ x.cell? ⟨m, 2, none⟩ = some (.int .i64 ah))
    (ho : Owns x (m + 1) v L) (hw : w.heap.size ≤ m) (hg : x.grownBy y v.ownBlock) :
    Below w.heap.size w y ∧ m < y.heap.size ∧ y.cell? ⟨m, 0, none⟩ = some (.bool a) ∧ y.cell? ⟨m, 1, none⟩ = some (.int .i64 al) ∧ y.cell? ⟨m, 2, none⟩ = some (.int .i64 ah) := by
  obtain ⟨h1, h2, c0, c1, c2⟩ := h
  have hl := World.ownsRow.lt ho
  have hne : some m ≠ v.ownBlock := fun e => by have := (hl m e.symm).1; omega
  have hz := hg.size
  refine ⟨?_, by omega, hg.cell c0 hne, hg.cell c1 hne, hg.cell c2 hne⟩
  exact h1.grown hg h1.size (fun k hk => by have := (hl k hk).1; omega)

theorem kin_has {a a1 a2 : Bool} {l u l1 u1 l2 u2 : Int} {k : Nat} (h1 : kindF k = (a1, l1, u1)) (h2 : meetF a l u a1 l1 u1 = (a2, l2, u2)) : kinHas a l u k = a2 := by
  unfold kinHas; rw [h1]; simp only; rw [h2]

theorem run_field0 (a : Bool) (l u : Int) (w : World) : Sem.run Try.prog (Instr.field 29 (.agg #[.bool a, .int .i64 l, .int .i64 u]) 0) w = .ok (.bool a) w := by kernel_rfl
theorem own_empty (x : World) (B : Nat) (h : B ≤ x.heap.size) : Owns (x.alloc (.cells #[] 3)) B (.slice (some ⟨x.heap.size, 0, none⟩) 0 0) [] := World.ownsRow_lit x #[] 0 h (by unfold maxLen; omega) rfl
theorem own_cell (w : World) (v : Value) : ∀ j u, [v][j]? = some u → (w.alloc (.cells #[v] 3)).cell? ((⟨w.heap.size, 0, none⟩ : Addr).add j) = some u := by
  intro j u hj
  match j, hj with
  | 0, hj => simp at hj; subst hj; simp [Addr.add, go_sem]
theorem KL_yes {a : Bool} {l u : Int} {k : Nat} (h : kinHas a l u k = true) : KL a l u (k + 1) = KL a l u k ++ [(k : Int)] := by rw [KL, if_pos h]
theorem KL_no {a : Bool} {l u : Int} {k : Nat} (h : kinHas a l u k = false) : KL a l u (k + 1) = KL a l u k := by rw [KL, if_neg (by simp [h])]; simp

theorem meet_some {a b a2 : Bool} {al ah bl bh l2 u2 : Int} (h : meetF a al ah b bl bh = (a2, l2, u2)) : (a2 && okF a2 l2 u2) = a2 := by
  cases a2
  · rfl
  · simp only [Bool.true_and]
    unfold meetF at h
    split at h
    · rename_i hb
      simp only [bothF, Bool.and_eq_true] at hb
      obtain ⟨⟨⟨h1, h2⟩, rfl⟩, rfl⟩ := hb
      have e1 := okF_bd h1
      have e2 := okF_bd h2
      unfold mkF at h
      split at h
      · simp [noSp] at h
      · simp at h
        exact okF_t (by omega)
    · simp [noSp] at h

end Go.Proofs.Ytdomalclpjijaaa

/-
  The contracts of the laws' own helpers on rows of numbers: the same (eqIntS), marked (markIntS), held (heldIntS).
-/
namespace Go.Proofs.Ytdomalclpjijaaa
open Go.RowKit
set_option linter.unusedVariables false
set_option linter.unusedSimpArgs false

theorem Owns.lower {x : World} {B C : Nat} {v : Value} {L : List Int} (h : Owns x B v L) (hc : C ≤ B) : Owns x C v L := by
  refine ⟨h.1, ?_⟩
  rcases h.2 with hn | ⟨g, cap, cur, e, hb, rest⟩
  · exact .inl hn
  · exact .inr ⟨g, cap, cur, e, Nat.le_trans hc hb, rest⟩
theorem Owns.drawn {x : World} {B : Nat} {v : Value} {L : List Int} (h : Owns x B v L) (n : Nat) : Owns (x.drewN n) B v L := by
  induction n with
  | zero => exact h
  | succ n ih => exact ih
/-- what an owned row looks like: of no number, or its cells one by one -/
theorem Owns.look {x : World} {B : Nat} {v : Value} {L : List Int} (h : Owns x B v L) :
    ∃ p cap, v = .slice p L.length cap ∧ L.length ≤ maxLen ∧ (L.length = 0 ∨ ∃ g, p = some ⟨g, 0, none⟩ ∧ B ≤ g ∧ g < x.heap.size ∧ ∀ j, j < L.length → x.cell? ⟨g, j, none⟩ = some (.int .i64 (L.getD j 0)) ∧ x.frozen? ⟨g, j, none⟩ = false) := by
  rcases h.2 with ⟨e, hn⟩ | ⟨g, cap, cur, e, hb, hg, hnc, hcm, hcs, ht⟩
  · refine ⟨none, 0, ?_, by unfold maxLen; omega, .inl hn⟩
    rw [e, hn]
  · refine ⟨_, cap, e, by omega, .inr ⟨g, rfl, hb, (Array.getElem?_eq_some_iff.1 hg).1, fun j hj => ?_⟩⟩
    subst e
    refine ⟨?_, World.ownsRow.frozenAt h j⟩
    rw [World.ownsRow.cellAt h j (by omega)]
    simp [List.getElem?_eq_getElem hj, List.getD]

end Go.Proofs.Ytdomalclpjijaaa
