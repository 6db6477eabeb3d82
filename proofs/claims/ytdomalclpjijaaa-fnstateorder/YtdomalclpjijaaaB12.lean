import Derived.Test.YtdomalclpjijaaaB9
import Derived.Test.YtdomalclpjijaaaB11
import Derived.Maps.AppendAt
import Derived.Test.YtdomalclpjijaaaB1
/-
  The contract of the model's l1Ends: a new row of the words at which the ends of an operation are found.
-/
namespace Go.Proofs.Ytdomalclpjijaaa
open Go.RowKit
set_option linter.unusedVariables false
set_option linter.unusedSimpArgs false

def tryV (bl bh : Int) (k : Nat) : Int := if k = 0 then bl else if k = 1 then bh else if k = 2 then -1 else 1
def keepB (op bl bh n : Int) : Bool := inB n bl bh && !(decide (op = 4) && decide (n = 0))
def EL (op bl bh : Int) : Nat → List Int
  | 0 => []
  | k + 1 => EL op bl bh k ++ (if keepB op bl bh (tryV bl bh k) = true then [tryV bl bh k] else [])
theorem EL_len (op bl bh : Int) (k : Nat) : (EL op bl bh k).length ≤ k := by
  induction k with
  | zero => simp [EL]
  | succ k ih => rw [EL, List.length_append]; split <;> simp <;> omega
theorem EL_yes {op bl bh v : Int} {k : Nat} (hv : tryV bl bh k = v) (h : keepB op bl bh v = true) : EL op bl bh (k + 1) = EL op bl bh k ++ [v] := by rw [EL, hv, if_pos h]
theorem EL_no {op bl bh v : Int} {k : Nat} (hv : tryV bl bh k = v) (h : keepB op bl bh v = false) : EL op bl bh (k + 1) = EL op bl bh k := by rw [EL, hv, if_neg (by simp [h])]; simp
theorem EL_four (op bl bh : Int) : EL op bl bh 4 = endsF op bl bh := by
  have e0 : tryV bl bh 0 = bl := rfl
  have e1 : tryV bl bh 1 = bh := rfl
  have e2 : tryV bl bh 2 = -1 := rfl
  have e3 : tryV bl bh 3 = 1 := rfl
  simp only [EL, e0, e1, e2, e3, endsF, List.filter, keepB]
  cases (inB bl bl bh && !(decide (op = 4) && decide (bl = 0))) <;> cases (inB bh bl bh && !(decide (op = 4) && decide (bh = 0))) <;> cases (inB (-1) bl bh && !(decide (op = 4) && decide ((-1 : Int) = 0))) <;> cases (inB 1 bl bh && !(decide (op = 4) && decide ((1 : Int) = 0))) <;> rfl

theorem Sp3.drawn {x : World} {m : Nat} {a : Bool} {l u : Int} (h : Sp3 x m a l u) (n : Nat) : Sp3 (x.drewN n) m a l u := by
  induction n with
  | zero => exact h
  | succ n ih => exact ih.drew
theorem Sp3.grown {x y : World} {m : Nat} {a : Bool} {l u : Int} {r : Option Nat} (h : Sp3 x m a l u) (hg : x.grownBy y r) (hne : some m ≠ r) : Sp3 y m a l u := by
  have hk := hg.block m h.lt hne
  exact ⟨Nat.lt_of_lt_of_le h.lt hg.size, (World.cell?_of_block (a := ⟨m, 0, none⟩) hk).trans h.c0, (World.cell?_of_block (a := ⟨m, 1, none⟩) hk).trans h.c1, (World.cell?_of_block (a := ⟨m, 2, none⟩) hk).trans h.c2, (World.frozen?_of_block (a := ⟨m, 0, none⟩) hk).trans h.f0, (World.frozen?_of_block (a := ⟨m, 1, none⟩) hk).trans h.f1, (World.frozen?_of_block (a := ⟨m, 2, none⟩) hk).trans h.f2⟩

/-- the world of l1Ends: the span, what is tried, and what is kept so far -/
structure EndSt (w x : World) (b : Bool) (bl bh : Int) (v : Value) (L : List Int) : Prop where
  bel : Below w.heap.size w x
  sb : Sp3 x w.heap.size b bl bh
  lt : w.heap.size + 1 + 1 < x.heap.size
  tr : ∀ k, k < 4 → x.cell? ⟨w.heap.size + 1 + 1, k, none⟩ = some (.int .i64 (tryV bl bh k))
  own : Owns x (w.heap.size + 1) v L
  ne : v.ownBlock ≠ some (w.heap.size + 1 + 1)
theorem EndSt.later {w x y : World} {b : Bool} {bl bh : Int} {v : Value} {L : List Int} (h : EndSt w x b bl bh v L) (hb : Below x.heap.size x y) : EndSt w y b bl bh v L :=
  ⟨h.bel.trans (hb.mono h.bel.size), h.sb.later hb, Nat.lt_of_lt_of_le h.lt hb.size, fun k hk => (hb.cell (p := ⟨w.heap.size + 1 + 1, k, none⟩) h.lt).trans (h.tr k hk), h.own.later hb, h.ne⟩
theorem EndSt.drawn {w x : World} {b : Bool} {bl bh : Int} {v : Value} {L : List Int} (h : EndSt w x b bl bh v L) (n : Nat) : EndSt w (x.drewN n) b bl bh v L := by
  induction n with
  | zero => exact h
  | succ n ih => exact ih.later (Below.drew (Below.refl _ _))
theorem EndSt.grown {w x y : World} {b : Bool} {bl bh : Int} {v v' : Value} {L M : List Int} (h : EndSt w x b bl bh v L) (ho : Owns y (w.heap.size + 1) v' M) (hg : x.grownBy y v.ownBlock) (hat : v'.ownBlock = v.ownBlock ∨ v'.ownBlock = some x.heap.size) : EndSt w y b bl bh v' M := by
  have hl := World.ownsRow.lt h.own
  have n0 : some w.heap.size ≠ v.ownBlock := fun e => by have := (hl _ e.symm).1; omega
  have n2 : some (w.heap.size + 1 + 1) ≠ v.ownBlock := fun e => h.ne e.symm
  have hlt := h.lt
  refine ⟨h.bel.grown hg h.bel.size (fun k hk => by have := (hl k hk).1; omega), h.sb.grown hg n0, Nat.lt_of_lt_of_le h.lt hg.size, fun k hk => (World.cell?_of_block (a := ⟨w.heap.size + 1 + 1, k, none⟩) (hg.block _ h.lt n2)).trans (h.tr k hk), ho, ?_⟩
  rcases hat with e | e
  · rw [e]; exact h.ne
  · rw [e]; intro e'; simp at e'; omega

end Go.Proofs.Ytdomalclpjijaaa

/-
  The model's NumDo, and the walks of the laws FnExactNumWrap and FnExactNumDo.
-/
namespace Go.Proofs.Ytdomalclpjijaaa
open Go.RowKit
set_option linter.unusedVariables false

theorem can_parts (op b : Int) : canF op b = (inB op 1 6 && !(op == 4 && b == 0)) := by
  rw [Bool.eq_iff_iff]; simp [canF, inB]; omega

end Go.Proofs.Ytdomalclpjijaaa
