import Derived.Test.YtlkebkajdlgebaaGreatB24
import Derived.Test.YtlkebkajdlgebaaGreatB8
import Derived.Test.YtlkebkajdlgebaaGreatB5
import Derived.Test.YtlkebkajdlgebaaGreatB3
/-
  The contracts of the laws' own helpers on rows of numbers: the same (eqIntS), marked (markIntS), held (heldIntS).
-/
namespace Go.Proofs.YtlkebkajdlgebaaGreat
open Go.RowKit
set_option linter.unusedVariables false
set_option linter.unusedSimpArgs false

theorem Owns.lower {x : World} {B C : Nat} {v : Value} {L : List Int} (h : Owns x B v L) (hc : C ≤ B) : Owns x C v L := by
  refine ⟨h.1, ?_⟩
  rcases h.2 with hn | ⟨g, cap, cur, e, hb, rest⟩
  · exact .inl hn
  · exact .inr ⟨g, cap, cur, e, Nat.le_trans hc hb, rest⟩
theorem Owns.drawn {x : World} {B : Nat} {v : Value} {L : List Int} (h : Owns x B v L) (n : Nat) : Owns (x.drewN n) B v L := by
  induction n with
  | zero => exact h
  | succ n ih => exact ih
/-- what an owned row looks like: of no number, or its cells one by one -/
theorem Owns.look {x : World} {B : Nat} {v : Value} {L : List Int} (h : Owns x B v L) :
    ∃ p cap, v = .slice p L.length cap ∧ L.length ≤ maxLen ∧ (L.length = 0 ∨ ∃ g, p = some ⟨g, 0, none⟩ ∧ B ≤ g ∧ g < x.heap.size ∧ ∀ j, j < L.length → x.cell? ⟨g, j, none⟩ = some (.int .i64 (L.getD j 0)) ∧ x.frozen? ⟨g, j, none⟩ = false) := by
  rcases h.2 with ⟨e, hn⟩ | ⟨g, cap, cur, e, hb, hg, hnc, hcm, hcs, ht⟩
  · refine ⟨none, 0, ?_, by unfold maxLen; omega, .inl hn⟩
    rw [e, hn]
  · refine ⟨_, cap, e, by omega, .inr ⟨g, rfl, hb, (Array.getElem?_eq_some_iff.1 hg).1, fun j hj => ?_⟩⟩
    subst e
    refine ⟨?_, World.ownsRow.frozenAt h j⟩
    rw [World.ownsRow.cellAt h j (by omega)]
    simp [List.getElem?_eq_getElem hj, List.getD]

end Go.Proofs.YtlkebkajdlgebaaGreat

/-
  What an instruction behind its interface is held to be: a call, or none.
-/
namespace Go.Proofs.YtlkebkajdlgebaaGreat
open Go.RowKit
set_option linter.unusedVariables false
set_option linter.unusedSimpArgs false
theorem tc_set (v : Value) (w : World) : Sem.run Tryz.prog (Instr.typeAssert (.iface 156 v) 130 169 true) w = .ok (.tuple #[.agg #[.int .i64 0, .int .i64 0, .int .i64 0], .bool false]) w := by kernel_rfl
theorem tc_move (v : Value) (w : World) : Sem.run Tryz.prog (Instr.typeAssert (.iface 158 v) 130 169 true) w = .ok (.tuple #[.agg #[.int .i64 0, .int .i64 0, .int .i64 0], .bool false]) w := by kernel_rfl
theorem tc_ask (v : Value) (w : World) : Sem.run Tryz.prog (Instr.typeAssert (.iface 160 v) 130 169 true) w = .ok (.tuple #[.agg #[.int .i64 0, .int .i64 0, .int .i64 0], .bool false]) w := by kernel_rfl
theorem tc_do (v : Value) (w : World) : Sem.run Tryz.prog (Instr.typeAssert (.iface 162 v) 130 169 true) w = .ok (.tuple #[.agg #[.int .i64 0, .int .i64 0, .int .i64 0], .bool false]) w := by kernel_rfl
theorem tc_go (v : Value) (w : World) : Sem.run Tryz.prog (Instr.typeAssert (.iface 164 v) 130 169 true) w = .ok (.tuple #[.agg #[.int .i64 0, .int .i64 0, .int .i64 0], .bool false]) w := by kernel_rfl
theorem tc_less (v : Value) (w : World) : Sem.run Tryz.prog (Instr.typeAssert (.iface 166 v) 130 169 true) w = .ok (.tuple #[.agg #[.int .i64 0, .int .i64 0, .int .i64 0], .bool false]) w := by kernel_rfl
theorem tc_same (v : Value) (w : World) : Sem.run Tryz.prog (Instr.typeAssert (.iface 167 v) 130 169 true) w = .ok (.tuple #[.agg #[.int .i64 0, .int .i64 0, .int .i64 0], .bool false]) w := by kernel_rfl
theorem tc_back (v : Value) (w : World) : Sem.run Tryz.prog (Instr.typeAssert (.iface 171 v) 130 169 true) w = .ok (.tuple #[.agg #[.int .i64 0, .int .i64 0, .int .i64 0], .bool false]) w := by kernel_rfl
theorem tc_hold (v : Value) (w : World) : Sem.run Tryz.prog (Instr.typeAssert (.iface 173 v) 130 169 true) w = .ok (.tuple #[.agg #[.int .i64 0, .int .i64 0, .int .i64 0], .bool false]) w := by kernel_rfl
theorem tc_put (v : Value) (w : World) : Sem.run Tryz.prog (Instr.typeAssert (.iface 175 v) 130 169 true) w = .ok (.tuple #[.agg #[.int .i64 0, .int .i64 0, .int .i64 0], .bool false]) w := by kernel_rfl
theorem tc_get (v : Value) (w : World) : Sem.run Tryz.prog (Instr.typeAssert (.iface 177 v) 130 169 true) w = .ok (.tuple #[.agg #[.int .i64 0, .int .i64 0, .int .i64 0], .bool false]) w := by kernel_rfl
theorem tc_call (v : Value) (w : World) : Sem.run Tryz.prog (Instr.typeAssert (.iface 169 v) 130 169 true) w = .ok (.tuple #[v, .bool true]) w := by kernel_rfl
theorem tc_nil (w : World) : Sem.run Tryz.prog (Instr.typeAssert .nilIface 130 169 true) w = .ok (.tuple #[.agg #[.int .i64 0, .int .i64 0, .int .i64 0], .bool false]) w := by kernel_rfl
theorem tc_yes (i : I4) (h : i.1 = 8) (w : World) : Sem.run Tryz.prog (Instr.typeAssert (ifcF i) 130 169 true) w = .ok (.tuple #[.agg #[.int .i64 i.2.1, .int .i64 i.2.2.1, .int .i64 i.2.2.2], .bool true]) w := by
  obtain ⟨K, a, b, c⟩ := i
  obtain rfl : K = 8 := h
  exact tc_call _ w
theorem tc_no (i : I4) (h : i.1 ≠ 8) (w : World) : Sem.run Tryz.prog (Instr.typeAssert (ifcF i) 130 169 true) w = .ok (.tuple #[.agg #[.int .i64 0, .int .i64 0, .int .i64 0], .bool false]) w := by
  obtain ⟨K, a, b, c⟩ := i
  simp only at h
  rcases kind_cases K with rfl | rfl | rfl | rfl | rfl | rfl | rfl | rfl | rfl | rfl | rfl | rfl | hK
  · exact tc_set _ w
  · exact tc_move _ w
  · exact tc_ask _ w
  · exact tc_do _ w
  · exact tc_go _ w
  · exact tc_less _ w
  · exact tc_same _ w
  · exact absurd rfl h
  · exact tc_back _ w
  · exact tc_hold _ w
  · exact tc_put _ w
  · exact tc_get _ w
  · have e : ifcF (K, a, b, c) = .nilIface := by
      simp only [ifcF]
      rw [if_neg (by omega), if_neg (by omega), if_neg (by omega), if_neg (by omega), if_neg (by omega), if_neg (by omega), if_neg (by omega), if_neg (by omega), if_neg (by omega), if_neg (by omega), if_neg (by omega), if_neg (by omega)]
    rw [e]
    exact tc_nil w

end Go.Proofs.YtlkebkajdlgebaaGreat

/-
  Rows of numbers, wherever they lie: marked (markIntS), held (heldIntS).
-/
namespace Go.Proofs.YtlkebkajdlgebaaGreat
open Go.RowKit
set_option linter.unusedVariables false
set_option linter.unusedSimpArgs false

/-- n numbers from k on -/
def fromL (k : Int) (n : Nat) : List Int := (List.range n).map (fun j : Nat => k + (j : Int))
theorem fromL_len (k : Int) (n : Nat) : (fromL k n).length = n := by simp [fromL]
theorem fromL_get (k : Int) (n j : Nat) (h : j < n) : (fromL k n).getD j 0 = k + j := by simp [fromL, List.getD_eq_getElem?_getD, List.getElem?_map, List.getElem?_range h]
theorem IntsAt.within {z : Bool} {x y : World} {B E C D : Nat} {v : Value} {L : List Int} (h : IntsAt z x C D v L) (hw : Within B E x y) (hd : D ≤ B ∨ E ≤ C) : IntsAt z y C D v L :=
  h.stay (by rw [hw.sz]; exact Nat.le_refl _) fun g o h1 h2 => ⟨hw.cell _ _ (by omega), hw.frozen _ _⟩
theorem Owns.ints {x : World} {B : Nat} {v : Value} {L : List Int} (h : Owns x B v L) : IntsAt true x B x.heap.size v L := by
  rcases h.2 with ⟨e, hn⟩ | ⟨g, cap, cur, e, hb, hg, hnc, hcm, hcs, ht⟩
  · exact ⟨none, 0, by rw [e, hn], by unfold maxLen; omega, .inl hn⟩
  · subst e
    refine ⟨_, cap, rfl, by omega, .inr ⟨g, 0, rfl, hb, (Array.getElem?_eq_some_iff.1 hg).1, Nat.le_refl _, fun _ k => World.ownsRow.frozenAt h k, fun j hj => ?_⟩⟩
    rw [Nat.zero_add, World.ownsRow.cellAt h j (by omega)]
    simp [List.getElem?_eq_getElem hj, List.getD]

end Go.Proofs.YtlkebkajdlgebaaGreat
