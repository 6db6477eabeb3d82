/-
  Rows of numbers that grow while the reader's place turns: what l71Within keeps.
-/
import Derived.Test.YtbmjjmbimfdkoaaSDst
import Derived.Test.YtbmjjmbimfdkoaaSHas
namespace Go.Proofs.Ytbmjjmbimfdkoaa
open Go.RowKit
set_option linter.unusedVariables false
set_option linter.unusedSimpArgs false

def intV (R : List Int) : List Value := R.map fun n => Value.int .i64 n
/-- a number appended to a row that is owned -/
theorem app_int (z : World) (ty : TypeId) (base n : Nat) (v : Value) (xs : List Value) (k : Int) (hown : z.ownsRow base 3 1 v n xs) (hn : n ≤ 100) (hbase : base ≤ z.heap.size) :
    ∃ p' cap' w', (Builtin.append_ #[39, 39] ty #[v, .slice (some ⟨z.heap.size, 0, none⟩) 1 1]).run Try.prog (z.alloc (.cells #[.int .i64 k] 3)) = .ok (.slice p' (n + 1) cap') w' ∧
      w'.ownsRow base 3 1 (.slice p' (n + 1) cap') (n + 1) (xs ++ [.int .i64 k]) ∧ (z.alloc (.cells #[.int .i64 k] 3)).grownBy w' v.ownBlock ∧ ((Value.slice p' (n + 1) cap').ownBlock = v.ownBlock ∨ (Value.slice p' (n + 1) cap').ownBlock = some (z.heap.size + 1)) := by
  obtain ⟨i, hi, hz0, hz1, hz2⟩ : ∃ i, Try.prog.info? 3 = some i ∧ i.zero = some (.int .i64 0) ∧ i.size = 1 ∧ i.bytes = 8 := info_parts infoInt
  obtain ⟨v', w', hr, h2, h3, h4, h5⟩ := run_append_own_at (P := Try.prog) (z.alloc (.cells #[.int .i64 k] 3)) base 39 ty 3 i (.int .i64 0) 1 8 Try.underlying39 hi hz0 hz1 hz2 rfl (by omega) v n xs (hown.alloc _) ⟨z.heap.size, 0, none⟩ 1 1 [.int .i64 k] rfl
    (by
      intro j u hu
      rw [Addr.add_mid]
      match j, hu with
      | 0, hu => obtain rfl : Value.int .i64 k = u := by simpa using hu
                 simp [go_sem]
      | j + 1, hu => simp at hu)
    (by intro u hu; simp at hu; subst hu; rfl) (by unfold maxLen; omega) (by omega) (by simp; omega)
  obtain ⟨g, cap, rfl⟩ := ownsRow_succ h2
  exact ⟨_, _, w', hr, h2, h3, by rw [World.size_alloc] at h5; exact h5⟩
theorem owns_ints {y : World} {base n : Nat} {v : Value} {R : List Int} (h : y.ownsRow base 3 1 v n (intV R)) (hn : R.length = n) (hx : n ≤ 100) : IntsAt true y base y.heap.size v R := by
  rcases h.2 with ⟨rfl, h0⟩ | ⟨g, cap, cur, hv, hg, hh, _⟩
  · subst h0
    obtain rfl : R = [] := List.length_eq_zero_iff.1 hn
    exact IntsAt.nil
  · subst hv
    have hlt := (h.lt g rfl).2
    refine ⟨_, _, by rw [hn], by unfold maxLen; omega, .inr ⟨g, 0, rfl, hg, hlt, Nat.le_refl _, fun _ k => World.ownsRow.frozenAt h k, fun j hj => ?_⟩⟩
    rw [Nat.zero_add, World.ownsRow.cellAt h j (by omega)]
    simp [intV, List.getD_eq_getElem?_getD, List.getElem?_eq_getElem hj]

/-- what l71Within keeps: the reader, the state's box and row, the two rows that grow -/
structure WS (r B : Nat) (x y : World) (a : Bool) (p : Option Addr) (n cap : Nat) (c : Bool) (l u : Int) (L : List Sp) (zf : Bool) (B0 E0 : Nat) (v6 : Value) (R : List Int) (v7 : Value) (C : List Int) : Prop where
  drawn : Drawn r B x y
  box : Bx5 y x.heap.size (.bool a) (.slice p n cap) (.bool c) (.int .i64 l) (.int .i64 u)
  row : SpsAt zf y B0 E0 (.slice p n cap) L
  o6 : y.ownsRow (x.heap.size + 1) 3 1 v6 R.length (intV R)
  o7 : y.ownsRow (x.heap.size + 1) 3 1 v7 C.length (intV C)
  ne : ∀ k, v6.ownBlock = some k → v7.ownBlock ≠ some k
  hr : r < x.heap.size
  hB : r < B0 ∧ E0 ≤ x.heap.size
section
variable {r B : Nat} {x y z : World} {a : Bool} {p : Option Addr} {n cap : Nat} {c : Bool} {l u : Int} {L : List Sp} {zf : Bool} {B0 E0 : Nat} {v6 : Value} {R : List Int} {v7 : Value} {C : List Int}
theorem WS.draw {D : Nat} (h : WS r B x y a p n cap c l u L zf B0 E0 v6 R v7 C) (hd : Drawn r D y z) : WS r D x z a p n cap c l u L zf B0 E0 v6 R v7 C :=
  have h1 := h.hr
  ⟨h.drawn.trans hd, hd.bx5 h.box (by omega), hd.sps h.row h.hB.1, hd.owns h.o6 (by omega), hd.owns h.o7 (by omega), h.ne, h1, h.hB⟩
theorem WS.below (h : WS r B x y a p n cap c l u L zf B0 E0 v6 R v7 C) (hb : Below y.heap.size y z) : WS r B x z a p n cap c l u L zf B0 E0 v6 R v7 C :=
  ⟨h.drawn.more hb h.drawn.size h.hr, h.box.later hb, h.row.later hb, owns_later h.o6 hb, owns_later h.o7 hb, h.ne, h.hr, h.hB⟩
/-- a row of numbers grows: the other one stands -/
theorem WS.app6 (h : WS r B x y a p n cap c l u L zf B0 E0 v6 R v7 C) (ty : TypeId) (hn : R.length ≤ 100) (k : Int) :
    ∃ p' cap' w', (Builtin.append_ #[39, 39] ty #[v6, .slice (some ⟨y.heap.size, 0, none⟩) 1 1]).run Try.prog (y.alloc (.cells #[.int .i64 k] 3)) = .ok (.slice p' (R.length + 1) cap') w' ∧ Hid (WS r B x w' a p n cap c l u L zf B0 E0 (.slice p' (R.length + 1) cap') (R ++ [k]) v7 C) := by
  have hsz := h.drawn.size
  have hbl := h.box.lt
  obtain ⟨p', cap', w', hr, hown, hgr, hblk⟩ := app_int y ty (x.heap.size + 1) R.length v6 (intV R) k h.o6 hn (by omega)
  have hA : Below y.heap.size y (y.alloc (.cells #[.int .i64 k] 3)) := (Below.refl _ _).alloc (Nat.le_refl _) _
  have hB : Below (x.heap.size + 1) y w' := (hA.mono (by omega)).grown hgr (by simp; omega) (fun k hk => (h.o6.lt k hk).1)
  have ho7 : w'.ownsRow (x.heap.size + 1) 3 1 v7 C.length (intV C) := World.ownsRow.kept (h.o7.alloc _) hgr (by
    cases hv : v7.ownBlock with
    | none => exact .inl rfl
    | some q => exact .inr fun e => (h.ne q e.symm) hv)
  refine ⟨p', cap', w', hr, h.drawn.more hB (by omega) h.hr, ⟨by have := hB.size; omega, (hB.cell (p := ⟨x.heap.size, 0, none⟩) (by simp)).trans h.box.c0, (hB.cell (p := ⟨x.heap.size, 1, none⟩) (by simp)).trans h.box.c1, (hB.cell (p := ⟨x.heap.size, 2, none⟩) (by simp)).trans h.box.c2, (hB.cell (p := ⟨x.heap.size, 3, none⟩) (by simp)).trans h.box.c3, (hB.cell (p := ⟨x.heap.size, 4, none⟩) (by simp)).trans h.box.c4, fun k => (hB.frozen (p := ⟨x.heap.size, k, none⟩) (by simp)).trans (h.box.fz k)⟩,
    ?_, by simpa [intV] using hown, ho7, ?_, h.hr, h.hB⟩
  · have h0 := h.hB.2
    exact h.row.stay hB.size fun g o h1 h2 => ⟨hB.cell (p := ⟨g, o, none⟩) (by show g < _; omega), hB.frozen (p := ⟨g, o, none⟩) (by show g < _; omega)⟩
  · intro q hq hq7
    have hl7 := (h.o7.lt q hq7)
    rcases hblk with hk | hk
    · rw [hk] at hq
      exact h.ne q hq hq7
    · rw [hk] at hq
      injection hq with hq
      omega
theorem WS.swap (h : WS r B x y a p n cap c l u L zf B0 E0 v6 R v7 C) : WS r B x y a p n cap c l u L zf B0 E0 v7 C v6 R :=
  ⟨h.drawn, h.box, h.row, h.o7, h.o6, fun k h1 h2 => h.ne k h2 h1, h.hr, h.hB⟩
theorem WS.app7 (h : WS r B x y a p n cap c l u L zf B0 E0 v6 R v7 C) (ty : TypeId) (hn : C.length ≤ 100) (k : Int) :
    ∃ p' cap' w', (Builtin.append_ #[39, 39] ty #[v7, .slice (some ⟨y.heap.size, 0, none⟩) 1 1]).run Try.prog (y.alloc (.cells #[.int .i64 k] 3)) = .ok (.slice p' (C.length + 1) cap') w' ∧ Hid (WS r B x w' a p n cap c l u L zf B0 E0 v6 R (.slice p' (C.length + 1) cap') (C ++ [k])) := by
  obtain ⟨p', cap', w', hr, hw⟩ := h.swap.app6 ty hn k
  exact ⟨p', cap', w', hr, hw.out.swap⟩
end
end Go.Proofs.Ytbmjjmbimfdkoaa
