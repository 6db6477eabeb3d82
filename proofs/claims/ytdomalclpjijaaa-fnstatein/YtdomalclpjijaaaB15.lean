import Derived.Test.YtdomalclpjijaaaB4
import Derived.Test.YtdomalclpjijaaaB14
import Derived.Maps.AppendAt
import Derived.Deep.RegionLaw
import Derived.Deep.AppendSrc
import Derived.RangeFuncBox
/-
  The program's StateEntry: what it hands back at any number.
-/
namespace Go.Proofs.Ytdomalclpjijaaa
open Go.RowKit
set_option linter.unusedVariables false
set_option linter.unusedSimpArgs false

/-- the state in which a call with words of a kind begins -/
def entF (k : Int) : St := if (kindF k).1 = true then (true, [kindF k, (true, 0, 0), (true, 0, 0)], (true, 0, 0)) else noSt
theorem entF_no {k l u : Int} (h : kindF k = (false, l, u)) : entF k = noSt := by unfold entF; rw [h]; simp
theorem entF_yes {k l u : Int} (h : kindF k = (true, l, u)) : entF k = (true, [(true, l, u), (true, 0, 0), (true, 0, 0)], (true, 0, 0)) := by unfold entF; rw [h]; simp
def EntAt (k : Int) (x : World) (e : Ending) (y : World) : Prop :=
  ∃ v, e = .returned (.agg #[.bool (entF k).1, v, .bool (entF k).2.2.1, .int .i64 (entF k).2.2.2.1, .int .i64 (entF k).2.2.2.2]) ∧ SpsAt true y x.heap.size y.heap.size v (entF k).2.1 ∧ Below x.heap.size x y
theorem spn_new (x : World) (a : Bool) (l u : Int) (t : TypeId) : Spn (x.alloc (.cells #[.bool a, .int .i64 l, .int .i64 u] t)) x.heap.size 0 (a, l, u) := ⟨by simp [go_sem], by simp [go_sem], by simp [go_sem]⟩

end Go.Proofs.Ytdomalclpjijaaa

/-
  The model's StateEntry: what it hands back at any number.
-/
namespace Go.Proofs.Ytdomalclpjijaaa
open Go.RowKit
set_option linter.unusedVariables false
set_option linter.unusedSimpArgs false

/-- an append whose run is known, as one step of a region that draws its order -/
theorem step_app {P : Program} {ops : Array Oper} {o : Oper} {a : Act} {w : World} {K : Act → World → Prop} {Q : Exit → Act → World → Prop} {E : Prop}
    (hg : o.guard = none) (s x : Operand) (t : TypeId) (hop : o.op = Op.call { callee := Callee.builtin Builtin.append, args := #[s, x], argTypes := #[t, t] })
    {vs vx : Value} (hs : a.eval s = vs) (hx : a.eval x = vx) {v' : Value} {w' : World} (hrun : (Builtin.append_ #[t, t] o.type #[vs, vx]).run P w = .ok v' w')
    (hK : K (a.put o.dst v') w') : if Region.wanted o (yielded ops a.tmps) = true then Oper.wp P o a w K Q else E := by
  have hw : Region.wanted o (yielded ops a.tmps) = true := by simp [Region.wanted, hg]
  rw [if_pos hw]
  unfold Oper.wp
  simp [execOp, hop, resolve, invoke, builtin, hs, hx, hrun, Result.andThen]
  exact hK
def cs3 (s : Sp) : List Value := [.bool s.1, .int .i64 s.2.1, .int .i64 s.2.2]
/-- a span appended to a row that is owned: the box that holds the row's slice, ahead of base, stands -/
theorem app_step (w5 : World) (ty : TypeId) (m base n : Nat) (v0 q0 q2 q3 q4 : Value) (xs : List Value) (a : Bool) (l u : Int) (hbx : Bx5 w5 m q0 v0 q2 q3 q4)
    (hown : w5.ownsRow base 29 3 v0 n xs) (hn : n ≤ 100) (hm : m < base) (hbase : base ≤ w5.heap.size) :
    ∃ p' cap' w', (Builtin.append_ #[28, 28] ty #[v0, .slice (some ⟨w5.heap.size, 0, none⟩) 1 1]).run Try.prog (w5.alloc (.cells #[.bool a, .int .i64 l, .int .i64 u] 29)) = .ok (.slice p' (n + 1) cap') w' ∧
      Bx5 w' m q0 v0 q2 q3 q4 ∧ Hid (w'.ownsRow base 29 3 (.slice p' (n + 1) cap') (n + 1) (xs ++ cs3 (a, l, u))) ∧ Hid (Below base w5 w') := by
  obtain ⟨i, hi, hz0, hz1, hz2⟩ : ∃ i, Try.prog.info? 29 = some i ∧ i.zero = some (aggS noSp) ∧ i.size = 3 ∧ i.bytes = 24 := info_parts infoSpan
  obtain ⟨v', w', hr, h2, h3, h4, h5⟩ := run_append_own_at (P := Try.prog) (w5.alloc (.cells #[.bool a, .int .i64 l, .int .i64 u] 29)) base 28 ty 29 i (aggS noSp) 3 24 Try.underlying28 hi hz0 hz1 hz2 rfl (by omega) v0 n xs (hown.alloc _) ⟨w5.heap.size, 0, none⟩ 1 1 (cs3 (a, l, u)) rfl
    (by
      intro j v hv
      rw [Addr.add_mid]
      match j, hv with
      | 0, hv => obtain rfl : Value.bool a = v := by simpa [cs3] using hv
                 simp [go_sem]
      | 1, hv => obtain rfl : Value.int .i64 l = v := by simpa [cs3] using hv
                 simp [go_sem]
      | 2, hv => obtain rfl : Value.int .i64 u = v := by simpa [cs3] using hv
                 simp [go_sem]
      | j + 3, hv => simp [cs3] at hv)
    (by intro v hv; simp [cs3] at hv; rcases hv with rfl | rfl | rfl <;> rfl) (by unfold maxLen; omega) (by omega) (by simp; omega)
  have hB : Below base w5 w' := ((Below.refl base w5).alloc hbase _).grown h3 (by simp; omega) (fun k hk => (hown.lt k hk).1)
  obtain ⟨p', cap', rfl⟩ : ∃ p' cap', v' = .slice p' (n + 1) cap' := by
    rcases h2.2 with ⟨_, h⟩ | ⟨g, cap, cur, h, _⟩
    · omega
    · exact ⟨_, _, h⟩
  refine ⟨p', cap', w', hr, ?_, h2, hB⟩
  have hl := hbx.lt
  exact ⟨by have := hB.size; omega, (hB.cell (p := ⟨m, 0, none⟩) hm).trans hbx.c0, (hB.cell (p := ⟨m, 1, none⟩) hm).trans hbx.c1, (hB.cell (p := ⟨m, 2, none⟩) hm).trans hbx.c2, (hB.cell (p := ⟨m, 3, none⟩) hm).trans hbx.c3, (hB.cell (p := ⟨m, 4, none⟩) hm).trans hbx.c4, fun k => (hB.frozen (p := ⟨m, k, none⟩) hm).trans (hbx.fz k)⟩

theorem owns_off {x : World} {base m i size n : Nat} {e : TypeId} {v u : Value} {xs : List Value} (h : x.ownsRow base e size v n xs) (hm : m < base) : (x.setCell ⟨m, i, none⟩ u).ownsRow base e size v n xs :=
  World.ownsRow.kept h (row := some m) ⟨rfl, rfl, rfl, by simp, fun k hk hne => by
    have hne' : m ≠ k := fun e => hne (by rw [e])
    simp [World.setCell, Array.getElem?_setIfInBounds_ne, Array.getElem?_modify, hne']⟩ (by
      cases hv : v.ownBlock with
      | none => simp
      | some k => have := (h.lt k hv).1; simp; omega)
theorem owns_later {x y : World} {base size n : Nat} {e : TypeId} {v : Value} {xs : List Value} (h : x.ownsRow base e size v n xs) (hb : Below x.heap.size x y) : y.ownsRow base e size v n xs :=
  World.ownsRow.kept h (row := none) ⟨hb.os, hb.tape, hb.output, hb.size, fun k hk _ => hb.block k hk⟩ (by cases hv : v.ownBlock <;> simp)

/-- a state that grows: its box, the row of spans that it owns, and the box of the result -/
structure Ent (x y : World) (m : Nat) (p : Option Addr) (cap n : Nat) (xs : List Value) : Prop where
  box : Bx5 y m (.bool true) (.slice p n cap) (.bool true) (.int .i64 0) (.int .i64 0)
  own : y.ownsRow (m + 1) 29 3 (.slice p n cap) n xs
  res : Bx5 y x.heap.size (.bool false) (.slice none 0 0) (.bool false) (.int .i64 0) (.int .i64 0)
  below : Below x.heap.size x y
  lt : x.heap.size < m
theorem Ent.later {x y z : World} {m : Nat} {p : Option Addr} {cap n : Nat} {xs : List Value} (h : Ent x y m p cap n xs) (hb : Below y.heap.size y z) : Ent x z m p cap n xs :=
  ⟨h.box.later hb, owns_later h.own hb, h.res.later hb, h.below.trans (hb.mono h.below.size), h.lt⟩
theorem Ent.app {x y z : World} {m : Nat} {p : Option Addr} {cap n : Nat} {xs : List Value} (h : Ent x y m p cap n xs) (hn : n ≤ 100) (ty : TypeId) (a : Bool) (l u : Int) (hb : Below y.heap.size y z) :
    ∃ p' cap' w', (Builtin.append_ #[28, 28] ty #[.slice p n cap, .slice (some ⟨z.heap.size, 0, none⟩) 1 1]).run Try.prog (z.alloc (.cells #[.bool a, .int .i64 l, .int .i64 u] 29)) = .ok (.slice p' (n + 1) cap') w' ∧
      m < z.heap.size ∧ z.cell? ⟨m, 1, none⟩ = some (.slice p n cap) ∧ w'.cell? ⟨m, 1, none⟩ = some (.slice p n cap) ∧ w'.frozen? ⟨m, 1, none⟩ = false ∧ Hid (Ent x (w'.setCell ⟨m, 1, none⟩ (.slice p' (n + 1) cap')) m p' cap' (n + 1) (xs ++ cs3 (a, l, u))) := by
  have hz := h.later hb
  have hm := hz.box.lt
  obtain ⟨p', cap', w', hr, hbx, hown, hbel⟩ := app_step z ty m (m + 1) n _ _ _ _ _ xs a l u hz.box hz.own hn (by omega) hm
  have hl := h.lt
  have hres : Bx5 w' x.heap.size (.bool false) (.slice none 0 0) (.bool false) (.int .i64 0) (.int .i64 0) := by
    have hB := hbel.out
    have hx : x.heap.size < m + 1 := by omega
    obtain ⟨_, c0, c1, c2, c3, c4, cf⟩ := hz.res
    exact ⟨by have := hB.size; omega, (hB.cell (p := ⟨x.heap.size, 0, none⟩) hx).trans c0, (hB.cell (p := ⟨x.heap.size, 1, none⟩) hx).trans c1, (hB.cell (p := ⟨x.heap.size, 2, none⟩) hx).trans c2, (hB.cell (p := ⟨x.heap.size, 3, none⟩) hx).trans c3, (hB.cell (p := ⟨x.heap.size, 4, none⟩) hx).trans c4, fun k => (hB.frozen (p := ⟨x.heap.size, k, none⟩) hx).trans (cf k)⟩
  exact ⟨p', cap', w', hr, hm, hz.box.c1, hbx.c1, hbx.fz 1, ⟨hbx.set1, owns_off hown.out (by omega), hres.off (by omega), (hz.below.trans (hbel.out.mono (by omega))).setCell (p := ⟨m, 1, none⟩) (by show x.heap.size ≤ m; omega) _, hl⟩⟩
theorem Ent.drew {x y : World} {m : Nat} {p : Option Addr} {cap n : Nat} {xs : List Value} (h : Ent x y m p cap n xs) : Ent x y.drew m p cap n xs := h.later (Below.refl _ _).drew
def rowE (s : Sp) : Nat → List Value
  | 0 => []
  | 1 => [] ++ cs3 s
  | k + 2 => rowE s (k + 1) ++ cs3 (true, 0, 0)
theorem rowE_next (s : Sp) (k : Nat) (h : 1 ≤ k) : rowE s k ++ cs3 (true, 0, 0) = rowE s (k + 1) := by
  cases k with
  | zero => omega
  | succ k => rfl
/-- three spans that a row owns are read there -/
theorem Ent.spans {x y : World} {m : Nat} {p : Option Addr} {cap : Nat} {s : Sp} (h : Ent x y m p cap 3 (rowE s 3)) : SpsAt true y (m + 1) y.heap.size (.slice p 3 cap) [s, (true, 0, 0), (true, 0, 0)] := by
  have ho := h.own
  rcases h.own.2 with ⟨_, h0⟩ | ⟨g, cap', cur, hv, hg, hh, _⟩
  · omega
  injection hv with hp _ hc
  subst hp hc
  have hlt := (h.own.lt g rfl).2
  have hc := fun j hj => World.ownsRow.cellAt ho j hj
  refine ⟨some ⟨g, 0, none⟩, cap, rfl, by unfold maxLen; simp, .inr ⟨g, 0, rfl, hg, hlt, Nat.le_refl _, fun _ k => World.ownsRow.frozenAt ho k, fun j hj => ?_⟩⟩
  match j, hj with
  | 0, _ => exact ⟨hc 0 (by omega), hc 1 (by omega), hc 2 (by omega)⟩
  | 1, _ => exact ⟨hc 3 (by omega), hc 4 (by omega), hc 5 (by omega)⟩
  | 2, _ => exact ⟨hc 6 (by omega), hc 7 (by omega), hc 8 (by omega)⟩
  | j + 3, hj => exact absurd hj (by simp)

theorem none_spec (x : World) : Calls Try.prog 53 #[] x fun e y => ∃ v, e = .returned (.agg #[.bool false, v, .bool false, .int .i64 0, .int .i64 0]) ∧ SpsAt true y x.heap.size y.heap.size v [] ∧ Below x.heap.size x y := by
  go_enter Try.func53, Try.ntmps53
  go_wp2_with fail
  refine bodyPost_ret (v := .agg #[.bool false, .slice (some ⟨x.heap.size + 1, 0, none⟩) 0 0, .bool false, .int .i64 0, .int .i64 0]) (by simp [results, Try.results53, go_sem]) rfl ⟨_, rfl, SpsAt.nil, by go_grown⟩

theorem inB_kind (k : Int) : inB k 0 2 = (kindF k).1 := by
  unfold kindF inB
  by_cases h0 : k = 0
  · subst h0; rfl
  by_cases h1 : k = 1
  · subst h1; rfl
  by_cases h2 : k = 2
  · subst h2; rfl
  · simp [h0, h1, h2, noSp]
    omega

end Go.Proofs.Ytdomalclpjijaaa

/-
  A state copied: the program's copyState and the model's l11Copy, at states that are ok.
-/
namespace Go.Proofs.Ytdomalclpjijaaa
open Go.RowKit
set_option linter.unusedVariables false
set_option linter.unusedSimpArgs false

theorem wpList_app {P : Program} {ops : Array Oper} {rest : List Oper} {o : Oper} {a : Act} {w : World} {Q : Exit → Act → World → Prop}
    (hg : o.guard = none) (s x : Operand) (t : TypeId) (hop : o.op = Op.call { callee := Callee.builtin Builtin.append, args := #[s, x], argTypes := #[t, t] })
    {vs vx : Value} (hs : a.eval s = vs) (hx : a.eval x = vx) {v' : Value} {w' : World} (hrun : (Builtin.append_ #[t, t] o.type #[vs, vx]).run P w = .ok v' w')
    (hK : wpList P ops Q rest (a.put o.dst v') w') : wpList P ops Q (o :: rest) a w := by
  refine wpList_plain hg fun K hK' => ?_
  unfold Oper.wp
  simp [execOp, hop, resolve, invoke, builtin, hs, hx, hrun, Result.andThen]
  exact hK' _ _ hK
theorem cells_block {y : World} {b : Nat} {A : Array Value} {t : TypeId} (hb : y.heap[b]? = some (.cells A t (0, 0))) : (∀ (k : Nat) (v : Value), A[k]? = some v → y.cell? ⟨b, k, none⟩ = some v) ∧ ∀ k, y.frozen? ⟨b, k, none⟩ = false :=
  ⟨fun k v hv => by simp [World.cell?, hb, hv], fun k => by simp [World.frozen?, hb]⟩
theorem three_of {L : List Sp} (h : L.length = 3) : ∃ s0 s1 s2, L = [s0, s1, s2] := by
  match L, h with
  | [a, b, c], _ => exact ⟨a, b, c, rfl⟩

theorem copy3_run (x : World) (base : Option Addr) (g o cap : Nat) (s0 s1 s2 : Sp) (ty : TypeId) (h0 : Spn x g o s0) (h1 : Spn x g (o + 1 * 3) s1) (h2 : Spn x g (o + 2 * 3) s2) :
    ∃ cap' w', (Builtin.append_ #[28, 28] ty #[.slice base 0 0, .slice (some ⟨g, o, none⟩) 3 cap]).run Try.prog x = .ok (.slice (some ⟨x.heap.size, 0, none⟩) 3 cap') w' ∧
      Hid (SpsAt true w' x.heap.size w'.heap.size (.slice (some ⟨x.heap.size, 0, none⟩) 3 cap') [s0, s1, s2]) ∧ Hid (Below x.heap.size x w') := by
  obtain ⟨i, hi, hz0, hz1, hz2⟩ : ∃ i, Try.prog.info? 29 = some i ∧ i.zero = some (aggS noSp) ∧ i.size = 3 ∧ i.bytes = 24 := info_parts infoSpan
  have hold : (Builtin.firstCells i.size 0 (.slice base 0 0)).run Try.prog x.drew = .ok ([] : List Value).toArray x.drew := by
    cases base with
    | none => exact run_firstCells_none x.drew i.size 0 0 0
    | some a => exact run_firstCells_some x.drew i.size 0 a 0 0 [] (by simp) (by simp)
  have hs : Src Try.prog i.size 28 (.slice (some ⟨g, o, none⟩) 3 cap) 3 (cs3 s0 ++ cs3 s1 ++ cs3 s2) x := by
    refine Src.ofSlice (e' := 29) x Try.underlying28 _ _ _ _ (by rw [hz1]; rfl) ?_ ?_
    · intro j u hu
      rw [Addr.add_mid]
      match j, hu with
      | 0, hu => obtain rfl : Value.bool s0.1 = u := by simpa [cs3] using hu
                 exact h0.c0
      | 1, hu => obtain rfl : Value.int .i64 s0.2.1 = u := by simpa [cs3] using hu
                 exact h0.c1
      | 2, hu => obtain rfl : Value.int .i64 s0.2.2 = u := by simpa [cs3] using hu
                 exact h0.c2
      | 3, hu => obtain rfl : Value.bool s1.1 = u := by simpa [cs3] using hu
                 exact h1.c0
      | 4, hu => obtain rfl : Value.int .i64 s1.2.1 = u := by simpa [cs3] using hu
                 exact h1.c1
      | 5, hu => obtain rfl : Value.int .i64 s1.2.2 = u := by simpa [cs3] using hu
                 exact h1.c2
      | 6, hu => obtain rfl : Value.bool s2.1 = u := by simpa [cs3] using hu
                 exact h2.c0
      | 7, hu => obtain rfl : Value.int .i64 s2.2.1 = u := by simpa [cs3] using hu
                 exact h2.c1
      | 8, hu => obtain rfl : Value.int .i64 s2.2.2 = u := by simpa [cs3] using hu
                 exact h2.c2
      | j + 9, hu => simp [cs3] at hu
    · intro u hu
      simp [cs3] at hu
      rcases hu with rfl | rfl | rfl | rfl | rfl | rfl | rfl | rfl | rfl <;> rfl
  have hrun := run_append_grow_src x 28 28 ty 29 i (aggS noSp) Try.underlying28 hi hz0 base 0 0 [] hold _ 3 _ hs (by omega) (by omega) (by rw [hz2]; decide)
  refine ⟨_, _, hrun, ?_, ?_⟩
  · generalize hA : ([] ++ (cs3 s0 ++ cs3 s1 ++ cs3 s2)).toArray ++ Builtin.zeroCells (aggS noSp).cells (grownCap x (0 + 3) 0 29 - (0 + 3)) = A
    have hb : (x.drew.alloc (.cells A 29)).heap[x.heap.size]? = some (.cells A 29 (0, 0)) := World.alloc_heap_new x.drew _
    have hc : ∀ k v, (cs3 s0 ++ cs3 s1 ++ cs3 s2)[k]? = some v → (x.drew.alloc (.cells A 29)).cell? ⟨x.heap.size, k, none⟩ = some v := by
      intro k v hv
      have hAk : A[k]? = some v := by
        rw [← hA, Array.getElem?_append_left (by
          have := (List.getElem?_eq_some_iff.1 hv).1
          simpa using this)]
        simpa using hv
      exact (cells_block hb).1 k v hAk
    refine ⟨_, _, rfl, by unfold maxLen; simp, .inr ⟨x.heap.size, 0, rfl, Nat.le_refl _, by simp, Nat.le_refl _, fun _ => (cells_block hb).2, fun j hj => ?_⟩⟩
    match j, hj with
    | 0, _ => exact ⟨hc 0 _ rfl, hc 1 _ rfl, hc 2 _ rfl⟩
    | 1, _ => exact ⟨hc 3 _ rfl, hc 4 _ rfl, hc 5 _ rfl⟩
    | 2, _ => exact ⟨hc 6 _ rfl, hc 7 _ rfl, hc 8 _ rfl⟩
    | j + 3, hj => exact absurd hj (by simp)
  · exact (Below.refl _ x).drew.alloc (Nat.le_refl _) _

theorem copy0_run (x : World) (base p : Option Addr) (cap : Nat) (ty : TypeId) :
    (Builtin.append_ #[28, 28] ty #[.slice base 0 0, .slice p 0 cap]).run Try.prog x = .ok (.slice base 0 0) x := by
  obtain ⟨i, hi, hz0, hz1, hz2⟩ : ∃ i, Try.prog.info? 29 = some i ∧ i.zero = some (aggS noSp) ∧ i.size = 3 ∧ i.bytes = 24 := info_parts infoSpan
  have hs : Src Try.prog i.size 28 (.slice p 0 cap) 0 [] x := by
    cases p with
    | none => exact Src.ofNil x Try.underlying28 _
    | some a => exact Src.ofSlice x Try.underlying28 a 0 cap [] (by simp) (by simp) (by simp)
  cases base with
  | some a =>
    obtain ⟨b, off, e⟩ := a
    simp [Builtin.append_, run_underlying Try.underlying28, sizeOf, typeInfo, hi, hs.len, hs.cells, storeCells]
  | none => simp [Builtin.append_, run_underlying Try.underlying28, sizeOf, typeInfo, hi, hs.len, hs.cells]

/-- a row of no spans, or of three, copied -/
theorem copy_run {x : World} {z : Bool} {B E : Nat} {p : Option Addr} {n cap : Nat} {L : List Sp} (h : SpsAt z x B E (.slice p n cap) L) (hn : L.length = 0 ∨ L.length = 3) (base : Option Addr) (ty : TypeId) :
    ∃ p' cap' w', (Builtin.append_ #[28, 28] ty #[.slice base 0 0, .slice p n cap]).run Try.prog x = .ok (.slice p' n cap') w' ∧
      Hid (SpsAt true w' x.heap.size w'.heap.size (.slice p' n cap') L) ∧ Hid (Below x.heap.size x w') := by
  obtain ⟨p1, cap1, hv, _, hq⟩ := h
  injection hv with e1 e2 e3
  subst e1 e2 e3
  rcases hn with h0 | h3
  · rw [h0]
    obtain rfl : L = [] := List.length_eq_zero_iff.1 h0
    exact ⟨base, 0, x, copy0_run _ _ _ _ _, SpsAt.nil, Below.refl _ _⟩
  · obtain ⟨s0, s1, s2, rfl⟩ := three_of h3
    rcases hq with h0 | ⟨g, o, rfl, _, _, _, _, hj⟩
    · cases h0
    · obtain ⟨cap', w', hr, hS, hB⟩ := copy3_run x base g o cap s0 s1 s2 ty (hj 0 (by simp)) (hj 1 (by simp)) (hj 2 (by simp))
      exact ⟨_, cap', w', hr, hS, hB⟩

set_option maxHeartbeats 1000000 in
theorem copyState_any (x : World) (z : Bool) (B E : Nat) (a : Bool) (v : Value) (L : List Sp) (c : Bool) (l u : Int) (h : SpsAt z x B E v L) (hn : L.length = 0 ∨ L.length = 3) :
    Calls Try.prog 56 #[.agg #[.bool a, v, .bool c, .int .i64 l, .int .i64 u]] x fun e y => ∃ v', e = .returned (.agg #[.bool a, v', .bool c, .int .i64 l, .int .i64 u]) ∧ SpsAt true y x.heap.size y.heap.size v' L ∧ Below x.heap.size x y := by
  obtain ⟨p, cap, rfl⟩ := h.shape
  have hbW : Below x.heap.size x ((x.alloc (.cells #[.bool a, .slice p L.length cap, .bool c, .int .i64 l, .int .i64 u] 31)).alloc (.cells #[.bool false, .slice none 0 0, .bool false, .int .i64 0, .int .i64 0] 31)) := by go_grown
  have k0 := (Bx5.new x (.bool a) (.slice p L.length cap) (.bool c) (.int .i64 l) (.int .i64 u) 31).alloc (.cells #[.bool false, .slice none 0 0, .bool false, .int .i64 0, .int .i64 0] 31)
  have k1 := Bx5.new (x.alloc (.cells #[.bool a, .slice p L.length cap, .bool c, .int .i64 l, .int .i64 u] 31)) (.bool false) (.slice none 0 0) (.bool false) (.int .i64 0) (.int .i64 0) 31
  simp only [World.size_alloc] at k1
  have h2 := h.later hbW
  have hz : ((x.alloc (.cells #[.bool a, .slice p L.length cap, .bool c, .int .i64 l, .int .i64 u] 31)).alloc (.cells #[.bool false, .slice none 0 0, .bool false, .int .i64 0, .int .i64 0] 31)).heap.size = x.heap.size + 1 + 1 := by simp
  obtain ⟨p', cap', w', hr, hS, hB⟩ := copy_run h2 hn none 28
  have j0 := k0.later hB.out
  have j1 := k1.later hB.out
  have HH : Hid (Bx5 w' x.heap.size (.bool a) (.slice p L.length cap) (.bool c) (.int .i64 l) (.int .i64 u) ∧ Bx5 w' (x.heap.size + 1) (.bool false) (.slice none 0 0) (.bool false) (.int .i64 0) (.int .i64 0) ∧ Below x.heap.size x w' ∧ SpsAt true w' (x.heap.size + 1 + 1) w'.heap.size (.slice p' L.length cap') L ∧ x.heap.size + 1 + 1 ≤ w'.heap.size) :=
    ⟨j0, j1, hbW.trans (hB.out.mono hbW.size), by rw [hz] at hS; exact hS.out, by have := hB.out.size; omega⟩
  clear k1 j0 j1 hS hB h h2 hbW hz hn
  obtain ⟨kl, a0, a1, a2, a3, a4, af⟩ := k0
  go_enter Try.func56, Try.ntmps56
  go_wp2_with (refine wpList_app rfl _ _ 28 rfl rfl rfl hr ?_; clear hr kl a0 a1 a2 a3 a4 af; obtain ⟨el, e0, e1, e2, e3, e4, ef⟩ := HH.out.1; obtain ⟨fl, f0, f1, f2, f3, f4, ff⟩ := HH.out.2.1; have ef1 := ef 1)
  refine bodyPost_ret (v := .agg #[.bool a, .slice p' L.length cap', .bool c, .int .i64 l, .int .i64 u]) (by simp [results, Try.results56, go_sem, el, fl, e0, e1, e2, e3, e4, f0, f1, f2, f3, f4, ff, ef]) rfl ⟨_, rfl, ?_, ?_⟩
  · have hl := HH.out.2.2.2.2
    refine SpsAt.wide (B := x.heap.size + 1 + 1) (E := w'.heap.size) ?_ (by omega) (by simp) (by simp)
    repeat (refine SpsAt.off ?_ (by omega))
    exact HH.out.2.2.2.1
  · repeat (refine Below.setCell ?_ (by simp <;> omega) _)
    exact HH.out.2.2.1

theorem wpList_copy {ops : Array Oper} {rest : List Oper} {o : Oper} {a : Act} {w : World} {Q : Exit → Act → World → Prop}
    (hg : o.guard = none) (s x : Operand) (hop : o.op = Op.call { callee := Callee.builtin Builtin.append, args := #[s, x], argTypes := #[28, 28] })
    {base p : Option Addr} {n cap : Nat} (hs : a.eval s = .slice base 0 0) (hx : a.eval x = .slice p n cap) {z : Bool} {B E : Nat} {L : List Sp} (h : SpsAt z w B E (.slice p n cap) L) (hn : L.length = 0 ∨ L.length = 3)
    (hK : ∀ p' cap' w', SpsAt true w' w.heap.size w'.heap.size (.slice p' n cap') L → Below w.heap.size w w' → wpList Try.prog ops Q rest (a.put o.dst (.slice p' n cap')) w') : wpList Try.prog ops Q (o :: rest) a w := by
  obtain ⟨p', cap', w', hr, hS, hB⟩ := copy_run h hn base o.type
  exact wpList_app hg s x _ hop hs hx hr (hK _ _ _ hS.out hB.out)

set_option maxHeartbeats 1000000 in
theorem l11Copy_any (x : World) (z : Bool) (B E : Nat) (a : Bool) (v : Value) (L : List Sp) (c : Bool) (l u : Int) (h : SpsAt z x B E v L) (hn : L.length = 0 ∨ L.length = 3) :
    Calls Try.prog 54 #[.agg #[.bool a, v, .bool c, .int .i64 l, .int .i64 u]] x fun e y => ∃ v', e = .returned (.agg #[.bool a, v', .bool c, .int .i64 l, .int .i64 u]) ∧ SpsAt true y x.heap.size y.heap.size v' L ∧ Below x.heap.size x y := by
  obtain ⟨p, cap, rfl⟩ := h.shape
  have HN : Hid (L.length = 0 ∨ L.length = 3) := hn
  have H : Hid (SpsAt z x B E (.slice p L.length cap) L) := h
  clear h hn
  generalize hL : L.length = n at H
  have HL : Hid (L.length = n) := hL
  clear hL
  go_enter Try.func54, Try.ntmps54
  go_wp2_with (refine wpList_copy rfl _ _ rfl rfl rfl (H.out.later (by go_grown)) HN.out ?_; intro p' cap' w' hS hB
               have f0 := hB.cell (p := ⟨x.heap.size + 1 + 1, 0, none⟩) (by simp)
               have f1 := hB.cell (p := ⟨x.heap.size + 1 + 1, 1, none⟩) (by simp)
               have f2 := hB.cell (p := ⟨x.heap.size + 1 + 1, 2, none⟩) (by simp)
               have f3 := hB.cell (p := ⟨x.heap.size + 1 + 1, 3, none⟩) (by simp)
               have f4 := hB.cell (p := ⟨x.heap.size + 1 + 1, 4, none⟩) (by simp)
               have ff := hB.frozen (p := ⟨x.heap.size + 1 + 1, 1, none⟩) (by simp)
               have e0 := hB.cell (p := ⟨x.heap.size + 1, 0, none⟩) (by simp)
               have e1 := hB.cell (p := ⟨x.heap.size + 1, 1, none⟩) (by simp)
               have e2 := hB.cell (p := ⟨x.heap.size + 1, 2, none⟩) (by simp)
               have e3 := hB.cell (p := ⟨x.heap.size + 1, 3, none⟩) (by simp)
               have e4 := hB.cell (p := ⟨x.heap.size + 1, 4, none⟩) (by simp)
               have ef0 := hB.frozen (p := ⟨x.heap.size + 1, 0, none⟩) (by simp)
               have ef1 := hB.frozen (p := ⟨x.heap.size + 1, 1, none⟩) (by simp)
               have ef2 := hB.frozen (p := ⟨x.heap.size + 1, 2, none⟩) (by simp)
               have ef3 := hB.frozen (p := ⟨x.heap.size + 1, 3, none⟩) (by simp)
               have ef4 := hB.frozen (p := ⟨x.heap.size + 1, 4, none⟩) (by simp)
               simp [go_sem] at f0 f1 f2 f3 f4 ff e0 e1 e2 e3 e4 ef0 ef1 ef2 ef3 ef4
               have hz := hB.size
               simp at hz
               have HB : Hid (Below x.heap.size x w') := Below.trans (by go_grown) (hB.mono (by simp; omega))
               have HS : Hid (SpsAt true w' (x.heap.size + 1 + 1 + 1 + 1) w'.heap.size (.slice p' n cap') L) := hS.wide (by simp) (Nat.le_refl _) (Nat.le_refl _)
               clear hB hS)
  refine bodyPost_ret (v := .agg #[.bool a, .slice p' n cap', .bool c, .int .i64 l, .int .i64 u]) (by simp [results, Try.results54, go_sem, e0, e1, e2, e3, e4, f0, f1, f2, f3, f4, ff, ef0, ef1, ef2, ef3, ef4]) rfl ⟨_, rfl, ?_, ?_⟩
  · refine SpsAt.wide (B := x.heap.size + 1 + 1 + 1 + 1) (E := w'.heap.size) ?_ (by omega) (by simp) (by simp)
    repeat (refine SpsAt.off ?_ (by omega))
    exact HS.out
  · repeat (refine Below.setCell ?_ (by simp <;> omega) _)
    exact HB.out
end Go.Proofs.Ytdomalclpjijaaa
