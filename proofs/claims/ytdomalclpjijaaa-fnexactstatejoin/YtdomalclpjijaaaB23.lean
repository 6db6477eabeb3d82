import Derived.Test.YtdomalclpjijaaaB22
import Derived.Deep.AppendSrc
import Derived.RangeFuncBox
import Derived.RangeFuncNested
import Derived.RangeFuncBound
import Derived.RangeFuncCalls
import Derived.RangeFuncLeaves
import Derived.Shelf.Abstract
import Derived.Shelf.RegionOpen
import Derived.WalkKit
import Derived.OwnWalkIn
import Derived.TacticsInMore
import Derived.LoopNIn
import Derived.LoopIn
import Derived.Test.YtdomalclpjijaaaB4
/-
  A state copied: the program's copyState and the model's l11Copy, at states that are ok.
-/
namespace Go.Proofs.Ytdomalclpjijaaa
open Go.RowKit
set_option linter.unusedVariables false
set_option linter.unusedSimpArgs false

theorem wpList_app {P : Program} {ops : Array Oper} {rest : List Oper} {o : Oper} {a : Act} {w : World} {Q : Exit → Act → World → Prop}
    (hg : o.guard = none) (s x : Operand) (t : TypeId) (hop : o.op = Op.call { callee := Callee.builtin Builtin.append, args := #[s, x], argTypes := #[t, t] })
    {vs vx : Value} (hs : a.eval s = vs) (hx : a.eval x = vx) {v' : Value} {w' : World} (hrun : (Builtin.append_ #[t, t] o.type #[vs, vx]).run P w = .ok v' w')
    (hK : wpList P ops Q rest (a.put o.dst v') w') : wpList P ops Q (o :: rest) a w := by
  refine wpList_plain hg fun K hK' => ?_
  unfold Oper.wp
  simp [execOp, hop, resolve, invoke, builtin, hs, hx, hrun, Result.andThen]
  exact hK' _ _ hK
theorem cells_block {y : World} {b : Nat} {A : Array Value} {t : TypeId} (hb : y.heap[b]? = some (.cells A t (0, 0))) : (∀ (k : Nat) (v : Value), A[k]? = some v → y.cell? ⟨b, k, none⟩ = some v) ∧ ∀ k, y.frozen? ⟨b, k, none⟩ = false :=
  ⟨fun k v hv => by simp [World.cell?, hb, hv], fun k => by simp [World.frozen?, hb]⟩
theorem three_of {L : List Sp} (h : L.length = 3) : ∃ s0 s1 s2, L = [s0, s1, s2] := by
  match L, h with
  | [a, b, c], _ => exact ⟨a, b, c, rfl⟩

theorem copy3_run (x : World) (base : Option Addr) (g o cap : Nat) (s0 s1 s2 : Sp) (ty : TypeId) (h0 : Spn x g o s0) (h1 : Spn x g (o + 1 * 3) s1) (h2 : Spn x g (o + 2 * 3) s2) :
    ∃ cap' w', (Builtin.append_ #[28, 28] ty #[.slice base 0 0, .slice (some ⟨g, o, none⟩) 3 cap]).run Try.prog x = .ok (.slice (some ⟨x.heap.size, 0, none⟩) 3 cap') w' ∧
      Hid (SpsAt true w' x.heap.size w'.heap.size (.slice (some ⟨x.heap.size, 0, none⟩) 3 cap') [s0, s1, s2]) ∧ Hid (Below x.heap.size x w') := by
  obtain ⟨i, hi, hz0, hz1, hz2⟩ : ∃ i, Try.prog.info? 29 = some i ∧ i.zero = some (aggS noSp) ∧ i.size = 3 ∧ i.bytes = 24 := info_parts infoSpan
  have hold : (Builtin.firstCells i.size 0 (.slice base 0 0)).run Try.prog x.drew = .ok ([] : List Value).toArray x.drew := by
    cases base with
    | none => exact run_firstCells_none x.drew i.size 0 0 0
    | some a => exact run_firstCells_some x.drew i.size 0 a 0 0 [] (by simp) (by simp)
  have hs : Src Try.prog i.size 28 (.slice (some ⟨g, o, none⟩) 3 cap) 3 (cs3 s0 ++ cs3 s1 ++ cs3 s2) x := by
    refine Src.ofSlice (e' := 29) x Try.underlying28 _ _ _ _ (by rw [hz1]; rfl) ?_ ?_
    · intro j u hu
      rw [Addr.add_mid]
      match j, hu with
      | 0, hu => obtain rfl : Value.bool s0.1 = u := by simpa [cs3] using hu
                 exact h0.c0
      | 1, hu => obtain rfl : Value.int .i64 s0.2.1 = u := by simpa [cs3] using hu
                 exact h0.c1
      | 2, hu => obtain rfl : Value.int .i64 s0.2.2 = u := by simpa [cs3] using hu
                 exact h0.c2
      | 3, hu => obtain rfl : Value.bool s1.1 = u := by simpa [cs3] using hu
                 exact h1.c0
      | 4, hu => obtain rfl : Value.int .i64 s1.2.1 = u := by simpa [cs3] using hu
                 exact h1.c1
      | 5, hu => obtain rfl : Value.int .i64 s1.2.2 = u := by simpa [cs3] using hu
                 exact h1.c2
      | 6, hu => obtain rfl : Value.bool s2.1 = u := by simpa [cs3] using hu
                 exact h2.c0
      | 7, hu => obtain rfl : Value.int .i64 s2.2.1 = u := by simpa [cs3] using hu
                 exact h2.c1
      | 8, hu => obtain rfl : Value.int .i64 s2.2.2 = u := by simpa [cs3] using hu
                 exact h2.c2
      | j + 9, hu => simp [cs3] at hu
    · intro u hu
      simp [cs3] at hu
      rcases hu with rfl | rfl | rfl | rfl | rfl | rfl | rfl | rfl | rfl <;> rfl
  have hrun := run_append_grow_src x 28 28 ty 29 i (aggS noSp) Try.underlying28 hi hz0 base 0 0 [] hold _ 3 _ hs (by omega) (by omega) (by rw [hz2]; decide)
  refine ⟨_, _, hrun, ?_, ?_⟩
  · generalize hA : ([] ++ (cs3 s0 ++ cs3 s1 ++ cs3 s2)).toArray ++ Builtin.zeroCells (aggS noSp).cells (grownCap x (0 + 3) 0 29 - (0 + 3)) = A
    have hb : (x.drew.alloc (.cells A 29)).heap[x.heap.size]? = some (.cells A 29 (0, 0)) := World.alloc_heap_new x.drew _
    have hc : ∀ k v, (cs3 s0 ++ cs3 s1 ++ cs3 s2)[k]? = some v → (x.drew.alloc (.cells A 29)).cell? ⟨x.heap.size, k, none⟩ = some v := by
      intro k v hv
      have hAk : A[k]? = some v := by
        rw [← hA, Array.getElem?_append_left (by
          have := (List.getElem?_eq_some_iff.1 hv).1
          simpa using this)]
        simpa using hv
      exact (cells_block hb).1 k v hAk
    refine ⟨_, _, rfl, by unfold maxLen; simp, .inr ⟨x.heap.size, 0, rfl, Nat.le_refl _, by simp, Nat.le_refl _, fun _ => (cells_block hb).2, fun j hj => ?_⟩⟩
    match j, hj with
    | 0, _ => exact ⟨hc 0 _ rfl, hc 1 _ rfl, hc 2 _ rfl⟩
    | 1, _ => exact ⟨hc 3 _ rfl, hc 4 _ rfl, hc 5 _ rfl⟩
    | 2, _ => exact ⟨hc 6 _ rfl, hc 7 _ rfl, hc 8 _ rfl⟩
    | j + 3, hj => exact absurd hj (by simp)
  · exact (Below.refl _ x).drew.alloc (Nat.le_refl _) _

theorem copy0_run (x : World) (base p : Option Addr) (cap : Nat) (ty : TypeId) :
    (Builtin.append_ #[28, 28] ty #[.slice base 0 0, .slice p 0 cap]).run Try.prog x = .ok (.slice base 0 0) x := by
  obtain ⟨i, hi, hz0, hz1, hz2⟩ : ∃ i, Try.prog.info? 29 = some i ∧ i.zero = some (aggS noSp) ∧ i.size = 3 ∧ i.bytes = 24 := info_parts infoSpan
  have hs : Src Try.prog i.size 28 (.slice p 0 cap) 0 [] x := by
    cases p with
    | none => exact Src.ofNil x Try.underlying28 _
    | some a => exact Src.ofSlice x Try.underlying28 a 0 cap [] (by simp) (by simp) (by simp)
  cases base with
  | some a =>
    obtain ⟨b, off, e⟩ := a
    simp [Builtin.append_, run_underlying Try.underlying28, sizeOf, typeInfo, hi, hs.len, hs.cells, storeCells]
  | none => simp [Builtin.append_, run_underlying Try.underlying28, sizeOf, typeInfo, hi, hs.len, hs.cells]

/-- a row of no spans, or of three, copied -/
theorem copy_run {x : World} {z : Bool} {B E : Nat} {p : Option Addr} {n cap : Nat} {L : List Sp} (h : SpsAt z x B E (.slice p n cap) L) (hn : L.length = 0 ∨ L.length = 3) (base : Option Addr) (ty : TypeId) :
    ∃ p' cap' w', (Builtin.append_ #[28, 28] ty #[.slice base 0 0, .slice p n cap]).run Try.prog x = .ok (.slice p' n cap') w' ∧
      Hid (SpsAt true w' x.heap.size w'.heap.size (.slice p' n cap') L) ∧ Hid (Below x.heap.size x w') := by
  obtain ⟨p1, cap1, hv, _, hq⟩ := h
  injection hv with e1 e2 e3
  subst e1 e2 e3
  rcases hn with h0 | h3
  · rw [h0]
    obtain rfl : L = [] := List.length_eq_zero_iff.1 h0
    exact ⟨base, 0, x, copy0_run _ _ _ _ _, SpsAt.nil, Below.refl _ _⟩
  · obtain ⟨s0, s1, s2, rfl⟩ := three_of h3
    rcases hq with h0 | ⟨g, o, rfl, _, _, _, _, hj⟩
    · cases h0
    · obtain ⟨cap', w', hr, hS, hB⟩ := copy3_run x base g o cap s0 s1 s2 ty (hj 0 (by simp)) (hj 1 (by simp)) (hj 2 (by simp))
      exact ⟨_, cap', w', hr, hS, hB⟩

set_option maxHeartbeats 1000000 in
theorem copyState_any (x : World) (z : Bool) (B E : Nat) (a : Bool) (v : Value) (L : List Sp) (c : Bool) (l u : Int) (h : SpsAt z x B E v L) (hn : L.length = 0 ∨ L.length = 3) :
    Calls Try.prog 56 #[.agg #[.bool a, v, .bool c, .int .i64 l, .int .i64 u]] x fun e y => ∃ v', e = .returned (.agg #[.bool a, v', .bool c, .int .i64 l, .int .i64 u]) ∧ SpsAt true y x.heap.size y.heap.size v' L ∧ Below x.heap.size x y := by
  obtain ⟨p, cap, rfl⟩ := h.shape
  have hbW : Below x.heap.size x ((x.alloc (.cells #[.bool a, .slice p L.length cap, .bool c, .int .i64 l, .int .i64 u] 31)).alloc (.cells #[.bool false, .slice none 0 0, .bool false, .int .i64 0, .int .i64 0] 31)) := by go_grown
  have k0 := (Bx5.new x (.bool a) (.slice p L.length cap) (.bool c) (.int .i64 l) (.int .i64 u) 31).alloc (.cells #[.bool false, .slice none 0 0, .bool false, .int .i64 0, .int .i64 0] 31)
  have k1 := Bx5.new (x.alloc (.cells #[.bool a, .slice p L.length cap, .bool c, .int .i64 l, .int .i64 u] 31)) (.bool false) (.slice none 0 0) (.bool false) (.int .i64 0) (.int .i64 0) 31
  simp only [World.size_alloc] at k1
  have h2 := h.later hbW
  have hz : ((x.alloc (.cells #[.bool a, .slice p L.length cap, .bool c, .int .i64 l, .int .i64 u] 31)).alloc (.cells #[.bool false, .slice none 0 0, .bool false, .int .i64 0, .int .i64 0] 31)).heap.size = x.heap.size + 1 + 1 := by simp
  obtain ⟨p', cap', w', hr, hS, hB⟩ := copy_run h2 hn none 28
  have j0 := k0.later hB.out
  have j1 := k1.later hB.out
  have HH : Hid (Bx5 w' x.heap.size (.bool a) (.slice p L.length cap) (.bool c) (.int .i64 l) (.int .i64 u) ∧ Bx5 w' (x.heap.size + 1) (.bool false) (.slice none 0 0) (.bool false) (.int .i64 0) (.int .i64 0) ∧ Below x.heap.size x w' ∧ SpsAt true w' (x.heap.size + 1 + 1) w'.heap.size (.slice p' L.length cap') L ∧ x.heap.size + 1 + 1 ≤ w'.heap.size) :=
    ⟨j0, j1, hbW.trans (hB.out.mono hbW.size), by rw [hz] at hS; exact hS.out, by have := hB.out.size; omega⟩
  clear k1 j0 j1 hS hB h h2 hbW hz hn
  obtain ⟨kl, a0, a1, a2, a3, a4, af⟩ := k0
  go_enter Try.func56, Try.ntmps56
  go_wp2_with (refine wpList_app rfl _ _ 28 rfl rfl rfl hr ?_; clear hr kl a0 a1 a2 a3 a4 af; obtain ⟨el, e0, e1, e2, e3, e4, ef⟩ := HH.out.1; obtain ⟨fl, f0, f1, f2, f3, f4, ff⟩ := HH.out.2.1; have ef1 := ef 1)
  refine bodyPost_ret (v := .agg #[.bool a, .slice p' L.length cap', .bool c, .int .i64 l, .int .i64 u]) (by simp [results, Try.results56, go_sem, el, fl, e0, e1, e2, e3, e4, f0, f1, f2, f3, f4, ff, ef]) rfl ⟨_, rfl, ?_, ?_⟩
  · have hl := HH.out.2.2.2.2
    refine SpsAt.wide (B := x.heap.size + 1 + 1) (E := w'.heap.size) ?_ (by omega) (by simp) (by simp)
    repeat (refine SpsAt.off ?_ (by omega))
    exact HH.out.2.2.2.1
  · repeat (refine Below.setCell ?_ (by simp <;> omega) _)
    exact HH.out.2.2.1

theorem wpList_copy {ops : Array Oper} {rest : List Oper} {o : Oper} {a : Act} {w : World} {Q : Exit → Act → World → Prop}
    (hg : o.guard = none) (s x : Operand) (hop : o.op = Op.call { callee := Callee.builtin Builtin.append, args := #[s, x], argTypes := #[28, 28] })
    {base p : Option Addr} {n cap : Nat} (hs : a.eval s = .slice base 0 0) (hx : a.eval x = .slice p n cap) {z : Bool} {B E : Nat} {L : List Sp} (h : SpsAt z w B E (.slice p n cap) L) (hn : L.length = 0 ∨ L.length = 3)
    (hK : ∀ p' cap' w', SpsAt true w' w.heap.size w'.heap.size (.slice p' n cap') L → Below w.heap.size w w' → wpList Try.prog ops Q rest (a.put o.dst (.slice p' n cap')) w') : wpList Try.prog ops Q (o :: rest) a w := by
  obtain ⟨p', cap', w', hr, hS, hB⟩ := copy_run h hn base o.type
  exact wpList_app hg s x _ hop hs hx hr (hK _ _ _ hS.out hB.out)

set_option maxHeartbeats 1000000 in
theorem l11Copy_any (x : World) (z : Bool) (B E : Nat) (a : Bool) (v : Value) (L : List Sp) (c : Bool) (l u : Int) (h : SpsAt z x B E v L) (hn : L.length = 0 ∨ L.length = 3) :
    Calls Try.prog 54 #[.agg #[.bool a, v, .bool c, .int .i64 l, .int .i64 u]] x fun e y => ∃ v', e = .returned (.agg #[.bool a, v', .bool c, .int .i64 l, .int .i64 u]) ∧ SpsAt true y x.heap.size y.heap.size v' L ∧ Below x.heap.size x y := by
  obtain ⟨p, cap, rfl⟩ := h.shape
  have HN : Hid (L.length = 0 ∨ L.length = 3) := hn
  have H : Hid (SpsAt z x B E (.slice p L.length cap) L) := h
  clear h hn
  generalize hL : L.length = n at H
  have HL : Hid (L.length = n) := hL
  clear hL
  go_enter Try.func54, Try.ntmps54
  go_wp2_with (refine wpList_copy rfl _ _ rfl rfl rfl (H.out.later (by go_grown)) HN.out ?_; intro p' cap' w' hS hB
               have f0 := hB.cell (p := ⟨x.heap.size + 1 + 1, 0, none⟩) (by simp)
               have f1 := hB.cell (p := ⟨x.heap.size + 1 + 1, 1, none⟩) (by simp)
               have f2 := hB.cell (p := ⟨x.heap.size + 1 + 1, 2, none⟩) (by simp)
               have f3 := hB.cell (p := ⟨x.heap.size + 1 + 1, 3, none⟩) (by simp)
               have f4 := hB.cell (p := ⟨x.heap.size + 1 + 1, 4, none⟩) (by simp)
               have ff := hB.frozen (p := ⟨x.heap.size + 1 + 1, 1, none⟩) (by simp)
               have e0 := hB.cell (p := ⟨x.heap.size + 1, 0, none⟩) (by simp)
               have e1 := hB.cell (p := ⟨x.heap.size + 1, 1, none⟩) (by simp)
               have e2 := hB.cell (p := ⟨x.heap.size + 1, 2, none⟩) (by simp)
               have e3 := hB.cell (p := ⟨x.heap.size + 1, 3, none⟩) (by simp)
               have e4 := hB.cell (p := ⟨x.heap.size + 1, 4, none⟩) (by simp)
               have ef0 := hB.frozen (p := ⟨x.heap.size + 1, 0, none⟩) (by simp)
               have ef1 := hB.frozen (p := ⟨x.heap.size + 1, 1, none⟩) (by simp)
               have ef2 := hB.frozen (p := ⟨x.heap.size + 1, 2, none⟩) (by simp)
               have ef3 := hB.frozen (p := ⟨x.heap.size + 1, 3, none⟩) (by simp)
               have ef4 := hB.frozen (p := ⟨x.heap.size + 1, 4, none⟩) (by simp)
               simp [go_sem] at f0 f1 f2 f3 f4 ff e0 e1 e2 e3 e4 ef0 ef1 ef2 ef3 ef4
               have hz := hB.size
               simp at hz
               have HB : Hid (Below x.heap.size x w') := Below.trans (by go_grown) (hB.mono (by simp; omega))
               have HS : Hid (SpsAt true w' (x.heap.size + 1 + 1 + 1 + 1) w'.heap.size (.slice p' n cap') L) := hS.wide (by simp) (Nat.le_refl _) (Nat.le_refl _)
               clear hB hS)
  refine bodyPost_ret (v := .agg #[.bool a, .slice p' n cap', .bool c, .int .i64 l, .int .i64 u]) (by simp [results, Try.results54, go_sem, e0, e1, e2, e3, e4, f0, f1, f2, f3, f4, ff, ef0, ef1, ef2, ef3, ef4]) rfl ⟨_, rfl, ?_, ?_⟩
  · refine SpsAt.wide (B := x.heap.size + 1 + 1 + 1 + 1) (E := w'.heap.size) ?_ (by omega) (by simp) (by simp)
    repeat (refine SpsAt.off ?_ (by omega))
    exact HS.out
  · repeat (refine Below.setCell ?_ (by simp <;> omega) _)
    exact HB.out
end Go.Proofs.Ytdomalclpjijaaa

/-
  The contract of the program's iterator over the spans of two states (pairs).
-/
namespace Go.Proofs.Ytdomalclpjijaaa
open Go.RowKit Go.Shelf
set_option linter.unusedVariables false
set_option linter.unusedSimpArgs false
attribute [local go_sem] Oper.semAt_some

def upto {α : Type} (f : Nat → α) (k : Nat) : List α := (List.range k).map f
theorem upto_succ {α : Type} (f : Nat → α) (k : Nat) : upto f (k + 1) = upto f k ++ [f k] := by simp [upto, List.range_succ]
theorem upto_length {α : Type} (f : Nat → α) (k : Nat) : (upto f k).length = k := by simp [upto]

/-- the pairs of spans of two states, by number -/
def pairF (L M : List Sp) (c d : Sp) (k : Nat) : Sp × Sp := if k < 3 then (L.getD k noSp, M.getD k noSp) else (c, d)
def encP (x : Sp × Sp) : Array Value := #[.agg #[.bool x.1.1, .int .i64 x.1.2.1, .int .i64 x.1.2.2], .agg #[.bool x.2.1, .int .i64 x.2.2.1, .int .i64 x.2.2.2]]
/-- what the iterator reads: the two boxes and the two rows, all below N -/
structure PairsAt (W : World) (N Ba Bb : Nat) (L M : List Sp) (c d : Sp) (g o cap g' o' cap' : Nat) : Prop where
  ba : Ba < N
  bb : Bb < N
  hg : g < N
  hg' : g' < N
  a1 : W.cell? ⟨Ba, 1, none⟩ = some (.slice (some ⟨g, o, none⟩) 3 cap)
  a2 : W.cell? ⟨Ba, 2, none⟩ = some (.bool c.1)
  a3 : W.cell? ⟨Ba, 3, none⟩ = some (.int .i64 c.2.1)
  a4 : W.cell? ⟨Ba, 4, none⟩ = some (.int .i64 c.2.2)
  b1 : W.cell? ⟨Bb, 1, none⟩ = some (.slice (some ⟨g', o', none⟩) 3 cap')
  b2 : W.cell? ⟨Bb, 2, none⟩ = some (.bool d.1)
  b3 : W.cell? ⟨Bb, 3, none⟩ = some (.int .i64 d.2.1)
  b4 : W.cell? ⟨Bb, 4, none⟩ = some (.int .i64 d.2.2)
  l : ∀ j, j < 3 → Spn W g (o + j * 3) (L.getD j noSp)
  m : ∀ j, j < 3 → Spn W g' (o' + j * 3) (M.getD j noSp)
theorem Spn.below {x y : World} {g o N : Nat} {s : Sp} (h : Spn x g o s) (hb : Below N x y) (hg : g < N) : Spn y g o s :=
  ⟨(hb.cell (p := ⟨g, _, none⟩) hg).trans h.c0, (hb.cell (p := ⟨g, _, none⟩) hg).trans h.c1, (hb.cell (p := ⟨g, _, none⟩) hg).trans h.c2⟩
theorem PairsAt.below {W W' : World} {N Ba Bb : Nat} {L M : List Sp} {c d : Sp} {g o cap g' o' cap' : Nat} (h : PairsAt W N Ba Bb L M c d g o cap g' o' cap') (hb : Below N W W') : PairsAt W' N Ba Bb L M c d g o cap g' o' cap' :=
  ⟨h.ba, h.bb, h.hg, h.hg', (hb.cell (p := ⟨Ba, _, none⟩) h.ba).trans h.a1, (hb.cell (p := ⟨Ba, _, none⟩) h.ba).trans h.a2, (hb.cell (p := ⟨Ba, _, none⟩) h.ba).trans h.a3, (hb.cell (p := ⟨Ba, _, none⟩) h.ba).trans h.a4,
    (hb.cell (p := ⟨Bb, _, none⟩) h.bb).trans h.b1, (hb.cell (p := ⟨Bb, _, none⟩) h.bb).trans h.b2, (hb.cell (p := ⟨Bb, _, none⟩) h.bb).trans h.b3, (hb.cell (p := ⟨Bb, _, none⟩) h.bb).trans h.b4,
    fun j hj => (h.l j hj).below hb h.hg, fun j hj => (h.m j hj).below hb h.hg'⟩

theorem one_way {e : Ending} {A B : Prop} (h : (e = .returned (.bool true) ∧ A) ∨ (e = .returned (.bool false) ∧ B)) : ∃ b : Bool, e = .returned (.bool b) ∧ Hid ((b = true ∧ A) ∨ (b = false ∧ B)) := by
  rcases h with ⟨h, a⟩ | ⟨h, b⟩
  · exact ⟨true, h, .inl ⟨rfl, a⟩⟩
  · exact ⟨false, h, .inr ⟨rfl, b⟩⟩

set_option maxRecDepth 100000 in
set_option maxHeartbeats 4000000 in
theorem pairs1_in (n : Nat) (hn : 1 ≤ n) (q Ba Bb N : Nat) (L M : List Sp) (c d : Sp) (g o cap g' o' cap' : Nat) (J Jx : List (Sp × Sp) → World → Prop)
    (hAb : ∀ (pre : List (Sp × Sp)) (W : World), J pre W → J pre W.drew)
    (hY : ∀ pre x W, J pre W → pre.length < 4 → YieldAt Fence.wide (n - 1) Try.prog q (encP x) W fun e W' =>
      (e = .returned (.bool true) ∧ J (pre ++ [x]) W' ∧ Below N W W') ∨ (e = .returned (.bool false) ∧ Jx (pre ++ [x]) W'))
    (W : World) (hP : PairsAt W N Ba Bb L M c d g o cap g' o' cap') (h0 : J [] W) :
    CallsIn Fence.wide n Try.prog 66 #[.func (.yield q) #[] #[], .pointer (some ⟨Ba, 0, none⟩), .pointer (some ⟨Bb, 0, none⟩)] W fun e W' => (∃ v, e = .returned v) ∧
      ((∃ ys, ys = upto (pairF L M c d) 4 ∧ J ys W') ∨ (∃ pre, (∃ k, k ≤ 4 ∧ pre = upto (pairF L M c d) k) ∧ Jx pre W')) := by
  refine callsIn_of_wp Try.func66 rfl trivial ?_ rfl
  simp only [Try.ntmps66, List.size_toArray, List.length_cons, List.length_nil, Nat.reduceAdd, Nat.reduceSub, Array.replicate_succ, Array.replicate_zero, List.push_toArray, List.append_toArray, List.nil_append, List.cons_append]
  have a1 := hP.a1
  gi_wp2
  gi_loopw [8] (fun i wr => ∃ k : Nat, k ≤ 3 ∧ i = .int .i64 k ∧ J (upto (pairF L M c d) k) wr ∧ PairsAt wr N Ba Bb L M c d g o cap g' o' cap')
    (fun i _ => 3 - (intOf i).toNat)
  case atStart => exact ⟨0, Nat.zero_le _, rfl, h0, hP⟩
  case round =>
    clear a1
    obtain ⟨k, hk, rfl, hJs, hQ⟩ := hrel
    by_cases hlt : k < 3
    · have hki : (k : Int) < 3 := by omega
      have a1 := hQ.a1
      have b1 := hQ.b1
      obtain ⟨q0, q1, q2⟩ := hQ.l k hlt
      obtain ⟨r0, r1, r2⟩ := hQ.m k hlt
      have e1 : pairF L M c d k = (L.getD k noSp, M.getD k noSp) := if_pos hlt
      generalize hI : L.getD k noSp = I at q0 q1 q2 e1
      generalize hK : M.getD k noSp = K at r0 r1 r2 e1
      clear hI hK
      obtain ⟨i0, i1, i2⟩ := I
      obtain ⟨k0, k1, k2⟩ := K
      simp only at q0 q1 q2 r0 r1 r2
      obtain ⟨fn, tmps, assign, body, hy, hR⟩ := hY _ ((i0, i1, i2), (k0, k1, k2)) wr.drew (hAb _ _ hJs) (by rw [upto_length]; omega)
      unfold encP at hy
      dsimp only at hy
      gi_wp2
      have hmx : Try.prog.follows .mixedOrders = true := by kernel_rfl
      gi_region_with_o (refine hR.mono ?_; rintro e W3 hh; have hh1 := one_way hh; clear hh; obtain ⟨b, rfl, hh3⟩ := hh1)
      all_goals
        clear hmx hY hy hR
        rcases hh3.out with ⟨rfl, hJ3, hk3⟩ | ⟨rfl, hJx3⟩
        · clear hh3 a1 b1 q0 q1 q2 r0 r1 r2
          gi_wp2
          go_roundw
          case rel => exact ⟨k + 1, by omega, by simp, by rw [upto_succ, e1]; exact hJ3, hQ.below (((Below.refl _ _).drew).trans hk3)⟩
          case measure => simp [intOf]; omega
        · clear hh3 a1 b1 q0 q1 q2 r0 r1 r2
          gi_wp2
          refine bodyPost_ret (results_none rfl _ _ _) rfl ?_
          exact ⟨⟨_, rfl⟩, .inr ⟨_, ⟨k + 1, by omega, by rw [upto_succ, e1]⟩, hJx3⟩⟩
    · obtain rfl : k = 3 := by omega
      have e1 : pairF L M c d 3 = (c, d) := if_neg (by omega)
      obtain ⟨c0, c1, c2⟩ := c
      obtain ⟨d0, d1, d2⟩ := d
      have a2 := hQ.a2
      have a3 := hQ.a3
      have a4 := hQ.a4
      have b2 := hQ.b2
      have b3 := hQ.b3
      have b4 := hQ.b4
      simp only at a2 a3 a4 b2 b3 b4
      obtain ⟨fn, tmps, assign, body, hy, hR⟩ := hY _ ((c0, c1, c2), (d0, d1, d2)) wr hJs (by rw [upto_length]; omega)
      unfold encP at hy
      dsimp only at hy
      gi_wp2
      refine hR.mono ?_
      rintro e W3 (⟨rfl, hJ3, hk3⟩ | ⟨rfl, hJx3⟩)
      · gi_wp2
        go_end0
        exact ⟨⟨_, rfl⟩, .inl ⟨_, rfl, by rw [upto_succ _ 3, e1]; exact hJ3⟩⟩
      · gi_wp2
        go_end0
        exact ⟨⟨_, rfl⟩, .inr ⟨_, ⟨4, by omega, by rw [upto_succ _ 3, e1]⟩, hJx3⟩⟩

theorem pairs_stops (n : Nat) (hn : 1 ≤ n) (Ba Bb N : Nat) (L M : List Sp) (c d : Sp) (g o cap g' o' cap' : Nat) (w : World) (hN : N ≤ w.heap.size) (hP : PairsAt w N Ba Bb L M c d g o cap g' o' cap') :
    SeqStopsK Fence.wide n Try.prog 66 #[.pointer (some ⟨Ba, 0, none⟩), .pointer (some ⟨Bb, 0, none⟩)] encP (Below N) (fun ys => ys = upto (pairF L M c d) 4) (fun pre => ∃ k, k ≤ 4 ∧ pre = upto (pairF L M c d) k) 4 w := fun l J Jx W hW hA _ hY h0 =>
  pairs1_in n hn l Ba Bb N L M c d g o cap g' o' cap' J Jx (fun pre X hX => hA pre X X.drew none hX ⟨rfl, rfl, rfl, Nat.le_refl _, fun _ _ _ => rfl⟩ (fun r e => by cases e)) hY W (hP.below (hW.mono hN)) h0

set_option maxHeartbeats 1000000 in
theorem pairs_any (w : World) (a : Bool) (v : Value) (c : Bool) (l u : Int) (b : Bool) (v' : Value) (d : Bool) (l' u' : Int) (hv : v.oneCell' = true) (hv' : v'.oneCell' = true) :
    Calls Try.prog 49 #[.agg #[.bool a, v, .bool c, .int .i64 l, .int .i64 u], .agg #[.bool b, v', .bool d, .int .i64 l', .int .i64 u']] w fun e w' =>
      e = .returned (.func (.func 66) #[] #[.pointer (some ⟨w.heap.size, 0, none⟩), .pointer (some ⟨w.heap.size + 1, 0, none⟩)]) ∧ w' = (w.alloc (.cells #[.bool a, v, .bool c, .int .i64 l, .int .i64 u] 31)).alloc (.cells #[.bool b, v', .bool d, .int .i64 l', .int .i64 u'] 31) := by
  go_enter Try.func49, Try.ntmps49
  go_wp2
  go_ret
  exact ⟨rfl, rfl⟩
end Go.Proofs.Ytdomalclpjijaaa
