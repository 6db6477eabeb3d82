/-
  A state copied: the program's copyState and the model's l11Copy, at states that are ok.
-/
import Derived.Test.YtbmjjmbimfdkoaaSEntS
import Derived.Deep.AppendSrc
import Derived.RangeFuncBox
namespace Go.Proofs.Ytbmjjmbimfdkoaa
open Go.RowKit
set_option linter.unusedVariables false
set_option linter.unusedSimpArgs false

theorem wpList_app {P : Program} {ops : Array Oper} {rest : List Oper} {o : Oper} {a : Act} {w : World} {Q : Exit → Act → World → Prop}
    (hg : o.guard = none) (s x : Operand) (t : TypeId) (hop : o.op = Op.call { callee := Callee.builtin Builtin.append, args := #[s, x], argTypes := #[t, t] })
    {vs vx : Value} (hs : a.eval s = vs) (hx : a.eval x = vx) {v' : Value} {w' : World} (hrun : (Builtin.append_ #[t, t] o.type #[vs, vx]).run P w = .ok v' w')
    (hK : wpList P ops Q rest (a.put o.dst v') w') : wpList P ops Q (o :: rest) a w := by
  refine wpList_plain hg fun K hK' => ?_
  unfold Oper.wp
  simp [execOp, hop, resolve, invoke, builtin, hs, hx, hrun, Result.andThen]
  exact hK' _ _ hK
theorem cells_block {y : World} {b : Nat} {A : Array Value} {t : TypeId} (hb : y.heap[b]? = some (.cells A t (0, 0))) : (∀ (k : Nat) (v : Value), A[k]? = some v → y.cell? ⟨b, k, none⟩ = some v) ∧ ∀ k, y.frozen? ⟨b, k, none⟩ = false :=
  ⟨fun k v hv => by simp [World.cell?, hb, hv], fun k => by simp [World.frozen?, hb]⟩
theorem three_of {L : List Sp} (h : L.length = 3) : ∃ s0 s1 s2, L = [s0, s1, s2] := by
  match L, h with
  | [a, b, c], _ => exact ⟨a, b, c, rfl⟩

theorem copy3_run (x : World) (base : Option Addr) (g o cap : Nat) (s0 s1 s2 : Sp) (ty : TypeId) (h0 : Spn x g o s0) (h1 : Spn x g (o + 1 * 3) s1) (h2 : Spn x g (o + 2 * 3) s2) :
    ∃ cap' w', (Builtin.append_ #[29, 29] ty #[.slice base 0 0, .slice (some ⟨g, o, none⟩) 3 cap]).run Try.prog x = .ok (.slice (some ⟨x.heap.size, 0, none⟩) 3 cap') w' ∧
      Hid (SpsAt true w' x.heap.size w'.heap.size (.slice (some ⟨x.heap.size, 0, none⟩) 3 cap') [s0, s1, s2]) ∧ Hid (Below x.heap.size x w') := by
  obtain ⟨i, hi, hz0, hz1, hz2⟩ : ∃ i, Try.prog.info? 30 = some i ∧ i.zero = some (aggS noSp) ∧ i.size = 3 ∧ i.bytes = 24 := info_parts infoSpan
  have hold : (Builtin.firstCells i.size 0 (.slice base 0 0)).run Try.prog x.drew = .ok ([] : List Value).toArray x.drew := by
    cases base with
    | none => exact run_firstCells_none x.drew i.size 0 0 0
    | some a => exact run_firstCells_some x.drew i.size 0 a 0 0 [] (by simp) (by simp)
  have hs : Src Try.prog i.size 29 (.slice (some ⟨g, o, none⟩) 3 cap) 3 (cs3 s0 ++ cs3 s1 ++ cs3 s2) x := by
    refine Src.ofSlice (e' := 30) x Try.underlying29 _ _ _ _ (by rw [hz1]; rfl) ?_ ?_
    · intro j u hu
      rw [Addr.add_mid]
      match j, hu with
      | 0, hu => obtain rfl : Value.bool s0.1 = u := by simpa [cs3] using hu
                 exact h0.c0
      | 1, hu => obtain rfl : Value.int .i64 s0.2.1 = u := by simpa [cs3] using hu
                 exact h0.c1
      | 2, hu => obtain rfl : Value.int .i64 s0.2.2 = u := by simpa [cs3] using hu
                 exact h0.c2
      | 3, hu => obtain rfl : Value.bool s1.1 = u := by simpa [cs3] using hu
                 exact h1.c0
      | 4, hu => obtain rfl : Value.int .i64 s1.2.1 = u := by simpa [cs3] using hu
                 exact h1.c1
      | 5, hu => obtain rfl : Value.int .i64 s1.2.2 = u := by simpa [cs3] using hu
                 exact h1.c2
      | 6, hu => obtain rfl : Value.bool s2.1 = u := by simpa [cs3] using hu
                 exact h2.c0
      | 7, hu => obtain rfl : Value.int .i64 s2.2.1 = u := by simpa [cs3] using hu
                 exact h2.c1
      | 8, hu => obtain rfl : Value.int .i64 s2.2.2 = u := by simpa [cs3] using hu
                 exact h2.c2
      | j + 9, hu => simp [cs3] at hu
    · intro u hu
      simp [cs3] at hu
      rcases hu with rfl | rfl | rfl | rfl | rfl | rfl | rfl | rfl | rfl <;> rfl
  have hrun := run_append_grow_src x 29 29 ty 30 i (aggS noSp) Try.underlying29 hi hz0 base 0 0 [] hold _ 3 _ hs (by omega) (by omega) (by rw [hz2]; decide)
  refine ⟨_, _, hrun, ?_, ?_⟩
  · generalize hA : ([] ++ (cs3 s0 ++ cs3 s1 ++ cs3 s2)).toArray ++ Builtin.zeroCells (aggS noSp).cells (grownCap x (0 + 3) 0 30 - (0 + 3)) = A
    have hb : (x.drew.alloc (.cells A 30)).heap[x.heap.size]? = some (.cells A 30 (0, 0)) := World.alloc_heap_new x.drew _
    have hc : ∀ k v, (cs3 s0 ++ cs3 s1 ++ cs3 s2)[k]? = some v → (x.drew.alloc (.cells A 30)).cell? ⟨x.heap.size, k, none⟩ = some v := by
      intro k v hv
      have hAk : A[k]? = some v := by
        rw [← hA, Array.getElem?_append_left (by
          have := (List.getElem?_eq_some_iff.1 hv).1
          simpa using this)]
        simpa using hv
      exact (cells_block hb).1 k v hAk
    refine ⟨_, _, rfl, by unfold maxLen; simp, .inr ⟨x.heap.size, 0, rfl, Nat.le_refl _, by simp, Nat.le_refl _, fun _ => (cells_block hb).2, fun j hj => ?_⟩⟩
    match j, hj with
    | 0, _ => exact ⟨hc 0 _ rfl, hc 1 _ rfl, hc 2 _ rfl⟩
    | 1, _ => exact ⟨hc 3 _ rfl, hc 4 _ rfl, hc 5 _ rfl⟩
    | 2, _ => exact ⟨hc 6 _ rfl, hc 7 _ rfl, hc 8 _ rfl⟩
    | j + 3, hj => exact absurd hj (by simp)
  · exact (Below.refl _ x).drew.alloc (Nat.le_refl _) _

theorem copy0_run (x : World) (base p : Option Addr) (cap : Nat) (ty : TypeId) :
    (Builtin.append_ #[29, 29] ty #[.slice base 0 0, .slice p 0 cap]).run Try.prog x = .ok (.slice base 0 0) x := by
  obtain ⟨i, hi, hz0, hz1, hz2⟩ : ∃ i, Try.prog.info? 30 = some i ∧ i.zero = some (aggS noSp) ∧ i.size = 3 ∧ i.bytes = 24 := info_parts infoSpan
  have hs : Src Try.prog i.size 29 (.slice p 0 cap) 0 [] x := by
    cases p with
    | none => exact Src.ofNil x Try.underlying29 _
    | some a => exact Src.ofSlice x Try.underlying29 a 0 cap [] (by simp) (by simp) (by simp)
  cases base with
  | some a =>
    obtain ⟨b, off, e⟩ := a
    simp [Builtin.append_, run_underlying Try.underlying29, sizeOf, typeInfo, hi, hs.len, hs.cells, storeCells]
  | none => simp [Builtin.append_, run_underlying Try.underlying29, sizeOf, typeInfo, hi, hs.len, hs.cells]

/-- a row of no spans, or of three, copied -/
theorem copy_run {x : World} {z : Bool} {B E : Nat} {p : Option Addr} {n cap : Nat} {L : List Sp} (h : SpsAt z x B E (.slice p n cap) L) (hn : L.length = 0 ∨ L.length = 3) (base : Option Addr) (ty : TypeId) :
    ∃ p' cap' w', (Builtin.append_ #[29, 29] ty #[.slice base 0 0, .slice p n cap]).run Try.prog x = .ok (.slice p' n cap') w' ∧
      Hid (SpsAt true w' x.heap.size w'.heap.size (.slice p' n cap') L) ∧ Hid (Below x.heap.size x w') := by
  obtain ⟨p1, cap1, hv, _, hq⟩ := h
  injection hv with e1 e2 e3
  subst e1 e2 e3
  rcases hn with h0 | h3
  · rw [h0]
    obtain rfl : L = [] := List.length_eq_zero_iff.1 h0
    exact ⟨base, 0, x, copy0_run _ _ _ _ _, SpsAt.nil, Below.refl _ _⟩
  · obtain ⟨s0, s1, s2, rfl⟩ := three_of h3
    rcases hq with h0 | ⟨g, o, rfl, _, _, _, _, hj⟩
    · cases h0
    · obtain ⟨cap', w', hr, hS, hB⟩ := copy3_run x base g o cap s0 s1 s2 ty (hj 0 (by simp)) (hj 1 (by simp)) (hj 2 (by simp))
      exact ⟨_, cap', w', hr, hS, hB⟩

set_option maxHeartbeats 1000000 in
theorem copyState_any (x : World) (z : Bool) (B E : Nat) (a : Bool) (v : Value) (L : List Sp) (c : Bool) (l u : Int) (h : SpsAt z x B E v L) (hn : L.length = 0 ∨ L.length = 3) :
    Calls Try.prog 78 #[.agg #[.bool a, v, .bool c, .int .i64 l, .int .i64 u]] x fun e y => ∃ v', e = .returned (.agg #[.bool a, v', .bool c, .int .i64 l, .int .i64 u]) ∧ SpsAt true y x.heap.size y.heap.size v' L ∧ Below x.heap.size x y := by
  obtain ⟨p, cap, rfl⟩ := h.shape
  have hbW : Below x.heap.size x ((x.alloc (.cells #[.bool a, .slice p L.length cap, .bool c, .int .i64 l, .int .i64 u] 32)).alloc (.cells #[.bool false, .slice none 0 0, .bool false, .int .i64 0, .int .i64 0] 32)) := by go_grown
  have k0 := (Bx5.new x (.bool a) (.slice p L.length cap) (.bool c) (.int .i64 l) (.int .i64 u) 32).alloc (.cells #[.bool false, .slice none 0 0, .bool false, .int .i64 0, .int .i64 0] 32)
  have k1 := Bx5.new (x.alloc (.cells #[.bool a, .slice p L.length cap, .bool c, .int .i64 l, .int .i64 u] 32)) (.bool false) (.slice none 0 0) (.bool false) (.int .i64 0) (.int .i64 0) 32
  simp only [World.size_alloc] at k1
  have h2 := h.later hbW
  have hz : ((x.alloc (.cells #[.bool a, .slice p L.length cap, .bool c, .int .i64 l, .int .i64 u] 32)).alloc (.cells #[.bool false, .slice none 0 0, .bool false, .int .i64 0, .int .i64 0] 32)).heap.size = x.heap.size + 1 + 1 := by simp
  obtain ⟨p', cap', w', hr, hS, hB⟩ := copy_run h2 hn none 29
  have j0 := k0.later hB.out
  have j1 := k1.later hB.out
  have HH : Hid (Bx5 w' x.heap.size (.bool a) (.slice p L.length cap) (.bool c) (.int .i64 l) (.int .i64 u) ∧ Bx5 w' (x.heap.size + 1) (.bool false) (.slice none 0 0) (.bool false) (.int .i64 0) (.int .i64 0) ∧ Below x.heap.size x w' ∧ SpsAt true w' (x.heap.size + 1 + 1) w'.heap.size (.slice p' L.length cap') L ∧ x.heap.size + 1 + 1 ≤ w'.heap.size) :=
    ⟨j0, j1, hbW.trans (hB.out.mono hbW.size), by rw [hz] at hS; exact hS.out, by have := hB.out.size; omega⟩
  clear k1 j0 j1 hS hB h h2 hbW hz hn
  obtain ⟨kl, a0, a1, a2, a3, a4, af⟩ := k0
  go_enter Try.func78, Try.ntmps78
  go_wp2_with (refine wpList_app rfl _ _ 29 rfl rfl rfl hr ?_; clear hr kl a0 a1 a2 a3 a4 af; obtain ⟨el, e0, e1, e2, e3, e4, ef⟩ := HH.out.1; obtain ⟨fl, f0, f1, f2, f3, f4, ff⟩ := HH.out.2.1; have ef1 := ef 1)
  refine bodyPost_ret (v := .agg #[.bool a, .slice p' L.length cap', .bool c, .int .i64 l, .int .i64 u]) (by simp [results, Try.results78, go_sem, el, fl, e0, e1, e2, e3, e4, f0, f1, f2, f3, f4, ff, ef]) rfl ⟨_, rfl, ?_, ?_⟩
  · have hl := HH.out.2.2.2.2
    refine SpsAt.wide (B := x.heap.size + 1 + 1) (E := w'.heap.size) ?_ (by omega) (by simp) (by simp)
    repeat (refine SpsAt.off ?_ (by omega))
    exact HH.out.2.2.2.1
  · repeat (refine Below.setCell ?_ (by simp <;> omega) _)
    exact HH.out.2.2.1

theorem wpList_copy {ops : Array Oper} {rest : List Oper} {o : Oper} {a : Act} {w : World} {Q : Exit → Act → World → Prop}
    (hg : o.guard = none) (s x : Operand) (hop : o.op = Op.call { callee := Callee.builtin Builtin.append, args := #[s, x], argTypes := #[29, 29] })
    {base p : Option Addr} {n cap : Nat} (hs : a.eval s = .slice base 0 0) (hx : a.eval x = .slice p n cap) {z : Bool} {B E : Nat} {L : List Sp} (h : SpsAt z w B E (.slice p n cap) L) (hn : L.length = 0 ∨ L.length = 3)
    (hK : ∀ p' cap' w', SpsAt true w' w.heap.size w'.heap.size (.slice p' n cap') L → Below w.heap.size w w' → wpList Try.prog ops Q rest (a.put o.dst (.slice p' n cap')) w') : wpList Try.prog ops Q (o :: rest) a w := by
  obtain ⟨p', cap', w', hr, hS, hB⟩ := copy_run h hn base o.type
  exact wpList_app hg s x _ hop hs hx hr (hK _ _ _ hS.out hB.out)

set_option maxHeartbeats 1000000 in
theorem l11Copy_any (x : World) (z : Bool) (B E : Nat) (a : Bool) (v : Value) (L : List Sp) (c : Bool) (l u : Int) (h : SpsAt z x B E v L) (hn : L.length = 0 ∨ L.length = 3) :
    Calls Try.prog 76 #[.agg #[.bool a, v, .bool c, .int .i64 l, .int .i64 u]] x fun e y => ∃ v', e = .returned (.agg #[.bool a, v', .bool c, .int .i64 l, .int .i64 u]) ∧ SpsAt true y x.heap.size y.heap.size v' L ∧ Below x.heap.size x y := by
  obtain ⟨p, cap, rfl⟩ := h.shape
  have HN : Hid (L.length = 0 ∨ L.length = 3) := hn
  have H : Hid (SpsAt z x B E (.slice p L.length cap) L) := h
  clear h hn
  generalize hL : L.length = n at H
  have HL : Hid (L.length = n) := hL
  clear hL
  go_enter Try.func76, Try.ntmps76
  go_wp2_with (refine wpList_copy rfl _ _ rfl rfl rfl (H.out.later (by go_grown)) HN.out ?_; intro p' cap' w' hS hB
               have f0 := hB.cell (p := ⟨x.heap.size + 1 + 1, 0, none⟩) (by simp)
               have f1 := hB.cell (p := ⟨x.heap.size + 1 + 1, 1, none⟩) (by simp)
               have f2 := hB.cell (p := ⟨x.heap.size + 1 + 1, 2, none⟩) (by simp)
               have f3 := hB.cell (p := ⟨x.heap.size + 1 + 1, 3, none⟩) (by simp)
               have f4 := hB.cell (p := ⟨x.heap.size + 1 + 1, 4, none⟩) (by simp)
               have ff := hB.frozen (p := ⟨x.heap.size + 1 + 1, 1, none⟩) (by simp)
               have e0 := hB.cell (p := ⟨x.heap.size + 1, 0, none⟩) (by simp)
               have e1 := hB.cell (p := ⟨x.heap.size + 1, 1, none⟩) (by simp)
               have e2 := hB.cell (p := ⟨x.heap.size + 1, 2, none⟩) (by simp)
               have e3 := hB.cell (p := ⟨x.heap.size + 1, 3, none⟩) (by simp)
               have e4 := hB.cell (p := ⟨x.heap.size + 1, 4, none⟩) (by simp)
               have ef0 := hB.frozen (p := ⟨x.heap.size + 1, 0, none⟩) (by simp)
               have ef1 := hB.frozen (p := ⟨x.heap.size + 1, 1, none⟩) (by simp)
               have ef2 := hB.frozen (p := ⟨x.heap.size + 1, 2, none⟩) (by simp)
               have ef3 := hB.frozen (p := ⟨x.heap.size + 1, 3, none⟩) (by simp)
               have ef4 := hB.frozen (p := ⟨x.heap.size + 1, 4, none⟩) (by simp)
               simp [go_sem] at f0 f1 f2 f3 f4 ff e0 e1 e2 e3 e4 ef0 ef1 ef2 ef3 ef4
               have hz := hB.size
               simp at hz
               have HB : Hid (Below x.heap.size x w') := Below.trans (by go_grown) (hB.mono (by simp; omega))
               have HS : Hid (SpsAt true w' (x.heap.size + 1 + 1 + 1 + 1) w'.heap.size (.slice p' n cap') L) := hS.wide (by simp) (Nat.le_refl _) (Nat.le_refl _)
               clear hB hS)
  refine bodyPost_ret (v := .agg #[.bool a, .slice p' n cap', .bool c, .int .i64 l, .int .i64 u]) (by simp [results, Try.results76, go_sem, e0, e1, e2, e3, e4, f0, f1, f2, f3, f4, ff, ef0, ef1, ef2, ef3, ef4]) rfl ⟨_, rfl, ?_, ?_⟩
  · refine SpsAt.wide (B := x.heap.size + 1 + 1 + 1 + 1) (E := w'.heap.size) ?_ (by omega) (by simp) (by simp)
    repeat (refine SpsAt.off ?_ (by omega))
    exact HS.out
  · repeat (refine Below.setCell ?_ (by simp <;> omega) _)
    exact HB.out
end Go.Proofs.Ytbmjjmbimfdkoaa
