import Derived.Test.YtdomalclpjijaaaB9
import Derived.Test.YtdomalclpjijaaaB10
import Derived.Test.YtdomalclpjijaaaB22
import Derived.Maps.AppendAt
import Derived.Deep.RegionLaw
/-
  The program's StateEntry: what it hands back at any number.
-/
namespace Go.Proofs.Ytdomalclpjijaaa
open Go.RowKit
set_option linter.unusedVariables false
set_option linter.unusedSimpArgs false

/-- the state in which a call with words of a kind begins -/
def entF (k : Int) : St := if (kindF k).1 = true then (true, [kindF k, (true, 0, 0), (true, 0, 0)], (true, 0, 0)) else noSt
theorem entF_no {k l u : Int} (h : kindF k = (false, l, u)) : entF k = noSt := by unfold entF; rw [h]; simp
theorem entF_yes {k l u : Int} (h : kindF k = (true, l, u)) : entF k = (true, [(true, l, u), (true, 0, 0), (true, 0, 0)], (true, 0, 0)) := by unfold entF; rw [h]; simp
def EntAt (k : Int) (x : World) (e : Ending) (y : World) : Prop :=
  ∃ v, e = .returned (.agg #[.bool (entF k).1, v, .bool (entF k).2.2.1, .int .i64 (entF k).2.2.2.1, .int .i64 (entF k).2.2.2.2]) ∧ SpsAt true y x.heap.size y.heap.size v (entF k).2.1 ∧ Below x.heap.size x y
theorem spn_new (x : World) (a : Bool) (l u : Int) (t : TypeId) : Spn (x.alloc (.cells #[.bool a, .int .i64 l, .int .i64 u] t)) x.heap.size 0 (a, l, u) := ⟨by simp [go_sem], by simp [go_sem], by simp [go_sem]⟩

end Go.Proofs.Ytdomalclpjijaaa

/-
  The model's StateEntry: what it hands back at any number.
-/
namespace Go.Proofs.Ytdomalclpjijaaa
open Go.RowKit
set_option linter.unusedVariables false
set_option linter.unusedSimpArgs false

/-- an append whose run is known, as one step of a region that draws its order -/
theorem step_app {P : Program} {ops : Array Oper} {o : Oper} {a : Act} {w : World} {K : Act → World → Prop} {Q : Exit → Act → World → Prop} {E : Prop}
    (hg : o.guard = none) (s x : Operand) (t : TypeId) (hop : o.op = Op.call { callee := Callee.builtin Builtin.append, args := #[s, x], argTypes := #[t, t] })
    {vs vx : Value} (hs : a.eval s = vs) (hx : a.eval x = vx) {v' : Value} {w' : World} (hrun : (Builtin.append_ #[t, t] o.type #[vs, vx]).run P w = .ok v' w')
    (hK : K (a.put o.dst v') w') : if Region.wanted o (yielded ops a.tmps) = true then Oper.wp P o a w K Q else E := by
  have hw : Region.wanted o (yielded ops a.tmps) = true := by simp [Region.wanted, hg]
  rw [if_pos hw]
  unfold Oper.wp
  simp [execOp, hop, resolve, invoke, builtin, hs, hx, hrun, Result.andThen]
  exact hK
def cs3 (s : Sp) : List Value := [.bool s.1, .int .i64 s.2.1, .int .i64 s.2.2]
/-- a span appended to a row that is owned: the box that holds the row's slice, ahead of base, stands -/
theorem app_step (w5 : World) (ty : TypeId) (m base n : Nat) (v0 q0 q2 q3 q4 : Value) (xs : List Value) (a : Bool) (l u : Int) (hbx : Bx5 w5 m q0 v0 q2 q3 q4)
    (hown : w5.ownsRow base 29 3 v0 n xs) (hn : n ≤ 100) (hm : m < base) (hbase : base ≤ w5.heap.size) :
    ∃ p' cap' w', (Builtin.append_ #[28, 28] ty #[v0, .slice (some ⟨w5.heap.size, 0, none⟩) 1 1]).run Try.prog (w5.alloc (.cells #[.bool a, .int .i64 l, .int .i64 u] 29)) = .ok (.slice p' (n + 1) cap') w' ∧
      Bx5 w' m q0 v0 q2 q3 q4 ∧ Hid (w'.ownsRow base 29 3 (.slice p' (n + 1) cap') (n + 1) (xs ++ cs3 (a, l, u))) ∧ Hid (Below base w5 w') := by
  obtain ⟨i, hi, hz0, hz1, hz2⟩ : ∃ i, Try.prog.info? 29 = some i ∧ i.zero = some (aggS noSp) ∧ i.size = 3 ∧ i.bytes = 24 := info_parts infoSpan
  obtain ⟨v', w', hr, h2, h3, h4, h5⟩ := run_append_own_at (P := Try.prog) (w5.alloc (.cells #[.bool a, .int .i64 l, .int .i64 u] 29)) base 28 ty 29 i (aggS noSp) 3 24 Try.underlying28 hi hz0 hz1 hz2 rfl (by omega) v0 n xs (hown.alloc _) ⟨w5.heap.size, 0, none⟩ 1 1 (cs3 (a, l, u)) rfl
    (by
      intro j v hv
      rw [Addr.add_mid]
      match j, hv with
      | 0, hv => obtain rfl : Value.bool a = v := by simpa [cs3] using hv
                 simp [go_sem]
      | 1, hv => obtain rfl : Value.int .i64 l = v := by simpa [cs3] using hv
                 simp [go_sem]
      | 2, hv => obtain rfl : Value.int .i64 u = v := by simpa [cs3] using hv
                 simp [go_sem]
      | j + 3, hv => simp [cs3] at hv)
    (by intro v hv; simp [cs3] at hv; rcases hv with rfl | rfl | rfl <;> rfl) (by unfold maxLen; omega) (by omega) (by simp; omega)
  have hB : Below base w5 w' := ((Below.refl base w5).alloc hbase _).grown h3 (by simp; omega) (fun k hk => (hown.lt k hk).1)
  obtain ⟨p', cap', rfl⟩ : ∃ p' cap', v' = .slice p' (n + 1) cap' := by
    rcases h2.2 with ⟨_, h⟩ | ⟨g, cap, cur, h, _⟩
    · omega
    · exact ⟨_, _, h⟩
  refine ⟨p', cap', w', hr, ?_, h2, hB⟩
  have hl := hbx.lt
  exact ⟨by have := hB.size; omega, (hB.cell (p := ⟨m, 0, none⟩) hm).trans hbx.c0, (hB.cell (p := ⟨m, 1, none⟩) hm).trans hbx.c1, (hB.cell (p := ⟨m, 2, none⟩) hm).trans hbx.c2, (hB.cell (p := ⟨m, 3, none⟩) hm).trans hbx.c3, (hB.cell (p := ⟨m, 4, none⟩) hm).trans hbx.c4, fun k => (hB.frozen (p := ⟨m, k, none⟩) hm).trans (hbx.fz k)⟩

theorem owns_off {x : World} {base m i size n : Nat} {e : TypeId} {v u : Value} {xs : List Value} (h : x.ownsRow base e size v n xs) (hm : m < base) : (x.setCell ⟨m, i, none⟩ u).ownsRow base e size v n xs :=
  World.ownsRow.kept h (row := some m) ⟨rfl, rfl, rfl, by simp, fun k hk hne => by
    have hne' : m ≠ k := fun e => hne (by rw [e])
    simp [World.setCell, Array.getElem?_setIfInBounds_ne, Array.getElem?_modify, hne']⟩ (by
      cases hv : v.ownBlock with
      | none => simp
      | some k => have := (h.lt k hv).1; simp; omega)
theorem owns_later {x y : World} {base size n : Nat} {e : TypeId} {v : Value} {xs : List Value} (h : x.ownsRow base e size v n xs) (hb : Below x.heap.size x y) : y.ownsRow base e size v n xs :=
  World.ownsRow.kept h (row := none) ⟨hb.os, hb.tape, hb.output, hb.size, fun k hk _ => hb.block k hk⟩ (by cases hv : v.ownBlock <;> simp)

/-- a state that grows: its box, the row of spans that it owns, and the box of the result -/
structure Ent (x y : World) (m : Nat) (p : Option Addr) (cap n : Nat) (xs : List Value) : Prop where
  box : Bx5 y m (.bool true) (.slice p n cap) (.bool true) (.int .i64 0) (.int .i64 0)
  own : y.ownsRow (m + 1) 29 3 (.slice p n cap) n xs
  res : Bx5 y x.heap.size (.bool false) (.slice none 0 0) (.bool false) (.int .i64 0) (.int .i64 0)
  below : Below x.heap.size x y
  lt : x.heap.size < m
theorem Ent.later {x y z : World} {m : Nat} {p : Option Addr} {cap n : Nat} {xs : List Value} (h : Ent x y m p cap n xs) (hb : Below y.heap.size y z) : Ent x z m p cap n xs :=
  ⟨h.box.later hb, owns_later h.own hb, h.res.later hb, h.below.trans (hb.mono h.below.size), h.lt⟩
theorem Ent.app {x y z : World} {m : Nat} {p : Option Addr} {cap n : Nat} {xs : List Value} (h : Ent x y m p cap n xs) (hn : n ≤ 100) (ty : TypeId) (a : Bool) (l u : Int) (hb : Below y.heap.size y z) :
    ∃ p' cap' w', (Builtin.append_ #[28, 28] ty #[.slice p n cap, .slice (some ⟨z.heap.size, 0, none⟩) 1 1]).run Try.prog (z.alloc (.cells #[.bool a, .int .i64 l, .int .i64 u] 29)) = .ok (.slice p' (n + 1) cap') w' ∧
      m < z.heap.size ∧ z.cell? ⟨m, 1, none⟩ = some (.slice p n cap) ∧ w'.cell? ⟨m, 1, none⟩ = some (.slice p n cap) ∧ w'.frozen? ⟨m, 1, none⟩ = false ∧ Hid (Ent x (w'.setCell ⟨m, 1, none⟩ (.slice p' (n + 1) cap')) m p' cap' (n + 1) (xs ++ cs3 (a, l, u))) := by
  have hz := h.later hb
  have hm := hz.box.lt
  obtain ⟨p', cap', w', hr, hbx, hown, hbel⟩ := app_step z ty m (m + 1) n _ _ _ _ _ xs a l u hz.box hz.own hn (by omega) hm
  have hl := h.lt
  have hres : Bx5 w' x.heap.size (.bool false) (.slice none 0 0) (.bool false) (.int .i64 0) (.int .i64 0) := by
    have hB := hbel.out
    have hx : x.heap.size < m + 1 := by omega
    obtain ⟨_, c0, c1, c2, c3, c4, cf⟩ := hz.res
    exact ⟨by have := hB.size; omega, (hB.cell (p := ⟨x.heap.size, 0, none⟩) hx).trans c0, (hB.cell (p := ⟨x.heap.size, 1, none⟩) hx).trans c1, (hB.cell (p := ⟨x.heap.size, 2, none⟩) hx).trans c2, (hB.cell (p := ⟨x.heap.size, 3, none⟩) hx).trans c3, (hB.cell (p := ⟨x.heap.size, 4, none⟩) hx).trans c4, fun k => (hB.frozen (p := ⟨x.heap.size, k, none⟩) hx).trans (cf k)⟩
  exact ⟨p', cap', w', hr, hm, hz.box.c1, hbx.c1, hbx.fz 1, ⟨hbx.set1, owns_off hown.out (by omega), hres.off (by omega), (hz.below.trans (hbel.out.mono (by omega))).setCell (p := ⟨m, 1, none⟩) (by show x.heap.size ≤ m; omega) _, hl⟩⟩
theorem Ent.drew {x y : World} {m : Nat} {p : Option Addr} {cap n : Nat} {xs : List Value} (h : Ent x y m p cap n xs) : Ent x y.drew m p cap n xs := h.later (Below.refl _ _).drew
def rowE (s : Sp) : Nat → List Value
  | 0 => []
  | 1 => [] ++ cs3 s
  | k + 2 => rowE s (k + 1) ++ cs3 (true, 0, 0)
theorem rowE_next (s : Sp) (k : Nat) (h : 1 ≤ k) : rowE s k ++ cs3 (true, 0, 0) = rowE s (k + 1) := by
  cases k with
  | zero => omega
  | succ k => rfl
/-- three spans that a row owns are read there -/
theorem Ent.spans {x y : World} {m : Nat} {p : Option Addr} {cap : Nat} {s : Sp} (h : Ent x y m p cap 3 (rowE s 3)) : SpsAt true y (m + 1) y.heap.size (.slice p 3 cap) [s, (true, 0, 0), (true, 0, 0)] := by
  have ho := h.own
  rcases h.own.2 with ⟨_, h0⟩ | ⟨g, cap', cur, hv, hg, hh, _⟩
  · omega
  injection hv with hp _ hc
  subst hp hc
  have hlt := (h.own.lt g rfl).2
  have hc := fun j hj => World.ownsRow.cellAt ho j hj
  refine ⟨some ⟨g, 0, none⟩, cap, rfl, by unfold maxLen; simp, .inr ⟨g, 0, rfl, hg, hlt, Nat.le_refl _, fun _ k => World.ownsRow.frozenAt ho k, fun j hj => ?_⟩⟩
  match j, hj with
  | 0, _ => exact ⟨hc 0 (by omega), hc 1 (by omega), hc 2 (by omega)⟩
  | 1, _ => exact ⟨hc 3 (by omega), hc 4 (by omega), hc 5 (by omega)⟩
  | 2, _ => exact ⟨hc 6 (by omega), hc 7 (by omega), hc 8 (by omega)⟩
  | j + 3, hj => exact absurd hj (by simp)

theorem none_spec (x : World) : Calls Try.prog 53 #[] x fun e y => ∃ v, e = .returned (.agg #[.bool false, v, .bool false, .int .i64 0, .int .i64 0]) ∧ SpsAt true y x.heap.size y.heap.size v [] ∧ Below x.heap.size x y := by
  go_enter Try.func53, Try.ntmps53
  go_wp2_with fail
  refine bodyPost_ret (v := .agg #[.bool false, .slice (some ⟨x.heap.size + 1, 0, none⟩) 0 0, .bool false, .int .i64 0, .int .i64 0]) (by simp [results, Try.results53, go_sem]) rfl ⟨_, rfl, SpsAt.nil, by go_grown⟩

theorem inB_kind (k : Int) : inB k 0 2 = (kindF k).1 := by
  unfold kindF inB
  by_cases h0 : k = 0
  · subst h0; rfl
  by_cases h1 : k = 1
  · subst h1; rfl
  by_cases h2 : k = 2
  · subst h2; rfl
  · simp [h0, h1, h2, noSp]
    omega

end Go.Proofs.Ytdomalclpjijaaa
