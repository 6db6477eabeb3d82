/-
  The model's StateEntry: what it hands back at any number.
-/
import Derived.Test.YtbmjjmbimfdkoaaSEnt
import Derived.Maps.AppendAt
import Derived.Deep.RegionLaw
namespace Go.Proofs.Ytbmjjmbimfdkoaa
open Go.RowKit
set_option linter.unusedVariables false
set_option linter.unusedSimpArgs false

/-- an append whose run is known, as one step of a region that draws its order -/
theorem step_app {P : Program} {ops : Array Oper} {o : Oper} {a : Act} {w : World} {K : Act → World → Prop} {Q : Exit → Act → World → Prop} {E : Prop}
    (hg : o.guard = none) (s x : Operand) (t : TypeId) (hop : o.op = Op.call { callee := Callee.builtin Builtin.append, args := #[s, x], argTypes := #[t, t] })
    {vs vx : Value} (hs : a.eval s = vs) (hx : a.eval x = vx) {v' : Value} {w' : World} (hrun : (Builtin.append_ #[t, t] o.type #[vs, vx]).run P w = .ok v' w')
    (hK : K (a.put o.dst v') w') : if Region.wanted o (yielded ops a.tmps) = true then Oper.wp P o a w K Q else E := by
  have hw : Region.wanted o (yielded ops a.tmps) = true := by simp [Region.wanted, hg]
  rw [if_pos hw]
  unfold Oper.wp
  simp [execOp, hop, resolve, invoke, builtin, hs, hx, hrun, Result.andThen]
  exact hK
def cs3 (s : Sp) : List Value := [.bool s.1, .int .i64 s.2.1, .int .i64 s.2.2]
/-- a span appended to a row that is owned: the box that holds the row's slice, ahead of base, stands -/
theorem app_step (w5 : World) (ty : TypeId) (m base n : Nat) (v0 q0 q2 q3 q4 : Value) (xs : List Value) (a : Bool) (l u : Int) (hbx : Bx5 w5 m q0 v0 q2 q3 q4)
    (hown : w5.ownsRow base 30 3 v0 n xs) (hn : n ≤ 100) (hm : m < base) (hbase : base ≤ w5.heap.size) :
    ∃ p' cap' w', (Builtin.append_ #[29, 29] ty #[v0, .slice (some ⟨w5.heap.size, 0, none⟩) 1 1]).run Try.prog (w5.alloc (.cells #[.bool a, .int .i64 l, .int .i64 u] 30)) = .ok (.slice p' (n + 1) cap') w' ∧
      Bx5 w' m q0 v0 q2 q3 q4 ∧ Hid (w'.ownsRow base 30 3 (.slice p' (n + 1) cap') (n + 1) (xs ++ cs3 (a, l, u))) ∧ Hid (Below base w5 w') := by
  obtain ⟨i, hi, hz0, hz1, hz2⟩ : ∃ i, Try.prog.info? 30 = some i ∧ i.zero = some (aggS noSp) ∧ i.size = 3 ∧ i.bytes = 24 := info_parts infoSpan
  obtain ⟨v', w', hr, h2, h3, h4, h5⟩ := run_append_own_at (P := Try.prog) (w5.alloc (.cells #[.bool a, .int .i64 l, .int .i64 u] 30)) base 29 ty 30 i (aggS noSp) 3 24 Try.underlying29 hi hz0 hz1 hz2 rfl (by omega) v0 n xs (hown.alloc _) ⟨w5.heap.size, 0, none⟩ 1 1 (cs3 (a, l, u)) rfl
    (by
      intro j v hv
      rw [Addr.add_mid]
      match j, hv with
      | 0, hv => obtain rfl : Value.bool a = v := by simpa [cs3] using hv
                 simp [go_sem]
      | 1, hv => obtain rfl : Value.int .i64 l = v := by simpa [cs3] using hv
                 simp [go_sem]
      | 2, hv => obtain rfl : Value.int .i64 u = v := by simpa [cs3] using hv
                 simp [go_sem]
      | j + 3, hv => simp [cs3] at hv)
    (by intro v hv; simp [cs3] at hv; rcases hv with rfl | rfl | rfl <;> rfl) (by unfold maxLen; omega) (by omega) (by simp; omega)
  have hB : Below base w5 w' := ((Below.refl base w5).alloc hbase _).grown h3 (by simp; omega) (fun k hk => (hown.lt k hk).1)
  obtain ⟨p', cap', rfl⟩ : ∃ p' cap', v' = .slice p' (n + 1) cap' := by
    rcases h2.2 with ⟨_, h⟩ | ⟨g, cap, cur, h, _⟩
    · omega
    · exact ⟨_, _, h⟩
  refine ⟨p', cap', w', hr, ?_, h2, hB⟩
  have hl := hbx.lt
  exact ⟨by have := hB.size; omega, (hB.cell (p := ⟨m, 0, none⟩) hm).trans hbx.c0, (hB.cell (p := ⟨m, 1, none⟩) hm).trans hbx.c1, (hB.cell (p := ⟨m, 2, none⟩) hm).trans hbx.c2, (hB.cell (p := ⟨m, 3, none⟩) hm).trans hbx.c3, (hB.cell (p := ⟨m, 4, none⟩) hm).trans hbx.c4, fun k => (hB.frozen (p := ⟨m, k, none⟩) hm).trans (hbx.fz k)⟩

theorem owns_off {x : World} {base m i size n : Nat} {e : TypeId} {v u : Value} {xs : List Value} (h : x.ownsRow base e size v n xs) (hm : m < base) : (x.setCell ⟨m, i, none⟩ u).ownsRow base e size v n xs :=
  World.ownsRow.kept h (row := some m) ⟨rfl, rfl, rfl, by simp, fun k hk hne => by
    have hne' : m ≠ k := fun e => hne (by rw [e])
    simp [World.setCell, Array.getElem?_setIfInBounds_ne, Array.getElem?_modify, hne']⟩ (by
      cases hv : v.ownBlock with
      | none => simp
      | some k => have := (h.lt k hv).1; simp; omega)
theorem owns_later {x y : World} {base size n : Nat} {e : TypeId} {v : Value} {xs : List Value} (h : x.ownsRow base e size v n xs) (hb : Below x.heap.size x y) : y.ownsRow base e size v n xs :=
  World.ownsRow.kept h (row := none) ⟨hb.os, hb.tape, hb.output, hb.size, fun k hk _ => hb.block k hk⟩ (by cases hv : v.ownBlock <;> simp)

/-- a state that grows: its box, the row of spans that it owns, and the box of the result -/
structure Ent (x y : World) (m : Nat) (p : Option Addr) (cap n : Nat) (xs : List Value) : Prop where
  box : Bx5 y m (.bool true) (.slice p n cap) (.bool true) (.int .i64 0) (.int .i64 0)
  own : y.ownsRow (m + 1) 30 3 (.slice p n cap) n xs
  res : Bx5 y x.heap.size (.bool false) (.slice none 0 0) (.bool false) (.int .i64 0) (.int .i64 0)
  below : Below x.heap.size x y
  lt : x.heap.size < m
theorem Ent.later {x y z : World} {m : Nat} {p : Option Addr} {cap n : Nat} {xs : List Value} (h : Ent x y m p cap n xs) (hb : Below y.heap.size y z) : Ent x z m p cap n xs :=
  ⟨h.box.later hb, owns_later h.own hb, h.res.later hb, h.below.trans (hb.mono h.below.size), h.lt⟩
theorem Ent.app {x y z : World} {m : Nat} {p : Option Addr} {cap n : Nat} {xs : List Value} (h : Ent x y m p cap n xs) (hn : n ≤ 100) (ty : TypeId) (a : Bool) (l u : Int) (hb : Below y.heap.size y z) :
    ∃ p' cap' w', (Builtin.append_ #[29, 29] ty #[.slice p n cap, .slice (some ⟨z.heap.size, 0, none⟩) 1 1]).run Try.prog (z.alloc (.cells #[.bool a, .int .i64 l, .int .i64 u] 30)) = .ok (.slice p' (n + 1) cap') w' ∧
      m < z.heap.size ∧ z.cell? ⟨m, 1, none⟩ = some (.slice p n cap) ∧ w'.cell? ⟨m, 1, none⟩ = some (.slice p n cap) ∧ w'.frozen? ⟨m, 1, none⟩ = false ∧ Hid (Ent x (w'.setCell ⟨m, 1, none⟩ (.slice p' (n + 1) cap')) m p' cap' (n + 1) (xs ++ cs3 (a, l, u))) := by
  have hz := h.later hb
  have hm := hz.box.lt
  obtain ⟨p', cap', w', hr, hbx, hown, hbel⟩ := app_step z ty m (m + 1) n _ _ _ _ _ xs a l u hz.box hz.own hn (by omega) hm
  have hl := h.lt
  have hres : Bx5 w' x.heap.size (.bool false) (.slice none 0 0) (.bool false) (.int .i64 0) (.int .i64 0) := by
    have hB := hbel.out
    have hx : x.heap.size < m + 1 := by omega
    obtain ⟨_, c0, c1, c2, c3, c4, cf⟩ := hz.res
    exact ⟨by have := hB.size; omega, (hB.cell (p := ⟨x.heap.size, 0, none⟩) hx).trans c0, (hB.cell (p := ⟨x.heap.size, 1, none⟩) hx).trans c1, (hB.cell (p := ⟨x.heap.size, 2, none⟩) hx).trans c2, (hB.cell (p := ⟨x.heap.size, 3, none⟩) hx).trans c3, (hB.cell (p := ⟨x.heap.size, 4, none⟩) hx).trans c4, fun k => (hB.frozen (p := ⟨x.heap.size, k, none⟩) hx).trans (cf k)⟩
  exact ⟨p', cap', w', hr, hm, hz.box.c1, hbx.c1, hbx.fz 1, ⟨hbx.set1, owns_off hown.out (by omega), hres.off (by omega), (hz.below.trans (hbel.out.mono (by omega))).setCell (p := ⟨m, 1, none⟩) (by show x.heap.size ≤ m; omega) _, hl⟩⟩
theorem Ent.drew {x y : World} {m : Nat} {p : Option Addr} {cap n : Nat} {xs : List Value} (h : Ent x y m p cap n xs) : Ent x y.drew m p cap n xs := h.later (Below.refl _ _).drew
def rowE (s : Sp) : Nat → List Value
  | 0 => []
  | 1 => [] ++ cs3 s
  | k + 2 => rowE s (k + 1) ++ cs3 (true, 0, 0)
theorem rowE_next (s : Sp) (k : Nat) (h : 1 ≤ k) : rowE s k ++ cs3 (true, 0, 0) = rowE s (k + 1) := by
  cases k with
  | zero => omega
  | succ k => rfl
/-- three spans that a row owns are read there -/
theorem Ent.spans {x y : World} {m : Nat} {p : Option Addr} {cap : Nat} {s : Sp} (h : Ent x y m p cap 3 (rowE s 3)) : SpsAt true y (m + 1) y.heap.size (.slice p 3 cap) [s, (true, 0, 0), (true, 0, 0)] := by
  have ho := h.own
  rcases h.own.2 with ⟨_, h0⟩ | ⟨g, cap', cur, hv, hg, hh, _⟩
  · omega
  injection hv with hp _ hc
  subst hp hc
  have hlt := (h.own.lt g rfl).2
  have hc := fun j hj => World.ownsRow.cellAt ho j hj
  refine ⟨some ⟨g, 0, none⟩, cap, rfl, by unfold maxLen; simp, .inr ⟨g, 0, rfl, hg, hlt, Nat.le_refl _, fun _ k => World.ownsRow.frozenAt ho k, fun j hj => ?_⟩⟩
  match j, hj with
  | 0, _ => exact ⟨hc 0 (by omega), hc 1 (by omega), hc 2 (by omega)⟩
  | 1, _ => exact ⟨hc 3 (by omega), hc 4 (by omega), hc 5 (by omega)⟩
  | 2, _ => exact ⟨hc 6 (by omega), hc 7 (by omega), hc 8 (by omega)⟩
  | j + 3, hj => exact absurd hj (by simp)

theorem none_spec (x : World) : Calls Try.prog 50 #[] x fun e y => ∃ v, e = .returned (.agg #[.bool false, v, .bool false, .int .i64 0, .int .i64 0]) ∧ SpsAt true y x.heap.size y.heap.size v [] ∧ Below x.heap.size x y := by
  go_enter Try.func50, Try.ntmps50
  go_wp2_with fail
  refine bodyPost_ret (v := .agg #[.bool false, .slice (some ⟨x.heap.size + 1, 0, none⟩) 0 0, .bool false, .int .i64 0, .int .i64 0]) (by simp [results, Try.results50, go_sem]) rfl ⟨_, rfl, SpsAt.nil, by go_grown⟩

theorem inB_kind (k : Int) : inB k 0 2 = (kindF k).1 := by
  unfold kindF inB
  by_cases h0 : k = 0
  · subst h0; rfl
  by_cases h1 : k = 1
  · subst h1; rfl
  by_cases h2 : k = 2
  · subst h2; rfl
  · simp [h0, h1, h2, noSp]
    omega

set_option maxHeartbeats 4000000 in
theorem ent_spec (k : Int) (x : World) : Calls Try.prog 20 #[.int .i64 k] x fun e y => EntAt k x e y := by
  have R0 := Bx5.new x (.bool false) (.slice none 0 0) (.bool false) (.int .i64 0) (.int .i64 0) 32
  have hB0 : Below x.heap.size x (x.alloc (.cells #[.bool false, .slice none 0 0, .bool false, .int .i64 0, .int .i64 0] 32)) := (Below.refl x.heap.size x).alloc (Nat.le_refl _) _
  have HR0 : Hid (Bx5 (x.alloc (.cells #[.bool false, .slice none 0 0, .bool false, .int .i64 0, .int .i64 0] 32)) x.heap.size (.bool false) (.slice none 0 0) (.bool false) (.int .i64 0) (.int .i64 0)) := R0
  have HB0 : Hid (Below x.heap.size x (x.alloc (.cells #[.bool false, .slice none 0 0, .bool false, .int .i64 0, .int .i64 0] 32))) := hB0
  clear R0 hB0
  go_enter Try.func20, Try.ntmps20
  go_wp2_with fail
  refine (l6In_any k 0 2 _).mono ?_
  rintro e w0 ⟨rfl, hw⟩
  have hw := hw.symm
  subst hw
  rw [inB_kind]
  obtain ⟨a, l, u, hx⟩ : ∃ a l u, kindF k = (a, l, u) := ⟨_, _, _, rfl⟩
  have HX : Hid (kindF k = (a, l, u)) := hx
  rw [hx]
  clear hx
  cases a
  · go_wp2_with fail
    refine (none_spec _).mono ?_
    rintro e w1 ⟨v, rfl, hS, hb1⟩
    obtain ⟨p, cap, rfl⟩ := hS.shape
    have R1 := HR0.out.later hb1
    have hB1 : Below x.heap.size x w1 := HB0.out.trans (hb1.mono (by simp))
    obtain ⟨rl, r0, r1, r2, r3, r4, rf⟩ := R1
    clear HR0 HB0 hb1
    go_wp2_with fail
    refine bodyPost_ret (v := .agg #[.bool false, .slice p 0 cap, .bool false, .int .i64 0, .int .i64 0]) (by simp [results, Try.results20, go_sem, rl, r0, r1, r2, r3, r4, rf]) rfl ?_
    unfold EntAt
    rw [entF_no HX.out]
    refine ⟨_, rfl, SpsAt.nil, ?_⟩
    repeat (refine Below.setCell ?_ (by simp <;> omega) _)
    exact hB1
  · go_wp2_with fail
    refine (l1Of_any 0 0 _).mono ?_
    rintro e w1 ⟨hs, hb1⟩
    obtain ⟨b, m0, m1, hm, rfl⟩ := hs.out
    have hm2 : mkF 0 0 = (true, 0, 0) := rfl
    have hm3 := hm2.symm.trans hm.out
    simp only [Prod.mk.injEq] at hm3
    obtain ⟨rfl, rfl, rfl⟩ := hm3
    have R1 : Hid (Bx5 (w1.alloc (.cells #[.bool true, .slice none 0 0, .bool true, .int .i64 0, .int .i64 0] 32)) x.heap.size (.bool false) (.slice none 0 0) (.bool false) (.int .i64 0) (.int .i64 0)) := (HR0.out.later hb1).alloc _
    have hz1 : x.heap.size < w1.heap.size := by have := hb1.size; simp at this; omega
    have E1 : ∃ p0 c0, Hid (p0 = none ∧ c0 = 0) ∧ Ent x (w1.alloc (.cells #[.bool true, .slice none 0 0, .bool true, .int .i64 0, .int .i64 0] 32)).drew w1.heap.size p0 c0 0 [] :=
      ⟨none, 0, ⟨rfl, rfl⟩, (Bx5.new w1 _ _ _ _ _ _).later ((Below.refl _ _).drew), World.ownsRow_nil _ _ _ _, R1.out.later ((Below.refl _ _).drew), ((HB0.out.trans (hb1.mono (by simp))).alloc (by omega) _).drew, hz1⟩
    obtain ⟨p0, c0, H0, E1⟩ := E1
    clear HR0 HB0 hb1 hs hm hm2 R1 H0
    have HE1 : Hid (Ent x (w1.alloc (.cells #[.bool true, .slice none 0 0, .bool true, .int .i64 0, .int .i64 0] 32)).drew w1.heap.size p0 c0 0 []) := E1
    clear E1
    go_wp2_with fail
    generalize w1.alloc (.cells #[.bool true, .slice none 0 0, .bool true, .int .i64 0, .int .i64 0] 32) = wx at HE1 ⊢
    have e1 := HE1.out.box.c1
    go_region_law (first
      | (refine step_app rfl (.tmp 12) (.tmp 15) 29 rfl ?hs ?hx hrun6 ?_
         (case hs => first | rfl | simp [Act.eval, Act.put])
         (case hx => first | rfl | simp [Act.eval, Act.put]))
      | (go_simp; go_at_call 52; refine (kind_spec k _).mono ?_; rintro e w5 ⟨hs5, hb5⟩; obtain ⟨a5, l5, u5, hx5, rfl⟩ := hs5.out
         obtain ⟨p6, cap6, w6, hrun6, hm6, c5, c6, cf6, E6⟩ := Ent.app HE1.out (by omega) 29 a5 l5 u5 hb5)
      | fail)
    all_goals
      have hxx := HX.out.symm.trans hx5.out
      simp only [Prod.mk.injEq] at hxx
      obtain ⟨rfl, rfl, rfl⟩ := hxx
      clear hs5 hb5 HE1 e1 c5 c6 cf6 hrun6 hm6 hx5
      generalize w6.setCell ⟨w1.heap.size, 1, none⟩ (.slice p6 (0 + 1) cap6) = wy at E6 ⊢
      go_wp2_with fail
      go_loopw [4] (fun t y => ∃ (j : Nat) (p : Option Addr) (cap : Nat), 1 ≤ j ∧ j ≤ 3 ∧ t = .int .i64 j ∧ Ent x y w1.heap.size p cap j (rowE (true, l, u) j)) (fun t _ => 3 - (intOf t).toNat)
      case atStart => exact ⟨1, p6, cap6, by omega, by omega, rfl, E6.out⟩
      case round =>
        clear E6
        obtain ⟨j, p, cap, hj1, hj3, rfl, hE⟩ := hrel
        by_cases hlt : j < 3
        · have hji : (j : Int) < 3 := by omega
          have HE : Hid (Ent x wr.drew w1.heap.size p cap j (rowE (true, l, u) j)) := hE.drew
          clear hE
          have e1 := HE.out.box.c1
          go_wp2_with fail
          go_region_law (first
            | (refine step_app rfl (.tmp 23) (.tmp 25) 29 rfl ?hs ?hx hrun8 ?_
               (case hs => first | rfl | simp [Act.eval, Act.put])
               (case hx => first | rfl | simp [Act.eval, Act.put]))
            | (go_simp; go_at_call 51; refine (l1Of_any 0 0 _).mono ?_; rintro e w7 ⟨hs7, hb7⟩; obtain ⟨a7, l7, u7, hx7, rfl⟩ := hs7.out
               obtain ⟨p8, cap8, w8, hrun8, hm8, c7, c8, cf8, E8⟩ := Ent.app HE.out (by omega) 29 a7 l7 u7 hb7)
            | fail)
          all_goals
            have hm2 : mkF 0 0 = (true, 0, 0) := rfl
            have hm3 := hm2.symm.trans hx7.out
            simp only [Prod.mk.injEq] at hm3
            obtain ⟨rfl, rfl, rfl⟩ := hm3
            clear hs7 hb7 HE e1 c7 c8 cf8 hrun8 hm8 hx7 hm2
            generalize w8.setCell ⟨w1.heap.size, 1, none⟩ (.slice p8 (j + 1) cap8) = wz at E8 ⊢
            go_wp2_with fail
            go_roundw
            case rel => exact ⟨j + 1, p8, cap8, by omega, by omega, by go_num, by rw [← rowE_next _ _ hj1]; exact E8.out⟩
            case measure => simp [intOf]; omega
        · obtain rfl : j = 3 := by omega
          have HE : Hid (Ent x wr w1.heap.size p cap 3 (rowE (true, l, u) 3)) := hE
          have hji : ¬ ((3 : Nat) : Int) < 3 := by omega
          obtain ⟨rl, r0, r1, r2, r3, r4, rf⟩ := hE.res
          obtain ⟨tl, t0, t1, t2, t3, t4, tf⟩ := hE.box
          clear hE
          go_wp2_with fail
          refine bodyPost_ret (v := .agg #[.bool true, .slice p 3 cap, .bool true, .int .i64 0, .int .i64 0]) (by simp [results, Try.results20, go_sem, rl, r0, r1, r2, r3, r4, rf]) rfl ?_
          unfold EntAt
          rw [entF_yes HX.out]
          refine ⟨_, rfl, ?_, ?_⟩
          · have hl := HE.out.lt
            refine SpsAt.wide (B := w1.heap.size + 1) (E := wr.heap.size) ?_ (by omega) (by simp) (by simp)
            repeat (refine SpsAt.off ?_ (by omega))
            exact HE.out.spans
          · repeat (refine Below.setCell ?_ (by simp <;> omega) _)
            exact HE.out.below

end Go.Proofs.Ytbmjjmbimfdkoaa
