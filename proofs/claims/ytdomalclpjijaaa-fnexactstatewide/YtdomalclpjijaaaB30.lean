import Derived.Test.YtdomalclpjijaaaB29
import Derived.Test.YtdomalclpjijaaaB4
import Derived.Test.YtdomalclpjijaaaB24
import Derived.Test.YtdomalclpjijaaaB10
/-
  The model's StateJoin and StateWide.
-/
namespace Go.Proofs.Ytdomalclpjijaaa
open Go.RowKit
set_option linter.unusedVariables false
set_option linter.unusedSimpArgs false

set_option maxHeartbeats 1000000 in
theorem stJoin_spec (x : World) (z z' : Bool) (B E C D : Nat) (a : Bool) (v : Value) (L : List Sp) (c : Bool) (l u : Int) (b : Bool) (v' : Value) (M : List Sp) (d : Bool) (l' u' : Int) (h : SpsAt z x B E v L) (h' : SpsAt z' x C D v' M) :
    Calls Try.prog 11 #[.agg #[.bool a, v, .bool c, .int .i64 l, .int .i64 u], .agg #[.bool b, v', .bool d, .int .i64 l', .int .i64 u']] x fun e y => StAt (stBoth false a L (c, l, u) b M (d, l', u')) x e y := by
  obtain ⟨p, cap, hv⟩ := h.shape
  obtain ⟨p', cap', hv'⟩ := h'.shape
  generalize hn : L.length = n at hv
  generalize hm : M.length = m at hv'
  subst hv hv'
  clear hn hm
  obtain ⟨⟨ra, rL, rc, rl, ru⟩, hr⟩ : ∃ r, stBoth false a L (c, l, u) b M (d, l', u') = r := ⟨_, rfl⟩
  have HR : Hid (stBoth false a L (c, l, u) b M (d, l', u') = (ra, rL, rc, rl, ru)) := hr
  clear hr
  have hba : Below x.heap.size x (((x.alloc (.cells #[.bool a, .slice p n cap, .bool c, .int .i64 l, .int .i64 u] 31)).alloc (.cells #[.bool b, .slice p' m cap', .bool d, .int .i64 l', .int .i64 u'] 31)).alloc (.cells #[.bool false, .slice none 0 0, .bool false, .int .i64 0, .int .i64 0] 31)) := by go_grown
  have hz : (((x.alloc (.cells #[.bool a, .slice p n cap, .bool c, .int .i64 l, .int .i64 u] 31)).alloc (.cells #[.bool b, .slice p' m cap', .bool d, .int .i64 l', .int .i64 u'] 31)).alloc (.cells #[.bool false, .slice none 0 0, .bool false, .int .i64 0, .int .i64 0] 31)).heap.size = x.heap.size + 3 := by simp
  have kr := Bx5.new ((x.alloc (.cells #[.bool a, .slice p n cap, .bool c, .int .i64 l, .int .i64 u] 31)).alloc (.cells #[.bool b, .slice p' m cap', .bool d, .int .i64 l', .int .i64 u'] 31)) (.bool false) (.slice none 0 0) (.bool false) (.int .i64 0) (.int .i64 0) 31
  simp only [World.size_alloc] at kr
  have h3 := h.later hba
  have h3' := h'.later hba
  have HZ : Hid ((((x.alloc (.cells #[.bool a, .slice p n cap, .bool c, .int .i64 l, .int .i64 u] 31)).alloc (.cells #[.bool b, .slice p' m cap', .bool d, .int .i64 l', .int .i64 u'] 31)).alloc (.cells #[.bool false, .slice none 0 0, .bool false, .int .i64 0, .int .i64 0] 31)).heap.size = x.heap.size + 3) := hz
  clear hz
  go_enter Try.func11, Try.ntmps11
  go_wp2_with fail
  refine (l11Both_any false _ z z' B E C D _ _ L _ _ _ _ _ M _ _ _ h3 h3').mono ?_
  rintro e w1 ⟨v1, rfl, hS, hb⟩
  rw [HZ.out] at hS
  rw [HR.out] at hS ⊢
  obtain ⟨p1, cap1, hv1⟩ := hS.shape
  simp only at hv1 hS ⊢
  generalize hq : rL.length = q at hv1
  subst hv1
  have HS : Hid (SpsAt true w1 (x.heap.size + 3) w1.heap.size (.slice p1 q cap1) rL) := hS
  have kr1 := kr.later hb
  have hB : Below x.heap.size x w1 := hba.trans (hb.mono hba.size)
  obtain ⟨k, r0, r1, r2, r3, r4, rf⟩ := kr1
  clear hS hb hba kr h3 h3' hq HZ
  go_wp2_with fail
  refine bodyPost_ret (v := .agg #[.bool ra, .slice p1 q cap1, .bool rc, .int .i64 rl, .int .i64 ru]) (by simp [results, Try.results11, go_sem, k, r0, r1, r2, r3, r4, rf]) rfl ?_
  rw [HR.out]
  refine ⟨_, rfl, ?_, ?_⟩
  · refine SpsAt.wide (B := x.heap.size + 3) (E := w1.heap.size) ?_ (by omega) (by simp) (by simp)
    repeat (refine SpsAt.off ?_ (by omega))
    exact HS.out
  · repeat (refine Below.setCell ?_ (by simp <;> omega) _)
    exact hB

set_option maxHeartbeats 1000000 in
theorem stWide_spec (x : World) (z z' : Bool) (B E C D : Nat) (a : Bool) (v : Value) (L : List Sp) (c : Bool) (l u : Int) (b : Bool) (v' : Value) (M : List Sp) (d : Bool) (l' u' : Int) (h : SpsAt z x B E v L) (h' : SpsAt z' x C D v' M) :
    Calls Try.prog 17 #[.agg #[.bool a, v, .bool c, .int .i64 l, .int .i64 u], .agg #[.bool b, v', .bool d, .int .i64 l', .int .i64 u']] x fun e y => StAt (stBoth true a L (c, l, u) b M (d, l', u')) x e y := by
  obtain ⟨p, cap, hv⟩ := h.shape
  obtain ⟨p', cap', hv'⟩ := h'.shape
  generalize hn : L.length = n at hv
  generalize hm : M.length = m at hv'
  subst hv hv'
  clear hn hm
  obtain ⟨⟨ra, rL, rc, rl, ru⟩, hr⟩ : ∃ r, stBoth true a L (c, l, u) b M (d, l', u') = r := ⟨_, rfl⟩
  have HR : Hid (stBoth true a L (c, l, u) b M (d, l', u') = (ra, rL, rc, rl, ru)) := hr
  clear hr
  have hba : Below x.heap.size x (((x.alloc (.cells #[.bool a, .slice p n cap, .bool c, .int .i64 l, .int .i64 u] 31)).alloc (.cells #[.bool b, .slice p' m cap', .bool d, .int .i64 l', .int .i64 u'] 31)).alloc (.cells #[.bool false, .slice none 0 0, .bool false, .int .i64 0, .int .i64 0] 31)) := by go_grown
  have hz : (((x.alloc (.cells #[.bool a, .slice p n cap, .bool c, .int .i64 l, .int .i64 u] 31)).alloc (.cells #[.bool b, .slice p' m cap', .bool d, .int .i64 l', .int .i64 u'] 31)).alloc (.cells #[.bool false, .slice none 0 0, .bool false, .int .i64 0, .int .i64 0] 31)).heap.size = x.heap.size + 3 := by simp
  have kr := Bx5.new ((x.alloc (.cells #[.bool a, .slice p n cap, .bool c, .int .i64 l, .int .i64 u] 31)).alloc (.cells #[.bool b, .slice p' m cap', .bool d, .int .i64 l', .int .i64 u'] 31)) (.bool false) (.slice none 0 0) (.bool false) (.int .i64 0) (.int .i64 0) 31
  simp only [World.size_alloc] at kr
  have h3 := h.later hba
  have h3' := h'.later hba
  have HZ : Hid ((((x.alloc (.cells #[.bool a, .slice p n cap, .bool c, .int .i64 l, .int .i64 u] 31)).alloc (.cells #[.bool b, .slice p' m cap', .bool d, .int .i64 l', .int .i64 u'] 31)).alloc (.cells #[.bool false, .slice none 0 0, .bool false, .int .i64 0, .int .i64 0] 31)).heap.size = x.heap.size + 3) := hz
  clear hz
  go_enter Try.func17, Try.ntmps17
  go_wp2_with fail
  refine (l11Both_any true _ z z' B E C D _ _ L _ _ _ _ _ M _ _ _ h3 h3').mono ?_
  rintro e w1 ⟨v1, rfl, hS, hb⟩
  rw [HZ.out] at hS
  rw [HR.out] at hS ⊢
  obtain ⟨p1, cap1, hv1⟩ := hS.shape
  simp only at hv1 hS ⊢
  generalize hq : rL.length = q at hv1
  subst hv1
  have HS : Hid (SpsAt true w1 (x.heap.size + 3) w1.heap.size (.slice p1 q cap1) rL) := hS
  have kr1 := kr.later hb
  have hB : Below x.heap.size x w1 := hba.trans (hb.mono hba.size)
  obtain ⟨k, r0, r1, r2, r3, r4, rf⟩ := kr1
  clear hS hb hba kr h3 h3' hq HZ
  go_wp2_with fail
  refine bodyPost_ret (v := .agg #[.bool ra, .slice p1 q cap1, .bool rc, .int .i64 rl, .int .i64 ru]) (by simp [results, Try.results17, go_sem, k, r0, r1, r2, r3, r4, rf]) rfl ?_
  rw [HR.out]
  refine ⟨_, rfl, ?_, ?_⟩
  · refine SpsAt.wide (B := x.heap.size + 3) (E := w1.heap.size) ?_ (by omega) (by simp) (by simp)
    repeat (refine SpsAt.off ?_ (by omega))
    exact HS.out
  · repeat (refine Below.setCell ?_ (by simp <;> omega) _)
    exact hB
end Go.Proofs.Ytdomalclpjijaaa

/-
  The walk of the law FnExactStateOk.
-/
namespace Go.Proofs.Ytdomalclpjijaaa
open Go.RowKit
set_option linter.unusedVariables false
set_option linter.unusedSimpArgs false

/-- two boxes of five cells that stand -/
theorem keepBB {w x y : World} {m n : Nat} {v0 v1 v2 v3 v4 u0 u1 u2 u3 u4 : Value}
    (h : Below w.heap.size w x ∧ m < x.heap.size ∧ n < x.heap.size ∧ x.cell? ⟨m, 0, none⟩ = some v0 ∧ x.cell? ⟨m, 1, none⟩ = some v1 ∧ x.cell? ⟨m, 2, none⟩ = some v2 ∧ x.cell? ⟨m, 3, none⟩ = some v3 ∧ x.cell? ⟨m, 4, none⟩ = some v4 ∧ x.cell? ⟨n, 0, none⟩ = some u0 ∧ x.cell? ⟨n, 1, none⟩ = some u1 ∧ x.cell? ⟨n, 2, none⟩ = some u2 ∧ x.cell? ⟨n, 3, none⟩ = some u3 ∧ x.cell? ⟨n, 4, none⟩ = some u4)
    (hb : Below x.heap.size x y) :
    Below w.heap.size w y ∧ m < y.heap.size ∧ n < y.heap.size ∧ y.cell? ⟨m, 0, none⟩ = some v0 ∧ y.cell? ⟨m, 1, none⟩ = some v1 ∧ y.cell? ⟨m, 2, none⟩ = some v2 ∧ y.cell? ⟨m, 3, none⟩ = some v3 ∧ y.cell? ⟨m, 4, none⟩ = some v4 ∧ y.cell? ⟨n, 0, none⟩ = some u0 ∧ y.cell? ⟨n, 1, none⟩ = some u1 ∧ y.cell? ⟨n, 2, none⟩ = some u2 ∧ y.cell? ⟨n, 3, none⟩ = some u3 ∧ y.cell? ⟨n, 4, none⟩ = some u4 := by
  obtain ⟨h1, h2, h3, c0, c1, c2, c3, c4, d0, d1, d2, d3, d4⟩ := h
  have hz := hb.size
  exact ⟨h1.trans (hb.mono h1.size), by omega, by omega, (hb.cell (p := ⟨m, 0, none⟩) h2).trans c0, (hb.cell (p := ⟨m, 1, none⟩) h2).trans c1, (hb.cell (p := ⟨m, 2, none⟩) h2).trans c2, (hb.cell (p := ⟨m, 3, none⟩) h2).trans c3, (hb.cell (p := ⟨m, 4, none⟩) h2).trans c4, (hb.cell (p := ⟨n, 0, none⟩) h3).trans d0, (hb.cell (p := ⟨n, 1, none⟩) h3).trans d1, (hb.cell (p := ⟨n, 2, none⟩) h3).trans d2, (hb.cell (p := ⟨n, 3, none⟩) h3).trans d3, (hb.cell (p := ⟨n, 4, none⟩) h3).trans d4⟩

end Go.Proofs.Ytdomalclpjijaaa
