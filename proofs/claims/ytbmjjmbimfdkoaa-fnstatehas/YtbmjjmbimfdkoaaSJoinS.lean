/-
  The model's StateJoin and StateWide.
-/
import Derived.Test.YtbmjjmbimfdkoaaSBoth
namespace Go.Proofs.Ytbmjjmbimfdkoaa
open Go.RowKit
set_option linter.unusedVariables false
set_option linter.unusedSimpArgs false

set_option maxHeartbeats 1000000 in
theorem stJoin_spec (x : World) (z z' : Bool) (B E C D : Nat) (a : Bool) (v : Value) (L : List Sp) (c : Bool) (l u : Int) (b : Bool) (v' : Value) (M : List Sp) (d : Bool) (l' u' : Int) (h : SpsAt z x B E v L) (h' : SpsAt z' x C D v' M) :
    Calls Try.prog 30 #[.agg #[.bool a, v, .bool c, .int .i64 l, .int .i64 u], .agg #[.bool b, v', .bool d, .int .i64 l', .int .i64 u']] x fun e y => StAt (stBoth false a L (c, l, u) b M (d, l', u')) x e y := by
  obtain ⟨p, cap, hv⟩ := h.shape
  obtain ⟨p', cap', hv'⟩ := h'.shape
  generalize hn : L.length = n at hv
  generalize hm : M.length = m at hv'
  subst hv hv'
  clear hn hm
  obtain ⟨⟨ra, rL, rc, rl, ru⟩, hr⟩ : ∃ r, stBoth false a L (c, l, u) b M (d, l', u') = r := ⟨_, rfl⟩
  have HR : Hid (stBoth false a L (c, l, u) b M (d, l', u') = (ra, rL, rc, rl, ru)) := hr
  clear hr
  have hba : Below x.heap.size x (((x.alloc (.cells #[.bool a, .slice p n cap, .bool c, .int .i64 l, .int .i64 u] 32)).alloc (.cells #[.bool b, .slice p' m cap', .bool d, .int .i64 l', .int .i64 u'] 32)).alloc (.cells #[.bool false, .slice none 0 0, .bool false, .int .i64 0, .int .i64 0] 32)) := by go_grown
  have hz : (((x.alloc (.cells #[.bool a, .slice p n cap, .bool c, .int .i64 l, .int .i64 u] 32)).alloc (.cells #[.bool b, .slice p' m cap', .bool d, .int .i64 l', .int .i64 u'] 32)).alloc (.cells #[.bool false, .slice none 0 0, .bool false, .int .i64 0, .int .i64 0] 32)).heap.size = x.heap.size + 3 := by simp
  have kr := Bx5.new ((x.alloc (.cells #[.bool a, .slice p n cap, .bool c, .int .i64 l, .int .i64 u] 32)).alloc (.cells #[.bool b, .slice p' m cap', .bool d, .int .i64 l', .int .i64 u'] 32)) (.bool false) (.slice none 0 0) (.bool false) (.int .i64 0) (.int .i64 0) 32
  simp only [World.size_alloc] at kr
  have h3 := h.later hba
  have h3' := h'.later hba
  have HZ : Hid ((((x.alloc (.cells #[.bool a, .slice p n cap, .bool c, .int .i64 l, .int .i64 u] 32)).alloc (.cells #[.bool b, .slice p' m cap', .bool d, .int .i64 l', .int .i64 u'] 32)).alloc (.cells #[.bool false, .slice none 0 0, .bool false, .int .i64 0, .int .i64 0] 32)).heap.size = x.heap.size + 3) := hz
  clear hz
  go_enter Try.func30, Try.ntmps30
  go_wp2_with fail
  refine (l11Both_any false _ z z' B E C D _ _ L _ _ _ _ _ M _ _ _ h3 h3').mono ?_
  rintro e w1 ⟨v1, rfl, hS, hb⟩
  rw [HZ.out] at hS
  rw [HR.out] at hS ⊢
  obtain ⟨p1, cap1, hv1⟩ := hS.shape
  simp only at hv1 hS ⊢
  generalize hq : rL.length = q at hv1
  subst hv1
  have HS : Hid (SpsAt true w1 (x.heap.size + 3) w1.heap.size (.slice p1 q cap1) rL) := hS
  have kr1 := kr.later hb
  have hB : Below x.heap.size x w1 := hba.trans (hb.mono hba.size)
  obtain ⟨k, r0, r1, r2, r3, r4, rf⟩ := kr1
  clear hS hb hba kr h3 h3' hq HZ
  go_wp2_with fail
  refine bodyPost_ret (v := .agg #[.bool ra, .slice p1 q cap1, .bool rc, .int .i64 rl, .int .i64 ru]) (by simp [results, Try.results30, go_sem, k, r0, r1, r2, r3, r4, rf]) rfl ?_
  rw [HR.out]
  refine ⟨_, rfl, ?_, ?_⟩
  · refine SpsAt.wide (B := x.heap.size + 3) (E := w1.heap.size) ?_ (by omega) (by simp) (by simp)
    repeat (refine SpsAt.off ?_ (by omega))
    exact HS.out
  · repeat (refine Below.setCell ?_ (by simp <;> omega) _)
    exact hB

set_option maxHeartbeats 1000000 in
theorem stWide_spec (x : World) (z z' : Bool) (B E C D : Nat) (a : Bool) (v : Value) (L : List Sp) (c : Bool) (l u : Int) (b : Bool) (v' : Value) (M : List Sp) (d : Bool) (l' u' : Int) (h : SpsAt z x B E v L) (h' : SpsAt z' x C D v' M) :
    Calls Try.prog 32 #[.agg #[.bool a, v, .bool c, .int .i64 l, .int .i64 u], .agg #[.bool b, v', .bool d, .int .i64 l', .int .i64 u']] x fun e y => StAt (stBoth true a L (c, l, u) b M (d, l', u')) x e y := by
  obtain ⟨p, cap, hv⟩ := h.shape
  obtain ⟨p', cap', hv'⟩ := h'.shape
  generalize hn : L.length = n at hv
  generalize hm : M.length = m at hv'
  subst hv hv'
  clear hn hm
  obtain ⟨⟨ra, rL, rc, rl, ru⟩, hr⟩ : ∃ r, stBoth true a L (c, l, u) b M (d, l', u') = r := ⟨_, rfl⟩
  have HR : Hid (stBoth true a L (c, l, u) b M (d, l', u') = (ra, rL, rc, rl, ru)) := hr
  clear hr
  have hba : Below x.heap.size x (((x.alloc (.cells #[.bool a, .slice p n cap, .bool c, .int .i64 l, .int .i64 u] 32)).alloc (.cells #[.bool b, .slice p' m cap', .bool d, .int .i64 l', .int .i64 u'] 32)).alloc (.cells #[.bool false, .slice none 0 0, .bool false, .int .i64 0, .int .i64 0] 32)) := by go_grown
  have hz : (((x.alloc (.cells #[.bool a, .slice p n cap, .bool c, .int .i64 l, .int .i64 u] 32)).alloc (.cells #[.bool b, .slice p' m cap', .bool d, .int .i64 l', .int .i64 u'] 32)).alloc (.cells #[.bool false, .slice none 0 0, .bool false, .int .i64 0, .int .i64 0] 32)).heap.size = x.heap.size + 3 := by simp
  have kr := Bx5.new ((x.alloc (.cells #[.bool a, .slice p n cap, .bool c, .int .i64 l, .int .i64 u] 32)).alloc (.cells #[.bool b, .slice p' m cap', .bool d, .int .i64 l', .int .i64 u'] 32)) (.bool false) (.slice none 0 0) (.bool false) (.int .i64 0) (.int .i64 0) 32
  simp only [World.size_alloc] at kr
  have h3 := h.later hba
  have h3' := h'.later hba
  have HZ : Hid ((((x.alloc (.cells #[.bool a, .slice p n cap, .bool c, .int .i64 l, .int .i64 u] 32)).alloc (.cells #[.bool b, .slice p' m cap', .bool d, .int .i64 l', .int .i64 u'] 32)).alloc (.cells #[.bool false, .slice none 0 0, .bool false, .int .i64 0, .int .i64 0] 32)).heap.size = x.heap.size + 3) := hz
  clear hz
  go_enter Try.func32, Try.ntmps32
  go_wp2_with fail
  refine (l11Both_any true _ z z' B E C D _ _ L _ _ _ _ _ M _ _ _ h3 h3').mono ?_
  rintro e w1 ⟨v1, rfl, hS, hb⟩
  rw [HZ.out] at hS
  rw [HR.out] at hS ⊢
  obtain ⟨p1, cap1, hv1⟩ := hS.shape
  simp only at hv1 hS ⊢
  generalize hq : rL.length = q at hv1
  subst hv1
  have HS : Hid (SpsAt true w1 (x.heap.size + 3) w1.heap.size (.slice p1 q cap1) rL) := hS
  have kr1 := kr.later hb
  have hB : Below x.heap.size x w1 := hba.trans (hb.mono hba.size)
  obtain ⟨k, r0, r1, r2, r3, r4, rf⟩ := kr1
  clear hS hb hba kr h3 h3' hq HZ
  go_wp2_with fail
  refine bodyPost_ret (v := .agg #[.bool ra, .slice p1 q cap1, .bool rc, .int .i64 rl, .int .i64 ru]) (by simp [results, Try.results32, go_sem, k, r0, r1, r2, r3, r4, rf]) rfl ?_
  rw [HR.out]
  refine ⟨_, rfl, ?_, ?_⟩
  · refine SpsAt.wide (B := x.heap.size + 3) (E := w1.heap.size) ?_ (by omega) (by simp) (by simp)
    repeat (refine SpsAt.off ?_ (by omega))
    exact HS.out
  · repeat (refine Below.setCell ?_ (by simp <;> omega) _)
    exact hB
end Go.Proofs.Ytbmjjmbimfdkoaa
