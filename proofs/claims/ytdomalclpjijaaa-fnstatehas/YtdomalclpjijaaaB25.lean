import Derived.Test.YtdomalclpjijaaaB24
/-
  The model's StateJoin and StateWide.
-/
namespace Go.Proofs.Ytdomalclpjijaaa
open Go.RowKit
set_option linter.unusedVariables false
set_option linter.unusedSimpArgs false

set_option maxHeartbeats 1000000 in
theorem stJoin_spec (x : World) (z z' : Bool) (B E C D : Nat) (a : Bool) (v : Value) (L : List Sp) (c : Bool) (l u : Int) (b : Bool) (v' : Value) (M : List Sp) (d : Bool) (l' u' : Int) (h : SpsAt z x B E v L) (h' : SpsAt z' x C D v' M) :
    Calls Try.prog 11 #[.agg #[.bool a, v, .bool c, .int .i64 l, .int .i64 u], .agg #[.bool b, v', .bool d, .int .i64 l', .int .i64 u']] x fun e y => StAt (stBoth false a L (c, l, u) b M (d, l', u')) x e y := by
  obtain ⟨p, cap, hv⟩ := h.shape
  obtain ⟨p', cap', hv'⟩ := h'.shape
  generalize hn : L.length = n at hv
  generalize hm : M.length = m at hv'
  subst hv hv'
  clear hn hm
  obtain ⟨⟨ra, rL, rc, rl, ru⟩, hr⟩ : ∃ r, stBoth false a L (c, l, u) b M (d, l', u') = r := ⟨_, rfl⟩
  have HR : Hid (stBoth false a L (c, l, u) b M (d, l', u') = (ra, rL, rc, rl, ru)) := hr
  clear hr
  have hba : Below x.heap.size x (((x.alloc (.cells #[.bool a, .slice p n cap, .bool c, .int .i64 l, .int .i64 u] 31)).alloc (.cells #[.bool b, .slice p' m cap', .bool d, .int .i64 l', .int .i64 u'] 31)).alloc (.cells #[.bool false, .slice none 0 0, .bool false, .int .i64 0, .int .i64 0] 31)) := by go_grown
  have hz : (((x.alloc (.cells #[.bool a, .slice p n cap, .bool c, .int .i64 l, .int .i64 u] 31)).alloc (.cells #[.bool b, .slice p' m cap', .bool d, .int .i64 l', .int .i64 u'] 31)).alloc (.cells #[.bool false, .slice none 0 0, .bool false, .int .i64 0, .int .i64 0] 31)).heap.size = x.heap.size + 3 := by simp
  have kr := Bx5.new ((x.alloc (.cells #[.bool a, .slice p n cap, .bool c, .int .i64 l, .int .i64 u] 31)).alloc (.cells #[.bool b, .slice p' m cap', .bool d, .int .i64 l', .int .i64 u'] 31)) (.bool false) (.slice none 0 0) (.bool false) (.int .i64 0) (.int .i64 0) 31
  simp only [World.size_alloc] at kr
  have h3 := h.later hba
  have h3' := h'.later hba
  have HZ : Hid ((((x.alloc (.cells #[.bool a, .slice p n cap, .bool c, .int .i64 l, .int .i64 u] 31)).alloc (.cells #[.bool b, .slice p' m cap', .bool d, .int .i64 l', .int .i64 u'] 31)).alloc (.cells #[.bool false, .slice none 0 0, .bool false, .int .i64 0, .int .i64 0] 31)).heap.size = x.heap.size + 3) := hz
  clear hz
  go_enter Try.func11, Try.ntmps11
  go_wp2_with fail
  refine (l11Both_any false _ z z' B E C D _ _ L _ _ _ _ _ M _ _ _ h3 h3').mono ?_
  rintro e w1 ⟨v1, rfl, hS, hb⟩
  rw [HZ.out] at hS
  rw [HR.out] at hS ⊢
  obtain ⟨p1, cap1, hv1⟩ := hS.shape
  simp only at hv1 hS ⊢
  generalize hq : rL.length = q at hv1
  subst hv1
  have HS : Hid (SpsAt true w1 (x.heap.size + 3) w1.heap.size (.slice p1 q cap1) rL) := hS
  have kr1 := kr.later hb
  have hB : Below x.heap.size x w1 := hba.trans (hb.mono hba.size)
  obtain ⟨k, r0, r1, r2, r3, r4, rf⟩ := kr1
  clear hS hb hba kr h3 h3' hq HZ
  go_wp2_with fail
  refine bodyPost_ret (v := .agg #[.bool ra, .slice p1 q cap1, .bool rc, .int .i64 rl, .int .i64 ru]) (by simp [results, Try.results11, go_sem, k, r0, r1, r2, r3, r4, rf]) rfl ?_
  rw [HR.out]
  refine ⟨_, rfl, ?_, ?_⟩
  · refine SpsAt.wide (B := x.heap.size + 3) (E := w1.heap.size) ?_ (by omega) (by simp) (by simp)
    repeat (refine SpsAt.off ?_ (by omega))
    exact HS.out
  · repeat (refine Below.setCell ?_ (by simp <;> omega) _)
    exact hB

set_option maxHeartbeats 1000000 in
theorem stWide_spec (x : World) (z z' : Bool) (B E C D : Nat) (a : Bool) (v : Value) (L : List Sp) (c : Bool) (l u : Int) (b : Bool) (v' : Value) (M : List Sp) (d : Bool) (l' u' : Int) (h : SpsAt z x B E v L) (h' : SpsAt z' x C D v' M) :
    Calls Try.prog 17 #[.agg #[.bool a, v, .bool c, .int .i64 l, .int .i64 u], .agg #[.bool b, v', .bool d, .int .i64 l', .int .i64 u']] x fun e y => StAt (stBoth true a L (c, l, u) b M (d, l', u')) x e y := by
  obtain ⟨p, cap, hv⟩ := h.shape
  obtain ⟨p', cap', hv'⟩ := h'.shape
  generalize hn : L.length = n at hv
  generalize hm : M.length = m at hv'
  subst hv hv'
  clear hn hm
  obtain ⟨⟨ra, rL, rc, rl, ru⟩, hr⟩ : ∃ r, stBoth true a L (c, l, u) b M (d, l', u') = r := ⟨_, rfl⟩
  have HR : Hid (stBoth true a L (c, l, u) b M (d, l', u') = (ra, rL, rc, rl, ru)) := hr
  clear hr
  have hba : Below x.heap.size x (((x.alloc (.cells #[.bool a, .slice p n cap, .bool c, .int .i64 l, .int .i64 u] 31)).alloc (.cells #[.bool b, .slice p' m cap', .bool d, .int .i64 l', .int .i64 u'] 31)).alloc (.cells #[.bool false, .slice none 0 0, .bool false, .int .i64 0, .int .i64 0] 31)) := by go_grown
  have hz : (((x.alloc (.cells #[.bool a, .slice p n cap, .bool c, .int .i64 l, .int .i64 u] 31)).alloc (.cells #[.bool b, .slice p' m cap', .bool d, .int .i64 l', .int .i64 u'] 31)).alloc (.cells #[.bool false, .slice none 0 0, .bool false, .int .i64 0, .int .i64 0] 31)).heap.size = x.heap.size + 3 := by simp
  have kr := Bx5.new ((x.alloc (.cells #[.bool a, .slice p n cap, .bool c, .int .i64 l, .int .i64 u] 31)).alloc (.cells #[.bool b, .slice p' m cap', .bool d, .int .i64 l', .int .i64 u'] 31)) (.bool false) (.slice none 0 0) (.bool false) (.int .i64 0) (.int .i64 0) 31
  simp only [World.size_alloc] at kr
  have h3 := h.later hba
  have h3' := h'.later hba
  have HZ : Hid ((((x.alloc (.cells #[.bool a, .slice p n cap, .bool c, .int .i64 l, .int .i64 u] 31)).alloc (.cells #[.bool b, .slice p' m cap', .bool d, .int .i64 l', .int .i64 u'] 31)).alloc (.cells #[.bool false, .slice none 0 0, .bool false, .int .i64 0, .int .i64 0] 31)).heap.size = x.heap.size + 3) := hz
  clear hz
  go_enter Try.func17, Try.ntmps17
  go_wp2_with fail
  refine (l11Both_any true _ z z' B E C D _ _ L _ _ _ _ _ M _ _ _ h3 h3').mono ?_
  rintro e w1 ⟨v1, rfl, hS, hb⟩
  rw [HZ.out] at hS
  rw [HR.out] at hS ⊢
  obtain ⟨p1, cap1, hv1⟩ := hS.shape
  simp only at hv1 hS ⊢
  generalize hq : rL.length = q at hv1
  subst hv1
  have HS : Hid (SpsAt true w1 (x.heap.size + 3) w1.heap.size (.slice p1 q cap1) rL) := hS
  have kr1 := kr.later hb
  have hB : Below x.heap.size x w1 := hba.trans (hb.mono hba.size)
  obtain ⟨k, r0, r1, r2, r3, r4, rf⟩ := kr1
  clear hS hb hba kr h3 h3' hq HZ
  go_wp2_with fail
  refine bodyPost_ret (v := .agg #[.bool ra, .slice p1 q cap1, .bool rc, .int .i64 rl, .int .i64 ru]) (by simp [results, Try.results17, go_sem, k, r0, r1, r2, r3, r4, rf]) rfl ?_
  rw [HR.out]
  refine ⟨_, rfl, ?_, ?_⟩
  · refine SpsAt.wide (B := x.heap.size + 3) (E := w1.heap.size) ?_ (by omega) (by simp) (by simp)
    repeat (refine SpsAt.off ?_ (by omega))
    exact HS.out
  · repeat (refine Below.setCell ?_ (by simp <;> omega) _)
    exact hB
end Go.Proofs.Ytdomalclpjijaaa

/-
  The contracts of the draws of two states.
-/
namespace Go.Proofs.Ytdomalclpjijaaa
open Go.RowKit
set_option linter.unusedVariables false
set_option linter.unusedSimpArgs false

/-- two drawn states, in new memory -/
structure GotTwoS (w : World) (e : Ending) (y : World) : Prop where
  it : ∃ (a : Bool) (L : List Sp) (c : Bool) (l u : Int) (p : Option Addr) (cap : Nat) (b : Bool) (M : List Sp) (d : Bool) (l' u' : Int) (p' : Option Addr) (cap' : Nat), e = .returned (.tuple #[.agg #[.bool a, .slice p L.length cap, .bool c, .int .i64 l, .int .i64 u], .agg #[.bool b, .slice p' M.length cap', .bool d, .int .i64 l', .int .i64 u']]) ∧
    L.length ≤ 3 ∧ M.length ≤ 3 ∧ SpsAt true y w.heap.size y.heap.size (.slice p L.length cap) L ∧ SpsAt true y w.heap.size y.heap.size (.slice p' M.length cap') M ∧ Below w.heap.size w y
theorem stBoth_len (wd a : Bool) (L : List Sp) (c : Sp) (b : Bool) (M : List Sp) (d : Sp) : (stBoth wd a L c b M d).2.1.length ≤ 3 := by
  unfold stBoth
  split
  · rename_i h
    simp only [Bool.and_eq_true] at h
    have h1 := stOk_len0 h.1
    have h2 := stOk_len0 h.2
    split
    · split
      · simp [row3]
      · simp only; omega
    · simp only; omega
  · simp [noSt]

set_option maxHeartbeats 4000000 in
theorem drawStateJoin_any (a : Option Addr) (len cap : Nat) (zs : List Int) (w : World) (h : IsRow w a len cap zs) :
    Calls Try.prog 27 #[.slice a len cap] w fun e y => GotTwoS w e y := by
  have hb0 : Below w.heap.size w ((w.alloc (.cells #[.bool false, .slice none 0 0, .bool false, .int .i64 0, .int .i64 0] 31)).alloc (.cells #[.bool false, .slice none 0 0, .bool false, .int .i64 0, .int .i64 0] 31)) := by go_grown
  have h' := IsRow.later h hb0
  have hz0 : ((w.alloc (.cells #[.bool false, .slice none 0 0, .bool false, .int .i64 0, .int .i64 0] 31)).alloc (.cells #[.bool false, .slice none 0 0, .bool false, .int .i64 0, .int .i64 0] 31)).heap.size = w.heap.size + 2 := by simp
  have k0 := (Bx5.new w (.bool false) (.slice none 0 0) (.bool false) (.int .i64 0) (.int .i64 0) 31).alloc (.cells #[.bool false, .slice none 0 0, .bool false, .int .i64 0, .int .i64 0] 31)
  have k1 := Bx5.new (w.alloc (.cells #[.bool false, .slice none 0 0, .bool false, .int .i64 0, .int .i64 0] 31)) (.bool false) (.slice none 0 0) (.bool false) (.int .i64 0) (.int .i64 0) 31
  simp only [World.size_alloc] at k1
  have HK : Hid (Bx5 ((w.alloc (.cells #[.bool false, .slice none 0 0, .bool false, .int .i64 0, .int .i64 0] 31)).alloc (.cells #[.bool false, .slice none 0 0, .bool false, .int .i64 0, .int .i64 0] 31)) w.heap.size (.bool false) (.slice none 0 0) (.bool false) (.int .i64 0) (.int .i64 0) ∧ Bx5 ((w.alloc (.cells #[.bool false, .slice none 0 0, .bool false, .int .i64 0, .int .i64 0] 31)).alloc (.cells #[.bool false, .slice none 0 0, .bool false, .int .i64 0, .int .i64 0] 31)) (w.heap.size + 1) (.bool false) (.slice none 0 0) (.bool false) (.int .i64 0) (.int .i64 0) ∧ ((w.alloc (.cells #[.bool false, .slice none 0 0, .bool false, .int .i64 0, .int .i64 0] 31)).alloc (.cells #[.bool false, .slice none 0 0, .bool false, .int .i64 0, .int .i64 0] 31)).heap.size = w.heap.size + 2) := ⟨k0, k1, hz0⟩
  clear k0 k1 hz0
  go_enter Try.func27, Try.ntmps27
  go_wp2_with fail
  refine (open_any a len cap zs _ h').mono ?_
  rintro e x ⟨rfl, hR, hb⟩
  rw [HK.out.2.2] at hR ⊢
  have K1 : Hid (Bx5 x w.heap.size (.bool false) (.slice none 0 0) (.bool false) (.int .i64 0) (.int .i64 0) ∧ Bx5 x (w.heap.size + 1) (.bool false) (.slice none 0 0) (.bool false) (.int .i64 0) (.int .i64 0) ∧ Below w.heap.size w x) := ⟨HK.out.1.later hb, HK.out.2.1.later hb, hb0.trans (hb.mono hb0.size)⟩
  clear hb hb0 HK h h'
  have hrx := hR.lt
  go_wp2_with fail
  refine (l71State_any (w.heap.size + 2) 0 _ hR (by omega)).mono ?_
  rintro e y1 hg1
  obtain ⟨a1, L, c1, l1, u1, p1, cap1, rfl, hl1, hs1, hD1⟩ := hg1.it
  have hz1 := hD1.size
  have K2 : Hid (Bx5 y1 w.heap.size (.bool false) (.slice none 0 0) (.bool false) (.int .i64 0) (.int .i64 0) ∧ Bx5 y1 (w.heap.size + 1) (.bool false) (.slice none 0 0) (.bool false) (.int .i64 0) (.int .i64 0) ∧ Below w.heap.size w y1 ∧ SpsAt true y1 x.heap.size y1.heap.size (.slice p1 L.length cap1) L) := ⟨hD1.bx5 K1.out.1 (by omega), hD1.bx5 K1.out.2.1 (by omega), K1.out.2.2.trans (hD1.below.mono (by omega)), hs1⟩
  have hrd := hD1.rd
  clear K1 hg1 hD1 hs1 hR
  go_wp2_with fail
  refine (l71State_any (w.heap.size + 2) (0 + 40) _ hrd (by omega)).mono ?_
  rintro e y2 hg2
  obtain ⟨a2, M, c2, l2, u2, p2, cap2, rfl, hl2, hs2, hD2⟩ := hg2.it
  have hz2 := hD2.size
  have K3 : Hid (Bx5 y2 w.heap.size (.bool false) (.slice none 0 0) (.bool false) (.int .i64 0) (.int .i64 0) ∧ Bx5 y2 (w.heap.size + 1) (.bool false) (.slice none 0 0) (.bool false) (.int .i64 0) (.int .i64 0) ∧ Below w.heap.size w y2 ∧ SpsAt true y2 x.heap.size y1.heap.size (.slice p1 L.length cap1) L ∧ SpsAt true y2 y1.heap.size y2.heap.size (.slice p2 M.length cap2) M ∧ L.length ≤ 3 ∧ M.length ≤ 3) := ⟨hD2.bx5 K2.out.1 (by omega), hD2.bx5 K2.out.2.1 (by omega), K2.out.2.2.1.trans (hD2.below.mono (by omega)), hD2.sps K2.out.2.2.2 (by omega), hs2, hl1, hl2⟩
  clear K2 hg2 hD2 hs2 hrd hl1 hl2
  generalize hn1 : L.length = n1 at K3 ⊢
  generalize hn2 : M.length = n2 at K3 ⊢
  have HN : Hid (L.length = n1 ∧ M.length = n2) := ⟨hn1, hn2⟩
  clear hn1 hn2
  obtain ⟨al, a0, a1_, a2_, a3, a4, af⟩ := K3.out.1
  obtain ⟨bl, b0, b1_, b2_, b3, b4, bf⟩ := K3.out.2.1
  go_wp2_with fail
  refine bodyPost_ret (v := .tuple #[.agg #[.bool a1, .slice p1 n1 cap1, .bool c1, .int .i64 l1, .int .i64 u1], .agg #[.bool a2, .slice p2 n2 cap2, .bool c2, .int .i64 l2, .int .i64 u2]]) (by simp [results, Try.results27, go_sem, al, bl, a0, a1_, a2_, a3, a4, af, b0, b1_, b2_, b3, b4, bf]) rfl ?_
  have hf := K3.out.2.2
  obtain ⟨e1, e2⟩ := HN.out
  subst e1 e2
  refine ⟨_, L, _, _, _, _, _, _, M, _, _, _, _, _, rfl, hf.2.2.2.1, hf.2.2.2.2, ?_, ?_, ?_⟩
  · refine SpsAt.wide (B := x.heap.size) (E := y1.heap.size) ?_ (by omega) (by simp <;> omega) (by simp)
    repeat (refine SpsAt.off ?_ (by omega))
    exact hf.2.1
  · refine SpsAt.wide (B := y1.heap.size) (E := y2.heap.size) ?_ (by omega) (by simp <;> omega) (by simp)
    repeat (refine SpsAt.off ?_ (by omega))
    exact hf.2.2.1
  · repeat (refine Below.setCell ?_ (by simp <;> omega) _)
    exact hf.1

set_option maxHeartbeats 4000000 in
theorem drawStateWide_any (a : Option Addr) (len cap : Nat) (zs : List Int) (w : World) (h : IsRow w a len cap zs) :
    Calls Try.prog 28 #[.slice a len cap] w fun e y => GotTwoS w e y := by
  have hb0 : Below w.heap.size w ((w.alloc (.cells #[.bool false, .slice none 0 0, .bool false, .int .i64 0, .int .i64 0] 31)).alloc (.cells #[.bool false, .slice none 0 0, .bool false, .int .i64 0, .int .i64 0] 31)) := by go_grown
  have h' := IsRow.later h hb0
  have hz0 : ((w.alloc (.cells #[.bool false, .slice none 0 0, .bool false, .int .i64 0, .int .i64 0] 31)).alloc (.cells #[.bool false, .slice none 0 0, .bool false, .int .i64 0, .int .i64 0] 31)).heap.size = w.heap.size + 2 := by simp
  have k0 := (Bx5.new w (.bool false) (.slice none 0 0) (.bool false) (.int .i64 0) (.int .i64 0) 31).alloc (.cells #[.bool false, .slice none 0 0, .bool false, .int .i64 0, .int .i64 0] 31)
  have k1 := Bx5.new (w.alloc (.cells #[.bool false, .slice none 0 0, .bool false, .int .i64 0, .int .i64 0] 31)) (.bool false) (.slice none 0 0) (.bool false) (.int .i64 0) (.int .i64 0) 31
  simp only [World.size_alloc] at k1
  have HK : Hid (Bx5 ((w.alloc (.cells #[.bool false, .slice none 0 0, .bool false, .int .i64 0, .int .i64 0] 31)).alloc (.cells #[.bool false, .slice none 0 0, .bool false, .int .i64 0, .int .i64 0] 31)) w.heap.size (.bool false) (.slice none 0 0) (.bool false) (.int .i64 0) (.int .i64 0) ∧ Bx5 ((w.alloc (.cells #[.bool false, .slice none 0 0, .bool false, .int .i64 0, .int .i64 0] 31)).alloc (.cells #[.bool false, .slice none 0 0, .bool false, .int .i64 0, .int .i64 0] 31)) (w.heap.size + 1) (.bool false) (.slice none 0 0) (.bool false) (.int .i64 0) (.int .i64 0) ∧ ((w.alloc (.cells #[.bool false, .slice none 0 0, .bool false, .int .i64 0, .int .i64 0] 31)).alloc (.cells #[.bool false, .slice none 0 0, .bool false, .int .i64 0, .int .i64 0] 31)).heap.size = w.heap.size + 2) := ⟨k0, k1, hz0⟩
  clear k0 k1 hz0
  go_enter Try.func28, Try.ntmps28
  go_wp2_with fail
  refine (open_any a len cap zs _ h').mono ?_
  rintro e x ⟨rfl, hR, hb⟩
  rw [HK.out.2.2] at hR ⊢
  have K1 : Hid (Bx5 x w.heap.size (.bool false) (.slice none 0 0) (.bool false) (.int .i64 0) (.int .i64 0) ∧ Bx5 x (w.heap.size + 1) (.bool false) (.slice none 0 0) (.bool false) (.int .i64 0) (.int .i64 0) ∧ Below w.heap.size w x) := ⟨HK.out.1.later hb, HK.out.2.1.later hb, hb0.trans (hb.mono hb0.size)⟩
  clear hb hb0 HK h h'
  have hrx := hR.lt
  go_wp2_with fail
  refine (l71State_any (w.heap.size + 2) 0 _ hR (by omega)).mono ?_
  rintro e y1 hg1
  obtain ⟨a1, L, c1, l1, u1, p1, cap1, rfl, hl1, hs1, hD1⟩ := hg1.it
  have hz1 := hD1.size
  have K2 : Hid (Bx5 y1 w.heap.size (.bool false) (.slice none 0 0) (.bool false) (.int .i64 0) (.int .i64 0) ∧ Bx5 y1 (w.heap.size + 1) (.bool false) (.slice none 0 0) (.bool false) (.int .i64 0) (.int .i64 0) ∧ Below w.heap.size w y1 ∧ SpsAt true y1 x.heap.size y1.heap.size (.slice p1 L.length cap1) L) := ⟨hD1.bx5 K1.out.1 (by omega), hD1.bx5 K1.out.2.1 (by omega), K1.out.2.2.trans (hD1.below.mono (by omega)), hs1⟩
  have hrd := hD1.rd
  clear K1 hg1 hD1 hs1 hR
  go_wp2_with fail
  refine (l71State_any (w.heap.size + 2) (0 + 40) _ hrd (by omega)).mono ?_
  rintro e y2 hg2
  obtain ⟨a2, M, c2, l2, u2, p2, cap2, rfl, hl2, hs2, hD2⟩ := hg2.it
  have hz2 := hD2.size
  have K3 : Hid (Bx5 y2 w.heap.size (.bool false) (.slice none 0 0) (.bool false) (.int .i64 0) (.int .i64 0) ∧ Bx5 y2 (w.heap.size + 1) (.bool false) (.slice none 0 0) (.bool false) (.int .i64 0) (.int .i64 0) ∧ Below w.heap.size w y2 ∧ SpsAt true y2 x.heap.size y1.heap.size (.slice p1 L.length cap1) L ∧ SpsAt true y2 y1.heap.size y2.heap.size (.slice p2 M.length cap2) M ∧ L.length ≤ 3 ∧ M.length ≤ 3) := ⟨hD2.bx5 K2.out.1 (by omega), hD2.bx5 K2.out.2.1 (by omega), K2.out.2.2.1.trans (hD2.below.mono (by omega)), hD2.sps K2.out.2.2.2 (by omega), hs2, hl1, hl2⟩
  clear K2 hg2 hD2 hs2 hrd hl1 hl2
  generalize hn1 : L.length = n1 at K3 ⊢
  generalize hn2 : M.length = n2 at K3 ⊢
  have HN : Hid (L.length = n1 ∧ M.length = n2) := ⟨hn1, hn2⟩
  clear hn1 hn2
  obtain ⟨al, a0, a1_, a2_, a3, a4, af⟩ := K3.out.1
  obtain ⟨bl, b0, b1_, b2_, b3, b4, bf⟩ := K3.out.2.1
  go_wp2_with fail
  refine bodyPost_ret (v := .tuple #[.agg #[.bool a1, .slice p1 n1 cap1, .bool c1, .int .i64 l1, .int .i64 u1], .agg #[.bool a2, .slice p2 n2 cap2, .bool c2, .int .i64 l2, .int .i64 u2]]) (by simp [results, Try.results28, go_sem, al, bl, a0, a1_, a2_, a3, a4, af, b0, b1_, b2_, b3, b4, bf]) rfl ?_
  have hf := K3.out.2.2
  obtain ⟨e1, e2⟩ := HN.out
  subst e1 e2
  refine ⟨_, L, _, _, _, _, _, _, M, _, _, _, _, _, rfl, hf.2.2.2.1, hf.2.2.2.2, ?_, ?_, ?_⟩
  · refine SpsAt.wide (B := x.heap.size) (E := y1.heap.size) ?_ (by omega) (by simp <;> omega) (by simp)
    repeat (refine SpsAt.off ?_ (by omega))
    exact hf.2.1
  · refine SpsAt.wide (B := y1.heap.size) (E := y2.heap.size) ?_ (by omega) (by simp <;> omega) (by simp)
    repeat (refine SpsAt.off ?_ (by omega))
    exact hf.2.2.1
  · repeat (refine Below.setCell ?_ (by simp <;> omega) _)
    exact hf.1

set_option maxHeartbeats 4000000 in
theorem drawStateIn_any (a : Option Addr) (len cap : Nat) (zs : List Int) (w : World) (h : IsRow w a len cap zs) :
    Calls Try.prog 23 #[.slice a len cap] w fun e y => GotTwoS w e y := by
  have hb0 : Below w.heap.size w ((w.alloc (.cells #[.bool false, .slice none 0 0, .bool false, .int .i64 0, .int .i64 0] 31)).alloc (.cells #[.bool false, .slice none 0 0, .bool false, .int .i64 0, .int .i64 0] 31)) := by go_grown
  have h' := IsRow.later h hb0
  have hz0 : ((w.alloc (.cells #[.bool false, .slice none 0 0, .bool false, .int .i64 0, .int .i64 0] 31)).alloc (.cells #[.bool false, .slice none 0 0, .bool false, .int .i64 0, .int .i64 0] 31)).heap.size = w.heap.size + 2 := by simp
  have k0 := (Bx5.new w (.bool false) (.slice none 0 0) (.bool false) (.int .i64 0) (.int .i64 0) 31).alloc (.cells #[.bool false, .slice none 0 0, .bool false, .int .i64 0, .int .i64 0] 31)
  have k1 := Bx5.new (w.alloc (.cells #[.bool false, .slice none 0 0, .bool false, .int .i64 0, .int .i64 0] 31)) (.bool false) (.slice none 0 0) (.bool false) (.int .i64 0) (.int .i64 0) 31
  simp only [World.size_alloc] at k1
  have HK : Hid (Bx5 ((w.alloc (.cells #[.bool false, .slice none 0 0, .bool false, .int .i64 0, .int .i64 0] 31)).alloc (.cells #[.bool false, .slice none 0 0, .bool false, .int .i64 0, .int .i64 0] 31)) w.heap.size (.bool false) (.slice none 0 0) (.bool false) (.int .i64 0) (.int .i64 0) ∧ Bx5 ((w.alloc (.cells #[.bool false, .slice none 0 0, .bool false, .int .i64 0, .int .i64 0] 31)).alloc (.cells #[.bool false, .slice none 0 0, .bool false, .int .i64 0, .int .i64 0] 31)) (w.heap.size + 1) (.bool false) (.slice none 0 0) (.bool false) (.int .i64 0) (.int .i64 0) ∧ ((w.alloc (.cells #[.bool false, .slice none 0 0, .bool false, .int .i64 0, .int .i64 0] 31)).alloc (.cells #[.bool false, .slice none 0 0, .bool false, .int .i64 0, .int .i64 0] 31)).heap.size = w.heap.size + 2) := ⟨k0, k1, hz0⟩
  clear k0 k1 hz0
  go_enter Try.func23, Try.ntmps23
  go_wp2_with fail
  refine (open_any a len cap zs _ h').mono ?_
  rintro e x ⟨rfl, hR, hb⟩
  rw [HK.out.2.2] at hR ⊢
  have K1 : Hid (Bx5 x w.heap.size (.bool false) (.slice none 0 0) (.bool false) (.int .i64 0) (.int .i64 0) ∧ Bx5 x (w.heap.size + 1) (.bool false) (.slice none 0 0) (.bool false) (.int .i64 0) (.int .i64 0) ∧ Below w.heap.size w x) := ⟨HK.out.1.later hb, HK.out.2.1.later hb, hb0.trans (hb.mono hb0.size)⟩
  clear hb hb0 HK h h'
  have hrx := hR.lt
  go_wp2_with fail
  refine (l71State_any (w.heap.size + 2) 0 _ hR (by omega)).mono ?_
  rintro e y1 hg1
  obtain ⟨a1, L, c1, l1, u1, p1, cap1, rfl, hl1, hs1, hD1⟩ := hg1.it
  have hz1 := hD1.size
  have K2 : Hid (Bx5 y1 w.heap.size (.bool false) (.slice none 0 0) (.bool false) (.int .i64 0) (.int .i64 0) ∧ Bx5 y1 (w.heap.size + 1) (.bool false) (.slice none 0 0) (.bool false) (.int .i64 0) (.int .i64 0) ∧ Below w.heap.size w y1 ∧ SpsAt true y1 x.heap.size y1.heap.size (.slice p1 L.length cap1) L) := ⟨hD1.bx5 K1.out.1 (by omega), hD1.bx5 K1.out.2.1 (by omega), K1.out.2.2.trans (hD1.below.mono (by omega)), hs1⟩
  have hrd := hD1.rd
  clear K1 hg1 hD1 hs1 hR
  generalize hn1 : L.length = n1 at K2 hl1 ⊢
  have HN1 : Hid (L.length = n1) := hn1
  clear hn1
  have hA := drawn_alloc (.cells #[.bool a1, .slice p1 n1 cap1, .bool c1, .int .i64 l1, .int .i64 u1] 31) hrd
  have K3 : Hid (Bx5 (y1.alloc (.cells #[.bool a1, .slice p1 n1 cap1, .bool c1, .int .i64 l1, .int .i64 u1] 31)) y1.heap.size (.bool a1) (.slice p1 n1 cap1) (.bool c1) (.int .i64 l1) (.int .i64 u1)) := Bx5.new _ _ _ _ _ _ _
  go_wp2_with fail
  refine (l71State_any (w.heap.size + 2) (0 + 40) _ hA.rd (by omega)).mono ?_
  rintro e y2 hg2
  obtain ⟨a2, M, c2, l2, u2, p2, cap2, rfl, hl2, hs2, hD2⟩ := hg2.it
  have hE := hA.trans hD2
  have hz2 := hD2.size
  have hz2a : y1.heap.size + 1 ≤ y2.heap.size := by simpa using hz2
  have hsA : (y1.alloc (.cells #[.bool a1, .slice p1 n1 cap1, .bool c1, .int .i64 l1, .int .i64 u1] 31)).heap.size = y1.heap.size + 1 := by simp
  rw [hsA] at hs2
  have K4 : Hid (Bx5 y2 w.heap.size (.bool false) (.slice none 0 0) (.bool false) (.int .i64 0) (.int .i64 0) ∧ Bx5 y2 (w.heap.size + 1) (.bool false) (.slice none 0 0) (.bool false) (.int .i64 0) (.int .i64 0) ∧ Below w.heap.size w y2 ∧ SpsAt true y2 x.heap.size y1.heap.size (.slice p1 n1 cap1) L ∧ SpsAt true y2 (y1.heap.size + 1) y2.heap.size (.slice p2 M.length cap2) M ∧ Bx5 y2 y1.heap.size (.bool a1) (.slice p1 n1 cap1) (.bool c1) (.int .i64 l1) (.int .i64 u1)) := ⟨hE.bx5 K2.out.1 (by omega), hE.bx5 K2.out.2.1 (by omega), K2.out.2.2.1.trans (hE.below.mono (by omega)), hE.sps K2.out.2.2.2 (by omega), hs2, hD2.bx5 K3.out (by omega)⟩
  have hrd2 := hE.rd
  clear K2 K3 hg2 hD2 hs2 hE hA hsA hz2 hrd
  generalize hn2 : M.length = n2 at K4 hl2 ⊢
  have HN : Hid (L.length = n1 ∧ M.length = n2) := ⟨HN1.out, hn2⟩
  clear hn2 HN1
  have hA := drawn_alloc (.cells #[.bool a2, .slice p2 n2 cap2, .bool c2, .int .i64 l2, .int .i64 u2] 31) hrd2
  have K5 : Hid (Bx5 (y2.alloc (.cells #[.bool a2, .slice p2 n2 cap2, .bool c2, .int .i64 l2, .int .i64 u2] 31)) y2.heap.size (.bool a2) (.slice p2 n2 cap2) (.bool c2) (.int .i64 l2) (.int .i64 u2)) := Bx5.new _ _ _ _ _ _ _
  go_wp2_with fail
  refine (pick_any (w.heap.size + 2) (0 + 40 + 40) 2 _ hA.rd (by omega) (by omega)).mono ?_
  rintro e y3 ⟨t, rfl, t0, t1, hD3⟩
  have hE := hA.trans hD3
  have hz3 := hD3.size
  have hz3a : y2.heap.size + 1 ≤ y3.heap.size := by simpa using hz3
  have K6 : Hid (Bx5 y3 w.heap.size (.bool false) (.slice none 0 0) (.bool false) (.int .i64 0) (.int .i64 0) ∧ Bx5 y3 (w.heap.size + 1) (.bool false) (.slice none 0 0) (.bool false) (.int .i64 0) (.int .i64 0) ∧ Below w.heap.size w y3 ∧ SpsAt true y3 x.heap.size y1.heap.size (.slice p1 n1 cap1) L ∧ SpsAt true y3 (y1.heap.size + 1) y2.heap.size (.slice p2 n2 cap2) M ∧ Bx5 y3 y1.heap.size (.bool a1) (.slice p1 n1 cap1) (.bool c1) (.int .i64 l1) (.int .i64 u1) ∧ Bx5 y3 y2.heap.size (.bool a2) (.slice p2 n2 cap2) (.bool c2) (.int .i64 l2) (.int .i64 u2)) := ⟨hE.bx5 K4.out.1 (by omega), hE.bx5 K4.out.2.1 (by omega), K4.out.2.2.1.trans (hE.below.mono (by omega)), hE.sps K4.out.2.2.2.1 (by omega), hE.sps K4.out.2.2.2.2.1 (by omega), hE.bx5 K4.out.2.2.2.2.2 (by omega), hD3.bx5 K5.out (by omega)⟩
  clear K4 K5 hD3 hE hA hz3 hrd2
  have hd : Below y3.heap.size y3 y3.drew := (Below.refl _ _).drew
  have K7 : Hid (Bx5 y3.drew w.heap.size (.bool false) (.slice none 0 0) (.bool false) (.int .i64 0) (.int .i64 0) ∧ Bx5 y3.drew (w.heap.size + 1) (.bool false) (.slice none 0 0) (.bool false) (.int .i64 0) (.int .i64 0) ∧ Below w.heap.size w y3.drew ∧ SpsAt true y3.drew x.heap.size y1.heap.size (.slice p1 n1 cap1) L ∧ SpsAt true y3.drew (y1.heap.size + 1) y2.heap.size (.slice p2 n2 cap2) M ∧ Bx5 y3.drew y1.heap.size (.bool a1) (.slice p1 n1 cap1) (.bool c1) (.int .i64 l1) (.int .i64 u1) ∧ Bx5 y3.drew y2.heap.size (.bool a2) (.slice p2 n2 cap2) (.bool c2) (.int .i64 l2) (.int .i64 u2)) := ⟨K6.out.1.later hd, K6.out.2.1.later hd, K6.out.2.2.1.trans (hd.mono K6.out.2.2.1.size), K6.out.2.2.2.1.later hd, K6.out.2.2.2.2.1.later hd, K6.out.2.2.2.2.2.1.later hd, K6.out.2.2.2.2.2.2.later hd⟩
  clear hd
  obtain ⟨_, x0, x1, x2, x3, x4, _⟩ := K7.out.2.2.2.2.2.1
  obtain ⟨_, z0, z1, z2, z3, z4, _⟩ := K7.out.2.2.2.2.2.2
  by_cases ht : t = 0
  · subst ht
    obtain ⟨⟨ra, rL, rc, rl, ru⟩, hr⟩ : ∃ r, stBoth false a1 L (c1, l1, u1) a2 M (c2, l2, u2) = r := ⟨_, rfl⟩
    have hrl : rL.length ≤ 3 := by have := stBoth_len false a1 L (c1, l1, u1) a2 M (c2, l2, u2); rw [hr] at this; exact this
    have HR : Hid (stBoth false a1 L (c1, l1, u1) a2 M (c2, l2, u2) = (ra, rL, rc, rl, ru)) := hr
    clear hr
    go_wp2_with fail
    have hk1 : w.heap.size < y1.heap.size ∧ w.heap.size < y2.heap.size ∧ w.heap.size + 1 < y1.heap.size ∧ w.heap.size + 1 < y2.heap.size := by omega
    go_region_with (first | (go_at_call 11; refine (stJoin_spec _ true true _ _ _ _ _ _ L _ _ _ _ _ M _ _ _ K7.out.2.2.2.1 K7.out.2.2.2.2.1).mono ?_; rintro e y4 ⟨v4, rfl, hS4, hb4⟩; rw [HR.out] at hS4; obtain ⟨p4, cap4, hv4⟩ := hS4.shape; simp only at hv4 hS4; subst hv4; rw [HR.out]; obtain ⟨al, a0, a1_, a2_, a3, a4, af⟩ := K7.out.1.later hb4; obtain ⟨bl, b0, b1_, b2_, b3, b4, bf⟩ := K7.out.2.1.later hb4; replace x0 := (K7.out.2.2.2.2.2.1.later hb4).c0; replace x1 := (K7.out.2.2.2.2.2.1.later hb4).c1; replace x2 := (K7.out.2.2.2.2.2.1.later hb4).c2; replace x3 := (K7.out.2.2.2.2.2.1.later hb4).c3; replace x4 := (K7.out.2.2.2.2.2.1.later hb4).c4) | fail)
    all_goals
      have hf : Below w.heap.size w y4 ∧ SpsAt true y4 x.heap.size y1.heap.size (.slice p1 n1 cap1) L ∧ SpsAt true y4 y3.heap.size y4.heap.size (.slice p4 rL.length cap4) rL ∧ y3.heap.size ≤ y4.heap.size := ⟨K7.out.2.2.1.trans (hb4.mono K7.out.2.2.1.size), K7.out.2.2.2.1.later hb4, hS4, hb4.size⟩
      have HF : Hid (Below w.heap.size w y4 ∧ SpsAt true y4 x.heap.size y1.heap.size (.slice p1 n1 cap1) L ∧ SpsAt true y4 y3.heap.size y4.heap.size (.slice p4 rL.length cap4) rL ∧ y3.heap.size ≤ y4.heap.size) := hf
      clear hf hS4 hb4 K6 K7 x0 x1 x2 x3 x4 z0 z1 z2 z3 z4
      generalize hq : rL.length = q at HF hrl ⊢
      have HQ : Hid (rL.length = q) := hq
      clear hq
      go_wp2_with fail
      refine bodyPost_ret (v := .tuple #[.agg #[.bool a1, .slice p1 n1 cap1, .bool c1, .int .i64 l1, .int .i64 u1], .agg #[.bool ra, .slice p4 q cap4, .bool rc, .int .i64 rl, .int .i64 ru]]) (by simp [results, Try.results23, go_sem, al, bl, a0, a1_, a2_, a3, a4, af, b0, b1_, b2_, b3, b4, bf]) rfl ?_
      obtain ⟨hF1, hF2, hF3, hF4⟩ := HF.out
      obtain ⟨e1, e2⟩ := HN.out
      have e3 := HQ.out
      subst e1 e2 e3
      refine ⟨_, L, _, _, _, _, _, _, rL, _, _, _, _, _, rfl, hl1, hrl, ?_, ?_, ?_⟩
      · refine SpsAt.wide (B := x.heap.size) (E := y1.heap.size) ?_ (by omega) (by simp <;> omega) (by simp)
        repeat (refine SpsAt.off ?_ (by omega))
        exact hF2
      · refine SpsAt.wide (B := y3.heap.size) (E := y4.heap.size) ?_ (by omega) (by simp <;> omega) (by simp)
        repeat (refine SpsAt.off ?_ (by omega))
        exact hF3
      · repeat (refine Below.setCell ?_ (by simp <;> omega) _)
        exact hF1
  · have ht' : (t == 0) = false := by simp [ht]
    clear x0 x1 x2 x3 x4 z0 z1 z2 z3 z4
    obtain ⟨_, x0, x1, x2, x3, x4, _⟩ := K6.out.2.2.2.2.2.1
    obtain ⟨_, z0, z1, z2, z3, z4, _⟩ := K6.out.2.2.2.2.2.2
    obtain ⟨al, a0, a1_, a2_, a3, a4, af⟩ := K6.out.1
    obtain ⟨bl, b0, b1_, b2_, b3, b4, bf⟩ := K6.out.2.1
    have af0 := af 0
    have bf0 := bf 0
    have af1 := af 1
    have bf1 := bf 1
    have af2 := af 2
    have bf2 := bf 2
    have af3 := af 3
    have bf3 := bf 3
    have af4 := af 4
    have bf4 := bf 4
    have hk1 : w.heap.size < y1.heap.size ∧ w.heap.size < y2.heap.size ∧ w.heap.size + 1 < y1.heap.size ∧ w.heap.size + 1 < y2.heap.size := by omega
    go_wp2_with fail
    go_region
    all_goals
      have HF : Hid (Below w.heap.size w y3 ∧ SpsAt true y3 x.heap.size y1.heap.size (.slice p1 n1 cap1) L ∧ SpsAt true y3 (y1.heap.size + 1) y2.heap.size (.slice p2 n2 cap2) M) := ⟨K6.out.2.2.1, K6.out.2.2.2.1, K6.out.2.2.2.2.1⟩
      clear K6 K7
      go_wp2_with fail
      refine bodyPost_ret (v := .tuple #[.agg #[.bool a1, .slice p1 n1 cap1, .bool c1, .int .i64 l1, .int .i64 u1], .agg #[.bool a2, .slice p2 n2 cap2, .bool c2, .int .i64 l2, .int .i64 u2]]) (by simp [results, Try.results23, go_sem, al, bl, a0, a1_, a2_, a3, a4, af, b0, b1_, b2_, b3, b4, bf]) rfl ?_
      obtain ⟨hF1, hF2, hF3⟩ := HF.out
      obtain ⟨e1, e2⟩ := HN.out
      subst e1 e2
      have hdr : ∀ {W : World}, Below W.heap.size W W.drew := fun {W} => (Below.refl _ _).drew
      refine ⟨_, L, _, _, _, _, _, _, M, _, _, _, _, _, rfl, hl1, hl2, ?_, ?_, ?_⟩
      · refine SpsAt.later ?_ hdr
        refine SpsAt.wide (B := x.heap.size) (E := y1.heap.size) ?_ (by omega) (by simp <;> omega) (by simp)
        repeat (refine SpsAt.off ?_ (by omega))
        exact hF2
      · refine SpsAt.later ?_ hdr
        refine SpsAt.wide (B := y1.heap.size + 1) (E := y2.heap.size) ?_ (by omega) (by simp <;> omega) (by simp)
        repeat (refine SpsAt.off ?_ (by omega))
        exact hF3
      · refine Below.drew ?_
        repeat (refine Below.setCell ?_ (by simp <;> omega) _)
        exact hF1
end Go.Proofs.Ytdomalclpjijaaa

/-
  The contract of DrawStateHas: a state, registers and cells drawn.
-/
namespace Go.Proofs.Ytdomalclpjijaaa
open Go.RowKit
set_option linter.unusedVariables false
set_option linter.unusedSimpArgs false

/-- a drawn state with two rows of numbers, in new memory -/
structure GotHas (w : World) (e : Ending) (y : World) : Prop where
  it : ∃ (a : Bool) (L : List Sp) (c : Bool) (l u : Int) (p : Option Addr) (cap : Nat) (p6 : Option Addr) (cap6 : Nat) (R : List Int) (p7 : Option Addr) (cap7 : Nat) (C : List Int), e = .returned (.tuple #[.agg #[.bool a, .slice p L.length cap, .bool c, .int .i64 l, .int .i64 u], .slice p6 R.length cap6, .slice p7 C.length cap7]) ∧
    L.length ≤ 3 ∧ R.length ≤ 3 ∧ C.length ≤ 4 ∧ SpsAt true y w.heap.size y.heap.size (.slice p L.length cap) L ∧ IntsAt true y w.heap.size y.heap.size (.slice p6 R.length cap6) R ∧ IntsAt true y w.heap.size y.heap.size (.slice p7 C.length cap7) C ∧ Below w.heap.size w y
theorem owns_shape {y : World} {base n : Nat} {v : Value} {xs : List Value} (h : y.ownsRow base 3 1 v (n + 1) xs) : ∃ g cap, v = .slice (some ⟨g, 0, none⟩) (n + 1) cap := ownsRow_succ h
theorem ints_take2 {z : Bool} {x : World} {B E : Nat} {p : Option Addr} {cap : Nat} {R : List Int} (h : IntsAt z x B E (.slice p 3 cap) R) (hl : R.length = 3) : IntsAt z x B E (.slice p 2 cap) (R.take 2) ∧ (R.take 2).length = 2 := by
  obtain ⟨s0, s1, s2, rfl⟩ : ∃ s0 s1 s2, R = [s0, s1, s2] := by
    match R, hl with
    | [a, b, c], _ => exact ⟨a, b, c, rfl⟩
  obtain ⟨p1, cap1, hv, _, hq⟩ := h
  injection hv with e1 _ e3
  subst e1 e3
  refine ⟨⟨_, _, rfl, by unfold maxLen; simp, ?_⟩, rfl⟩
  rcases hq with h0 | ⟨g, o, hp, hB, hg, hE, hf, hj⟩
  · cases h0
  · refine .inr ⟨g, o, hp, hB, hg, hE, hf, fun j hj2 => ?_⟩
    match j, hj2 with
    | 0, _ => exact hj 0 (by simp)
    | 1, _ => exact hj 1 (by simp)
    | j + 2, hj2 => exact absurd hj2 (by simp)
theorem bx5_stay {x y : World} {n m : Nat} {v0 v1 v2 v3 v4 : Value} (h : Bx5 x m v0 v1 v2 v3 v4) (hb : Below n x y) (hm : m < n) : Bx5 y m v0 v1 v2 v3 v4 :=
  ⟨Nat.lt_of_lt_of_le h.lt hb.size, (hb.cell (p := ⟨m, 0, none⟩) hm).trans h.c0, (hb.cell (p := ⟨m, 1, none⟩) hm).trans h.c1, (hb.cell (p := ⟨m, 2, none⟩) hm).trans h.c2, (hb.cell (p := ⟨m, 3, none⟩) hm).trans h.c3, (hb.cell (p := ⟨m, 4, none⟩) hm).trans h.c4, fun k => (hb.frozen (p := ⟨m, k, none⟩) hm).trans (h.fz k)⟩
set_option maxRecDepth 100000 in
set_option maxHeartbeats 8000000 in
theorem drawStateHas_any (a : Option Addr) (len cap : Nat) (zs : List Int) (w : World) (h : IsRow w a len cap zs) :
    Calls Try.prog 19 #[.slice a len cap] w fun e y => GotHas w e y := by
  have hb0 : Below w.heap.size w (w.alloc (.cells #[.bool false, .slice none 0 0, .bool false, .int .i64 0, .int .i64 0] 31)) := by go_grown
  have h' := IsRow.later h hb0
  have HK : Hid (Bx5 (w.alloc (.cells #[.bool false, .slice none 0 0, .bool false, .int .i64 0, .int .i64 0] 31)) w.heap.size (.bool false) (.slice none 0 0) (.bool false) (.int .i64 0) (.int .i64 0) ∧ (w.alloc (.cells #[.bool false, .slice none 0 0, .bool false, .int .i64 0, .int .i64 0] 31)).heap.size = w.heap.size + 1) := ⟨Bx5.new _ _ _ _ _ _ _, by simp⟩
  go_enter Try.func19, Try.ntmps19
  go_wp2_with fail
  refine (open_any a len cap zs _ h').mono ?_
  rintro e x ⟨rfl, hR, hb⟩
  rw [HK.out.2] at hR ⊢
  have K1 : Hid (Bx5 x w.heap.size (.bool false) (.slice none 0 0) (.bool false) (.int .i64 0) (.int .i64 0) ∧ Below w.heap.size w x) := ⟨HK.out.1.later hb, hb0.trans (hb.mono hb0.size)⟩
  clear hb hb0 HK h h'
  have hrx := hR.lt
  go_wp2_with fail
  refine (l71State_any (w.heap.size + 1) 0 _ hR (by omega)).mono ?_
  rintro e y1 hg1
  obtain ⟨a1, L, c1, l1, u1, p1, cap1, rfl, hl1, hs1, hD1⟩ := hg1.it
  have hz1 := hD1.size
  generalize hn1 : L.length = n1 at hs1 hl1 ⊢
  have HN : Hid (L.length = n1 ∧ n1 ≤ 3) := ⟨hn1, hl1⟩
  clear hn1 hl1
  have hA := drawn_alloc (.cells #[.bool a1, .slice p1 n1 cap1, .bool c1, .int .i64 l1, .int .i64 u1] 31) hD1.rd
  have hE := hD1.trans hA
  have K2 : Hid (Bx5 (y1.alloc (.cells #[.bool a1, .slice p1 n1 cap1, .bool c1, .int .i64 l1, .int .i64 u1] 31)) w.heap.size (.bool false) (.slice none 0 0) (.bool false) (.int .i64 0) (.int .i64 0) ∧ Below w.heap.size w (y1.alloc (.cells #[.bool a1, .slice p1 n1 cap1, .bool c1, .int .i64 l1, .int .i64 u1] 31)) ∧ SpsAt true (y1.alloc (.cells #[.bool a1, .slice p1 n1 cap1, .bool c1, .int .i64 l1, .int .i64 u1] 31)) x.heap.size y1.heap.size (.slice p1 n1 cap1) L ∧ Bx5 (y1.alloc (.cells #[.bool a1, .slice p1 n1 cap1, .bool c1, .int .i64 l1, .int .i64 u1] 31)) y1.heap.size (.bool a1) (.slice p1 n1 cap1) (.bool c1) (.int .i64 l1) (.int .i64 u1)) := ⟨hE.bx5 K1.out.1 (by omega), K1.out.2.trans (hE.below.mono (by omega)), hA.sps hs1 (by omega), Bx5.new _ _ _ _ _ _ _⟩
  have hrd := hE.rd
  have hYs : (y1.alloc (.cells #[.bool a1, .slice p1 n1 cap1, .bool c1, .int .i64 l1, .int .i64 u1] 31)).heap.size = y1.heap.size + 1 := by simp
  have HY : Hid ((y1.alloc (.cells #[.bool a1, .slice p1 n1 cap1, .bool c1, .int .i64 l1, .int .i64 u1] 31)).heap.size = y1.heap.size + 1) := hYs
  have bx := Bx5.new y1 (.bool a1) (.slice p1 n1 cap1) (.bool c1) (.int .i64 l1) (.int .i64 u1) 31
  obtain ⟨_, e0, e1, e2, e3, e4, _⟩ := bx
  clear K1 hg1 hD1 hs1 hR hA hE hYs
  go_wp2_with fail
  clear e0 e1 e2 e3 e4
  generalize (y1.alloc (.cells #[.bool a1, .slice p1 n1 cap1, .bool c1, .int .i64 l1, .int .i64 u1] 31)) = Y at K2 HY hrd ⊢
  refine (l71Within_any (w.heap.size + 1) (0 + 40) _ true x.heap.size y1.heap.size _ _ L _ _ _ hrd (by omega) K2.out.2.2.1 ⟨by omega, by rw [HY.out]; omega⟩).mono ?_
  rintro e y2 hg2
  obtain ⟨v6, v7, R, C, rfl, hR3, hC3, ho6, ho7, hne67, hD2⟩ := hg2.it
  obtain ⟨g6, cap6, rfl⟩ := ownsRow_succ ho6
  obtain ⟨g7, cap7, rfl⟩ := ownsRow_succ ho7
  have hz2 := hD2.size
  have K3 : Hid (Bx5 y2 w.heap.size (.bool false) (.slice none 0 0) (.bool false) (.int .i64 0) (.int .i64 0) ∧ Below w.heap.size w y2 ∧ SpsAt true y2 x.heap.size y1.heap.size (.slice p1 n1 cap1) L ∧ Bx5 y2 y1.heap.size (.bool a1) (.slice p1 n1 cap1) (.bool c1) (.int .i64 l1) (.int .i64 u1)) := ⟨hD2.bx5 K2.out.1 (by omega), K2.out.2.1.trans (hD2.below.mono (by omega)), hD2.sps K2.out.2.2.1 (by omega), hD2.bx5 K2.out.2.2.2 (by omega)⟩
  have hrd2 := hD2.rd
  have hYy : y1.heap.size + 1 ≤ Y.heap.size := by rw [HY.out]; omega
  have hbs : w.heap.size + 1 < Y.heap.size + 1 := by omega
  clear K2 hg2 hD2 hrd
  go_wp2_with fail
  refine (pick_any (w.heap.size + 1) (0 + 40 + 30) 24 _ hrd2 (by omega) (by omega)).mono ?_
  rintro e y3 ⟨t, rfl, t0, t1, hD3⟩
  have hz3 := hD3.size
  have hd3w : w.heap.size ≠ w.heap.size + 1 := by omega
  have K4 : Hid (Bx5 y3 w.heap.size (.bool false) (.slice none 0 0) (.bool false) (.int .i64 0) (.int .i64 0) ∧ Below w.heap.size w y3 ∧ SpsAt true y3 x.heap.size y1.heap.size (.slice p1 n1 cap1) L ∧ Bx5 y3 y1.heap.size (.bool a1) (.slice p1 n1 cap1) (.bool c1) (.int .i64 l1) (.int .i64 u1)) := ⟨hD3.bx5 K3.out.1 hd3w, K3.out.2.1.trans (hD3.below.mono (by omega)), hD3.sps K3.out.2.2.1 (by omega), hD3.bx5 K3.out.2.2.2 (by omega)⟩
  have O : Hid ((World.ownsRow y3 (Y.heap.size + 1) 3 1 (.slice (some ⟨g6, 0, none⟩) 3 cap6) 3 (intV R)) ∧ (World.ownsRow y3 (Y.heap.size + 1) 3 1 (.slice (some ⟨g7, 0, none⟩) 3 cap7) 3 (intV C))) := ⟨hD3.owns ho6 (by omega), hD3.owns ho7 (by omega)⟩
  clear K3 ho6 ho7 hD3 hrd2
  have hcap6 : 3 ≤ cap6 := (owns_cap O.out.1).1
  have hY3 : Y.heap.size + 1 ≤ y3.heap.size := by have h9 := (owns_cap O.out.1).2; omega
  have hg67 : g6 ≠ g7 := fun e => hne67 g6 rfl (by rw [e]; rfl)
  clear hne67
  by_cases ht : t = 0
  · subst ht
    have hc2 : 2 ≤ cap6 := by omega
    have T2 := ints_take2 (owns_ints O.out.1 hR3 (by omega)) hR3
    have HT : Hid (IntsAt true y3 (Y.heap.size + 1) y3.heap.size (.slice (some ⟨g6, 0, none⟩) 2 cap6) (R.take 2) ∧ (R.take 2).length = 2) := T2
    clear T2
    obtain ⟨al, a0, a1_, a2_, a3, a4, af⟩ := K4.out.1
    obtain ⟨_, e0, e1, e2, e3, e4, _⟩ := K4.out.2.2.2
    go_wp2_with fail
    refine bodyPost_ret (v := .tuple #[.agg #[.bool a1, .slice p1 n1 cap1, .bool c1, .int .i64 l1, .int .i64 u1], .slice (some ⟨g6, 0, none⟩) 2 cap6, .slice (some ⟨g7, 0, none⟩) 3 cap7]) (by simp [results, Try.results19, go_sem, al, a0, a1_, a2_, a3, a4, af]) rfl ?_
    have hn := HN.out.1
    have hn3 := HN.out.2
    subst hn
    have hsz := K4.out.1.lt
    refine ⟨_, L, _, _, _, _, _, _, _, (R.take 2), _, _, C, by rw [HT.out.2, hC3], hn3, ?_, ?_, ?_, ?_, ?_, ?_⟩
    · rw [HT.out.2]; omega
    · omega
    · refine SpsAt.wide (B := x.heap.size) (E := y1.heap.size) ?_ (by omega) (by simp <;> omega) (by simp)
      repeat (refine SpsAt.off ?_ (by omega))
      exact K4.out.2.2.1
    · refine IntsAt.wide (B := Y.heap.size + 1) (E := y3.heap.size) ?_ (by omega) (by simp) (by simp)
      repeat (refine IntsAt.off ?_ (by omega))
      exact by rw [HT.out.2]; exact HT.out.1
    · refine IntsAt.wide (B := Y.heap.size + 1) (E := y3.heap.size) ?_ (by omega) (by simp) (by simp)
      repeat (refine IntsAt.off ?_ (by omega))
      exact by rw [hC3]; exact owns_ints O.out.2 hC3 (by omega)
    · repeat (refine Below.setCell ?_ (by simp <;> omega) _)
      exact K4.out.2.1
  by_cases ht1 : t = 1
  · subst ht1
    obtain ⟨p9, cap9, y4, hrun, ho9, hgr, _⟩ := app_int y3 38 (Y.heap.size + 1) 3 _ (intV C) 0 O.out.2 (by omega) (by omega)
    have hA9 : Below y3.heap.size y3 (y3.alloc (.cells #[.int .i64 0] 3)) := (Below.refl _ _).alloc (Nat.le_refl _) _
    have hB9 : Below (Y.heap.size + 1) y3 y4 := (hA9.mono (by omega)).grown hgr (by simp; omega) (fun k hk => (O.out.2.lt k hk).1)
    have ho6n : World.ownsRow y4 (Y.heap.size + 1) 3 1 (.slice (some ⟨g6, 0, none⟩) 3 cap6) 3 (intV R) := World.ownsRow.kept (O.out.1.alloc _) hgr (.inr (fun e => hg67 (by simpa [Value.ownBlock] using e)))
    obtain ⟨g9, cap9b, hv9⟩ := ownsRow_succ ho9
    injection hv9 with e91 e92 e93
    subst e91 e93
    have hk5 : x.heap.size ≤ y1.heap.size := hz1
    have hCl : (C ++ [0]).length = 4 := by simp [hC3]
    have K5 : Hid ((Bx5 y4 w.heap.size (.bool false) (.slice none 0 0) (.bool false) (.int .i64 0) (.int .i64 0) ∧ Below w.heap.size w y4 ∧ SpsAt true y4 x.heap.size y1.heap.size (.slice p1 n1 cap1) L ∧ Bx5 y4 y1.heap.size (.bool a1) (.slice p1 n1 cap1) (.bool c1) (.int .i64 l1) (.int .i64 u1)) ∧ (World.ownsRow y4 (Y.heap.size + 1) 3 1 (.slice (some ⟨g6, 0, none⟩) 3 cap6) 3 (intV R)) ∧ (World.ownsRow y4 (Y.heap.size + 1) 3 1 (.slice (some ⟨g9, 0, none⟩) (3 + 1) cap9) (3 + 1) (intV (C ++ [0])))) := ⟨⟨bx5_stay K4.out.1 hB9 (by omega), K4.out.2.1.trans (hB9.mono (by omega)), K4.out.2.2.1.stay hB9.size (fun g o h1 h2 => ⟨hB9.cell (p := ⟨g, o, none⟩) (by show g < _; omega), hB9.frozen (p := ⟨g, o, none⟩) (by show g < _; omega)⟩), bx5_stay K4.out.2.2.2 hB9 (by omega)⟩, ho6n, by simpa [intV] using ho9⟩
    have hz4 := hB9.size
    clear K4 O ho6n ho9 hgr hA9 hB9
    go_wp2_with (refine wpList_app rfl _ _ 38 rfl rfl rfl hrun ?_; clear hrun; obtain ⟨al, a0, a1_, a2_, a3, a4, af⟩ := K5.out.1.1; obtain ⟨_, e0, e1, e2, e3, e4, _⟩ := K5.out.1.2.2.2)
    refine bodyPost_ret (v := .tuple #[.agg #[.bool a1, .slice p1 n1 cap1, .bool c1, .int .i64 l1, .int .i64 u1], .slice (some ⟨g6, 0, none⟩) 3 cap6, .slice (some ⟨g9, 0, none⟩) 4 cap9]) (by simp [results, Try.results19, go_sem, al, a0, a1_, a2_, a3, a4, af]) rfl ?_
    have hn := HN.out.1
    have hn3 := HN.out.2
    subst hn
    refine ⟨_, L, _, _, _, _, _, _, _, R, _, _, (C ++ [0]), by rw [hR3, hCl], hn3, ?_, ?_, ?_, ?_, ?_, ?_⟩
    · omega
    · omega
    · refine SpsAt.wide (B := x.heap.size) (E := y1.heap.size) ?_ (by omega) (by simp <;> omega) (by simp)
      repeat (refine SpsAt.off ?_ (by omega))
      exact K5.out.1.2.2.1
    · refine IntsAt.wide (B := Y.heap.size + 1) (E := y4.heap.size) ?_ (by omega) (by simp) (by simp)
      repeat (refine IntsAt.off ?_ (by omega))
      exact by rw [hR3]; exact owns_ints K5.out.2.1 hR3 (by omega)
    · refine IntsAt.wide (B := Y.heap.size + 1) (E := y4.heap.size) ?_ (by omega) (by simp) (by simp)
      repeat (refine IntsAt.off ?_ (by omega))
      exact by rw [hCl]; exact owns_ints K5.out.2.2 hCl (by omega)
    · repeat (refine Below.setCell ?_ (by simp <;> omega) _)
      exact K5.out.1.2.1
  · skip
    obtain ⟨al, a0, a1_, a2_, a3, a4, af⟩ := K4.out.1
    obtain ⟨_, e0, e1, e2, e3, e4, _⟩ := K4.out.2.2.2
    go_wp2_with fail
    refine bodyPost_ret (v := .tuple #[.agg #[.bool a1, .slice p1 n1 cap1, .bool c1, .int .i64 l1, .int .i64 u1], .slice (some ⟨g6, 0, none⟩) 3 cap6, .slice (some ⟨g7, 0, none⟩) 3 cap7]) (by simp [results, Try.results19, go_sem, al, a0, a1_, a2_, a3, a4, af]) rfl ?_
    have hn := HN.out.1
    have hn3 := HN.out.2
    subst hn
    have hsz := K4.out.1.lt
    refine ⟨_, L, _, _, _, _, _, _, _, R, _, _, C, by rw [hR3, hC3], hn3, ?_, ?_, ?_, ?_, ?_, ?_⟩
    · omega
    · omega
    · refine SpsAt.wide (B := x.heap.size) (E := y1.heap.size) ?_ (by omega) (by simp <;> omega) (by simp)
      repeat (refine SpsAt.off ?_ (by omega))
      exact K4.out.2.2.1
    · refine IntsAt.wide (B := Y.heap.size + 1) (E := y3.heap.size) ?_ (by omega) (by simp) (by simp)
      repeat (refine IntsAt.off ?_ (by omega))
      exact by rw [hR3]; exact owns_ints O.out.1 hR3 (by omega)
    · refine IntsAt.wide (B := Y.heap.size + 1) (E := y3.heap.size) ?_ (by omega) (by simp) (by simp)
      repeat (refine IntsAt.off ?_ (by omega))
      exact by rw [hC3]; exact owns_ints O.out.2 hC3 (by omega)
    · repeat (refine Below.setCell ?_ (by simp <;> omega) _)
      exact K4.out.2.1
end Go.Proofs.Ytdomalclpjijaaa
